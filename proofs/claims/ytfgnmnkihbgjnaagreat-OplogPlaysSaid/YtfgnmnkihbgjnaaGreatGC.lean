/-
  STAMPS: Right and Compare, the program's and the document's: what they answer, of any numbers; nothing below the call's own memory turns.
  No conditions.
  PUT and TAKE of stamps (without stage 2's texts of clocks and of reading texts).
  No conditions.
  PLAIN MATHEMATICS of layer 4 (poskey): keys as fractions, the key between two, rows of keys: lists of bytes alone; no program, no world.
  No conditions.
  MAY A KEY BE (the program's Right).
  No conditions but sizes.
  PLAIN MATHEMATICS of layer 5 (queue): the order of items, heaps in lists, rising rows: lists of integers alone; no program, no world.
  No conditions.
  MEMORY of layer 5: what a call turns ('Turns F': blocks of F, and new ones), rows of stamps and of items, the row under a heap.
  No conditions but sizes.
-/
import Derived.Test.YtfgnmnkihbgjnaaGreatSh
import Derived.Test.YtfgnmnkihbgjnaaGreatGB
import Derived.Deep.RegionWith
import Derived.Lib.SmallJoins
import Derived.Deep.DeepCutAuto
import Derived.Lib.Bytes
import Derived.Lib.Bytealg
import Derived.Lib.Small
import Derived.Test.YtfgnmnkihbgjnaaGreatGA
import Init
import Derived.Laws.OwnMore
set_option maxRecDepth 100000
set_option maxHeartbeats 1000000
namespace Go.Proofs.YtfgnmnkihbgjnaaGreat
open Go.RowKit
def rightB (t r:Int):Bool:=decide (0≤t∧t≤1099511627776∧0≤r∧r≤15)
theorem rightB_yes {t r:Int} (h:rightB t r=true):0≤t∧t≤1099511627776∧0≤r∧r≤15:=of_decide_eq_true h
def cmpS (t r t' r':Int):Int:=if t=t' then (if r=r' then 0 else if r<r' then -1 else 1) else if t<t' then -1 else 1
theorem right_any (t r:Int) (w:World) :
  Calls Tryz.prog 115 #[.agg #[.int .i64 t,.int .i64 r]] w fun e w'=>e=.returned (.bool (rightB t r))∧Below w.heap.size w w':=by
 have hb:=(Below.refl w.heap.size w).alloc (Nat.le_refl _) (.cells #[.int .i64 t,.int .i64 r] 50)
 have HB:=Hi hb
 clear hb
 by_cases h0:0≤t
 ·by_cases h1:t≤1099511627776
  ·by_cases h2:0≤r
   ·by_cases h3:r≤15
    ·have HR:=Hi (show rightB t r=true from decide_eq_true ⟨h0,h1,h2,h3⟩)
     go_enter Tryz.func115,Tryz.ntmps115
     go_wp2
     go_ret
     rw [HR.out]
     exact ⟨rfl,HB.out⟩
    ·have HR:=Hi (show rightB t r=false from decide_eq_false (fun h=>h3 h.2.2.2))
     have d3:decide (r≤15)=false:=decide_eq_false h3
     go_enter Tryz.func115,Tryz.ntmps115
     go_wp2
     go_ret
     rw [HR.out]
     exact ⟨rfl,HB.out⟩
   ·have HR:=Hi (show rightB t r=false from decide_eq_false (fun h=>h2 h.2.2.1))
    have d3:decide (0≤r)=false:=decide_eq_false h2
    go_enter Tryz.func115,Tryz.ntmps115
    go_wp2
    go_ret
    rw [HR.out]
    exact ⟨rfl,HB.out⟩
  ·have HR:=Hi (show rightB t r=false from decide_eq_false (fun h=>h1 h.2.1))
   have d3:decide (t≤1099511627776)=false:=decide_eq_false h1
   go_enter Tryz.func115,Tryz.ntmps115
   go_wp2
   go_ret
   rw [HR.out]
   exact ⟨rfl,HB.out⟩
 ·have HR:=Hi (show rightB t r=false from decide_eq_false (fun h=>h0 h.1))
  have d3:decide (0≤t)=false:=decide_eq_false h0
  go_enter Tryz.func115,Tryz.ntmps115
  go_wp2
  go_ret
  rw [HR.out]
  exact ⟨rfl,HB.out⟩
theorem compare_any (t r t' r':Int) (w:World) :
  Calls Tryz.prog 76 #[.agg #[.int .i64 t,.int .i64 r],.agg #[.int .i64 t',.int .i64 r']] w fun e w'=>e=.returned (.int .i64 (cmpS t r t' r'))∧Below w.heap.size w w':=by
 have hb:=((Below.refl w.heap.size w).alloc (Nat.le_refl _) (.cells #[.int .i64 t,.int .i64 r] 50)).alloc (by simp) (.cells #[.int .i64 t',.int .i64 r'] 50)
 have HB:=Hi hb
 clear hb
 by_cases h0:t=t'
 ·subst h0
  by_cases h1:r=r'
  ·subst h1
   have HR:=Hi (show cmpS t r t r=0 from by simp [cmpS])
   go_enter Tryz.func76,Tryz.ntmps76
   go_wp2
   go_ret
   rw [HR.out]
   exact ⟨rfl,HB.out⟩
  ·have e1:((r == r'):Bool)=false:=by simpa using h1
   by_cases h2:r<r'
   ·have HR:=Hi (show cmpS t r t r' = -1 from by simp [cmpS,h1,h2])
    go_enter Tryz.func76,Tryz.ntmps76
    go_wp2
    go_ret
    rw [HR.out]
    exact ⟨rfl,HB.out⟩
   ·have d2:decide (r<r')=false:=decide_eq_false h2
    have HR:=Hi (show cmpS t r t r'=1 from by simp [cmpS,h1,h2])
    go_enter Tryz.func76,Tryz.ntmps76
    go_wp2
    go_ret
    rw [HR.out]
    exact ⟨rfl,HB.out⟩
 ·have e1:((t == t'):Bool)=false:=by simpa using h0
  by_cases h2:t<t'
  ·have HR:=Hi (show cmpS t r t' r' = -1 from by simp [cmpS,h0,h2])
   go_enter Tryz.func76,Tryz.ntmps76
   go_wp2
   go_ret
   rw [HR.out]
   exact ⟨rfl,HB.out⟩
  ·have d2:decide (t<t')=false:=decide_eq_false h2
   have HR:=Hi (show cmpS t r t' r'=1 from by simp [cmpS,h0,h2])
   go_enter Tryz.func76,Tryz.ntmps76
   go_wp2
   go_ret
   rw [HR.out]
   exact ⟨rfl,HB.out⟩
open Go.RowKit
theorem Only.of_below {b:Nat} {w w':World} (h:Below w.heap.size w w'):Only b w w':=⟨h.os,h.tape,h.output,h.size,fun i hi _=>h.block i hi⟩
def putW (t r:Int):List UInt8 × Nat:=if rightB t r=true then (Wm.numB t.toNat ++ Wm.numB r.toNat,0) else ([],1)
theorem put_any (t r:Int) (w:World):Calls Tryz.prog 97 #[.agg #[.int .i64 t,.int .i64 r]] w (Wrote 5 w (putW t r)):=by
 obtain ⟨i0,hi,hz0,hz1,hz2⟩:=info_parts info_u8
 have hb:=(Below.refl w.heap.size w).alloc (Nat.le_refl _) (.cells #[.int .i64 t,.int .i64 r] 50)
 have HB:=Hi hb
 cases hR:rightB t r with
 | false =>
  have HR:=Hi (show putW t r=([],1) by unfold putW; rw [if_neg (by simp [hR])])
  have HRB:=Hi hR
  clear hR hb
  go_enter Tryz.func97,Tryz.ntmps97
  go_wp2_with fail
  refine (right_any t r _).mono ?_
  rw [HRB.out]
  rintro e w1 ⟨rfl,hb1⟩
  have HB1:=Hi (HB.out.trans (hb1.mono (by simp)))
  clear hb1
  go_wp2
  go_ret2
  rw [HR.out]
  exact ⟨_,rfl,Own.nil _ _ _,HB1.out⟩
 | true =>
  obtain ⟨h0,h1,h2,h3⟩:=rightB_yes hR
  have HR:=Hi (show putW t r=(Wm.numB t.toNat ++ Wm.numB r.toNat,0) by unfold putW; rw [if_pos hR])
  have HRB:=Hi hR
  have HN1:=Hi (show numW t=(Wm.numB t.toNat,0) by unfold numW; rw [if_pos (by omega)])
  have HN2:=Hi (show numW r=(Wm.numB r.toNat,0) by unfold numW; rw [if_pos (by omega)])
  have s1:=numB_small t.toNat
  have s2:=numB_small r.toNat
  generalize Wm.numB t.toNat=x at *
  generalize Wm.numB r.toNat=y at *
  clear hR hb h0 h1 h2 h3
  go_enter Tryz.func97,Tryz.ntmps97
  go_wp2_with fail
  refine (right_any t r _).mono ?_
  rw [HRB.out]
  rintro e w1 ⟨rfl,hb1⟩
  have c0:=hb1.cell (p:=⟨w.heap.size,0,none⟩) (by simp)
  have c1:=hb1.cell (p:=⟨w.heap.size,1,none⟩) (by simp)
  rw [World.cell?_alloc_at _ _ _ _ rfl] at c0 c1
  have c0':w1.cell? ⟨w.heap.size,0,none⟩=some (.int .i64 t):=c0
  have c1':w1.cell? ⟨w.heap.size,1,none⟩=some (.int .i64 r):=c1
  have HB1:=Hi (HB.out.trans (hb1.mono (by simp)))
  have hl1:w.heap.size<w1.heap.size:=cell_lt c0'
  clear hb1 c0 c1
  go_wp2_with fail
  refine (num_any t _).mono ?_
  rw [HN1.out]
  rintro e w2 ⟨v2,rfl,hown2,hb2⟩
  dsimp only at hown2
  have c1:=(hb2.cell (p:=⟨w.heap.size,1,none⟩) hl1).trans c1'
  have HO2:=Hi (hown2.base (Nat.le_of_lt hl1))
  have HB2:=Hi (HB1.out.trans (hb2.mono (Nat.le_of_lt hl1)))
  obtain ⟨p2,k2,rfl,-⟩:=hown2.bs
  have hs2:=hb2.size
  clear hown2 hb2 c0' c1'
  go_wp2_with fail
  refine (num_any r _).mono ?_
  rw [HN2.out]
  rintro e w3 ⟨v3,rfl,hown3,hb3⟩
  dsimp only at hown3
  obtain ⟨p3,k3,rfl,hbs3,-,-,hpn3,-⟩:=hown3.bs
  have HO3:=Hi (HO2.out.below hb3)
  have HBS:=Hi hbs3
  have HB3:=Hi (HB2.out.trans (hb3.mono (by omega)))
  have hs3:w.heap.size≤w3.heap.size:=HB3.out.size
  clear hown3 hbs3 hb3
  go_wp2_with (at_builtin; refine wpList_append_bs rfl _ _ 103 rfl w.heap.size 5 i0 Tryz.underlying103 hi hz0 hz1 hz2 _ x rfl HO3.out p3 k3 y rfl HBS.out hpn3 ?b0 ?b1 ?_)
  case b0=>omega
  case b1=>exact hs3
  intro v4 w4 hown4 hbel4 hgrow4 hnil4
  clear hgrow4 hnil4
  have HO4:=Hi (show Own 5 w4 w.heap.size v4 (x ++ y) from hown4)
  have HB4:=Hi (HB3.out.trans hbel4)
  clear hown4 hbel4
  go_wp2
  go_ret2
  rw [HR.out]
  exact ⟨_,rfl,HO4.out,HB4.out⟩
theorem Rdr.lt {w:World} {B b:Nat} {l:List UInt8} {err:Nat} (h:Rdr w B b l err):b<w.heap.size:=by
 obtain ⟨-,h1,-⟩:=h
 exact cell_lt h1
def TwoAt (w:World) (k:Nat) (x y:Int):Prop:=w.heap[k]?=some (.cells #[.int .i64 x,.int .i64 y] 50 (0,0))
theorem TwoAt.size {w:World} {k:Nat} {x y:Int} (h:TwoAt w k x y):k<w.heap.size:=(Array.getElem?_eq_some_iff.1 h).1
theorem TwoAt.cell0 {w:World} {k:Nat} {x y:Int} (h:TwoAt w k x y):w.cell? ⟨k,0,none⟩=some (.int .i64 x):=by rw [Go.Joins.cell_of_block h]; rfl
theorem TwoAt.cell1 {w:World} {k:Nat} {x y:Int} (h:TwoAt w k x y):w.cell? ⟨k,1,none⟩=some (.int .i64 y):=by rw [Go.Joins.cell_of_block h]; rfl
theorem TwoAt.free {w:World} {k:Nat} {x y:Int} (h:TwoAt w k x y) (o:Nat):w.frozen? ⟨k,o,none⟩=false:=Go.Joins.unfrozen_of_block h o
theorem TwoAt.start (w:World) (x y:Int):TwoAt (w.alloc (.cells #[.int .i64 x,.int .i64 y] 50)) w.heap.size x y:=by
 unfold TwoAt
 show (w.heap.push _)[w.heap.size]?=_
 simp
theorem TwoAt.only {w w':World} {k b:Nat} {x y:Int} (h:TwoAt w k x y) (ho:Only b w w') (hne:k≠b):TwoAt w' k x y:=(ho.block k h.size (by simpa using hne)).trans h
theorem TwoAt.kept {w w':World} {k:Nat} {x y:Int} (h:TwoAt w k x y) (hb:Below w.heap.size w w'):TwoAt w' k x y:=(hb.block k h.size).trans h
theorem TwoAt.set {w:World} {k:Nat} {x y:Int} (h:TwoAt w k x y) (x' y':Int):TwoAt ((w.setCell ⟨k,0,none⟩ (.int .i64 x')).setCell ⟨k,1,none⟩ (.int .i64 y')) k x' y':=by
 have h1:=Go.Joins.block_setCell h (i:=0) (.int .i64 x')
 have h2:=Go.Joins.block_setCell h1 (i:=1) (.int .i64 y')
 exact h2
theorem Bs.two {w:World} {p:Option Addr} {l:List UInt8} {k:Nat} {x y:Int} (h:Bs w p l) (hk:TwoAt w k x y) (o:Nat) (v:Value):Bs (w.setCell ⟨k,o,none⟩ v) p l:=by
 intro h0
 obtain ⟨b',o',rfl,hc⟩:=h h0
 refine ⟨b',o',rfl,fun i hi=>?_⟩
 have hne:b'≠k:=by
  rintro rfl
  have:=hc i hi
  rw [Go.Joins.cell_of_block hk] at this
  match o'+i,this with
  | 0,this=>simp at this
  | 1,this=>simp at this
  | n+2,this=>simp at this
 rw [cell_other (by intro e; injection e with e1; exact hne e1.symm)]
 exact hc i hi
theorem Rdr.two {w:World} {B b k:Nat} {l:List UInt8} {err:Nat} {x y:Int} (h:Rdr w B b l err) (hk:TwoAt w k x y) (hne:k≠b) (o:Nat) (v:Value):Rdr (w.setCell ⟨k,o,none⟩ v) B b l err:=by
 obtain ⟨h0,h1,h2,h3,h4,h5,p,c,h6,h7,h8,h9,h10⟩:=h
 refine ⟨h0,?_,?_,by simpa using h3,by simpa using h4,h5,p,c,?_,h7.two hk _ _,h8,h9,h10⟩
 ·rw [cell_other (by intro e; injection e with e1; exact hne e1)]; exact h1
 ·rw [cell_other (by intro e; injection e with e1; exact hne e1)]; exact h2
 ·rw [cell_other (by intro e; injection e with e1; exact hne e1)]; exact h6
theorem Only.setFar {b k:Nat} {w0 w:World} (h:Only b w0 w) (hk:w0.heap.size≤k) (o o':Nat) (v v':Value):Only b w0 ((w.setCell ⟨k,o,none⟩ v).setCell ⟨k,o',none⟩ v'):=by
 have h1:=h.trans (Only.refl b w)
 refine ⟨h.os,h.tape,h.output,by simpa [World.setCell] using h.size,fun i hi hn=>?_⟩
 rw [Below.heap_setCell _ _ _ _ (by simp; omega),Below.heap_setCell _ _ _ _ (by simp; omega)]
 exact h.block i hi hn
end Go.Proofs.YtfgnmnkihbgjnaaGreat
namespace Go.Proofs.YtfgnmnkihbgjnaaGreat.Km
def dg (l:List UInt8) (i:Nat):Nat:=(l.getD i 0).toNat
theorem dg_get (l:List UInt8) (i:Nat) (h:i<l.length):dg l i=l[i].toNat:=by simp [dg,List.getD,List.getElem?_eq_getElem h]
def rightB (k:List UInt8):Bool:=@decide (1≤k.length∧k.length≤24∧0<dg k (k.length - 1)) inferInstance
theorem rightB_iff (k:List UInt8):rightB k=true↔1≤k.length∧k.length≤24∧0<dg k (k.length - 1):=by simp [rightB]
def low (a:List UInt8):List UInt8:=a ++ List.replicate (24 - a.length) 0
def headB (a b:List UInt8) (n:Nat):Bool:=Lib.hasPrefix b ((low a).take n)
def mo (a b:List UInt8) (n:Nat):Nat:=if b=[]∨headB a b n=false then 255 else if n+1<b.length then dg b n else dg b n - 1
def okB (a b:List UInt8) (n:Nat):Bool:=@decide (dg a n+1≤mo a b n) inferInstance
end Go.Proofs.YtfgnmnkihbgjnaaGreat.Km
namespace Go.Proofs.YtfgnmnkihbgjnaaGreat
open Go.RowKit
theorem size_list (k:ByteArray):k.data.toList.length=k.size:=by rw [Array.length_toList]; rfl
theorem dg_at (k:ByteArray) (i:Nat) (h:i<k.size):Km.dg k.data.toList i=k[i].toNat:=by
 rw [Km.dg_get _ _ (by rw [size_list]; exact h)]
 rfl
theorem right_size {k:ByteArray}:Km.rightB k.data.toList=true↔1≤k.size∧k.size≤24∧0<Km.dg k.data.toList (k.size - 1):=by
 rw [Km.rightB_iff,size_list]
theorem right_no {k:ByteArray} (h:¬ (1≤k.size∧k.size≤24∧0<Km.dg k.data.toList (k.size - 1))):Km.rightB k.data.toList=false:=by
 cases e:Km.rightB k.data.toList
 ·rfl
 ·exact absurd (right_size.1 e) h
theorem right_last {k:ByteArray} (h0:0<k.size) (h1:k.size≤24):Km.rightB k.data.toList=(((k[k.size - 1]'(by omega)).toNat:Int) != 0):=by
 have hd:=dg_at k (k.size - 1) (by omega)
 by_cases h2:0<Km.dg k.data.toList (k.size - 1)
 ·rw [right_size.2 ⟨by omega,h1,h2⟩]
  rw [hd] at h2
  symm
  rw [bne_iff_ne]
  omega
 ·rw [right_no (by omega)]
  rw [hd] at h2
  symm
  rw [bne_eq_false_iff_eq]
  omega
theorem ret_bool {a b:Bool} (h:a=b):Ending.returned (.bool a)=.returned (.bool b):=by rw [h]
theorem kright_any (k:ByteArray) (w:World) (_:k.size≤140737488355328):Calls Tryz.prog 121 #[.string k] w fun e w'=>e=.returned (.bool (Km.rightB k.data.toList))∧w=w':=by
 by_cases h0:k.size=0
 ·have HR:=Hi (right_no (k:=k) (by omega))
  go_enter Tryz.func121,Tryz.ntmps121
  go_wp2
  go_ret
  exact ⟨ret_bool HR.out.symm,rfl⟩
 ·by_cases h1:k.size≤24
  ·have HR:=Hi (right_last (k:=k) (by omega) h1)
   go_enter Tryz.func121,Tryz.ntmps121
   go_wp2
   go_ret
   exact ⟨ret_bool HR.out.symm,rfl⟩
  ·have HR:=Hi (right_no (k:=k) (by omega))
   go_enter Tryz.func121,Tryz.ntmps121
   go_wp2
   go_ret
   exact ⟨ret_bool HR.out.symm,rfl⟩
end Go.Proofs.YtfgnmnkihbgjnaaGreat
namespace Go.Proofs.YtfgnmnkihbgjnaaGreat.Qm
abbrev St:=Int × Int
abbrev It:=(Int × Int) × Int
def ltS (a b:St):Prop:=a.1<b.1∨(a.1=b.1∧a.2<b.2)
instance (a b:St):Decidable (ltS a b):=by unfold ltS; exact inferInstance
def ltI (a b:It):Prop:=ltS a.1 b.1∨(a.1=b.1∧a.2<b.2)
instance (a b:It):Decidable (ltI a b):=by unfold ltI; exact inferInstance
theorem ltS_irrefl (a:St):¬ ltS a a:=by unfold ltS; omega
theorem ltS_trans {a b c:St} (h:ltS a b) (k:ltS b c):ltS a c:=by unfold ltS at *; omega
theorem ltS_tri (a b:St):ltS a b∨a=b∨ltS b a:=by
 obtain ⟨x,y⟩:=a
 obtain ⟨z,u⟩:=b
 simp only [ltS,Prod.mk.injEq]
 omega
theorem ltS_asymm {a b:St} (h:ltS a b):¬ ltS b a:=by unfold ltS at *; omega
theorem ltI_irrefl (a:It):¬ ltI a a:=by
 unfold ltI
 rintro (h | ⟨_,h⟩)
 ·exact ltS_irrefl _ h
 ·omega
theorem ltI_tri (a b:It):ltI a b∨a=b∨ltI b a:=by
 obtain ⟨a,x⟩:=a
 obtain ⟨b,y⟩:=b
 simp only [ltI,Prod.mk.injEq]
 rcases ltS_tri a b with h | h | h
 ·exact Or.inl (Or.inl h)
 ·subst h
  have:x<y∨x=y∨y<x:=by omega
  rcases this with h | h | h
  ·exact Or.inl (Or.inr ⟨rfl,h⟩)
  ·exact Or.inr (Or.inl ⟨rfl,h⟩)
  ·exact Or.inr (Or.inr (Or.inr ⟨rfl,h⟩))
 ·exact Or.inr (Or.inr (Or.inl h))
theorem ltI_trans {a b c:It} (h:ltI a b) (k:ltI b c):ltI a c:=by
 unfold ltI at *
 rcases h with h | ⟨h1,h2⟩ <;> rcases k with k | ⟨k1,k2⟩
 ·exact Or.inl (ltS_trans h k)
 ·exact Or.inl (k1 ▸ h)
 ·exact Or.inl (h1 ▸ k)
 ·exact Or.inr ⟨h1.trans k1,by omega⟩
theorem ltI_asymm {a b:It} (h:ltI a b):¬ ltI b a:=fun k=>ltI_irrefl _ (ltI_trans h k)
theorem leI_trans {a b c:It} (h:¬ ltI b a) (k:¬ ltI c b):¬ ltI c a:=by
 intro hc
 rcases ltI_tri a b with h1 | rfl | h1
 ·rcases ltI_tri b c with h2 | rfl | h2
  ·exact ltI_irrefl _ (ltI_trans hc (ltI_trans h1 h2))
  ·exact ltI_asymm h1 hc
  ·exact k h2
 ·exact k hc
 ·exact h h1
def itAt (d:List It) (k:Nat):It:=d.getD k ((0,0),0)
theorem itAt_set {d:List It} {i:Nat} (x:It) (h:i<d.length) (k:Nat):itAt (d.set i x) k=if k=i then x else itAt d k:=by
 unfold itAt
 by_cases hk:k=i
 ·subst hk; simp [List.getD,h]
 ·simp [List.getD,hk,Ne.symm hk]
theorem itAt_mem {d:List It} {k:Nat} (h:k<d.length):itAt d k ∈ d:=by simp [itAt,List.getD,h]
theorem mem_itAt {d:List It} {x:It} (h:x ∈ d):∃ k,k<d.length∧itAt d k=x:=by
 obtain ⟨k,hk,e⟩:=List.getElem_of_mem h
 exact ⟨k,hk,by simp [itAt,List.getD,hk,e]⟩
theorem itAt_append {d e:List It} {k:Nat} (h:k<d.length):itAt (d ++ e) k=itAt d k:=by
 simp [itAt,List.getD,List.getElem?_append_left h]
theorem itAt_take {d:List It} {n k:Nat} (h:k<n):itAt (d.take n) k=itAt d k:=by
 simp [itAt,List.getD,h]
def sw (d:List It) (i j:Nat):List It:=(d.set i (itAt d j)).set j (itAt d i)
theorem sw_length (d:List It) (i j:Nat):(sw d i j).length=d.length:=by simp [sw]
theorem sw_at {d:List It} {i j:Nat} (hi:i<d.length) (hj:j<d.length) (k:Nat):itAt (sw d i j) k=if k=j then itAt d i else if k=i then itAt d j else itAt d k:=by
 unfold sw
 rw [itAt_set _ (by simpa using hj),itAt_set _ hi]
theorem sw_perm {d:List It} {i j:Nat} (hi:i<d.length) (hj:j<d.length):(sw d i j).Perm d:=by
 have h:=Array.swap_perm (xs:=d.toArray) (i:=i) (j:=j) (by simpa using hi) (by simpa using hj)
 have h2:=Array.perm_iff_toList_perm.1 h
 have e:(d.toArray.swap i j (by simpa using hi) (by simpa using hj)).toList=sw d i j:=by
  simp [Array.swap,sw,itAt,List.getD,hi,hj]
 rw [e] at h2
 exact h2
def HeapF (d:List It) (n lo:Nat):Prop:=∀ k,0<k→k<n→lo≤(k - 1) / 2→¬ ltI (itAt d k) (itAt d ((k - 1) / 2))
def DownI (d:List It) (n lo i:Nat):Prop :=
 (∀ k,0<k→k<n→lo≤(k - 1) / 2→(k - 1) / 2≠i→¬ ltI (itAt d k) (itAt d ((k - 1) / 2))) ∧
 (∀ k,0<k→k<n→(k - 1) / 2=i→0<i→lo≤(i - 1) / 2→¬ ltI (itAt d k) (itAt d ((i - 1) / 2)))
def UpI (d:List It) (n j:Nat):Prop :=
 (∀ k,0<k→k<n→k≠j→¬ ltI (itAt d k) (itAt d ((k - 1) / 2))) ∧
 (∀ k,0<k→k<n→(k - 1) / 2=j→0<j→¬ ltI (itAt d k) (itAt d ((j - 1) / 2)))
theorem DownI.init {d:List It} {n i:Nat} (h:HeapF d n (i+1)):DownI d n i i :=
 ⟨fun k h0 hn hl hne=>h k h0 hn (by omega),fun k _ _ _ h0 hl=>by omega⟩
theorem HeapF.none {d:List It} {n lo:Nat} (h:n≤2 * lo+1):HeapF d n lo:=fun k h0 hn hl=>by omega
theorem HeapF.mono {d:List It} {n m lo:Nat} (h:HeapF d n lo) (hm:m≤n):HeapF d m lo:=fun k h0 hn hl=>h k h0 (by omega) hl
theorem HeapF.congr {d e:List It} {n lo:Nat} (h:HeapF d n lo) (he:∀ k,k<n→itAt e k=itAt d k):HeapF e n lo:=fun k h0 hn hl=>by
 rw [he k hn,he _ (by omega)]
 exact h k h0 hn hl
theorem DownI.stop {d:List It} {n lo i:Nat} (h:DownI d n lo i) (hc:∀ k,0<k→k<n→(k - 1) / 2=i→¬ ltI (itAt d k) (itAt d i)):HeapF d n lo:=by
 intro k h0 hn hl
 by_cases e:(k - 1) / 2=i
 ·rw [e]; exact hc k h0 hn e
 ·exact h.1 k h0 hn hl e
theorem DownI.step {d:List It} {n lo i j:Nat} (h:DownI d n lo i) (hd:n≤d.length) (hjn:j<n) (hj0:0<j) (hji:(j - 1) / 2=i) (hlo:lo≤i) (hlt:ltI (itAt d j) (itAt d i))
  (hc:∀ k,0<k→k<n→(k - 1) / 2=i→¬ ltI (itAt d k) (itAt d j)):DownI (sw d i j) n lo j:=by
 have hi:i<d.length:=by omega
 have hj:j<d.length:=by omega
 have hij:i≠j:=by omega
 have A:=sw_at hi hj
 constructor
 ·intro k h0 hn hl hne
  rw [A k,A ((k - 1) / 2),if_neg hne]
  by_cases kj:k=j
  ·subst kj
   rw [if_pos rfl,hji,if_pos rfl]
   exact ltI_asymm hlt
  ·rw [if_neg kj]
   by_cases ki:k=i
   ·subst ki
    rw [if_pos rfl,if_neg (by omega)]
    exact h.2 j hj0 hjn hji (by omega) hl
   ·rw [if_neg ki]
    by_cases kp:(k - 1) / 2=i
    ·rw [if_pos kp]
     exact hc k h0 hn kp
    ·rw [if_neg kp]
     exact h.1 k h0 hn hl kp
 ·intro k h0 hn hk hj' hl
  rw [A k,A ((j - 1) / 2),if_neg (by omega),if_neg (by omega),if_neg (by omega),hji,if_pos rfl]
  have:=h.1 k h0 hn (by omega) (by omega)
  rw [hk] at this
  exact this
theorem UpI.start {d:List It} {n:Nat} (h:HeapF d n 0):UpI d (n+1) n :=
 ⟨fun k h0 hn hne=>h k h0 (by omega) (Nat.zero_le _),fun k h0 hn hk hj=>by omega⟩
theorem UpI.stop {d:List It} {n j:Nat} (h:UpI d n j) (hc:0<j→¬ ltI (itAt d j) (itAt d ((j - 1) / 2))):HeapF d n 0:=by
 intro k h0 hn _
 by_cases e:k=j
 ·subst e; exact hc h0
 ·exact h.1 k h0 hn e
theorem UpI.step {d:List It} {n j:Nat} (h:UpI d n j) (hd:n≤d.length) (hjn:j<n) (hj0:0<j) (hlt:ltI (itAt d j) (itAt d ((j - 1) / 2))):UpI (sw d ((j - 1) / 2) j) n ((j - 1) / 2):=by
 have hi:(j - 1) / 2<d.length:=by omega
 have hj:j<d.length:=by omega
 have A:=sw_at hi hj
 constructor
 ·intro k h0 hn hne
  rw [A k,A ((k - 1) / 2),if_neg hne]
  by_cases kj:k=j
  ·subst kj
   rw [if_pos rfl,if_neg (by omega),if_pos rfl]
   exact ltI_asymm hlt
  ·rw [if_neg kj]
   by_cases kp:(k - 1) / 2=j
   ·rw [if_pos kp]
    exact h.2 k h0 hn kp hj0
   ·rw [if_neg kp]
    by_cases kq:(k - 1) / 2=(j - 1) / 2
    ·rw [if_pos kq]
     have h1:=h.1 k h0 hn kj
     rw [kq] at h1
     exact leI_trans (ltI_asymm hlt) h1
    ·rw [if_neg kq]
     exact h.1 k h0 hn kj
 ·intro k h0 hn hk hj'
  rw [A k,A (((j - 1) / 2 - 1) / 2),if_neg (by omega:((j - 1) / 2 - 1) / 2≠j),if_neg (by omega:((j - 1) / 2 - 1) / 2≠(j - 1) / 2)]
  have h2:=h.1 ((j - 1) / 2) hj' (by omega) (by omega)
  by_cases kj:k=j
  ·rw [if_pos kj]; exact h2
  ·rw [if_neg kj,if_neg (by omega)]
   have h1:=h.1 k h0 hn kj
   rw [hk] at h1
   exact leI_trans h2 h1
theorem HeapF.first {d:List It} {n:Nat} (h:HeapF d n 0):∀ k,k<n→¬ ltI (itAt d k) (itAt d 0):=by
 intro k
 induction k using Nat.strongRecOn with
 | _ k ih =>
  intro hk
  rcases Nat.eq_zero_or_pos k with rfl | h0
  ·exact ltI_irrefl _
  ·exact leI_trans (ih ((k - 1) / 2) (by omega) (by omega)) (h k h0 hk (Nat.zero_le _))
def Least (m:It) (l:List It):Prop:=m ∈ l∧∀ x,x ∈ l→¬ ltI x m
theorem HeapF.least {d:List It} (h:HeapF d d.length 0) (h0:0<d.length):Least (itAt d 0) d :=
 ⟨itAt_mem h0,fun x hx=>by obtain ⟨k,hk,rfl⟩:=mem_itAt hx; exact h.first k hk⟩
theorem Least.perm {m:It} {l k:List It} (h:Least m l) (hp:l.Perm k):Least m k:=⟨hp.mem_iff.1 h.1,fun x hx=>h.2 x (hp.mem_iff.2 hx)⟩
theorem take_last (d:List It) (h:0<d.length):d.take (d.length - 1) ++ [itAt d (d.length - 1)]=d:=by
 have e:d.length=d.length - 1+1:=by omega
 have h1:=List.take_succ_eq_append_getElem (l:=d) (i:=d.length - 1) (by omega)
 rw [← e,List.take_length] at h1
 rw [show itAt d (d.length - 1)=d[d.length - 1] from by simp [itAt,List.getD,show d.length - 1<d.length from by omega]]
 exact h1.symm
def stOf (l:List St) (k:Nat):St:=l.getD k (0,0)
def cp (l:List St):Nat→List St
 | 0=>[]
 | n+1=>if n=0 then [stOf l 0] else if stOf l n=stOf l (n - 1) then cp l n else cp l n ++ [stOf l n]
def below (l:List St) (s:St):Nat:=(l.takeWhile fun x=>decide (ltS x s)).length
end Go.Proofs.YtfgnmnkihbgjnaaGreat.Qm
namespace Go.Proofs.YtfgnmnkihbgjnaaGreat
open Go.RowKit
structure Turns (F:Nat→Prop) (w w':World):Prop where
 os:w'.os=w.os
 tape:w'.tape=w.tape
 output:w'.output=w.output
 size:w.heap.size≤w'.heap.size
 block:∀ k,k<w.heap.size→¬ F k→w'.heap[k]?=w.heap[k]?
theorem Turns.refl (F:Nat→Prop) (w:World):Turns F w w:=⟨rfl,rfl,rfl,Nat.le_refl _,fun _ _ _=>rfl⟩
theorem Turns.trans {F:Nat→Prop} {a b c:World} (h:Turns F a b) (k:Turns (fun i=>F i∨a.heap.size≤i) b c):Turns F a c :=
 ⟨k.os.trans h.os,k.tape.trans h.tape,k.output.trans h.output,Nat.le_trans h.size k.size,fun i hi hf=>(k.block i (Nat.lt_of_lt_of_le hi h.size) (fun x=>x.elim hf fun y=>by omega)).trans (h.block i hi hf)⟩
theorem Turns.mono {F G:Nat→Prop} {a b:World} (h:Turns F a b) (hm:∀ k,k<a.heap.size→F k→G k):Turns G a b:=⟨h.os,h.tape,h.output,h.size,fun k hk hg=>h.block k hk fun hf=>hg (hm k hk hf)⟩
theorem Turns.of_below {F:Nat→Prop} {w w':World} (h:Below w.heap.size w w'):Turns F w w':=⟨h.os,h.tape,h.output,h.size,fun k hk _=>h.block k hk⟩
theorem Turns.of_base {B:Nat} {w w':World} (h:Below B w w'):Turns (fun k=>B≤k) w w':=⟨h.os,h.tape,h.output,h.size,fun k _ hf=>h.block k (by omega)⟩
theorem Turns.below {F:Nat→Prop} {w w':World} (h:Turns F w w') {B:Nat} (hF:∀ k,k<w.heap.size→F k→B≤k) (hB:B≤w.heap.size):Below B w w' :=
 ⟨h.os,h.tape,h.output,h.size,fun k hk=>h.block k (by omega) fun hf=>by have:=hF k (by omega) hf; omega⟩
theorem Turns.of_grown {w w':World} {row:Option Nat} (h:w.grownBy w' row):Turns (fun k=>row=some k) w w':=⟨h.os,h.tape,h.output,h.size,fun k hk hf=>h.block k hk fun e=>hf e.symm⟩
theorem Turns.cell {F:Nat→Prop} {w w':World} (h:Turns F w w') {p:Addr} {v:Value} (hc:w.cell? p=some v) (hf:¬ F p.block):w'.cell? p=some v:=by
 rw [World.cell?_of_block (w:=w) (h.block p.block (cell_lt hc) hf)]; exact hc
theorem Turns.frozen {F:Nat→Prop} {w w':World} (h:Turns F w w') {p:Addr} (hl:p.block<w.heap.size) (hf:¬ F p.block):w'.frozen? p=w.frozen? p :=
 World.frozen?_of_block (w:=w) (h.block p.block hl hf)
theorem Turns.own {F:Nat→Prop} {w w':World} (h:Turns F w w') {B:Nat} {E:TypeId} {k:Nat} {v:Value} {n:Nat} {xs:List Value} (ho:w.ownsRow B E k v n xs) (hf:∀ g,v.ownBlock=some g→¬ F g):w'.ownsRow B E k v n xs:=by
 refine ⟨ho.1,?_⟩
 rcases ho.2 with h2 | ⟨g,cap,cur,hv,hg,hh,r⟩
 ·exact Or.inl h2
 ·refine Or.inr ⟨g,cap,cur,hv,hg,?_,r⟩
  rw [h.block g (Array.getElem?_eq_some_iff.1 hh).1 (hf g (by rw [hv]; rfl))]
  exact hh
theorem Turns.rd {F:Nat→Prop} {w w':World} (h:Turns F w w') {p:Option Addr} {us:List Value} (hr:Rd w p us) (hf:∀ a,p=some a→¬ F a.block):Rd w' p us:=by
 intro h0
 obtain ⟨b,o,rfl,hc⟩:=hr h0
 exact ⟨b,o,rfl,fun i u hu=>h.cell (hc i u hu) (hf ⟨b,o,none⟩ rfl)⟩
theorem Rd.below {w w':World} {p:Option Addr} {us:List Value} (h:Rd w p us) (hb:Below w.heap.size w w'):Rd w' p us :=
 (Turns.of_below (F:=fun _=>False) hb).rd h fun _ _ h=>h
theorem Rd.base {w w':World} {p:Option Addr} {us:List Value} {B:Nat} (h:Rd w p us) (hb:Below B w w') (hp:∀ a,p=some a→a.block<B):Rd w' p us :=
 (Turns.of_base hb).rd h fun a ha=>by have:=hp a ha; omega
theorem Rd.cell {w:World} {b o:Nat} {us:List Value} (h:Rd w (some ⟨b,o,none⟩) us) {i:Nat} {u:Value} (hi:us[i]?=some u):w.cell? ⟨b,o+i,none⟩=some u:=by
 obtain ⟨b',o',e,hc⟩:=h (Nat.lt_of_le_of_lt (Nat.zero_le _) (List.getElem?_eq_some_iff.1 hi).1)
 simp only [Option.some.injEq,Addr.mk.injEq] at e
 obtain ⟨rfl,rfl,-⟩:=e
 exact hc i u hi
theorem Rd.nil (w:World) (p:Option Addr):Rd w p []:=fun h=>absurd h (Nat.lt_irrefl 0)
theorem Rd.addr {w:World} {p:Option Addr} {us:List Value} (h:Rd w p us) (h0:0<us.length):∃ b o,p=some ⟨b,o,none⟩∧b<w.heap.size:=by
 obtain ⟨b,o,rfl,hc⟩:=h h0
 exact ⟨b,o,rfl,cell_lt (hc 0 _ (List.getElem?_eq_getElem h0))⟩
def stCells (l:List Qm.St):List Value:=l.flatMap fun x=>[.int .i64 x.1,.int .i64 x.2]
def itCells (l:List Qm.It):List Value:=l.flatMap fun x=>[.int .i64 x.1.1,.int .i64 x.1.2,.int .i64 x.2]
theorem stCells_length (l:List Qm.St):(stCells l).length=l.length * 2:=by
 induction l with
 | nil=>rfl
 | cons a l ih=>simp only [stCells,List.flatMap_cons,List.length_append,List.length_cons,List.length_nil] at ih ⊢; omega
theorem itCells_length (l:List Qm.It):(itCells l).length=l.length * 3:=by
 induction l with
 | nil=>rfl
 | cons a l ih=>simp only [itCells,List.flatMap_cons,List.length_append,List.length_cons,List.length_nil] at ih ⊢; omega
theorem itCells_append (l m:List Qm.It):itCells (l ++ m)=itCells l ++ itCells m:=by simp [itCells]
theorem stCells_one:∀ {l:List Qm.St},∀ u ∈ stCells l,u.oneCell'=true:=by
 intro l u hu
 obtain ⟨x,_,hx⟩:=List.mem_flatMap.1 hu
 simp at hx
 rcases hx with rfl | rfl <;> rfl
theorem itCells_one:∀ {l:List Qm.It},∀ u ∈ itCells l,u.oneCell'=true:=by
 intro l u hu
 obtain ⟨x,_,hx⟩:=List.mem_flatMap.1 hu
 simp at hx
 rcases hx with rfl | rfl | rfl <;> rfl
theorem stCells_get (l:List Qm.St) (i:Nat) (h:i<l.length):(stCells l)[i * 2]?=some (.int .i64 (Qm.stOf l i).1)∧(stCells l)[i * 2+1]?=some (.int .i64 (Qm.stOf l i).2):=by
 induction l generalizing i with
 | nil=>simp at h
 | cons a l ih =>
  cases i with
  | zero=>simp [stCells,Qm.stOf]
  | succ i =>
   have:=ih i (by simpa using h)
   have e:(i+1) * 2=i * 2+1+1:=by omega
   rw [e]
   simpa [stCells,Qm.stOf] using this
theorem itCells_get (l:List Qm.It) (i:Nat) (h:i<l.length):(itCells l)[i * 3]?=some (.int .i64 (Qm.itAt l i).1.1)∧(itCells l)[i * 3+1]?=some (.int .i64 (Qm.itAt l i).1.2)∧(itCells l)[i * 3+2]?=some (.int .i64 (Qm.itAt l i).2):=by
 induction l generalizing i with
 | nil=>simp at h
 | cons a l ih =>
  cases i with
  | zero=>simp [itCells,Qm.itAt]
  | succ i =>
   have:=ih i (by simpa using h)
   have e:(i+1) * 3=i * 3+1+1+1:=by omega
   rw [e]
   simpa [itCells,Qm.itAt] using this
theorem itCells_set (l:List Qm.It) (i:Nat) (x:Qm.It):(((itCells l).set (i * 3) (.int .i64 x.1.1)).set (i * 3+1) (.int .i64 x.1.2)).set (i * 3+2) (.int .i64 x.2)=itCells (l.set i x):=by
 induction l generalizing i with
 | nil=>simp [itCells]
 | cons a l ih =>
  cases i with
  | zero=>simp [itCells]
  | succ i =>
   have:=ih i
   have e:(i+1) * 3=i * 3+1+1+1:=by omega
   rw [e]
   simpa [itCells] using this
theorem itCells_take (l:List Qm.It) (n:Nat):(itCells l).take (n * 3)=itCells (l.take n):=by
 induction l generalizing n with
 | nil=>simp [itCells]
 | cons a l ih =>
  cases n with
  | zero=>simp [itCells]
  | succ i =>
   have:=ih i
   have e:(i+1) * 3=i * 3+1+1+1:=by omega
   rw [e]
   simpa [itCells] using this
theorem Rd.st {w:World} {b o:Nat} {l:List Qm.St} (h:Rd w (some ⟨b,o,none⟩) (stCells l)) (i:Nat) (hi:i<l.length) :
  w.cell? ⟨b,o+i * 2,none⟩=some (.int .i64 (Qm.stOf l i).1)∧w.cell? ⟨b,o+i * 2+1,none⟩=some (.int .i64 (Qm.stOf l i).2):=by
 obtain ⟨h0,h1⟩:=stCells_get l i hi
 exact ⟨h.cell h0,by rw [Nat.add_assoc]; exact h.cell h1⟩
theorem Rd.it {w:World} {b o:Nat} {l:List Qm.It} (h:Rd w (some ⟨b,o,none⟩) (itCells l)) (i:Nat) (hi:i<l.length) :
  w.cell? ⟨b,o+i * 3,none⟩=some (.int .i64 (Qm.itAt l i).1.1)∧w.cell? ⟨b,o+i * 3+1,none⟩=some (.int .i64 (Qm.itAt l i).1.2)∧w.cell? ⟨b,o+i * 3+2,none⟩=some (.int .i64 (Qm.itAt l i).2):=by
 obtain ⟨h0,h1,h2⟩:=itCells_get l i hi
 exact ⟨h.cell h0,by rw [Nat.add_assoc]; exact h.cell h1,by rw [Nat.add_assoc]; exact h.cell h2⟩
theorem Rd.take {w:World} {p:Option Addr} {us:List Value} (h:Rd w p us) (n:Nat):Rd w p (us.take n):=by
 intro h0
 obtain ⟨b,o,rfl,hc⟩:=h (by simp at h0; omega)
 refine ⟨b,o,rfl,fun i u hu=>hc i u ?_⟩
 rw [List.getElem?_take] at hu
 split at hu
 ·exact hu
 ·cases hu
theorem Rd.drop {w:World} {b o:Nat} {us:List Value} (h:Rd w (some ⟨b,o,none⟩) us) (n:Nat):Rd w (some ⟨b,o+n,none⟩) (us.drop n):=by
 intro _
 refine ⟨b,o+n,rfl,fun i u hu=>?_⟩
 rw [List.getElem?_drop] at hu
 rw [Nat.add_assoc]
 exact h.cell hu
theorem own_rd {w:World} {B:Nat} {E:TypeId} {k:Nat} {v:Value} {n:Nat} {xs:List Value} (h:w.ownsRow B E k v n xs) :
  ∃ p c,v=.slice p n c∧Rd w p xs∧n≤c∧c≤maxLen∧(p=none→c=0)∧(∀ a,p=some a→B≤a.block∧a.block<w.heap.size∧v.ownBlock=some a.block∧a=⟨a.block,0,none⟩):=by
 rcases h.2 with ⟨rfl,rfl⟩ | ⟨g,cap,cur,rfl,hg,hh,hnc,hcm,-,-⟩
 ·refine ⟨none,0,rfl,fun h0=>?_,by omega,by simp [maxLen],fun _=>rfl,fun a ha=>by cases ha⟩
  rw [h.1] at h0; omega
 ·refine ⟨_,cap,rfl,fun _=>⟨g,0,rfl,fun i u hu=>?_⟩,hnc,hcm,(fun e=>by cases e),fun a ha=>?_⟩
  ·rw [Nat.zero_add,h.cellAt i (by have:=(List.getElem?_eq_some_iff.1 hu).1; rw [h.1] at this; exact this)]
   exact hu
  ·cases ha
   exact ⟨hg,(Array.getElem?_eq_some_iff.1 hh).1,rfl,rfl⟩
theorem own_base {w:World} {B B':Nat} {E:TypeId} {k:Nat} {v:Value} {n:Nat} {xs:List Value} (h:w.ownsRow B E k v n xs) (hB:∀ g,v.ownBlock=some g→B'≤g):w.ownsRow B' E k v n xs:=by
 refine ⟨h.1,?_⟩
 rcases h.2 with h2 | ⟨g,cap,cur,hv,_,r⟩
 ·exact Or.inl h2
 ·exact Or.inr ⟨g,cap,cur,hv,hB g (by rw [hv]; rfl),r⟩
theorem own_take {w:World} {B:Nat} {E:TypeId} {k:Nat} {g n c:Nat} {xs:List Value} (h:w.ownsRow B E k (.slice (some ⟨g,0,none⟩) n c) n xs) (m:Nat) (hm:m≤n):w.ownsRow B E k (.slice (some ⟨g,0,none⟩) m c) m (xs.take (m * k)):=by
 have hmk:m * k≤n * k:=Nat.mul_le_mul_right _ hm
 refine ⟨by rw [List.length_take,h.1]; omega,?_⟩
 rcases h.2 with ⟨h2,-⟩ | ⟨g',cap,cur,hv,hg,hh,hnc,hcm,hcs,ht⟩
 ·cases h2
 ·simp only [Value.slice.injEq,Option.some.injEq,Addr.mk.injEq,and_true,true_and] at hv
  obtain ⟨rfl,rfl⟩:=hv
  refine Or.inr ⟨g,c,cur,rfl,hg,hh,by omega,hcm,hcs,?_⟩
  rw [← ht,List.take_take,Nat.min_eq_left hmk]
section
variable {P:Program} (w:World)
theorem run_append_k (base:Nat) (t ty e:TypeId) (i:TypeInfo) (z:Value) (k bytes:Nat) (ht:P.underlying t=some (.slice e)) (hi:P.info? e=some i) (hz:i.zero=some z)
  (hsize:i.size=k) (hk0:0<k) (hby:i.bytes=bytes) (hb1:bytes≤1000000000) (hzs:z.cells.size=k)
  (v:Value) (n:Nat) (xs:List Value) (hown:w.ownsRow base e k v n xs)
  (p:Option Addr) (m c:Nat) (us:List Value) (hus:us.length=m * k) (hrd:Rd w p us) (hpn:p=none→c=0) (h1:∀ u ∈ us,u.oneCell'=true)
  (hbytes:(n+m) * bytes≤211106232532992) (h63:n+m≤maxLen) (hbase:base≤w.heap.size) :
  ∃ v' w',(Builtin.append_ #[t,t] ty #[v,.slice p m c]).run P w=.ok v' w'∧w'.ownsRow base e k v' (n+m) (xs ++ us)∧w.grownBy w' v.ownBlock∧(∀ g,v'.ownBlock=some g→v.ownBlock=some g∨w.heap.size≤g):=by
 rcases Nat.eq_zero_or_pos m with hm0 | hm0
 ·subst hm0
  obtain rfl:us=[]:=List.eq_nil_of_length_eq_zero (by simpa using hus)
  simp only [Nat.add_zero,List.append_nil]
  have hself:w.grownBy w v.ownBlock:=⟨rfl,rfl,rfl,Nat.le_refl _,fun _ _ _=>rfl⟩
  cases p with
  | none =>
   have hc:=hpn rfl
   subst hc
   exact ⟨v,w,run_append_owned_none (P:=P) (w:=w) base t ty e i k ht hi v n xs hown,hown,hself,fun g hg=>Or.inl hg⟩
  | some a =>
   refine ⟨v,w,?_,hown,hself,fun g hg=>Or.inl hg⟩
   rcases hown.2 with ⟨rfl,rfl⟩ | ⟨g,cap,cur,rfl,hbg,hg,hnc,hcm,hcs,htake⟩
   ·simp [Builtin.append_,run_underlying ht,sizeOf,typeInfo,hi,Builtin.lenOf,Builtin.firstCells,loadCells,loadCellsFrom]
   ·simp [Builtin.append_,run_underlying ht,sizeOf,typeInfo,hi,Builtin.lenOf,Builtin.firstCells,loadCells,loadCellsFrom,hnc,storeCells]
 ·have hmk:0<m * k:=Nat.mul_pos hm0 hk0
  obtain ⟨b,o,rfl,hcell⟩:=hrd (by omega)
  have hnews:∀ j u,us[j]?=some u→w.cell? ((⟨b,o,none⟩:Addr).add j)=some u:=by
   intro j u hu
   have hadd:(⟨b,o,none⟩:Addr).add j=⟨b,o+j,none⟩:=by unfold Addr.add; split <;> simp_all
   rw [hadd]
   exact hcell j u hu
  have hmax:(maxLen:Nat)=9223372036854775807:=by decide
  have h63m:((n+m:Nat):Int)≤9223372036854775807:=by omega
  have hxl:xs.length=n * k:=hown.1
  have hlen:(xs ++ us).length=(n+m) * k:=by rw [List.length_append,hxl,hus,Nat.add_mul]
  have grown:∀ (old:Nat),old<n+m→∀ (row:Option Nat),
    (w.drew.alloc (.cells (xs.toArray ++ us.toArray ++ Builtin.zeroCells z.cells (grownCap w (n+m) old e - (n+m))) e)).ownsRow base e k
     (.slice (some ⟨w.heap.size,0,none⟩) (n+m) (grownCap w (n+m) old e)) (n+m) (xs ++ us) ∧
    w.grownBy (w.drew.alloc (.cells (xs.toArray ++ us.toArray ++ Builtin.zeroCells z.cells (grownCap w (n+m) old e - (n+m))) e)) row:=by
   intro old ho row
   have hge:=grownCap_ge w (n+m) old e
   have hcm:grownCap w (n+m) old e≤maxLen:=grownCap_le_maxLen w (n+m) old e h63
   refine ⟨⟨hlen,.inr ⟨w.heap.size,_,_,rfl,hbase,heap_alloc_new w.drew _,hge,hcm,?_,?_⟩⟩,⟨rfl,rfl,rfl,by simp,fun k hk _=>Below.heap_alloc w.drew _ k hk⟩⟩
   ·simp only [Array.size_append,List.size_toArray,size_zeroCells,hzs]
    have e1:xs.length+us.length=(n+m) * k:=by rw [← List.length_append]; exact hlen
    rw [e1,← Nat.add_mul,Nat.add_sub_cancel' hge]
   ·simp only [Array.toList_append,List.append_assoc]
    rw [← List.append_assoc,← hlen]
    exact List.take_left
  rcases hown.2 with ⟨rfl,rfl⟩ | ⟨g,cap,cur,rfl,hbg,hg,hnc,hcm,hcs,htake⟩
  ·have hx:xs=[]:=List.eq_nil_of_length_eq_zero (by simpa using hxl)
   subst hx
   have hr:=run_append_nil (P:=P) w t ty e i z ht hi hz ⟨b,o,none⟩ m c us (by rw [hsize]; exact hus) hnews hm0 (by omega) (by rw [hby]; have hb:=hbytes; simp only [Nat.zero_add] at hb; omega)
   have hgr:=grown 0 (by omega) (Value.ownBlock (.slice none 0 0))
   simp only [Nat.zero_add,List.nil_append,Array.empty_append] at hgr ⊢
   exact ⟨_,_,hr,hgr.1,hgr.2,fun g hg=>Or.inr (by cases hg; exact Nat.le_refl _)⟩
  ·by_cases hroom:n+m≤cap
   ·obtain ⟨w',hr,ho,hgr⟩:=run_append_fits (P:=P) w base t ty e i k ht hi hsize g n cap xs hown ⟨b,o,none⟩ m c us hus hnews h1 hroom
    exact ⟨_,_,hr,ho,hgr,fun g hg=>Or.inl hg⟩
   ·have holds:∀ j u,xs[j]?=some u→w.cell? ((⟨g,0,none⟩:Addr).add j)=some u:=hown.cells (g:=g) rfl
    have hr:=run_append_grow (P:=P) w t ty e i z ht hi hz ⟨g,0,none⟩ n cap xs (by rw [hsize]; exact hxl) holds ⟨b,o,none⟩ m c us (by rw [hsize]; exact hus) hnews (by omega) h63m (by rw [hby]; exact grow_fits (by omega) hbytes hb1)
    have hgr:=grown cap (by omega) (Value.ownBlock (.slice (some ⟨g,0,none⟩) n cap))
    exact ⟨_,_,hr,hgr.1,hgr.2,fun g hg=>Or.inr (by cases hg; exact Nat.le_refl _)⟩
theorem wpList_append_k {w:World} {ops:Array Oper} {rest:List Oper} {o:Oper} {a:Act} {Q:Exit→Act→World→Prop} (hgd:o.guard=none) (s x:Operand) (t:TypeId)
  (ho:o.op=.call { callee:=.builtin .append,args:=#[s,x],argTypes:=#[t,t] })
  (base:Nat) (e:TypeId) (i:TypeInfo) (z:Value) (k bytes:Nat) (ht:P.underlying t=some (.slice e)) (hi:P.info? e=some i) (hz:i.zero=some z)
  (hsize:i.size=k) (hk0:0<k) (hby:i.bytes=bytes) (hb1:bytes≤1000) (hzs:z.cells.size=k)
  (v:Value) (n:Nat) (xs:List Value) (hs:a.eval s=v) (hown:w.ownsRow base e k v n xs)
  (p:Option Addr) (m c:Nat) (us:List Value) (hx:a.eval x=.slice p m c) (hus:us.length=m * k) (hrd:Rd w p us) (hpn:p=none→c=0) (h1:∀ u ∈ us,u.oneCell'=true)
  (hsz:n+m≤10000) (hbase:base≤w.heap.size)
  (h:∀ p' c' w',w'.ownsRow base e k (.slice p' (n+m) c') (n+m) (xs ++ us)→w.grownBy w' v.ownBlock→(∀ g,(Value.slice p' (n+m) c').ownBlock=some g→v.ownBlock=some g∨w.heap.size≤g)→wpList P ops Q rest (a.put o.dst (.slice p' (n+m) c')) w'):wpList P ops Q (o :: rest) a w:=by
 refine wpList_plain hgd fun K hK=>?_
 obtain ⟨v',w',hr,h2,h3,h4⟩:=run_append_k (P:=P) w base t o.type e i z k bytes ht hi hz hsize hk0 hby (by omega) hzs v n xs hown p m c us hus hrd hpn h1
  (Nat.le_trans (Nat.mul_le_mul hsz hb1) (by decide)) (by unfold maxLen; omega) hbase
 obtain ⟨p',c',rfl,-⟩:=own_rd h2
 unfold Oper.wp execOp
 simp only [ho,resolve,invoke,builtin,Sem.run_bind,Sem.run_pure,Result.andThen_ok,List.map_toArray,List.map_cons,List.map_nil,hs,hx,hr]
 exact hK _ _ (h p' c' w' h2 h3 h4)
end
end Go.Proofs.YtfgnmnkihbgjnaaGreat
