/-
  Nothing of a world has turned.
  No conditions.
  WHERE AN OP's PLACE IS: find's function, slices.BinarySearchFunc at lines, find.
  No conditions but sizes.
  try: an op is tried: what it makes, and what takes it back.
  No conditions but sizes.
  takeBack: ops that were tried are taken back, the last one first.
  No conditions but sizes.
  THE LOCK's functions and types, under the seat's numbers.
  No conditions.
  ONE MORE OP WAS TRIED: the rows, the cells.
  No conditions but sizes.
-/
import Derived.Test.YthfhefdfehlbkaaGreatSh
import Derived.Test.YthfhefdfehlbkaaGreatK01
import Derived.Test.YthfhefdfehlbkaaGreatK14
import Derived.Deep.RegionHeld
import Derived.Test.YthfhefdfehlbkaaGreatK18
import Derived.Test.YthfhefdfehlbkaaGreatK20
import Derived.Deep.LoopGhost
import Derived.Conc.MuLone
import Derived.KernelRfl
set_option maxRecDepth 100000
set_option maxHeartbeats 4000000
namespace Go.Proofs.YthfhefdfehlbkaaGreat
open Go.RowKit
def Bel (w W:World):Prop:=Below w.heap.size w W
theorem Bel.get {w W:World} (h:Bel w W) {a:Addr} {v:Value} (hc:w.cell? a=some v):W.cell? a=some v:=by rw [Below.cell h (cell_lt hc)]; exact hc
theorem Bel.start (w:World):Bel w w.drew:=(Below.refl _ _).drew
theorem Bel.trans {w W W':World} (h:Bel w W) (hb:Below W.heap.size W W'):Bel w W':=Below.trans h (hb.mono (Below.size h))
open Go.RowKit
theorem rising_le {l:List Qm.St} (h:Qm.Rising l) {a b:Nat} (hab:a<b) (hb:b<l.length):Qm.ltS (Qm.stOf l a) (Qm.stOf l b):=by
 rw [Qm.stOf_lt hb,Qm.stOf_lt (by omega)]
 exact (List.pairwise_iff_getElem.1 h) a b (by omega) hb hab
def Placed (l:List Qm.St) (s:Qm.St) (n:Nat) (b:Bool):Prop :=
 n≤l.length∧(∀ i,i<n→Qm.ltS (Qm.stOf l i) s)∧(n<l.length→¬ Qm.ltS (Qm.stOf l n) s)∧b=decide (n<l.length∧Qm.stOf l n=s)
def intB (n:Nat) (b:Bool):Value:=.tuple #[.int .i64 (n:Int),.bool b]
structure SInv (l:List Qm.St) (s:Qm.St) (i j:Nat):Prop where
 ij:i≤j
 jl:j≤l.length
 lo:∀ a,a<i→Qm.ltS (Qm.stOf l a) s
 hi:∀ a,j≤a→a<l.length→¬ Qm.ltS (Qm.stOf l a) s
theorem SInv.up {l:List Qm.St} {s:Qm.St} {i j h:Nat} (k:SInv l s i j) (hr:Qm.Rising l) (h2:h<j) (hl:Qm.ltS (Qm.stOf l h) s):SInv l s (h+1) j :=
 ⟨by omega,k.jl,fun a ha=>by
  rcases Nat.lt_or_ge a h with e | e
  ·exact Qm.ltS_trans (rising_le hr e (by have:=k.jl; omega)) hl
  ·obtain rfl:a=h:=by omega
   exact hl,k.hi⟩
theorem SInv.down {l:List Qm.St} {s:Qm.St} {i j h:Nat} (k:SInv l s i j) (hr:Qm.Rising l) (h1:i≤h) (h2:h<j) (hl:¬ Qm.ltS (Qm.stOf l h) s):SInv l s i h :=
 ⟨h1,by have:=k.jl; omega,k.lo,fun a ha hal=>by
  rcases Nat.lt_or_ge h a with e | e
  ·exact fun hc=>hl (Qm.ltS_trans (rising_le hr e hal) hc)
  ·obtain rfl:a=h:=by omega
   exact hl⟩
theorem lnS {x:Pm.Wr}:∀ j v,[Value.int .i64 x.s.1,.int .i64 x.s.2][j]?=some v→(lnA x)[0+j]?=some v:=fun j v h=>by
 match j,h with
 | 0,h=>exact h
 | 1,h=>exact h
structure Lr (w:World) (p:Option Addr) (ls:List (Pm.Wr × Nat)):Prop where
 rd:Rd w p (ls.map fun e=>ptV e.2)
 ln:∀ e ∈ ls,AgAt w e.2 (lnA e.1)
theorem Lr.below {w w':World} {p:Option Addr} {ls:List (Pm.Wr × Nat)} (h:Lr w p ls) (hb:Below w.heap.size w w'):Lr w' p ls:=⟨h.rd.below hb,fun e he=>(h.ln e he).kept hb⟩
theorem find1_any (b:Nat) (x:Pm.Wr) (s:Qm.St) (w:World) (h:AgAt w b (lnA x)) :
  Calls Tryz.prog 167 #[ptV b,snV s] w fun e w'=>e=.returned (.int .i64 (qcmpS x.s.1 x.s.2 s.1 s.2))∧Below w.heap.size w w':=by
 have hb0:=(Below.refl w.heap.size w).alloc (Nat.le_refl _) (.cells #[.int .i64 s.1,.int .i64 s.2] 35)
 have HA:=Hi (AgAt.kept h hb0)
 have HN:=Hi (AgAt.new w #[.int .i64 s.1,.int .i64 s.2] 35)
 have HB:=Hi hb0
 clear h hb0
 go_enter Tryz.func167,Tryz.ntmps167
 go_upto_region 1 with fail
 generalize w.alloc (.cells #[.int .i64 s.1,.int .i64 s.2] 35)=w1 at *
 refine wp_region_held_drew (S:=fun W=>Below w1.heap.size w1 W) (by kernel_rfl) (Below.refl _ _).drew (fun hS=>?_)
 generalize w1.drew=wd at *
 refine tX 0 rfl hS ?_
 refine tX 1 rfl hS ?_
 refine tX 2 rfl hS ?_
 go_simp
 refine tK 3 (v:=snV x.s) rfl (fun W hSW=>exec_load_part stT rfl rfl [.int .i64 x.s.1,.int .i64 x.s.2] rfl (AgAt.kept HA.out hSW) lnS) hS ?_
 go_simp
 refine tK 4 (v:=snV s) rfl (fun W hSW=>exec_load_ag stT rfl rfl rfl (AgAt.kept HN.out hSW)) hS ?_
 go_simp
 refine rD 5 rfl (fun K hK=>?_)
 go_simp
 go_wp2_with (go_at_call 168; refine (qcompare_any x.s.1 x.s.2 s.1 s.2 _).mono ?_; rintro e wn ⟨rfl,hbn⟩)
 refine hK.out _ _ (hS.trans (hbn.mono hS.size)) (fun hS=>?_)
 clear hK K
 refine tX 6 rfl hS ?_
 go_simp
 refine wpAnyH_done (by kernel_rfl) ?_ _
 go_simp
 have HE:=Hi (HB.out.trans (hS.mono HB.out.size))
 clear hS
 go_wp2
 go_ret
 exact ⟨rfl,HE.out⟩
theorem Lr.at_ {w:World} {b o:Nat} {ls:List (Pm.Wr × Nat)} {l:List Qm.St} (h:Lr w (some ⟨b,o,none⟩) ls) (hll:l=ls.map (fun e=>e.1.s)) (i:Nat) (hi:i<l.length) (s:Qm.St) :
  ∃ bl,w.cell? ⟨b,o+i,none⟩=some (ptV bl)∧Hid (∀ W,Below w.heap.size w W→Calls Tryz.prog 167 #[ptV bl,snV s] W fun e w'=>e=.returned (.int .i64 (qcmpS (Qm.stOf l i).1 (Qm.stOf l i).2 s.1 s.2))∧Below W.heap.size W w'):=by
 have hi2:i<ls.length:=by rw [hll,List.length_map] at hi; exact hi
 obtain ⟨b',o',he,hr⟩:=h.rd (by rw [List.length_map]; omega)
 cases he
 have h1:Qm.stOf l i=ls[i].1.s:=by rw [Qm.stOf_lt hi]; simp only [hll,List.getElem_map]
 refine ⟨ls[i].2,hr i _ (by rw [List.getElem?_map,List.getElem?_eq_getElem hi2,Option.map_some]),Hi fun W hb=>?_⟩
 rw [h1]
 exact find1_any _ _ s W ((h.ln _ (List.getElem_mem hi2)).kept hb)
def Searched (l:List Qm.St) (s:Qm.St) (w:World) (e:Ending) (w':World):Prop:=∃ n b,e=.returned (intB n b)∧Placed l s n b∧Below w.heap.size w w'
theorem lsearch_any (p:Option Addr) (cap:Nat) (ls:List (Pm.Wr × Nat)) (l:List Qm.St) (st sr:Int) (w:World) (hll:l=ls.map (fun e=>e.1.s)) (h:Lr w p ls) (hr:Qm.Rising l) (hl:l.length≤5000) :
  Calls Tryz.prog 166 #[.slice p l.length cap,.agg #[.int .i64 st,.int .i64 sr],.func (.func 167) #[] #[]] w (Searched l (st,sr) w):=by
 have HR:=Hi h
 have HZ:=Hi (show l.length=ls.length by rw [hll,List.length_map])
 have HLL:=Hi hll
 have HRI:=Hi hr
 have HB0:=Hi ((Below.refl w.heap.size w).alloc (Nat.le_refl _) (.cells #[.int .i64 st,.int .i64 sr] 35))
 clear h hr hll
 go_enter Tryz.func166,Tryz.ntmps166
 go_wp2
 go_loopw [9,10] (fun x y wr=>∃ i j:Nat,x=.int .i64 (i:Int)∧y=.int .i64 (j:Int)∧SInv l (st,sr) i j∧Below (w.heap.size+1) (w.alloc (.cells #[.int .i64 st,.int .i64 sr] 35)) wr) (fun x y _=>(intOf y).toNat - (intOf x).toNat)
 case atStart=>exact ⟨0,l.length,rfl,rfl,⟨Nat.zero_le _,Nat.le_refl _,fun a h=>by omega,fun a h k=>by omega⟩,Below.refl _ _⟩
 case round =>
  obtain ⟨i,j,rfl,rfl,hI,hb⟩:=hrel
  have HI:=Hi hI
  have HB:=Hi hb
  have hij:=hI.ij
  have hjl:=hI.jl
  have s0:=hb.cell (p:=⟨w.heap.size,0,none⟩) (by simp)
  have s1:=hb.cell (p:=⟨w.heap.size,1,none⟩) (by simp)
  rw [World.cell?_alloc_at _ _ _ _ rfl] at s0 s1
  have s0':wr.cell? ⟨w.heap.size,0,none⟩=some (.int .i64 st):=s0
  have s1':wr.cell? ⟨w.heap.size,1,none⟩=some (.int .i64 sr):=s1
  have hbw:Below w.heap.size w wr:=HB0.out.trans (hb.mono (by omega))
  have hrd:=HR.out.below hbw
  have HBW:=Hi hbw
  clear s0 s1 hI hb hbw
  by_cases hlt:i<j
  ·obtain ⟨b,o,rfl,-⟩:=hrd.rd.addr (by rw [List.length_map,← HZ.out]; omega)
   obtain ⟨m,hm⟩:∃ m:Nat,m=(i+j) / 2:=⟨_,rfl⟩
   have hm1:i≤m:=by omega
   have hm2:m<j:=by omega
   have hml:m<l.length:=by omega
   obtain ⟨bl,x0,HC⟩:=hrd.at_ HLL.out m hml (st,sr)
   have hdiv:((i:Int)+(j:Int)) / 2=(m:Int):=by omega
   clear hrd hm
   by_cases hs:Qm.ltS (Qm.stOf l m) (st,sr)
   ·have hv:qcmpS (Qm.stOf l m).1 (Qm.stOf l m).2 st sr = -1:=cmpV_lt hs
    have HN:=Hi (HI.out.up HRI.out hm2 hs)
    rw [hv] at HC
    clear hv hs
    go_wp2
    go_region_with (go_at_call 167; refine (HC.out _ (Below.drew (Below.refl _ _))).mono ?_; rintro e w' ⟨rfl,hbc⟩)
    all_goals
     have HB2:=Hi (HB.out.trans (((Below.refl wr.heap.size wr).drew.trans hbc).mono (by have:=HB.out.size; simp only [World.size_alloc] at this; omega)))
     clear hbc
     go_wp2
     go_roundw
     case rel=>exact ⟨m+1,j,by go_num,rfl,HN.out,HB2.out⟩
     case measure=>simp [intOf]; omega
   ·have HV:=Hi (show qcmpS (Qm.stOf l m).1 (Qm.stOf l m).2 st sr=0∨qcmpS (Qm.stOf l m).1 (Qm.stOf l m).2 st sr=1 from by
     rcases Qm.ltS_tri (Qm.stOf l m) (st,sr) with h | h | h
     ·exact absurd h hs
     ·left; rw [h]; exact cmpV_eq (st,sr)
     ·right; exact cmpV_gt h)
    have HN:=Hi (HI.out.down HRI.out hm1 hm2 hs)
    clear hs
    rcases HV.out with hv | hv
    all_goals
     rw [hv] at HC
     clear hv
     go_wp2
     go_region_with (go_at_call 167; refine (HC.out _ (Below.drew (Below.refl _ _))).mono ?_; rintro e w' ⟨rfl,hbc⟩)
     all_goals
      have HB2:=Hi (HB.out.trans (((Below.refl wr.heap.size wr).drew.trans hbc).mono (by have:=HB.out.size; simp only [World.size_alloc] at this; omega)))
      clear hbc
      go_wp2
      go_roundw
      case rel=>exact ⟨i,m,rfl,rfl,HN.out,HB2.out⟩
      case measure=>simp [intOf]; omega
  ·obtain rfl:i=j:=by omega
   by_cases hlen:i<l.length
   ·obtain ⟨b,o,rfl,-⟩:=hrd.rd.addr (by rw [List.length_map,← HZ.out]; omega)
    obtain ⟨bl,x0,HC⟩:=hrd.at_ HLL.out i hlen (st,sr)
    have HNL:=Hi (HI.out.hi i (Nat.le_refl _) hlen)
    have HPL:=Hi (show ∀ b,b=decide (Qm.stOf l i=(st,sr))→Placed l (st,sr) i b from fun b hb=>⟨hjl,HI.out.lo,fun h=>HI.out.hi i (Nat.le_refl _) h,by rw [hb]; simp [hlen]⟩)
    clear hrd
    rcases Qm.ltS_tri (Qm.stOf l i) (st,sr) with hv | hv | hv
    ·exact absurd hv HNL.out
    ·have HD:=Hi (HPL.out true (decide_eq_true hv).symm)
     have hc:qcmpS (Qm.stOf l i).1 (Qm.stOf l i).2 st sr=0:=by rw [hv]; exact cmpV_eq (st,sr)
     rw [hc] at HC
     clear hv hc
     go_wp2
     refine wp_region_held_drew (S:=Bel wr) (by kernel_rfl) (Bel.start wr) (fun hS=>?_)
     refine tX 0 rfl hS ?_
     refine tX 1 rfl hS ?_
     refine tX 2 rfl hS ?_
     refine tX 3 rfl hS ?_
     refine tX 4 rfl hS ?_
     refine tX 5 rfl hS ?_
     refine tX 6 rfl hS ?_
     refine tX 7 rfl hS ?_
     refine tX 8 rfl hS ?_
     refine tK 9 (v:=?_) rfl ?_ hS ?_
     rotate_left
     ·intro W hSW
      have x0':=hSW.get x0
      go_simp
      all_goals with_reducible rfl
     refine tK 10 (v:=?_) rfl ?_ hS ?_
     rotate_left
     ·intro W hSW
      have s0'':=hSW.get s0'
      have s1'':=hSW.get s1'
      go_simp
      all_goals with_reducible rfl
     refine rD 11 rfl (fun K hK=>?_)
     go_simp
     go_wp2_with ((go_at_call 167; refine (HC.out _ hS).mono ?_; rintro e wn ⟨rfl,hbn⟩))
     refine hK.out _ _ (hS.trans hbn) (fun hS=>?_)
     clear hK K
     refine tX 12 rfl hS ?_
     refine tX 13 rfl hS ?_
     refine tX 14 rfl hS ?_
     refine tX 15 rfl hS ?_
     refine wpAnyH_done (by kernel_rfl) ?_ _
     have HB2:=Hi (HBW.out.trans (Below.mono hS HBW.out.size))
     clear hS hbn
     go_simp
     go_wp2
     go_ret2
     exact ⟨i,true,rfl,HD.out,HB2.out⟩
    ·have HD:=Hi (HPL.out false (by rw [decide_eq_false]; intro e; rw [e] at hv; exact Qm.ltS_irrefl _ hv))
     have hc:qcmpS (Qm.stOf l i).1 (Qm.stOf l i).2 st sr=1:=cmpV_gt hv
     rw [hc] at HC
     clear hv hc
     go_wp2
     refine wp_region_held_drew (S:=Bel wr) (by kernel_rfl) (Bel.start wr) (fun hS=>?_)
     refine tX 0 rfl hS ?_
     refine tX 1 rfl hS ?_
     refine tX 2 rfl hS ?_
     refine tX 3 rfl hS ?_
     refine tX 4 rfl hS ?_
     refine tX 5 rfl hS ?_
     refine tX 6 rfl hS ?_
     refine tX 7 rfl hS ?_
     refine tX 8 rfl hS ?_
     refine tK 9 (v:=?_) rfl ?_ hS ?_
     rotate_left
     ·intro W hSW
      have x0':=hSW.get x0
      go_simp
      all_goals with_reducible rfl
     refine tK 10 (v:=?_) rfl ?_ hS ?_
     rotate_left
     ·intro W hSW
      have s0'':=hSW.get s0'
      have s1'':=hSW.get s1'
      go_simp
      all_goals with_reducible rfl
     refine rD 11 rfl (fun K hK=>?_)
     go_simp
     go_wp2_with ((go_at_call 167; refine (HC.out _ hS).mono ?_; rintro e wn ⟨rfl,hbn⟩))
     refine hK.out _ _ (hS.trans hbn) (fun hS=>?_)
     clear hK K
     refine tX 12 rfl hS ?_
     refine tX 13 rfl hS ?_
     refine tX 14 rfl hS ?_
     refine tX 15 rfl hS ?_
     refine wpAnyH_done (by kernel_rfl) ?_ _
     have HB2:=Hi (HBW.out.trans (Below.mono hS HBW.out.size))
     clear hS hbn
     go_simp
     go_wp2
     go_ret2
     exact ⟨i,false,rfl,HD.out,HB2.out⟩
   ·obtain rfl:i=l.length:=by omega
    have HD:=Hi (show Placed l (st,sr) l.length false from ⟨Nat.le_refl _,HI.out.lo,fun h=>absurd h (Nat.lt_irrefl _),by simp⟩)
    clear hrd
    go_wp2
    go_region
    go_wp2
    go_ret2
    exact ⟨l.length,false,rfl,HD.out,HBW.out.drew⟩
open Go.RowKit
open Tm (Sp Tr has put cut kids)
theorem exec_buildSp {c:Act} {o:Oper} {x y:Operand} (ho:o.op=.build 106 #[(0,x),(1,y)]) {w:World} (p:Qm.St) (k:ByteArray) (hx:c.eval x=snV p) (hy:c.eval y=.string k) :
  (execOp c.eval o).run Tryz.prog w=.ok (.value (spV (p,k))) w:=by
 unfold execOp
 simp only [ho,hx,hy,List.map_toArray,List.map_cons,List.map_nil]
 go_simp
 rfl
theorem lnRef {x:Pm.Wr}:∀ j v,[Value.int .i64 x.x.rt,.int .i64 x.x.rr][j]?=some v→(lnA x)[5+j]?=some v:=fun j v h=>by
 match j,h with
 | 0,h=>exact h
 | 1,h=>exact h
theorem lnNode {x:Pm.Wr}:∀ j v,[Value.int .i64 x.x.nt,.int .i64 x.x.nr][j]?=some v→(lnA x)[3+j]?=some v:=fun j v h=>by
 match j,h with
 | 0,h=>exact h
 | 1,h=>exact h
theorem opT12:AgT 43 12:=⟨⟨_,Tryz.underlying43⟩,by kernel_rfl⟩
theorem lnOp {x:Pm.Wr}:∀ j v,(opL x.x none 0)[j]?=some v→(lnA x)[2+j]?=some v:=fun j v h=>by
 have:(lnA x)[2+j]?=(opL x.x none 0)[j]?:=by
  unfold lnA lnL
  rw [List.getElem?_toArray,List.getElem?_append_right (by simp),show 2+j - [Value.int .i64 x.s.1,.int .i64 x.s.2].length=j from by simp]
 rw [this]; exact h
theorem Made.imp {X:Gx} {χ:Nat→Nat} {g g':Gm.G} {J J':World→(Nat→Nat)→Uk→Prop} {w w':World} {e:Ending} (h:Made X χ g J w e w') (hg:g=g') (hJ:∀ w χ u,J w χ u→J' w χ u):Made X χ g' J' w e w':=by
 subst hg
 obtain ⟨u,X',χ',h1,h2,h3,h4,h5⟩:=h
 exact ⟨u,X',χ',h1,h2,h3,h4,hJ _ _ _ h5⟩
theorem Made.mkG {X X':Gx} {χ χ':Nat→Nat} {g:Gm.G} {J:World→(Nat→Nat)→Uk→Prop} {w w':World} {u:Uk} (h2:Core w' X' χ' g) (h3:Like X X') (h4:Goes w χ w' χ') (h5:J w' χ' u):Made X χ g J w (.returned (Uk.val u)) w':=⟨u,X',χ',rfl,h2,h3,h4,h5⟩
theorem Made.ahead {X:Gx} {χ:Nat→Nat} {g:Gm.G} {J:World→(Nat→Nat)→Uk→Prop} {w0 w w':World} {e:Ending} (h:Made X χ g J w e w') (hb:Below w0.heap.size w0 w):Made X χ g J w0 e w':=by
 obtain ⟨u,X',χ',h1,h2,h3,h4,h5⟩:=h
 exact ⟨u,X',χ',h1,h2,h3,(Goes.of_below hb).trans h4,h5⟩
def Tried (X:Gx) (χ:Nat→Nat) (g:Gm.G) (x:Pm.Wr):World→Ending→World→Prop:=Made X χ (Gm.aft g x) (fun w' χ' u=>UkOk w' χ' g x u)
theorem try_any {X:Gx} {χ:Nat→Nat} {g:Gm.G} {lb:Nat} (x:Pm.Wr) (w:World) (h:Core w X χ g) (hl:AgAt w lb (lnA x)) (hx:χ lb=6) (hw:Gm.okX x=true) (hn:g.s x.s=none) (hd:∃ e ∈ X.ls,e.1.s=x.s) :
  Calls Tryz.prog 159 #[ptV X.b,ptV lb] w (Tried X χ g x w):=by
 have HC:=Hi h
 have HL:=Hi hl
 have HLC:=Hi hx
 have HB:=Hi (Below.refl w.heap.size w)
 obtain ⟨k1,k2,k3⟩:=Gm.okX_iff.1 hw
 have HOK:=Hi (show Tm.okN x.s=true∧rightO x.x=true∧(x.x.k=1∨x.x.k=2∨x.x.k=5)∧g.s x.s=none∧∃ e ∈ X.ls,e.1.s=x.s from ⟨k1,k2,k3,hn,hd⟩)
 clear h hl hx hw hn hd k1 k2 k3
 go_enter Tryz.func159,Tryz.ntmps159
 go_upto_region 1 with fail
 have hbd:=Below.drew (Below.refl w.heap.size w)
 replace HC:=Hi (HC.out.kept hbd)
 replace HL:=Hi (AgAt.kept HL.out hbd)
 replace HB:=Hi (HB.out.trans hbd)
 clear hbd
 refine wp_region_held_drew (S:=fun W=>Below w.drew.heap.size w.drew W) (by kernel_rfl) (Below.refl _ _) (fun hS=>?_)
 generalize w.drew=wd at *
 refine tX 0 rfl hS ?_
 refine tX 1 rfl hS ?_
 refine tX 2 rfl hS ?_
 refine tX 3 rfl hS ?_
 go_simp
 refine tK 4 (v:=snV (Gm.ref x.x)) rfl (fun W hSW=>exec_load_part stT rfl rfl [.int .i64 x.x.rt,.int .i64 x.x.rr] rfl (AgAt.kept HL.out hSW) lnRef) hS ?_
 refine tX 5 rfl hS ?_
 refine tX 6 rfl hS ?_
 refine tX 7 rfl hS ?_
 go_simp
 refine tX 8 rfl hS ?_
 refine tK 9 (v:=?_) rfl ?_ hS ?_
 rotate_left
 ·intro W hSW
  have y:W.cell? ⟨lb,7,none⟩=some (.string x.x.key):=(AgAt.cell (AgAt.kept HL.out hSW) 7).trans rfl
  go_simp
  all_goals with_reducible rfl
 go_simp
 refine tK 10 (v:=spV (Gm.ref x.x,x.x.key)) rfl (fun W hSW=>exec_buildSp rfl _ _ rfl rfl) hS ?_
 go_simp
 refine rD 11 rfl (fun K hK=>?_)
 go_simp
 have hba:=(Below.refl wd.heap.size wd).alloc (Nat.le_refl _) (.cells #[.int .i64 0,.int .i64 0,.string ⟨#[]⟩] 106)
 have HS0:=Hi hS
 refine hK.out _ _ (hS.trans (hba.mono hS.size)) (fun hS=>?_)
 clear hK K hba
 refine rD 12 rfl (fun K hK=>?_)
 refine step_of (by kernel_rfl) ?_
 refine wp_store_newag spT _ _ rfl rfl _ (A:=spA (Gm.ref x.x,x.x.key)) rfl rfl rfl (spA_one _) ?_
 intro w5 hv5 hb5
 have HV5:=Hi hv5
 refine hK.out _ _ (HS0.out.trans (hb5.mono HS0.out.size)) (fun hS=>?_)
 clear hK K hv5 hb5
 refine wpAnyH_done (by kernel_rfl) ?_ _
 go_simp
 have HTB:=HV5
 have HTC:=Hi (HC.out.zero (Nat.le_refl wd.heap.size))
 replace HC:=Hi (HC.out.kept hS)
 replace HL:=Hi (AgAt.kept HL.out hS)
 replace HB:=Hi (HB.out.trans (hS.mono HB.out.size))
 clear hS HS0 HV5
 generalize wd.heap.size=tb at *
 have yk:w5.cell? ⟨lb,2,none⟩=some (.int .i64 x.x.k):=(AgAt.cell HL.out 2).trans rfl
 by_cases hk:x.x.k=1
 ·have HK1:=Hi hk
  have d1:(x.x.k == 1)=true:=by simpa using hk
  clear hk
  go_upto_region 3 with fail
  have hbd:=Below.drew (Below.refl w5.heap.size w5)
  replace HC:=Hi (HC.out.kept hbd)
  replace HL:=Hi (AgAt.kept HL.out hbd)
  replace HTB:=Hi (AgAt.kept HTB.out hbd)
  replace HB:=Hi (HB.out.trans (hbd.mono HB.out.size))
  clear hbd
  refine wp_region_held_drew (S:=fun W=>AgAt W lb (lnA x)∧AgAt W tb (spA (Gm.ref x.x,x.x.key))) (by kernel_rfl) ⟨HL.out,HTB.out⟩ (fun hS=>?_)
  generalize w5.drew=we at *
  refine tX 0 rfl hS ?_
  refine tX 1 rfl hS ?_
  refine tX 2 rfl hS ?_
  refine tX 3 rfl hS ?_
  go_simp
  refine tK 4 (v:=snV x.s) rfl (fun W hSW=>exec_load_part stT rfl rfl [.int .i64 x.s.1,.int .i64 x.s.2] rfl hSW.1 lnS) hS ?_
  go_simp
  refine tK 5 (v:=spV (Gm.ref x.x,x.x.key)) rfl (fun W hSW=>exec_load_ag spT rfl rfl rfl hSW.2) hS ?_
  go_simp
  refine rD 6 rfl (fun K hK=>?_)
  go_simp
  go_wp2_with (go_at_call 247; refine (create_any x.s (Gm.ref x.x,x.x.key) _ HC.out HOK.out.1 (Gm.right_create HOK.out.2.1 HK1.out) (HOK.out.2.2.2.1) HOK.out.2.2.2.2).mono ?_; rintro e w9 ⟨u9,X9,χ9,rfl,hc9,hk9,hg9,hj9⟩)
  have HE:=Hi (Made.ahead (Made.mkG (J:=fun w' χ' u=>∃ b,u=.cr b∧χ' b=6∧AgAt w' b (stA x.s)) (u:=u9) hc9 hk9 hg9 hj9) HB.out)
  refine hK.out _ _ ⟨AgAt.block hS.1 (hg9.turns.block _ (AgAt.lt hS.1) (by rw [HLC.out]; decide)),AgAt.block hS.2 (hg9.turns.block _ (AgAt.lt hS.2) (by rw [HTC.out]; decide))⟩ (fun hS=>?_)
  clear hK K hc9 hk9 hg9 hj9
  refine tX 7 rfl hS ?_
  go_simp
  refine wpAnyH_done (by kernel_rfl) ?_ _
  go_simp
  clear hS HC HL HTB HB
  go_wp2
  go_ret
  refine HE.out.imp ?_ ?_
  ·exact (show Gm.aft g x=_ from by unfold Gm.aft Gm.tryG; rw [if_pos HK1.out]; rfl).symm
  ·rintro w χ u ⟨b,rfl,h1,h2⟩
   exact ⟨HK1.out,h1,h2⟩
 ·have HK1:=Hi hk
  have d1:(x.x.k == 1)=false:=by simpa using hk
  clear hk
  obtain ⟨b1,hb1⟩:∃ b,b=Gm.has g (Gm.node x.x):=⟨_,rfl⟩
  obtain ⟨b2,hb2⟩:∃ b,b=Gm.has g (Gm.ref x.x):=⟨_,rfl⟩
  have HWN:=Hi (show StWf (Gm.node x.x)∧StWf (Gm.ref x.x) from by
   rcases HOK.out.2.2.1 with h | h | h
   ·exact absurd h HK1.out
   ·have r:=Gm.right_move HOK.out.2.1 h
    exact ⟨okN_wf r.1,(rightSp_wf r.2).1⟩
   ·have r:=Gm.right_point HOK.out.2.1 h
    refine ⟨okN_wf r.1,?_⟩
    rcases r.2 with h | h
    ·exact okN_wf h
    ·rw [h]; unfold StWf; decide)
  have HH1:=Hi (fun (W:World) (hc:Core W X χ g)=>show Calls Tryz.prog 188 #[.pointer (some ⟨X.P,0,none⟩),snV (Gm.node x.x)] W fun e w'=>e=.returned (.bool b1)∧Below W.heap.size W w' from by
   rw [hb1,← hc.hasEq]; exact has_any _ W hc.tree HWN.out.1)
  have HH2:=Hi (fun (W:World) (hc:Core W X χ g)=>show Calls Tryz.prog 188 #[.pointer (some ⟨X.P,0,none⟩),snV (Gm.ref x.x)] W fun e w'=>e=.returned (.bool b2)∧Below W.heap.size W w' from by
   rw [hb2,← hc.hasEq]; exact has_any _ W hc.tree HWN.out.2)
  have HB1:=Hi hb1.symm
  have HB2:=Hi hb2.symm
  clear hb1 hb2
  go_upto_region 4 with fail
  have hbd:=Below.drew (Below.refl w5.heap.size w5)
  replace HC:=Hi (HC.out.kept hbd)
  replace HL:=Hi (AgAt.kept HL.out hbd)
  replace HTB:=Hi (AgAt.kept HTB.out hbd)
  replace HB:=Hi (HB.out.trans (hbd.mono HB.out.size))
  clear hbd
  refine wp_region_held_drew (S:=fun W=>Below w5.drew.heap.size w5.drew W) (by kernel_rfl) (Below.refl _ _) (fun hS=>?_)
  generalize w5.drew=we at *
  cases b1 with
  | false =>
   refine tX 0 rfl hS ?_
   refine tX 1 rfl hS ?_
   refine tX 2 rfl hS ?_
   refine tK 3 (v:=?_) rfl ?_ hS ?_
   rotate_left
   ·intro W hSW
    have y:=(HC.out.kept hSW).cP
    go_simp
    all_goals with_reducible rfl
   go_simp
   refine tX 4 rfl hS ?_
   refine tX 5 rfl hS ?_
   refine tX 6 rfl hS ?_
   refine tX 7 rfl hS ?_
   go_simp
   refine tK 8 (v:=snV (Gm.node x.x)) rfl (fun W hSW=>exec_load_part stT rfl rfl [.int .i64 x.x.nt,.int .i64 x.x.nr] rfl (AgAt.kept HL.out hSW) lnNode) hS ?_
   go_simp
   refine rD 9 rfl (fun K hK=>?_)
   go_simp
   go_wp2_with (go_at_call 188; refine (HH1.out _ (HC.out.kept hS)).mono ?_; rintro e w5 ⟨rfl,hb5⟩)
   refine hK.out _ _ (hS.trans (hb5.mono hS.size)) (fun hS=>?_)
   clear hK K hb5
   refine tX 10 rfl hS ?_
   refine tX 11 rfl hS ?_
   go_simp
   refine tU 12 rfl hS ?_
   go_simp
   refine tU 13 rfl hS ?_
   go_simp
   refine tU 14 rfl hS ?_
   go_simp
   refine tU 15 rfl hS ?_
   go_simp
   refine tU 16 rfl hS ?_
   go_simp
   refine tU 17 rfl hS ?_
   go_simp
   refine tU 18 rfl hS ?_
   go_simp
   refine tU 19 rfl hS ?_
   go_simp
   refine tU 20 rfl hS ?_
   go_simp
   refine tU 21 rfl hS ?_
   go_simp
   refine tU 22 rfl hS ?_
   refine tX 23 rfl hS ?_
   refine tX 24 rfl hS ?_
   go_simp
   refine tU 25 rfl hS ?_
   go_simp
   refine tU 26 rfl hS ?_
   go_simp
   refine tU 27 rfl hS ?_
   go_simp
   refine tU 28 rfl hS ?_
   go_simp
   refine tU 29 rfl hS ?_
   go_simp
   refine tU 30 rfl hS ?_
   refine tX 31 rfl hS ?_
   refine tX 32 rfl hS ?_
   go_simp
   refine wpAnyH_done (by kernel_rfl) ?_ _
   go_simp
   replace HC:=Hi (HC.out.kept hS)
   replace HB:=Hi (HB.out.trans (hS.mono HB.out.size))
   have HE3:=Hi (show Gm.tryG g x=none from by unfold Gm.tryG; rw [if_neg HK1.out,if_pos (Or.inl HB1.out)])
   have HE1:=Hi (show Core _ X χ (Gm.aft g x) from by unfold Gm.aft; rw [HE3.out]; exact HC.out)
   have HE2:=HB
   clear hS HC HL HTB HB HH1 HH2
   go_wp2
   go_ret
   exact ⟨.pass,X,χ,rfl,HE1.out,Like.refl X,Goes.of_below HE2.out,HE3.out⟩
  | true =>
   cases b2 with
   | false =>
    refine tX 0 rfl hS ?_
    refine tX 1 rfl hS ?_
    refine tX 2 rfl hS ?_
    refine tK 3 (v:=?_) rfl ?_ hS ?_
    rotate_left
    ·intro W hSW
     have y:=(HC.out.kept hSW).cP
     go_simp
     all_goals with_reducible rfl
    go_simp
    refine tX 4 rfl hS ?_
    refine tX 5 rfl hS ?_
    refine tX 6 rfl hS ?_
    refine tX 7 rfl hS ?_
    go_simp
    refine tK 8 (v:=snV (Gm.node x.x)) rfl (fun W hSW=>exec_load_part stT rfl rfl [.int .i64 x.x.nt,.int .i64 x.x.nr] rfl (AgAt.kept HL.out hSW) lnNode) hS ?_
    go_simp
    refine rD 9 rfl (fun K hK=>?_)
    go_simp
    go_wp2_with (go_at_call 188; refine (HH1.out _ (HC.out.kept hS)).mono ?_; rintro e w5 ⟨rfl,hb5⟩)
    refine hK.out _ _ (hS.trans (hb5.mono hS.size)) (fun hS=>?_)
    clear hK K hb5
    refine tX 10 rfl hS ?_
    refine tX 11 rfl hS ?_
    refine tX 12 rfl hS ?_
    refine tX 13 rfl hS ?_
    go_simp
    refine tX 14 rfl hS ?_
    refine tK 15 (v:=?_) rfl ?_ hS ?_
    rotate_left
    ·intro W hSW
     have y:=(HC.out.kept hSW).cP
     go_simp
     all_goals with_reducible rfl
    refine tX 16 rfl hS ?_
    refine tX 17 rfl hS ?_
    go_simp
    refine tX 18 rfl hS ?_
    refine tX 19 rfl hS ?_
    go_simp
    refine tK 20 (v:=snV (Gm.ref x.x)) rfl (fun W hSW=>exec_load_part stT rfl rfl [.int .i64 x.x.rt,.int .i64 x.x.rr] rfl (AgAt.kept HL.out hSW) lnRef) hS ?_
    go_simp
    refine rD 21 rfl (fun K hK=>?_)
    go_simp
    go_wp2_with (go_at_call 188; refine (HH2.out _ (HC.out.kept hS)).mono ?_; rintro e w6 ⟨rfl,hb5⟩)
    refine hK.out _ _ (hS.trans (hb5.mono hS.size)) (fun hS=>?_)
    clear hK K hb5
    refine tX 22 rfl hS ?_
    refine tX 23 rfl hS ?_
    refine tX 24 rfl hS ?_
    go_simp
    refine tU 25 rfl hS ?_
    go_simp
    refine tU 26 rfl hS ?_
    go_simp
    refine tU 27 rfl hS ?_
    go_simp
    refine tU 28 rfl hS ?_
    go_simp
    refine tU 29 rfl hS ?_
    go_simp
    refine tU 30 rfl hS ?_
    refine tX 31 rfl hS ?_
    refine tX 32 rfl hS ?_
    go_simp
    refine wpAnyH_done (by kernel_rfl) ?_ _
    go_simp
    replace HC:=Hi (HC.out.kept hS)
    replace HB:=Hi (HB.out.trans (hS.mono HB.out.size))
    have HE3:=Hi (show Gm.tryG g x=none from by unfold Gm.tryG; rw [if_neg HK1.out,if_pos (Or.inr (Or.inl HB2.out))])
    have HE1:=Hi (show Core _ X χ (Gm.aft g x) from by unfold Gm.aft; rw [HE3.out]; exact HC.out)
    have HE2:=HB
    clear hS HC HL HTB HB HH1 HH2
    go_wp2
    go_ret
    exact ⟨.pass,X,χ,rfl,HE1.out,Like.refl X,Goes.of_below HE2.out,HE3.out⟩
   | true =>
    refine tX 0 rfl hS ?_
    refine tX 1 rfl hS ?_
    refine tX 2 rfl hS ?_
    refine tK 3 (v:=?_) rfl ?_ hS ?_
    rotate_left
    ·intro W hSW
     have y:=(HC.out.kept hSW).cP
     go_simp
     all_goals with_reducible rfl
    go_simp
    refine tX 4 rfl hS ?_
    refine tX 5 rfl hS ?_
    refine tX 6 rfl hS ?_
    refine tX 7 rfl hS ?_
    go_simp
    refine tK 8 (v:=snV (Gm.node x.x)) rfl (fun W hSW=>exec_load_part stT rfl rfl [.int .i64 x.x.nt,.int .i64 x.x.nr] rfl (AgAt.kept HL.out hSW) lnNode) hS ?_
    go_simp
    refine rD 9 rfl (fun K hK=>?_)
    go_simp
    go_wp2_with (go_at_call 188; refine (HH1.out _ (HC.out.kept hS)).mono ?_; rintro e w5 ⟨rfl,hb5⟩)
    refine hK.out _ _ (hS.trans (hb5.mono hS.size)) (fun hS=>?_)
    clear hK K hb5
    refine tX 10 rfl hS ?_
    refine tX 11 rfl hS ?_
    refine tX 12 rfl hS ?_
    refine tX 13 rfl hS ?_
    go_simp
    refine tX 14 rfl hS ?_
    refine tK 15 (v:=?_) rfl ?_ hS ?_
    rotate_left
    ·intro W hSW
     have y:=(HC.out.kept hSW).cP
     go_simp
     all_goals with_reducible rfl
    refine tX 16 rfl hS ?_
    refine tX 17 rfl hS ?_
    go_simp
    refine tX 18 rfl hS ?_
    refine tX 19 rfl hS ?_
    go_simp
    refine tK 20 (v:=snV (Gm.ref x.x)) rfl (fun W hSW=>exec_load_part stT rfl rfl [.int .i64 x.x.rt,.int .i64 x.x.rr] rfl (AgAt.kept HL.out hSW) lnRef) hS ?_
    go_simp
    refine rD 21 rfl (fun K hK=>?_)
    go_simp
    go_wp2_with (go_at_call 188; refine (HH2.out _ (HC.out.kept hS)).mono ?_; rintro e w6 ⟨rfl,hb5⟩)
    refine hK.out _ _ (hS.trans (hb5.mono hS.size)) (fun hS=>?_)
    clear hK K hb5
    refine tX 22 rfl hS ?_
    refine tX 23 rfl hS ?_
    refine tX 24 rfl hS ?_
    refine tX 25 rfl hS ?_
    go_simp
    refine tX 26 rfl hS ?_
    refine tX 27 rfl hS ?_
    refine tX 28 rfl hS ?_
    go_simp
    refine tK 29 (v:=.agg (opA x.x none 0)) rfl (fun W hSW=>exec_load_part opT12 rfl rfl (opL x.x none 0) rfl (AgAt.kept HL.out hSW) lnOp) hS ?_
    go_simp
    refine rD 30 rfl (fun K hK=>?_)
    go_simp
    go_wp2_with (go_at_call 248; refine (closes_any x.x _ (HC.out.kept hS) HB1.out HB2.out).mono ?_; rintro e w7 ⟨bc,rfl,hbc,hb7⟩)
    have HBC:=Hi hbc
    refine hK.out _ _ (hS.trans (hb7.mono hS.size)) (fun hS=>?_)
    clear hK K hb7 hbc
    refine tX 31 rfl hS ?_
    refine tX 32 rfl hS ?_
    go_simp
    refine wpAnyH_done (by kernel_rfl) ?_ _
    go_simp
    replace HC:=Hi (HC.out.kept hS)
    replace HL:=Hi (AgAt.kept HL.out hS)
    replace HTB:=Hi (AgAt.kept HTB.out hS)
    replace HB:=Hi (HB.out.trans (hS.mono HB.out.size))
    clear hS HH1 HH2
    cases bc with
    | true =>
     have HE3:=Hi (show Gm.tryG g x=none from by unfold Gm.tryG; rw [if_neg HK1.out,if_pos (Or.inr (Or.inr (HBC.out.1 rfl)))])
     have HE1:=Hi (show Core _ X χ (Gm.aft g x) from by unfold Gm.aft; rw [HE3.out]; exact HC.out)
     have HE2:=HB
     clear HC HL HTB HB
     go_wp2
     go_ret
     exact ⟨.pass,X,χ,rfl,HE1.out,Like.refl X,Goes.of_below HE2.out,HE3.out⟩
    | false =>
     have HCL:=Hi (show ¬ Gm.closes g x.x from fun h=>by cases HBC.out.2 h)
     have HIF:=Hi (show ¬ (Gm.has g (Gm.node x.x)=false∨Gm.has g (Gm.ref x.x)=false∨Gm.closes g x.x) from fun h=>by
      rcases h with h | h | h
      ·rw [HB1.out] at h; cases h
      ·rw [HB2.out] at h; cases h
      ·exact HCL.out h)
     have yk:w7.cell? ⟨lb,2,none⟩=some (.int .i64 x.x.k):=(AgAt.cell HL.out 2).trans rfl
     by_cases hk:x.x.k=2
     ·have HK2:=Hi hk
      have d2:(x.x.k == 2)=true:=by simpa using hk
      have HTE:=Hi (show Gm.tryG g x=some ⟨Gm.upd g.s (Gm.node x.x) (some (Gm.ref x.x,x.x.key)),g.m⟩ from by unfold Gm.tryG; rw [if_neg HK1.out,if_neg HIF.out,if_pos hk])
      have HTR:=Hi (show (⟨Gm.upd g.s (Gm.node x.x) (some (Gm.ref x.x,x.x.key)),g.m⟩:Gm.G)=Gm.aft g x from by unfold Gm.aft; rw [HTE.out]; rfl)
      have HTS:=Hi (show (Gm.tryG g x).isSome=true from by rw [HTE.out]; rfl)
      obtain ⟨was,hwas⟩:=Option.isSome_iff_exists.1 (show (g.s (Gm.node x.x)).isSome=true from by rw [← Gm.has_node (Gm.right_move HOK.out.2.1 hk).1]; exact HB1.out)
      have HWAS:=Hi hwas
      have HNC:=Hi (show ¬ Gm.Rc (Gm.UpS g) (Gm.ref x.x) (Gm.node x.x)∧¬ Gm.Rc (Gm.DnS g) (Gm.node x.x) (Gm.ref x.x) from by
       have h:=HCL.out
       unfold Gm.closes at h
       rw [if_pos hk] at h
       exact ⟨fun h1=>h (Or.inl h1),fun h1=>h (Or.inr h1)⟩)
      clear hk hwas
      go_upto_region 7 with fail
      have hbd:=Below.drew (Below.refl w7.heap.size w7)
      replace HC:=Hi (HC.out.kept hbd)
      replace HL:=Hi (AgAt.kept HL.out hbd)
      replace HTB:=Hi (AgAt.kept HTB.out hbd)
      replace HB:=Hi (HB.out.trans (hbd.mono HB.out.size))
      clear hbd
      refine wp_region_held_drew (S:=fun W=>AgAt W lb (lnA x)∧AgAt W tb (spA (Gm.ref x.x,x.x.key))) (by kernel_rfl) ⟨HL.out,HTB.out⟩ (fun hS=>?_)
      generalize w7.drew=wf at *
      refine tX 0 rfl hS ?_
      refine tX 1 rfl hS ?_
      refine tX 2 rfl hS ?_
      refine tX 3 rfl hS ?_
      go_simp
      refine tX 4 rfl hS ?_
      go_simp
      refine tK 5 (v:=snV (Gm.node x.x)) rfl (fun W hSW=>exec_load_part stT rfl rfl [.int .i64 x.x.nt,.int .i64 x.x.nr] rfl hSW.1 lnNode) hS ?_
      go_simp
      refine tK 6 (v:=spV (Gm.ref x.x,x.x.key)) rfl (fun W hSW=>exec_load_ag spT rfl rfl rfl hSW.2) hS ?_
      go_simp
      refine rD 7 rfl (fun K hK=>?_)
      go_simp
      go_wp2_with (go_at_call 249; refine (gmove_any (Gm.node x.x) (Gm.ref x.x,x.x.key) was _ HC.out (Gm.right_move HOK.out.2.1 HK2.out).1 (Gm.right_move HOK.out.2.1 HK2.out).2 HWAS.out HB2.out HNC.out.1 HNC.out.2).mono ?_; rintro e w9 ⟨u9,X9,χ9,rfl,hc9,hk9,hg9,hj9⟩)
      have HE:=Hi (Made.ahead (Made.mkG (J:=fun w' χ' u=>∃ b c,u=.mv b c was∧χ' b=6∧χ' c=6∧AgAt w' b (stA (Gm.node x.x))∧AgAt w' c (spA was)) (u:=u9) hc9 hk9 hg9 hj9) HB.out)
      refine hK.out _ _ ⟨AgAt.block hS.1 (hg9.turns.block _ (AgAt.lt hS.1) (by rw [HLC.out]; decide)),AgAt.block hS.2 (hg9.turns.block _ (AgAt.lt hS.2) (by rw [HTC.out]; decide))⟩ (fun hS=>?_)
      clear hK K hc9 hk9 hg9 hj9
      refine tX 8 rfl hS ?_
      go_simp
      refine wpAnyH_done (by kernel_rfl) ?_ _
      go_simp
      clear hS HC HL HTB HB
      go_wp2
      go_ret
      refine HE.out.imp ?_ ?_
      ·exact HTR.out
      ·rintro w χ u ⟨b,c,rfl,h1,h2,h3,h4⟩
       exact ⟨HK2.out,HTS.out,h1,h2,h3,h4,HWAS.out⟩
     ·have HK5:=Hi (show x.x.k=5 from by rcases HOK.out.2.2.1 with h | h | h; exact absurd h HK1.out; exact absurd h hk; exact h)
      have d2:(x.x.k == 2)=false:=by simpa using hk
      have HTE:=Hi (show Gm.tryG g x=some ⟨g.s,Gm.upd g.m (Gm.node x.x) (if Gm.ref x.x=(0,0) then none else some (Gm.ref x.x))⟩ from by unfold Gm.tryG; rw [if_neg HK1.out,if_neg HIF.out,if_neg hk])
      have HTR:=Hi (show (⟨g.s,Gm.upd g.m (Gm.node x.x) (if Gm.ref x.x=(0,0) then none else some (Gm.ref x.x))⟩:Gm.G)=Gm.aft g x from by unfold Gm.aft; rw [HTE.out]; rfl)
      have HTS:=Hi (show (Gm.tryG g x).isSome=true from by rw [HTE.out]; rfl)
      have HGD:=Hi (HC.out.good.tried (Gm.okX_iff.2 ⟨HOK.out.1,HOK.out.2.1,HOK.out.2.2.1⟩) HOK.out.2.2.2.1 HTE.out)
      clear hk
      go_upto_region 8 with fail
      have hbd:=Below.drew (Below.refl w7.heap.size w7)
      replace HC:=Hi (HC.out.kept hbd)
      replace HL:=Hi (AgAt.kept HL.out hbd)
      replace HTB:=Hi (AgAt.kept HTB.out hbd)
      replace HB:=Hi (HB.out.trans (hbd.mono HB.out.size))
      clear hbd
      refine wp_region_held_drew (S:=fun W=>AgAt W lb (lnA x)∧AgAt W tb (spA (Gm.ref x.x,x.x.key))) (by kernel_rfl) ⟨HL.out,HTB.out⟩ (fun hS=>?_)
      generalize w7.drew=wf at *
      refine tX 0 rfl hS ?_
      refine tX 1 rfl hS ?_
      refine tX 2 rfl hS ?_
      refine tX 3 rfl hS ?_
      go_simp
      refine tX 4 rfl hS ?_
      go_simp
      refine tK 5 (v:=snV (Gm.node x.x)) rfl (fun W hSW=>exec_load_part stT rfl rfl [.int .i64 x.x.nt,.int .i64 x.x.nr] rfl hSW.1 lnNode) hS ?_
      refine tX 6 rfl hS ?_
      refine tX 7 rfl hS ?_
      refine tX 8 rfl hS ?_
      go_simp
      refine tX 9 rfl hS ?_
      go_simp
      refine tK 10 (v:=snV (Gm.ref x.x)) rfl (fun W hSW=>exec_load_part stT rfl rfl [.int .i64 x.x.rt,.int .i64 x.x.rr] rfl hSW.1 lnRef) hS ?_
      go_simp
      refine rD 11 rfl (fun K hK=>?_)
      go_simp
      go_wp2_with (go_at_call 250; refine (gpoint_any (Gm.node x.x) (Gm.ref x.x) _ HC.out (Gm.right_point HOK.out.2.1 HK5.out).1 (Gm.right_point HOK.out.2.1 HK5.out).2 HGD.out).mono ?_; rintro e w9 ⟨u9,X9,χ9,rfl,hc9,hk9,hg9,hj9⟩)
      have HE:=Hi (Made.ahead (Made.mkG (J:=fun w' χ' u=>∃ b c was,u=.pt b c was∧χ' b=6∧χ' c=6∧AgAt w' b (stA (Gm.node x.x))∧AgAt w' c (stA was)∧(g.m (Gm.node x.x)).getD (0,0)=was) (u:=u9) hc9 hk9 hg9 hj9) HB.out)
      refine hK.out _ _ ⟨AgAt.block hS.1 (hg9.turns.block _ (AgAt.lt hS.1) (by rw [HLC.out]; decide)),AgAt.block hS.2 (hg9.turns.block _ (AgAt.lt hS.2) (by rw [HTC.out]; decide))⟩ (fun hS=>?_)
      clear hK K hc9 hk9 hg9 hj9
      refine tX 12 rfl hS ?_
      go_simp
      refine wpAnyH_done (by kernel_rfl) ?_ _
      go_simp
      clear hS HC HL HTB HB
      go_wp2
      go_ret
      refine HE.out.imp ?_ ?_
      ·exact HTR.out
      ·rintro w χ u ⟨b,c,was,rfl,h1,h2,h3,h4,h5⟩
       exact ⟨HK5.out,HTS.out,h1,h2,h3,h4,h5⟩
open Go.RowKit
open Tm (Sp Tr has put cut kids)
structure Like2 (X X':Gx):Prop where
 lk:X'.lk=X.lk
 b:X'.b=X.b
 po:X'.po=X.po
 ls:X'.ls=X.ls
theorem Like2.refl (X:Gx):Like2 X X:=⟨rfl,rfl,rfl,rfl⟩
theorem Like2.trans {X Y Z:Gx} (h:Like2 X Y) (k:Like2 Y Z):Like2 X Z:=⟨k.lk.trans h.lk,k.b.trans h.b,k.po.trans h.po,k.ls.trans h.ls⟩
theorem run_takeG {l:List Pm.Wr} {i:Nat} {x:Pm.Wr} (h:l[i]?=some x):Gm.run (l.take (i+1))=Gm.aft (Gm.run (l.take i)) x:=by
 rw [List.take_add_one,h]
 exact Gm.run_snoc _ _
theorem ops_newG {l:List Pm.Wr} (h:Gm.Ops l) {i:Nat} {x:Pm.Wr} (hx:l[i]?=some x):(Gm.run (l.take i)).s x.s=none:=by
 have h1:l.take (i+1)=l.take i ++ [x]:=by rw [List.take_add_one,hx]; rfl
 have h2:=h.take (i+1)
 rw [h1] at h2
 exact h2.new
theorem Grf.back {w w5:World} {X X5:Gx} {χ χ5:Nat→Nat} {k:Nat} (h:Grf w X χ) (hk:X.us.length=k+1) (hc:Core w5 X5 χ5 (Gm.run (X.ops.take k))) (hl:Like X X5) (hg:Goes w χ w5 χ5) {p:Option Addr} {c:Nat} (hp:X.pu=.slice p (k+1) c) :
  Grf (w5.setCell ⟨X.b,3,none⟩ (.slice p k c)) { X5 with pu:=.slice p k c,us:=X.us.take k } χ5:=by
 have hru:=hc.ru
 rw [hl.pu,hl.us,hp,hk] at hru
 have hpn:p≠none:=fun e=>by
  subst e
  obtain ⟨-,⟨-,h2⟩ | ⟨g,cap,cur,hv,-⟩⟩:=hru
  ·omega
  ·cases hv
 have hr:=own_take1 (m:=k) hru (by omega) hpn
 rw [← List.map_take] at hr
 have hlen:(X.us.take k).length=k:=by rw [List.length_take]; omega
 have hc2:=hc.setPu (.slice p k c) (X.us.take k) (by rw [hlen]; exact hr) (fun j hj=>by
  have h1:=hc.cu j (by rw [hl.pu,hp]; cases p <;> exact hj)
  exact h1)
 have hops:X5.ops=X.ops:=by unfold Gx.ops; rw [hl.ls]
 refine ⟨?_,?_,fun i u x hu hx=>?_⟩
 ·show Core _ _ χ5 (Gm.run (X5.ops.take (X.us.take k).length))
  rw [hlen,hops,← hl.b]
  exact hc2
 ·show (X.us.take k).length≤X5.ls.length
  rw [hlen,hl.ls]
  have:=h.fewer
  omega
 ·have hu':(X.us.take k)[i]?=some u:=hu
  have hx':X5.ops[i]?=some x:=hx
  rw [hops] at hx'
  have hik:i<k:=by
   obtain ⟨h1,-⟩:=List.getElem?_eq_some_iff.1 hu'
   omega
  rw [List.getElem?_take_of_lt hik] at hu'
  show UkOk _ χ5 (Gm.run (X5.ops.take i)) x u
  rw [hops]
  refine (h.un i u x hu' hx').keep fun j hj=>?_
  have hlt:=h.lt j (by rw [hj]; decide)
  refine ⟨(hg.keep j hlt).trans hj,?_⟩
  have h1:=hg.turns.block j hlt (by rw [hj]; decide)
  have hne:j≠X.b:=fun e=>by rw [e,h.cb] at hj; cases hj
  exact ((set_turns X.b w5 3 _).block j (Nat.lt_of_lt_of_le hlt hg.turns.size) hne).trans h1
def Taken (X:Gx) (χ:Nat→Nat) (c:Nat) (w:World) (e:Ending) (w':World):Prop:=e=.returned (.tuple #[])∧∃ X' χ',Grf w' X' χ'∧Like2 X X'∧X'.us=X.us.take c∧Goes w χ w' χ'
def UndoP (w:World) (X:Gx) (χ:Nat→Nat) (g:Gm.G):Uk→Prop
 | .pass=>Core w X χ g
 | .cr b=>Calls Tryz.prog 297 #[ptV X.b,ptV b] w (Undone X χ g w)
 | .mv b c _=>Calls Tryz.prog 300 #[ptV X.b,ptV b,ptV c] w (Undone X χ g w)
 | .pt b c _=>Calls Tryz.prog 301 #[ptV X.b,ptV b,ptV c] w (Undone X χ g w)
theorem undo_any {X:Gx} {χ:Nat→Nat} {k:Nat} {u:Uk} (w:World) (h:Grf w X χ) (hk:X.us.length=k+1) (hu:X.us[k]?=some u):UndoP w X χ (Gm.run (X.ops.take k)) u:=by
 have hlt:k<X.ops.length:=by unfold Gx.ops; rw [List.length_map]; have:=h.fewer; omega
 obtain ⟨x,hx⟩:∃ x,X.ops[k]?=some x:=⟨_,List.getElem?_eq_getElem hlt⟩
 have hok:=h.un k u x hu hx
 have hc:=h.toCore
 rw [hk,run_takeG hx] at hc
 have hgd:=(h.ops.take k).good
 have hnew:=ops_newG h.ops hx
 have hxo:=h.ops.ok x (List.mem_of_getElem? hx)
 obtain ⟨k1,k2,k3⟩:=Gm.okX_iff.1 hxo
 generalize Gm.run (X.ops.take k)=g at *
 cases u with
 | pass =>
  have h1:Gm.tryG g x=none:=hok
  unfold Gm.aft at hc
  rw [h1] at hc
  exact hc
 | cr b =>
  obtain ⟨e1,e2,e3⟩:=hok
  unfold Gm.aft Gm.tryG at hc
  rw [if_pos e1] at hc
  refine undoCr_any x.s (if Gm.has g (Gm.ref x.x)=true then Gm.ref x.x else (0,1),x.x.key) w hc hgd k1 hnew ?_ e3 e2
  show Gm.has g (if Gm.has g (Gm.ref x.x)=true then Gm.ref x.x else (0,1))=true
  split
  ·assumption
  ·exact Gm.has_top Gm.top_trash
 | mv b c was =>
  obtain ⟨e1,e2,e3,e4,e5,e6,e7⟩:=hok
  unfold Gm.aft at hc
  unfold Gm.tryG at hc e2
  rw [if_neg (by omega)] at hc e2
  split at e2
  ·cases e2
  ·next hif =>
   rw [if_neg hif,if_pos e1] at hc
   exact undoMv_any (Gm.node x.x) (Gm.ref x.x,x.x.key) was w hc hgd e7 e5 e6 e3 e4
 | pt b c was =>
  obtain ⟨e1,e2,e3,e4,e5,e6,e7⟩:=hok
  unfold Gm.aft at hc
  unfold Gm.tryG at hc e2
  rw [if_neg (by omega)] at hc e2
  split at e2
  ·cases e2
  ·next hif =>
   rw [if_neg hif,if_neg (by omega)] at hc
   exact undoPt_any (Gm.node x.x) was w hc hgd (Gm.right_point k2 e1).1 e7 e5 e6
theorem takeBack_any {X:Gx} {χ:Nat→Nat} (c0:Nat) (w:World) (h:Grf w X χ) (hc:c0≤80) :
  Calls Tryz.prog 86 #[ptV X.b,.int .i64 (c0:Int)] w (Taken X χ c0 w):=by
 have HG0:=Hi h
 have HC0:=Hi hc
 clear h hc
 go_enter Tryz.func86,Tryz.ntmps86
 go_wp2_with fail
 go_loopg [] (X.us.length+1) (fun gk wr=>∃ X' χ' m,Grf wr X' χ'∧Like2 X X'∧X'.us=X.us.take m∧X'.us.length=m∧(c0≤m∨m=X.us.length)∧Goes w χ wr χ'∧m<gk)
 case atStart=>exact ⟨X,χ,X.us.length,HG0.out,Like2.refl X,by rw [List.take_length],rfl,Or.inr rfl,Goes.refl _ _,Nat.lt_succ_self _⟩
 case round =>
  obtain ⟨X1,χ1,m,hG,hL,hu,hm,hcm,hgo,hlt⟩:=hrel
  obtain ⟨g1,rfl⟩:∃ g1,gk=g1+1:=⟨gk - 1,by omega⟩
  have HG:=Hi hG
  have HL:=Hi hL
  have HU:=Hi (And.intro hu (And.intro hm (And.intro hcm (And.intro hgo hlt))))
  have hm60:m≤80:=by have:=hG.fewer; have:=hG.few; omega
  obtain ⟨p,c,hpu,hp0⟩:=own_sliceG hG.ru
  rw [hm] at hpu
  have HPU:=Hi hpu
  have HP0:=Hi hp0
  have y3:wr.cell? ⟨X.b,3,none⟩=some (.slice p m c):=by rw [← hL.b,← hpu]; exact hG.cU
  have f3:wr.frozen? ⟨X.b,3,none⟩=false:=by rw [← hL.b]; exact hG.free 3
  clear hG hL hu hm hcm hgo hlt hpu hp0
  by_cases hgt:c0<m
  ·obtain ⟨k,rfl⟩:∃ k,m=k+1:=⟨m - 1,by omega⟩
   have d0:decide ((c0:Int)<((k+1:Nat):Int))=true:=decide_eq_true (by omega)
   have d1:decide ((c0:Int)<(k:Int)+1)=true:=decide_eq_true (by omega)
   have HGT:=Hi hgt
   obtain ⟨gu,hgu⟩:=HP0.out (by rw [HU.out.2.1]; omega)
   subst hgu
   obtain ⟨u,hu⟩:∃ u,X1.us[k]?=some u:=⟨_,List.getElem?_eq_getElem (by rw [HU.out.2.1]; omega)⟩
   have HUU:=Hi hu
   have yk:wr.cell? ⟨gu,k,none⟩=some (Uk.val u):=by
    have h1:=HG.out.ru
    rw [HPU.out,HU.out.2.1] at h1
    exact own_1 h1 k _ (by rw [List.getElem?_map,hu]; rfl)
   have hw1:IntKind.i64.wrap (((k:Int)+1) - 1)=(k:Int):=by rw [wraps_i64 _ (by omega) (by omega)]; omega
   have hkc:k≤c:=by
    have h1:=HG.out.ru
    rw [HPU.out,HU.out.2.1] at h1
    have:=own_capG h1
    omega
   have HX:=undo_any wr HG.out HU.out.2.1 hu
   have HNX:=Hi (fun (w5:World) (X5:Gx) (χ5:Nat→Nat) (hc5:Core w5 X5 χ5 (Gm.run (X1.ops.take k))) (hl5:Like X1 X5) (hg5:Goes wr χ1 w5 χ5)=>show ∃ X' χ' m,Grf (w5.setCell ⟨X.b,3,none⟩ (.slice (some ⟨gu,0,none⟩) k c)) X' χ'∧Like2 X X'∧X'.us=X.us.take m∧X'.us.length=m∧(c0≤m∨m=X.us.length)∧Goes w χ (w5.setCell ⟨X.b,3,none⟩ (.slice (some ⟨gu,0,none⟩) k c)) χ'∧m<g1 from by
    have hb:=HG.out.back HU.out.2.1 hc5 hl5 hg5 HPU.out
    rw [HL.out.b] at hb
    have hlen:(X1.us.take k).length=k:=by rw [List.length_take,HU.out.2.1]; omega
    refine ⟨_,_,k,hb,⟨hl5.lk.trans HL.out.lk,hl5.b.trans HL.out.b,hl5.po.trans HL.out.po,hl5.ls.trans HL.out.ls⟩,?_,hlen,Or.inl (by have:=HGT.out; omega),?_,by have:=HU.out.2.2.2.2; omega⟩
    ·show X1.us.take k=X.us.take k
     rw [HU.out.1,List.take_take,Nat.min_eq_left (Nat.le_succ k)]
    ·have h1:=goes_set hc5 3 (.slice (some ⟨gu,0,none⟩) k c)
     rw [hl5.b,HL.out.b] at h1
     exact (HU.out.2.2.2.1.trans hg5).trans h1)
   have HY:=Hi (fun (w5:World) (X5:Gx) (χ5:Nat→Nat) (hc5:Core w5 X5 χ5 (Gm.run (X1.ops.take k))) (hl5:Like X1 X5)=>show w5.cell? ⟨X.b,3,none⟩=some (.slice (some ⟨gu,0,none⟩) (k+1) c)∧w5.frozen? ⟨X.b,3,none⟩=false from by
    rw [← HL.out.b,← hl5.b,← HPU.out,← hl5.pu]
    exact ⟨hc5.cU,hc5.free 3⟩)
   clear hgt hu
   cases u with
   | pass =>
    have hcp:Core wr X1 χ1 (Gm.run (X1.ops.take k)):=HX
    have HN:=Hi (HNX.out wr X1 χ1 hcp (Like.refl X1) (Goes.refl _ _))
    have hnn:∀ W,Sem.run Tryz.prog (binOp BinOp.neq 164 Value.nilFunc Value.nilFunc) W=.ok (.bool false) W:=fun W=>by kernel_rfl
    have yk':wr.cell? ⟨gu,k,none⟩=some .nilFunc:=yk
    clear HNX HY hcp yk HX
    go_wp2_with (refine wpList_value (by kernel_rfl) (fnR.take rfl rfl rfl hkc) ?_)
    go_roundg g1
    case rel=>exact HN.out
    case measure=>omega
   | cr b =>
    have hcall:Calls Tryz.prog 297 _ wr (Undone X1 χ1 (Gm.run (X1.ops.take k)) wr):=HX
    rw [HL.out.b] at hcall
    have HCL:=Hi hcall
    have hnn:∀ W,Sem.run Tryz.prog (binOp BinOp.neq 164 (Uk.val (.cr b)) Value.nilFunc) W=.ok (.bool true) W:=fun W=>by kernel_rfl
    simp only [Uk.val] at hnn
    have yk':=yk
    simp only [Uk.val] at yk'
    clear HX hcall yk
    go_upto_region 5 with (go_at_call 297; refine HCL.out.mono ?_; rintro e w5 ⟨rfl,X5,χ5,hc5,hl5,hg5⟩)
    have HN:=Hi (HNX.out w5 X5 χ5 hc5 hl5 hg5)
    obtain ⟨y5,f5⟩:=HY.out w5 X5 χ5 hc5 hl5
    clear HNX HY HCL hc5 hl5 hg5 y3 f3 yk'
    go_wp2_with (refine wpList_value (by kernel_rfl) (fnR.take rfl rfl rfl hkc) ?_)
    go_roundg g1
    case rel=>exact HN.out
    case measure=>omega
   | mv b c0_ was =>
    have hcall:Calls Tryz.prog 300 _ wr (Undone X1 χ1 (Gm.run (X1.ops.take k)) wr):=HX
    rw [HL.out.b] at hcall
    have HCL:=Hi hcall
    have hnn:∀ W,Sem.run Tryz.prog (binOp BinOp.neq 164 (Uk.val (.mv b c0_ was)) Value.nilFunc) W=.ok (.bool true) W:=fun W=>by kernel_rfl
    simp only [Uk.val] at hnn
    have yk':=yk
    simp only [Uk.val] at yk'
    clear HX hcall yk
    go_upto_region 5 with (go_at_call 300; refine HCL.out.mono ?_; rintro e w5 ⟨rfl,X5,χ5,hc5,hl5,hg5⟩)
    have HN:=Hi (HNX.out w5 X5 χ5 hc5 hl5 hg5)
    obtain ⟨y5,f5⟩:=HY.out w5 X5 χ5 hc5 hl5
    clear HNX HY HCL hc5 hl5 hg5 y3 f3 yk'
    go_wp2_with (refine wpList_value (by kernel_rfl) (fnR.take rfl rfl rfl hkc) ?_)
    go_roundg g1
    case rel=>exact HN.out
    case measure=>omega
   | pt b c0_ was =>
    have hcall:Calls Tryz.prog 301 _ wr (Undone X1 χ1 (Gm.run (X1.ops.take k)) wr):=HX
    rw [HL.out.b] at hcall
    have HCL:=Hi hcall
    have hnn:∀ W,Sem.run Tryz.prog (binOp BinOp.neq 164 (Uk.val (.pt b c0_ was)) Value.nilFunc) W=.ok (.bool true) W:=fun W=>by kernel_rfl
    simp only [Uk.val] at hnn
    have yk':=yk
    simp only [Uk.val] at yk'
    clear HX hcall yk
    go_upto_region 5 with (go_at_call 301; refine HCL.out.mono ?_; rintro e w5 ⟨rfl,X5,χ5,hc5,hl5,hg5⟩)
    have HN:=Hi (HNX.out w5 X5 χ5 hc5 hl5 hg5)
    obtain ⟨y5,f5⟩:=HY.out w5 X5 χ5 hc5 hl5
    clear HNX HY HCL hc5 hl5 hg5 y3 f3 yk'
    go_wp2_with (refine wpList_value (by kernel_rfl) (fnR.take rfl rfl rfl hkc) ?_)
    go_roundg g1
    case rel=>exact HN.out
    case measure=>omega
  ·have d0:decide ((c0:Int)<(m:Int))=false:=decide_eq_false (by omega)
   have d1:decide (c0<m)=false:=decide_eq_false hgt
   have HE:=Hi (show Taken X χ c0 w (.returned (.tuple #[])) wr from ⟨rfl,X1,χ1,HG.out,HL.out,by
    rcases HU.out.2.2.1 with h1 | h1
    ·rw [HU.out.1,show m=c0 from by omega]
    ·rw [HU.out.1,h1,List.take_length,List.take_of_length_le (by omega)],HU.out.2.2.2.1⟩)
   clear HG HL HU hgt
   go_wp2
   go_end0
   exact HE.out
open Go.Conc.Locks
abbrev muLink:MuLink:={ lock:=157,unlock:=158,ilock:=245,iunlock:=246,lockSlow:=292,unlockSlow:=295,disable:=288,enable:=290,acquire:=291,relMerge:=293,cas32:=289,add32:=294,tMutex:=153,tIMutex:=151,tPMutex:=324,tPIMutex:=349,tPI32:=351,tUP:=353,tNoCopy:=148,tU32:=149 }
theorem muLib:MuLib Tryz.prog muLink:=⟨Tryz.func157,Tryz.func158,Tryz.func245,Tryz.func246,Tryz.func288,Tryz.func290,Tryz.func291,Tryz.func293,Tryz.func289,Tryz.func294,Tryz.underlying151,Tryz.runUnderlying151,Tryz.sizeOf151,Tryz.isAgg151,Tryz.zeroValue151,Tryz.underlying153,Tryz.runUnderlying153,Tryz.sizeOf153,Tryz.isAgg153,Tryz.zeroValue153,Tryz.underlying324,Tryz.runUnderlying324,Tryz.sizeOf324,Tryz.isAgg324,Tryz.zeroValue324,Tryz.underlying349,Tryz.runUnderlying349,Tryz.sizeOf349,Tryz.isAgg349,Tryz.zeroValue349,Tryz.underlying351,Tryz.runUnderlying351,Tryz.sizeOf351,Tryz.isAgg351,Tryz.zeroValue351,Tryz.underlying353,Tryz.runUnderlying353,Tryz.sizeOf353,Tryz.isAgg353,Tryz.zeroValue353,Tryz.underlying148,Tryz.runUnderlying148,Tryz.sizeOf148,Tryz.isAgg148,Tryz.zeroValue148,Tryz.underlying21,Tryz.runUnderlying21,Tryz.sizeOf21,Tryz.isAgg21,Tryz.zeroValue21,(by kernel_rfl)⟩
theorem lock_any (b:Nat) (w:World) (hc:w.cell? ⟨b,0,none⟩=some (.int .i32 0)) (hz:w.frozen? ⟨b,0,none⟩=false) :
  Calls Tryz.prog 157 #[.pointer (some ⟨b,0,none⟩)] w fun e w'=>e=.returned (.tuple #[])∧w'=w.setCell ⟨b,0,none⟩ (.int .i32 1):=Go.MuLone.lock_free muLib ⟨b,0,none⟩ w hc hz
theorem unlock_any (b:Nat) (u:FrameMode) (w:World) (hc:w.cell? ⟨b,0,none⟩=some (.int .i32 1)) (hz:w.frozen? ⟨b,0,none⟩=false) :
  CallsD Tryz.prog 158 #[.pointer (some ⟨b,0,none⟩)] u w fun e u' w'=>u'=u∧(e=.returned (.tuple #[])∧w'=w.setCell ⟨b,0,none⟩ (.int .i32 0)):=Go.MuLone.unlock_deferred muLib ⟨b,0,none⟩ u w hc hz
open Go.RowKit
open Tm (Sp Tr has put cut kids)
theorem Core.rows {w w':World} {X:Gx} {χ χ':Nat→Nat} {g:Gm.G} (h:Core w X χ g) (ht:Turns (fun k=>χ k=1∨χ k=2∨χ k=3) w w') (hχ:∀ k,χ k≠0→χ' k=χ k) (hl:∀ k,χ' k≠0→k<w'.heap.size) (lk:Int) (po pu:Value) (ls:List (Pm.Wr × Nat)) (us:List Uk)
  (ha:AgAt w' X.b ({ X with lk:=lk,po:=po,pu:=pu,us:=us,ls:=ls }:Gx).cells) (ro:w'.ownsRow 0 162 1 po ls.length (ls.map fun e=>ptV e.2)) (co:∀ k,po.ownBlock=some k→χ' k=2)
  (ru:w'.ownsRow 0 164 1 pu us.length (us.map Uk.val)) (cu:∀ k,pu.ownBlock=some k→χ' k=3) (ln:∀ e ∈ ls,χ' e.2=6∧AgAt w' e.2 (lnA e.1)) (ops:Gm.Ops (ls.map Prod.fst)) (few:ls.length≤80)
  (dom:∀ n,(g.s n).isSome=true→∃ e ∈ ls,e.1.s=n):Core w' { X with lk:=lk,po:=po,pu:=pu,us:=us,ls:=ls } χ' g:=by
 have h4:∀ k,χ k=4→¬ (χ k=1∨χ k=2∨χ k=3):=fun k hk=>by omega
 have h5:∀ k,χ k=5→¬ (χ k=1∨χ k=2∨χ k=3):=fun k hk=>by omega
 exact ⟨hl,ha,(hχ _ (by rw [h.cb]; decide)).trans h.cb,ro,co,ru,cu,(h.tree.turns ht h4).more (fun k hk=>(hχ k (by rw [hk]; decide)).trans hk) (fun k hk=>hl k (by rw [hk]; decide)),
  (h.ms.turns ht h5).more (fun k hk=>(hχ k (by rw [hk]; decide)).trans hk) (fun k hk=>hl k (by rw [hk]; decide)),ln,h.tk,h.hs,h.hm,h.good,ops,few,dom⟩
def rowed (χ:Nat→Nat) (v:Value) (c:Nat):Nat→Nat:=fun k=>if χ k≠0 then χ k else if v.ownBlock=some k then c else 0
theorem rowed_old {χ:Nat→Nat} {v:Value} {c k:Nat} (h:χ k≠0):rowed χ v c k=χ k:=if_pos h
theorem rowed_own {χ:Nat→Nat} {v:Value} {c k:Nat} (hv:v.ownBlock=some k) (h:χ k=0∨χ k=c):rowed χ v c k=c:=by
 unfold rowed
 split
 ·next e=>exact h.resolve_left e
 ·first | rfl | rw [if_pos hv]
theorem rowed_none {χ:Nat→Nat} {v:Value} {c k:Nat} (h:rowed χ v c k≠0):χ k≠0∨v.ownBlock=some k:=by
 unfold rowed at h
 split at h
 ·next e=>exact Or.inl e
 ·split at h
  ·next e=>exact Or.inr e
  ·exact absurd rfl h
theorem Grf.setLk {w:World} {X:Gx} {χ:Nat→Nat} (h:Grf w X χ) (lk:Int):Grf (w.setCell ⟨X.b,0,none⟩ (.int .i32 lk)) { X with lk:=lk } χ :=
 ⟨h.toCore.setLk lk,h.fewer,fun i u x hu hx=>(h.un i u x hu hx).keep fun k hk=>⟨hk,(set_turns X.b w 0 _).block k (h.lt k (by rw [hk]; decide)) fun e=>by rw [e,h.cb] at hk; cases hk⟩⟩
theorem Grf.push {w1 w5 wa w6:World} {X1 X5:Gx} {χ1 χ5:Nat→Nat} {m:Nat} {x:Pm.Wr} {u:Uk} (h:Grf w1 X1 χ1) (hm:X1.us.length=m) (hx:X1.ops[m]?=some x) (hc:Core w5 X5 χ5 (Gm.aft (Gm.run (X1.ops.take m)) x)) (hl:Like X1 X5) (hg:Goes w1 χ1 w5 χ5)
  (hu:UkOk w5 χ5 (Gm.run (X1.ops.take m)) x u) (hba:Below w5.heap.size w5 wa) {p:Option Addr} {c:Nat} (ho:w6.ownsRow 0 164 1 (.slice p (m+1) c) (m+1) (X1.us.map Uk.val ++ [Uk.val u])) (hgr:wa.grownBy w6 X1.pu.ownBlock)
  (hne:∀ g,(Value.slice p (m+1) c).ownBlock=some g→X1.pu.ownBlock=some g∨wa.heap.size≤g) :
  ∃ X' χ',Grf (w6.setCell ⟨X1.b,3,none⟩ (.slice p (m+1) c)) X' χ'∧Like2 X1 X'∧X'.us=X1.us ++ [u]∧Goes w1 χ1 (w6.setCell ⟨X1.b,3,none⟩ (.slice p (m+1) c)) χ':=by
 have hca:=hc.kept hba
 have hops:X5.ops=X1.ops:=by unfold Gx.ops; rw [hl.ls]
 have hT:Turns (fun k=>χ5 k=1∨χ5 k=2∨χ5 k=3) wa (w6.setCell ⟨X1.b,3,none⟩ (.slice p (m+1) c)):=by
  refine ((Turns.of_grown hgr).mono fun k _ hk=>Or.inr (Or.inr (hc.cu k (by rw [hl.pu]; exact hk)))).trans ((set_turns X1.b w6 3 _).mono fun k _ hk=>Or.inl (Or.inl ?_))
  rw [hk,← hl.b]; exact hc.cb
 have hpb:∀ k,X1.pu.ownBlock=some k→χ5 k=3:=fun k hk=>hc.cu k (by rw [hl.pu]; exact hk)
 have hXb:χ5 X1.b=1:=by rw [← hl.b]; exact hc.cb
 have hnb:X1.pu.ownBlock≠some X1.b:=fun e=>by have:=hpb _ e; rw [hXb] at this; cases this
 have hnew:∀ k,(Value.slice p (m+1) c).ownBlock=some k→χ5 k=0∨χ5 k=3:=fun k hk=>by
  rcases hne k hk with h1 | h1
  ·exact Or.inr (hpb k h1)
  ·exact Or.inl (hca.zero h1)
 have hsz:wa.heap.size≤w6.heap.size:=(Turns.of_grown hgr).size
 have hlen:(X1.us ++ [u]).length=m+1:=by rw [List.length_append,hm]; rfl
 have hrow:w6.ownsRow 0 164 1 (.slice p (m+1) c) (X1.us ++ [u]).length ((X1.us ++ [u]).map Uk.val):=by rw [hlen,List.map_append]; exact ho
 have hat:AgAt w6 X1.b X5.cells:=by
  have h1:=hca.at_
  rw [hl.b] at h1
  exact AgAt.block h1 ((Turns.of_grown hgr).block _ (AgAt.lt h1) hnb)
 have hcells:AgAt (w6.setCell ⟨X1.b,3,none⟩ (.slice p (m+1) c)) X5.b ({ X5 with lk:=X5.lk,po:=X5.po,pu:=.slice p (m+1) c,us:=X1.us ++ [u],ls:=X5.ls }:Gx).cells:=by
  rw [hl.b]
  exact hat.put 3 _
 have hcore:=hca.rows (w':=w6.setCell ⟨X1.b,3,none⟩ (.slice p (m+1) c)) (χ':=rowed χ5 (.slice p (m+1) c) 3) hT (fun k hk=>rowed_old hk) (fun k hk=>by
   rcases rowed_none hk with h1 | h1
   ·exact Nat.lt_of_lt_of_le (hca.lt k h1) hT.size
   ·have:=(World.ownsRow.lt ho k h1).2
    simpa using this) X5.lk X5.po (.slice p (m+1) c) X5.ls (X1.us ++ [u]) hcells ?_ (fun k hk=>(rowed_old (by rw [hca.co k hk]; decide)).trans (hca.co k hk)) ?_ (fun k hk=>rowed_own hk (hnew k hk))
   (fun e he=>⟨(rowed_old (by rw [(hca.ln e he).1]; decide)).trans (hca.ln e he).1,(hca.ln e he).2.block (hT.block _ (hca.ln e he).2.lt (by rw [(hca.ln e he).1]; decide))⟩) hc.ops hc.few hc.dom
 ·refine ⟨{ X5 with lk:=X5.lk,po:=X5.po,pu:=.slice p (m+1) c,us:=X1.us ++ [u],ls:=X5.ls },rowed χ5 (.slice p (m+1) c) 3,⟨?_,?_,fun i v y hv hy=>?_⟩,⟨hl.lk,hl.b,hl.po,hl.ls⟩,rfl,?_⟩
  ·show Core _ _ _ (Gm.run (X5.ops.take (X1.us ++ [u]).length))
   rw [hlen,hops,run_takeG hx]
   exact hcore
  ·show (X1.us ++ [u]).length≤X5.ls.length
   rw [hlen,hl.ls]
   have:=(List.getElem?_eq_some_iff.1 hx).1
   unfold Gx.ops at this
   rw [List.length_map] at this
   omega
  ·have hv':(X1.us ++ [u])[i]?=some v:=hv
   have hy':X5.ops[i]?=some y:=hy
   show UkOk _ _ (Gm.run (X5.ops.take i)) y v
   rw [hops] at hy' ⊢
   have hkeep:∀ k,χ5 k=6→rowed χ5 (.slice p (m+1) c) 3 k=6∧(w6.setCell ⟨X1.b,3,none⟩ (.slice p (m+1) c)).heap[k]?=w5.heap[k]?:=fun k hk=>by
    have hlt:=hc.lt k (by rw [hk]; decide)
    refine ⟨(rowed_old (by rw [hk]; decide)).trans hk,?_⟩
    exact (hT.block k (Nat.lt_of_lt_of_le hlt hba.size) (by rw [hk]; decide)).trans (hba.block k hlt)
   rw [List.getElem?_append] at hv'
   split at hv'
   ·next hlt =>
    refine (h.un i v y hv' hy').keep fun k hk=>?_
    have hlk:=h.lt k (by rw [hk]; decide)
    have h5:=(hg.keep k hlk).trans hk
    have h6:=hkeep k h5
    exact ⟨h6.1,h6.2.trans (hg.turns.block k hlk (by rw [hk]; decide))⟩
   ·next hge =>
    have him:i=m:=by
     have:=(List.getElem?_eq_some_iff.1 hv').1
     simp at this
     omega
    subst him
    rw [hm,Nat.sub_self] at hv'
    have:u=v:=by simpa using hv'
    subst this
    rw [hx] at hy'
    cases hy'
    exact hu.keep hkeep
  ·refine hg.trans ((Goes.of_below hba).trans ⟨hT.mono fun k _ hk=>by omega,fun k hk=>?_⟩)
   unfold rowed
   split
   ·rfl
   ·next e =>
    have e0:χ5 k=0:=by omega
    rw [e0]
    split
    ·next hk2 =>
     rcases hne k hk2 with h1 | h1
     ·rw [hpb k h1] at e0; cases e0
     ·omega
    ·rfl
 ·refine (set_turns X1.b w6 3 _).own ?_ (fun k hk e=>by subst e; have:=hca.co _ hk; rw [hXb] at this; cases this)
  exact (Turns.of_grown hgr).own hca.ro (fun k hk e=>by have h1:=hca.co k hk; rw [hpb k e] at h1; cases h1)
 ·refine (set_turns X1.b w6 3 _).own hrow (fun k hk e=>?_)
  subst e
  rcases hnew _ hk with h1 | h1
  ·rw [hXb] at h1; cases h1
  ·rw [hXb] at h1; cases h1
end Go.Proofs.YthfhefdfehlbkaaGreat
