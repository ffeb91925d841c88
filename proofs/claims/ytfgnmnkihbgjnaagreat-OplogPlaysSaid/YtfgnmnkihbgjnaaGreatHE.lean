/-
  THE GREATEST STAMP: slices.MaxFunc at stamps and stamp.Compare, and stamp.Max; lists of stamps in memory.
  No conditions.
  THE ORDER of stamps and items: Compare and Before, the program's and the document's: what they answer, of any numbers; nothing below the call's own memory turns.
  No conditions.
  THE ROW UNDER THE HEAP: Len, Less, Swap of items.
  No conditions but sizes.
  METHODS THROUGH AN INTERFACE that holds a pointer to items: which function is called, with what.
  No conditions.
  heap.down: the item at i goes down until it stands behind none of those below it.
  No conditions but sizes.
  heap.up: the item at j goes up until it stands ahead of none of those above it.
  No conditions but sizes.
  items.Push and items.Pop, heap.Init, heap.Push, heap.Pop.
  No conditions but sizes.
  heap.Init, heap.Push, heap.Pop over a pointer to items.
  No conditions but sizes.
  THE PROGRAM's QUEUE: ours, Len, Clone, New, Push, Peek, Pop.
  No conditions but sizes.
  THE PROGRAM's QUEUE: Clone, New, Peek, Pop.
  No conditions but sizes.
-/
import Derived.Test.YtfgnmnkihbgjnaaGreatSh
import Derived.Test.YtfgnmnkihbgjnaaGreatGC
import Derived.Deep.RegionWith
import Derived.BigRegion
import Derived.Outline
import Derived.Deep.RegionLaw
set_option maxRecDepth 100000
set_option maxHeartbeats 4000000
namespace Go.Proofs.YtfgnmnkihbgjnaaGreat
open Go.RowKit
def stAt (l:List (Int × Int)) (i:Nat):Int × Int:=l.getD i (0,0)
def Stamps (w:World) (p:Option Addr) (l:List (Int × Int)):Prop :=
 0<l.length→∃ b o,p=some ⟨b,o,none⟩∧∀ i,i<l.length→w.cell? ⟨b,o+i * 2,none⟩=some (.int .i64 (stAt l i).1)∧w.cell? ⟨b,o+i * 2+1,none⟩=some (.int .i64 (stAt l i).2)
theorem Stamps.nil (w:World) (p:Option Addr):Stamps w p []:=fun h=>absurd h (Nat.lt_irrefl 0)
theorem Stamps.kept {w w':World} {p:Option Addr} {l:List (Int × Int)} (h:Stamps w p l) (hb:Below w.heap.size w w'):Stamps w' p l:=by
 intro h0
 obtain ⟨b,o,rfl,hc⟩:=h h0
 have hlt:b<w.heap.size:=cell_lt (hc 0 h0).1
 exact ⟨b,o,rfl,fun i hi=>⟨by rw [hb.cell (by simpa using hlt)]; exact (hc i hi).1,by rw [hb.cell (by simpa using hlt)]; exact (hc i hi).2⟩⟩
def maxS (m x:Int × Int):Int × Int:=if 0<cmpS x.1 x.2 m.1 m.2 then x else m
def maxL (l:List (Int × Int)) (k:Nat):Int × Int:=((l.take k).drop 1).foldl maxS (stAt l 0)
theorem maxL_one (l:List (Int × Int)):maxL l 1=stAt l 0:=by
 unfold maxL
 cases l <;> simp [stAt]
theorem maxL_succ (l:List (Int × Int)) (k:Nat) (h0:1≤k) (h:k<l.length):maxL l (k+1)=maxS (maxL l k) (stAt l k):=by
 unfold maxL
 rw [List.take_succ_eq_append_getElem h,List.drop_append_of_le_length (by simp; omega),List.foldl_append]
 simp [stAt,List.getD,List.getElem?_eq_getElem h]
theorem Stamps.cells {w:World} {b o:Nat} {l:List (Int × Int)} (h:Stamps w (some ⟨b,o,none⟩) l) (i:Nat) (hi:i<l.length):w.cell? ⟨b,o+i * 2,none⟩=some (.int .i64 (stAt l i).1)∧w.cell? ⟨b,o+i * 2+1,none⟩=some (.int .i64 (stAt l i).2):=by
 obtain ⟨b',o',e,hc⟩:=h (by omega)
 simp only [Option.some.injEq,Addr.mk.injEq] at e
 obtain ⟨rfl,rfl,-⟩:=e
 exact hc i hi
def MInv (w0:World) (m:Int × Int) (wr:World):Prop :=
 wr.cell? ⟨w0.heap.size+1,0,none⟩=some (.int .i64 m.1)∧wr.cell? ⟨w0.heap.size+1,1,none⟩=some (.int .i64 m.2)∧wr.frozen? ⟨w0.heap.size+1,0,none⟩=false∧wr.frozen? ⟨w0.heap.size+1,1,none⟩=false ∧
 wr.cell? ⟨w0.heap.size,0,none⟩=some (.int .i64 0)∧wr.cell? ⟨w0.heap.size,1,none⟩=some (.int .i64 0)∧wr.frozen? ⟨w0.heap.size,0,none⟩=false∧wr.frozen? ⟨w0.heap.size,1,none⟩=false∧Below w0.heap.size w0 wr
theorem MInv.kept {w0 wr w':World} {m:Int × Int} (h:MInv w0 m wr) (hb:Below wr.heap.size wr w'):MInv w0 m w':=by
 obtain ⟨m0,m1,r0,r1,z0,z1,y0,y1,h9⟩:=h
 have hs:w0.heap.size+1<wr.heap.size:=cell_lt m0
 have c:∀ o,w'.cell? ⟨w0.heap.size+1,o,none⟩=wr.cell? ⟨w0.heap.size+1,o,none⟩:=fun o=>hb.cell (by simpa using hs)
 have f:∀ o,w'.frozen? ⟨w0.heap.size+1,o,none⟩=wr.frozen? ⟨w0.heap.size+1,o,none⟩:=fun o=>hb.frozen (by simpa using hs)
 have c':∀ o,w'.cell? ⟨w0.heap.size,o,none⟩=wr.cell? ⟨w0.heap.size,o,none⟩:=fun o=>hb.cell (by simp; omega)
 have f':∀ o,w'.frozen? ⟨w0.heap.size,o,none⟩=wr.frozen? ⟨w0.heap.size,o,none⟩:=fun o=>hb.frozen (by simp; omega)
 exact ⟨by rw [c]; exact m0,by rw [c]; exact m1,by rw [f]; exact r0,by rw [f]; exact r1,by rw [c']; exact z0,by rw [c']; exact z1,by rw [f']; exact y0,by rw [f']; exact y1,h9.trans (hb.mono (by omega))⟩
theorem MInv.set {w0 wr:World} {m:Int × Int} (h:MInv w0 m wr) (x y:Int):MInv w0 (x,y) ((wr.setCell ⟨w0.heap.size+1,0,none⟩ (.int .i64 x)).setCell ⟨w0.heap.size+1,1,none⟩ (.int .i64 y)):=by
 obtain ⟨m0,m1,r0,r1,z0,z1,y0,y1,h9⟩:=h
 have hs:w0.heap.size+1<wr.heap.size:=cell_lt m0
 refine ⟨?_,?_,by simpa using r0,by simpa using r1,?_,?_,by simpa using y0,by simpa using y1,(h9.setCell (by simp) _).setCell (by simp) _⟩
 ·rw [cell_other (by simp)]; exact cell_same m0
 ·exact cell_same (by rw [cell_other (by simp)]; exact m1)
 ·rw [cell_other (by simp),cell_other (by simp)]; exact z0
 ·rw [cell_other (by simp),cell_other (by simp)]; exact z1
theorem MInv.start (w0:World) (m:Int × Int):MInv w0 m ((w0.alloc (.cells #[.int .i64 0,.int .i64 0] 50)).alloc (.cells #[.int .i64 m.1,.int .i64 m.2] 50)):=by
 refine ⟨?_,?_,?_,?_,?_,?_,?_,?_,((Below.refl _ _).alloc (Nat.le_refl _) _).alloc (by simp) _⟩
 ·rw [World.cell?_alloc_at _ _ _ _ (by simp)]; rfl
 ·rw [World.cell?_alloc_at _ _ _ _ (by simp)]; rfl
 ·rw [World.frozen?_alloc_at _ _ _ _ (by simp)]
 ·rw [World.frozen?_alloc_at _ _ _ _ (by simp)]
 ·rw [(Below.alloc (Below.refl _ _) (Nat.le_refl _) (.cells #[.int .i64 m.1,.int .i64 m.2] 50)).cell (by simp)]; rw [World.cell?_alloc_at _ _ _ _ rfl]; rfl
 ·rw [(Below.alloc (Below.refl _ _) (Nat.le_refl _) (.cells #[.int .i64 m.1,.int .i64 m.2] 50)).cell (by simp)]; rw [World.cell?_alloc_at _ _ _ _ rfl]; rfl
 ·rw [(Below.alloc (Below.refl _ _) (Nat.le_refl _) (.cells #[.int .i64 m.1,.int .i64 m.2] 50)).frozen (by simp)]; rw [World.frozen?_alloc_at _ _ _ _ rfl]
 ·rw [(Below.alloc (Below.refl _ _) (Nat.le_refl _) (.cells #[.int .i64 m.1,.int .i64 m.2] 50)).frozen (by simp)]; rw [World.frozen?_alloc_at _ _ _ _ rfl]
theorem maxFunc_any (p:Option Addr) (c:Nat) (l:List (Int × Int)) (w:World) (h:Stamps w p l) (h0:0<l.length) (hl:l.length≤4611686018427387904) :
  Calls Tryz.prog 75 #[.slice p l.length c,.func (.func 76) #[] #[]] w fun e w'=>e=.returned (.agg #[.int .i64 (maxL l l.length).1,.int .i64 (maxL l l.length).2])∧Below w.heap.size w w':=by
 obtain ⟨b,o,rfl,-⟩:=h h0
 have HS:=Hi h
 obtain ⟨c0,c1⟩:=h.cells 0 h0
 rw [Nat.zero_mul,Nat.add_zero] at c0 c1
 have hblt:b<w.heap.size:=cell_lt c0
 have HI:=Hi (MInv.start w (stAt l 0))
 rw [← maxL_one l] at HI
 clear h
 go_enter Tryz.func75,Tryz.ntmps75
 go_wp2
 go_loopw [6] (fun i wr=>∃ k:Nat,1≤k∧k≤l.length∧i=.int .i64 k∧MInv w (maxL l k) wr) (fun i _=>l.length - (intOf i).toNat)
 case atStart=>exact ⟨1,Nat.le_refl _,h0,rfl,by rw [maxL_one] at HI ⊢; exact HI.out⟩
 case round =>
  obtain ⟨k,hk1,hk,rfl,hI⟩:=hrel
  have HI2:=Hi hI
  obtain ⟨m0,m1,r0,r1,z0,z1,y0,y1,hb⟩:=hI
  have hs:w.heap.size+1<wr.heap.size:=cell_lt m0
  by_cases hlt:k<l.length
  ·have HM:=Hi (maxL_succ l k hk1 hlt)
   obtain ⟨x0,x1⟩:=HS.out.cells k hlt
   rw [← hb.cell (p:=⟨b,o+k * 2,none⟩) (by simpa using hblt)] at x0
   rw [← hb.cell (p:=⟨b,o+k * 2+1,none⟩) (by simpa using hblt)] at x1
   have hx:wr.cell? ⟨b,o+k * 2,none⟩=some (.int .i64 (stAt l k).1)∧wr.cell? ⟨b,o+k * 2+1,none⟩=some (.int .i64 (stAt l k).2):=⟨x0,x1⟩
   have HX:=Hi hx
   clear c0 c1 hb HI hx
   generalize hm:maxL l k=m at *
   generalize stAt l k=x at *
   obtain ⟨mx,my⟩:=m
   obtain ⟨xx,xy⟩:=x
   dsimp only at *
   have hC:=fun W=>compare_any xx xy mx my W
   by_cases hgt:0<cmpS xx xy mx my
   ·have HG:=Hi (show maxS (mx,my) (xx,xy)=(xx,xy) from if_pos hgt)
    generalize cmpS xx xy mx my=v at *
    have HCH:=Hi hC
    clear hC hm
    go_wp2
    go_region_with (go_at_call 76; refine (HCH.out _).mono ?_; rintro e w' ⟨rfl,hbc⟩)
    all_goals
     have hbw:Below wr.heap.size wr w':=(Below.refl wr.heap.size wr).drew.trans hbc
     have HI3:=Hi (HI2.out.kept hbw)
     obtain ⟨n0,n1,s0,s1,-⟩:=HI2.out.kept hbw
     obtain ⟨x2,x3⟩:=HX.out
     rw [← hbw.cell (p:=⟨b,o+k * 2,none⟩) (by simp; omega)] at x2
     rw [← hbw.cell (p:=⟨b,o+k * 2+1,none⟩) (by simp; omega)] at x3
     clear hbc hbw x0 x1 m0 m1 r0 r1 z0 z1 y0 y1
     go_wp2
     go_roundw
     case rel =>
      refine ⟨k+1,by omega,by omega,by go_num,?_⟩
      rw [HM.out,HG.out]
      exact HI3.out.set xx xy
     case measure=>simp [intOf]; omega
   ·have HG:=Hi (show maxS (mx,my) (xx,xy)=(mx,my) from if_neg hgt)
    generalize cmpS xx xy mx my=v at *
    have dg:decide (0<v)=false:=decide_eq_false hgt
    have HCH:=Hi hC
    clear hC hm
    go_wp2
    go_region_with (go_at_call 76; refine (HCH.out _).mono ?_; rintro e w' ⟨rfl,hbc⟩)
    all_goals
     have hbw:Below wr.heap.size wr w':=(Below.refl wr.heap.size wr).drew.trans hbc
     have HI3:=Hi (HI2.out.kept hbw)
     clear hbc hbw x0 x1 m0 m1 r0 r1 z0 z1 y0 y1
     go_wp2
     go_roundw
     case rel =>
      refine ⟨k+1,by omega,by omega,by go_num,?_⟩
      rw [HM.out,HG.out]
      exact HI3.out
     case measure=>simp [intOf]; omega
  ·obtain rfl:k=l.length:=by omega
   have q0:(wr.setCell ⟨w.heap.size,0,none⟩ (.int .i64 (maxL l l.length).1)).cell? ⟨w.heap.size,0,none⟩=some (.int .i64 (maxL l l.length).1):=cell_same z0
   have q1:(wr.setCell ⟨w.heap.size,0,none⟩ (.int .i64 (maxL l l.length).1)).cell? ⟨w.heap.size,1,none⟩=some (.int .i64 0):=by rw [cell_other (by simp)]; exact z1
   have q2:((wr.setCell ⟨w.heap.size,0,none⟩ (.int .i64 (maxL l l.length).1)).setCell ⟨w.heap.size,1,none⟩ (.int .i64 (maxL l l.length).2)).cell? ⟨w.heap.size,1,none⟩=some (.int .i64 (maxL l l.length).2):=cell_same q1
   have HE:=Hi ((hb.setCell (p:=⟨w.heap.size,0,none⟩) (by simp) (.int .i64 (maxL l l.length).1)).setCell (p:=⟨w.heap.size,1,none⟩) (by simp) (.int .i64 (maxL l l.length).2))
   go_wp2
   exact bodyPost_ret (v:=.agg #[.int .i64 (maxL l l.length).1,.int .i64 (maxL l l.length).2]) (by simp [results,Tryz.results75,go_sem,q0,q2]) rfl ⟨rfl,HE.out⟩
def maxOf (l:List (Int × Int)):Int × Int:=if l.length=0 then (0,0) else maxL l l.length
theorem max_any (p:Option Addr) (c:Nat) (l:List (Int × Int)) (w:World) (h:Stamps w p l) (hl:l.length≤4611686018427387904) :
  Calls Tryz.prog 56 #[.slice p l.length c] w fun e w'=>e=.returned (.agg #[.int .i64 (maxOf l).1,.int .i64 (maxOf l).2])∧Below w.heap.size w w':=by
 have hb:=(Below.refl w.heap.size w).alloc (Nat.le_refl _) (.cells #[.int .i64 0,.int .i64 0] 50)
 have HB:=Hi hb
 by_cases h0:l.length=0
 ·have HM:=Hi (show maxOf l=(0,0) from if_pos h0)
  rw [h0]
  clear hb h h0
  go_enter Tryz.func56,Tryz.ntmps56
  go_wp2
  refine bodyPost_ret (v:=.agg #[.int .i64 0,.int .i64 0]) (by simp [results,Tryz.results56,go_sem]) rfl ?_
  rw [HM.out]
  exact ⟨rfl,HB.out⟩
 ·have hml:maxOf l=maxL l l.length:=if_neg h0
  have te:(((l.length:Nat):Int) == 0)=false:=by rw [beq_eq_false_iff_ne]; omega
  have HC:=Hi (maxFunc_any p c l _ (h.kept hb) (by omega) hl)
  rw [← hml] at HC
  generalize maxOf l=m at *
  obtain ⟨mx,my⟩:=m
  dsimp only at *
  have h1:0<l.length:=by omega
  clear hb h h0 hml
  go_enter Tryz.func56,Tryz.ntmps56
  go_wp2_with fail
  refine HC.out.mono ?_
  rintro e w1 ⟨rfl,hb1⟩
  have c0:=hb1.cell (p:=⟨w.heap.size,0,none⟩) (by simp)
  have c1:=hb1.cell (p:=⟨w.heap.size,1,none⟩) (by simp)
  have f0:=hb1.frozen (p:=⟨w.heap.size,0,none⟩) (by simp)
  have f1:=hb1.frozen (p:=⟨w.heap.size,1,none⟩) (by simp)
  rw [World.cell?_alloc_at _ _ _ _ rfl] at c0 c1
  rw [World.frozen?_alloc_at _ _ _ _ rfl] at f0 f1
  have c0':w1.cell? ⟨w.heap.size,0,none⟩=some (.int .i64 0):=c0
  have c1':w1.cell? ⟨w.heap.size,1,none⟩=some (.int .i64 0):=c1
  have HB1:=Hi (HB.out.trans (hb1.mono (by simp)))
  clear hb1 c0 c1
  have q0:(w1.setCell ⟨w.heap.size,0,none⟩ (.int .i64 mx)).cell? ⟨w.heap.size,0,none⟩=some (.int .i64 mx):=cell_same c0'
  have q1:(w1.setCell ⟨w.heap.size,0,none⟩ (.int .i64 mx)).cell? ⟨w.heap.size,1,none⟩=some (.int .i64 0):=by rw [cell_other (by simp)]; exact c1'
  have q2:((w1.setCell ⟨w.heap.size,0,none⟩ (.int .i64 mx)).setCell ⟨w.heap.size,1,none⟩ (.int .i64 my)).cell? ⟨w.heap.size,1,none⟩=some (.int .i64 my):=cell_same q1
  have HE:=Hi ((HB1.out.setCell (p:=⟨w.heap.size,0,none⟩) (by simp) (.int .i64 mx)).setCell (p:=⟨w.heap.size,1,none⟩) (by simp) (.int .i64 my))
  go_wp2
  exact bodyPost_ret (v:=.agg #[.int .i64 mx,.int .i64 my]) (by simp [results,Tryz.results56,go_sem,q0,q2]) rfl ⟨rfl,HE.out⟩
open Go.RowKit
theorem qcell_same {w:World} {a:Addr} {u v:Value} (h:w.cell? a=some u):(w.setCell a v).cell? a=some v:=World.cell?_setCell_same' w a v (by rw [h]; rfl)
theorem qcell_other {w:World} {a b:Addr} {v:Value} (h:a≠b):(w.setCell a v).cell? b=w.cell? b:=by
 apply World.cell?_setCell_other
 exact h
def qcmpS (t r t' r':Int):Int:=if t=t' then (if r=r' then 0 else if r<r' then -1 else 1) else if t<t' then -1 else 1
theorem qcompare_any (t r t' r':Int) (w:World) :
  Calls Tryz.prog 76 #[.agg #[.int .i64 t,.int .i64 r],.agg #[.int .i64 t',.int .i64 r']] w fun e w'=>e=.returned (.int .i64 (qcmpS t r t' r'))∧Below w.heap.size w w':=by
 have hb:=((Below.refl w.heap.size w).alloc (Nat.le_refl _) (.cells #[.int .i64 t,.int .i64 r] 50)).alloc (by simp) (.cells #[.int .i64 t',.int .i64 r'] 50)
 have HB:=Hi hb
 clear hb
 by_cases h0:t=t'
 ·subst h0
  by_cases h1:r=r'
  ·subst h1
   have HR:=Hi (show qcmpS t r t r=0 from by simp [qcmpS])
   go_enter Tryz.func76,Tryz.ntmps76
   go_wp2
   go_ret
   rw [HR.out]
   exact ⟨rfl,HB.out⟩
  ·have e1:((r == r'):Bool)=false:=by simpa using h1
   by_cases h2:r<r'
   ·have HR:=Hi (show qcmpS t r t r' = -1 from by simp [qcmpS,h1,h2])
    go_enter Tryz.func76,Tryz.ntmps76
    go_wp2
    go_ret
    rw [HR.out]
    exact ⟨rfl,HB.out⟩
   ·have d2:decide (r<r')=false:=decide_eq_false h2
    have HR:=Hi (show qcmpS t r t r'=1 from by simp [qcmpS,h1,h2])
    go_enter Tryz.func76,Tryz.ntmps76
    go_wp2
    go_ret
    rw [HR.out]
    exact ⟨rfl,HB.out⟩
 ·have e1:((t == t'):Bool)=false:=by simpa using h0
  by_cases h2:t<t'
  ·have HR:=Hi (show qcmpS t r t' r' = -1 from by simp [qcmpS,h0,h2])
   go_enter Tryz.func76,Tryz.ntmps76
   go_wp2
   go_ret
   rw [HR.out]
   exact ⟨rfl,HB.out⟩
  ·have d2:decide (t<t')=false:=decide_eq_false h2
   have HR:=Hi (show qcmpS t r t' r'=1 from by simp [qcmpS,h0,h2])
   go_enter Tryz.func76,Tryz.ntmps76
   go_wp2
   go_ret
   rw [HR.out]
   exact ⟨rfl,HB.out⟩
theorem qrefCompare_any (t r t' r':Int) (w:World) :
  Calls Tryz.prog 93 #[.agg #[.int .i64 t,.int .i64 r],.agg #[.int .i64 t',.int .i64 r']] w fun e w'=>e=.returned (.int .i64 (qcmpS t r t' r'))∧Below w.heap.size w w':=by
 have hb:=((Below.refl w.heap.size w).alloc (Nat.le_refl _) (.cells #[.int .i64 t,.int .i64 r] 50)).alloc (by simp) (.cells #[.int .i64 t',.int .i64 r'] 50)
 have HB:=Hi hb
 clear hb
 by_cases h0:t=t'
 ·subst h0
  by_cases h1:r=r'
  ·subst h1
   have HR:=Hi (show qcmpS t r t r=0 from by simp [qcmpS])
   go_enter Tryz.func93,Tryz.ntmps93
   go_wp2
   go_ret
   rw [HR.out]
   exact ⟨rfl,HB.out⟩
  ·by_cases h2:r<r'
   ·have HR:=Hi (show qcmpS t r t r' = -1 from by simp [qcmpS,h1,h2])
    go_enter Tryz.func93,Tryz.ntmps93
    go_wp2
    go_ret
    rw [HR.out]
    exact ⟨rfl,HB.out⟩
   ·have d2:decide (r<r')=false:=decide_eq_false h2
    have h3:r'<r:=by omega
    have HR:=Hi (show qcmpS t r t r'=1 from by simp [qcmpS,h1,h2])
    go_enter Tryz.func93,Tryz.ntmps93
    go_wp2
    go_ret
    rw [HR.out]
    exact ⟨rfl,HB.out⟩
 ·have e1:((t == t'):Bool)=false:=by simpa using h0
  by_cases h2:t<t'
  ·have HR:=Hi (show qcmpS t r t' r' = -1 from by simp [qcmpS,h0,h2])
   go_enter Tryz.func93,Tryz.ntmps93
   go_wp2
   go_ret
   rw [HR.out]
   exact ⟨rfl,HB.out⟩
  ·have d2:decide (t<t')=false:=decide_eq_false h2
   have h3:t'<t:=by omega
   have HR:=Hi (show qcmpS t r t' r'=1 from by simp [qcmpS,h0,h2])
   go_enter Tryz.func93,Tryz.ntmps93
   go_wp2
   go_ret
   rw [HR.out]
   exact ⟨rfl,HB.out⟩
def cmpV (a b:Qm.St):Int:=qcmpS a.1 a.2 b.1 b.2
theorem cmpV_lt {a b:Qm.St} (h:Qm.ltS a b):cmpV a b = -1:=by
 obtain ⟨a,x⟩:=a
 obtain ⟨b,y⟩:=b
 unfold Qm.ltS at h
 dsimp only at h
 unfold cmpV qcmpS
 dsimp only
 repeat' split
 all_goals omega
theorem cmpV_gt {a b:Qm.St} (h:Qm.ltS b a):cmpV a b=1:=by
 obtain ⟨a,x⟩:=a
 obtain ⟨b,y⟩:=b
 unfold Qm.ltS at h
 dsimp only at h
 unfold cmpV qcmpS
 dsimp only
 repeat' split
 all_goals omega
theorem cmpV_eq (a:Qm.St):cmpV a a=0:=by simp [cmpV,qcmpS]
theorem before_any (t r g t' r' g':Int) (w:World) :
  Calls Tryz.prog 146 #[.agg #[.int .i64 t,.int .i64 r,.int .i64 g],.agg #[.int .i64 t',.int .i64 r',.int .i64 g']] w fun e w'=>e=.returned (.bool (decide (Qm.ltI ((t,r),g) ((t',r'),g'))))∧Below w.heap.size w w':=by
 have hb:=((Below.refl w.heap.size w).alloc (Nat.le_refl _) (.cells #[.int .i64 t,.int .i64 r,.int .i64 g] 115)).alloc (by simp) (.cells #[.int .i64 t',.int .i64 r',.int .i64 g'] 115)
 have HB:=Hi hb
 clear hb
 have HC:=Hi (fun W=>qcompare_any t r t' r' W)
 rcases Qm.ltS_tri (t,r) (t',r') with h | h | h
 ·have e:qcmpS t r t' r' = -1:=cmpV_lt h
  have HR:=Hi (show decide (Qm.ltI ((t,r),g) ((t',r'),g'))=true from decide_eq_true (Or.inl h))
  rw [e] at HC
  clear h e
  go_enter Tryz.func146,Tryz.ntmps146
  go_wp2_with fail
  refine (HC.out _).mono ?_
  rintro e w1 ⟨rfl,hb1⟩
  have HB1:=Hi (HB.out.trans (hb1.mono (by simp; omega)))
  clear hb1
  go_wp2_with fail
  go_ret
  rw [HR.out]
  exact ⟨rfl,HB1.out⟩
 ·obtain ⟨rfl,rfl⟩:=Prod.mk.inj h
  have e:qcmpS t r t r=0:=cmpV_eq (t,r)
  rw [e] at HC
  clear h e
  by_cases hg:g<g'
  ·have HR:=Hi (show decide (Qm.ltI ((t,r),g) ((t,r),g'))=true from decide_eq_true (Or.inr ⟨rfl,hg⟩))
   go_enter Tryz.func146,Tryz.ntmps146
   go_wp2_with fail
   refine (HC.out _).mono ?_
   rintro e w1 ⟨rfl,hb1⟩
   have HB1:=Hi (HB.out.trans (hb1.mono (by simp; omega)))
   have hc:=fun (o:Nat)=>hb1.cell (p:=⟨w.heap.size,o,none⟩) (by simp; omega)
   have hd:=fun (o:Nat)=>hb1.cell (p:=⟨w.heap.size+1,o,none⟩) (by simp)
   have c2:=hc 2
   have d2:=hd 2
   clear hb1 hc hd
   go_wp2_with fail
   go_ret
   rw [HR.out]
   exact ⟨rfl,HB1.out⟩
  ·have HR:=Hi (show decide (Qm.ltI ((t,r),g) ((t,r),g'))=false from decide_eq_false (fun h=>h.elim (fun k=>Qm.ltS_irrefl _ k) (fun k=>hg k.2)))
   have dg:decide (g<g')=false:=decide_eq_false hg
   go_enter Tryz.func146,Tryz.ntmps146
   go_wp2_with fail
   refine (HC.out _).mono ?_
   rintro e w1 ⟨rfl,hb1⟩
   have HB1:=Hi (HB.out.trans (hb1.mono (by simp; omega)))
   have hc:=fun (o:Nat)=>hb1.cell (p:=⟨w.heap.size,o,none⟩) (by simp; omega)
   have hd:=fun (o:Nat)=>hb1.cell (p:=⟨w.heap.size+1,o,none⟩) (by simp)
   have c2:=hc 2
   have d2:=hd 2
   clear hb1 hc hd
   go_wp2_with fail
   go_ret
   rw [HR.out]
   exact ⟨rfl,HB1.out⟩
 ·have e:qcmpS t r t' r'=1:=cmpV_gt h
  have HR:=Hi (show decide (Qm.ltI ((t,r),g) ((t',r'),g'))=false from decide_eq_false (fun k=>k.elim (fun k=>Qm.ltS_asymm h k) (fun k=>by have h2:(t,r)=(t',r'):=k.1; rw [h2] at h; exact Qm.ltS_irrefl _ h)))
  rw [e] at HC
  clear h e
  go_enter Tryz.func146,Tryz.ntmps146
  go_wp2_with fail
  refine (HC.out _).mono ?_
  rintro e w1 ⟨rfl,hb1⟩
  have HB1:=Hi (HB.out.trans (hb1.mono (by simp; omega)))
  clear hb1
  go_wp2_with fail
  go_ret
  rw [HR.out]
  exact ⟨rfl,HB1.out⟩
open Go.RowKit
structure HR (w:World) (c g cap:Nat) (d:List Qm.It):Prop where
 cell:w.cell? ⟨c,0,none⟩=some (.slice (some ⟨g,0,none⟩) d.length cap)
 free:w.frozen? ⟨c,0,none⟩=false
 ne:c≠g
 own:w.ownsRow 0 115 3 (.slice (some ⟨g,0,none⟩) d.length cap) d.length (itCells d)
 len:d.length≤2000
theorem HR.lt {w:World} {c g cap:Nat} {d:List Qm.It} (h:HR w c g cap d):c<w.heap.size∧g<w.heap.size:=⟨cell_lt h.cell,(World.ownsRow.lt h.own g rfl).2⟩
theorem HR.turns {F:Nat→Prop} {w w':World} {c g cap:Nat} {d:List Qm.It} (h:HR w c g cap d) (ht:Turns F w w') (hc:¬ F c) (hg:¬ F g):HR w' c g cap d :=
 ⟨ht.cell h.cell hc,by rw [ht.frozen h.lt.1 hc]; exact h.free,h.ne,ht.own h.own fun k hk=>by cases hk; exact hg,h.len⟩
theorem HR.below {w w':World} {c g cap:Nat} {d:List Qm.It} (h:HR w c g cap d) (hb:Below w.heap.size w w'):HR w' c g cap d :=
 h.turns (F:=fun _=>False) (Turns.of_below hb) (fun h=>h) (fun h=>h)
theorem HR.at {w:World} {c g cap:Nat} {d:List Qm.It} (h:HR w c g cap d) (i:Nat) (hi:i<d.length) :
  w.cell? ⟨g,i * 3,none⟩=some (.int .i64 (Qm.itAt d i).1.1)∧w.cell? ⟨g,i * 3+1,none⟩=some (.int .i64 (Qm.itAt d i).1.2)∧w.cell? ⟨g,i * 3+2,none⟩=some (.int .i64 (Qm.itAt d i).2):=by
 obtain ⟨h0,h1,h2⟩:=itCells_get d i hi
 exact ⟨by rw [h.own.cellAt _ (by omega)]; exact h0,by rw [h.own.cellAt _ (by omega)]; exact h1,by rw [h.own.cellAt _ (by omega)]; exact h2⟩
theorem HR.put {w:World} {c g cap:Nat} {d:List Qm.It} (h:HR w c g cap d) (i:Nat) (x:Qm.It) :
  HR (((w.setCell ⟨g,i * 3,none⟩ (.int .i64 x.1.1)).setCell ⟨g,i * 3+1,none⟩ (.int .i64 x.1.2)).setCell ⟨g,i * 3+2,none⟩ (.int .i64 x.2)) c g cap (d.set i x):=by
 have h1:=(((h.own.stored (i * 3) (.int .i64 x.1.1)).1.stored (i * 3+1) (.int .i64 x.1.2)).1.stored (i * 3+2) (.int .i64 x.2)).1
 rw [itCells_set] at h1
 refine ⟨?_,by simpa using h.free,h.ne,by simpa using h1,by simpa using h.len⟩
 have hn:∀ o,(⟨g,o,none⟩:Addr)≠⟨c,0,none⟩:=fun o e=>h.ne (by cases e; rfl)
 rw [qcell_other (hn _),qcell_other (hn _),qcell_other (hn _),h.cell]
 simp
theorem turns_set (g:Nat) (w:World) (o:Nat) (v:Value):Turns (fun k=>k=g) w (w.setCell ⟨g,o,none⟩ v) :=
 ⟨rfl,rfl,rfl,by simp [World.setCell],fun k _ hk=>Below.heap_setCell w _ v k hk⟩
theorem qitems_len (p:Option Addr) (n c:Nat) (w:World):Calls Tryz.prog 104 #[.slice p n c] w fun e w'=>e=.returned (.int .i64 (n:Int))∧w=w':=by
 go_enter Tryz.func104,Tryz.ntmps104
 go_wp2
 go_ret
 exact ⟨rfl,rfl⟩
theorem less_any (c g cap:Nat) (d:List Qm.It) (i j:Nat) (w:World) (h:HR w c g cap d) (hi:i<d.length) (hj:j<d.length) :
  Calls Tryz.prog 144 #[.slice (some ⟨g,0,none⟩) d.length cap,.int .i64 (i:Int),.int .i64 (j:Int)] w fun e w'=>e=.returned (.bool (decide (Qm.ltI (Qm.itAt d i) (Qm.itAt d j))))∧Below w.heap.size w w':=by
 have hlen:=h.len
 obtain ⟨i0,i1,i2⟩:=h.at i hi
 obtain ⟨j0,j1,j2⟩:=h.at j hj
 clear h
 generalize Qm.itAt d i=x at *
 generalize Qm.itAt d j=y at *
 obtain ⟨⟨t,r⟩,k⟩:=x
 obtain ⟨⟨t',r'⟩,k'⟩:=y
 dsimp only at *
 have HC:=Hi (fun W=>before_any t r k t' r' k' W)
 generalize decide (Qm.ltI ((t,r),k) ((t',r'),k'))=v at *
 go_enter Tryz.func144,Tryz.ntmps144
 go_wp2
 go_region_with (go_at_call 146; refine (HC.out _).mono ?_; rintro e w' ⟨rfl,hbc⟩)
 all_goals
  have hbw:=Hi ((Below.refl w.heap.size w).drew.trans hbc)
  clear hbc
  go_wp2
  go_ret
  exact ⟨rfl,hbw.out⟩
theorem HR.swap {w:World} {c g cap:Nat} {d:List Qm.It} (h:HR w c g cap d) {i j:Nat} {x y:Qm.It} (hx:Qm.itAt d i=x) (hy:Qm.itAt d j=y) :
  HR ((((((w.setCell ⟨g,i * 3,none⟩ (.int .i64 y.1.1)).setCell ⟨g,i * 3+1,none⟩ (.int .i64 y.1.2)).setCell ⟨g,i * 3+2,none⟩ (.int .i64 y.2)).setCell ⟨g,j * 3,none⟩ (.int .i64 x.1.1)).setCell ⟨g,j * 3+1,none⟩ (.int .i64 x.1.2)).setCell ⟨g,j * 3+2,none⟩ (.int .i64 x.2)) c g cap (Qm.sw d i j):=by
 subst hx hy
 exact (h.put i _).put j _
theorem turns_swap (g:Nat) (w:World) (a1 a2 a3 b1 b2 b3:Nat) (v1 v2 v3 u1 u2 u3:Value) :
  Turns (fun k=>k=g) w ((((((w.setCell ⟨g,a1,none⟩ v1).setCell ⟨g,a2,none⟩ v2).setCell ⟨g,a3,none⟩ v3).setCell ⟨g,b1,none⟩ u1).setCell ⟨g,b2,none⟩ u2).setCell ⟨g,b3,none⟩ u3):=by
 have tr:∀ {a b c:World},Turns (fun k=>k=g) a b→Turns (fun k=>k=g) b c→Turns (fun k=>k=g) a c:=fun h k=>h.trans (k.mono fun _ _ h=>Or.inl h)
 exact tr (tr (tr (tr (tr (turns_set g w a1 v1) (turns_set g _ a2 v2)) (turns_set g _ a3 v3)) (turns_set g _ b1 u1)) (turns_set g _ b2 u2)) (turns_set g _ b3 u3)
def Swapped (c g cap:Nat) (d:List Qm.It) (i j:Nat) (w:World) (e:Ending) (w':World):Prop :=
 e=.returned (.tuple #[])∧HR w' c g cap (Qm.sw d i j)∧Turns (fun k=>k=g) w w'
theorem swap_any (c g cap:Nat) (d:List Qm.It) (i j:Nat) (w:World) (h:HR w c g cap d) (hi:i<d.length) (hj:j<d.length) :
  Calls Tryz.prog 145 #[.slice (some ⟨g,0,none⟩) d.length cap,.int .i64 (i:Int),.int .i64 (j:Int)] w (Swapped c g cap d i j w):=by
 have hlen:=h.len
 obtain ⟨i0,i1,i2⟩:=h.at i hi
 obtain ⟨j0,j1,j2⟩:=h.at j hj
 have hf:∀ o,w.frozen? ⟨g,o,none⟩=false:=fun o=>h.own.frozenAt o
 have hS:=Hi (h.swap (i:=i) (j:=j) rfl rfl)
 have f0:=hf (i * 3)
 have f1:=hf (i * 3+1)
 have f2:=hf (i * 3+2)
 have k0:=hf (j * 3)
 have k1:=hf (j * 3+1)
 have k2:=hf (j * 3+2)
 clear h hf
 generalize Qm.itAt d i=x at *
 generalize Qm.itAt d j=y at *
 obtain ⟨⟨t,r⟩,k⟩:=x
 obtain ⟨⟨t',r'⟩,k'⟩:=y
 dsimp only at *
 obtain ⟨u0,s0⟩:=cell?_setCell_some (w:=w) (p:=⟨g,i * 3,none⟩) (x:=.int .i64 t') (q:=⟨g,j * 3,none⟩) (v:=.int .i64 t') j0
 obtain ⟨u1,s1⟩:∃ u,((w.setCell ⟨g,i * 3,none⟩ (.int .i64 t')).setCell ⟨g,i * 3+1,none⟩ (.int .i64 r')).cell? ⟨g,j * 3+1,none⟩=some u:=by
  obtain ⟨u,hu⟩:=cell?_setCell_some (w:=w) (p:=⟨g,i * 3,none⟩) (x:=.int .i64 t') (q:=⟨g,j * 3+1,none⟩) (v:=.int .i64 r') j1
  exact cell?_setCell_some hu
 obtain ⟨u2,s2⟩:∃ u,(((w.setCell ⟨g,i * 3,none⟩ (.int .i64 t')).setCell ⟨g,i * 3+1,none⟩ (.int .i64 r')).setCell ⟨g,i * 3+2,none⟩ (.int .i64 k')).cell? ⟨g,j * 3+2,none⟩=some u:=by
  obtain ⟨u,hu⟩:=cell?_setCell_some (w:=w) (p:=⟨g,i * 3,none⟩) (x:=.int .i64 t') (q:=⟨g,j * 3+2,none⟩) (v:=.int .i64 k') j2
  obtain ⟨u,hu⟩:=cell?_setCell_some (p:=⟨g,i * 3+1,none⟩) (x:=.int .i64 r') hu
  exact cell?_setCell_some hu
 go_enter Tryz.func145,Tryz.ntmps145
 go_wp2
 go_region
 go_end0
 exact ⟨rfl,hS.out.below (Below.refl _ _).drew,(turns_swap g w _ _ _ _ _ _ _ _ _ _ _ _).trans (Turns.of_below (Below.refl _ _).drew)⟩
open Go.RowKit
theorem method_val {P:Program} (F:Nat) (t elem:TypeId) (name:String) (f:FuncId) (a:Addr) (w:World) (v:Value)
  (hrow:(P.info? t).map (fun i=>(i.methods.find? (·.name == name)).map fun m=>(m.path.toList,m.func))=some (some ([],some (f,false))))
  (hu:P.underlying t=some (.pointer elem)) (hl:(loadVar elem a).run P w=.ok v w):(method (F+1) t (.pointer (some a)) name).run P w=.ok (f,v) w:=by
 cases hi:P.info? t with
 | none=>rw [hi] at hrow; cases hrow
 | some i =>
  rw [hi] at hrow
  simp only [Option.map_some,Option.some.injEq] at hrow
  cases hm:i.methods.find? (·.name == name) with
  | none=>rw [hm] at hrow; cases hrow
  | some m =>
   rw [hm] at hrow
   simp only [Option.map_some,Option.some.injEq,Prod.mk.injEq] at hrow
   obtain ⟨hp,hf⟩:=hrow
   have hpe:m.path.isEmpty=true:=by
    have:m.path.size=0:=by rw [← Array.length_toList,hp]; rfl
    simp [Array.isEmpty,this]
   unfold method receiverAt
   have hs:∀ (T:TypeId) (s:String),(Builtin.ssaWrapNilChk_ #[T] T #[.pointer (some a),strVal "", strVal s]).run P w=.ok (.pointer (some a)) w:=fun _ _=>rfl
   have hpg:(program:Sem Program).run P w=.ok P w:=rfl
   simp only [Sem.run_bind,typeInfo,hpg,hi,Result.andThen_ok,Sem.run_pure,hm,hp,hf,hpe,follow,run_underlying hu,Place.get,if_true,hs,asAddr,hl]
theorem row_len:(Tryz.prog.info? 140).map (fun i=>(i.methods.find? (·.name == "Len")).map fun m=>(m.path.toList,m.func))=some (some ([],some (104,false))):=by kernel_rfl
theorem row_less:(Tryz.prog.info? 140).map (fun i=>(i.methods.find? (·.name == "Less")).map fun m=>(m.path.toList,m.func))=some (some ([],some (144,false))):=by kernel_rfl
theorem row_swap:(Tryz.prog.info? 140).map (fun i=>(i.methods.find? (·.name == "Swap")).map fun m=>(m.path.toList,m.func))=some (some ([],some (145,false))):=by kernel_rfl
theorem load_items {w:World} {c:Nat} {p:Option Addr} {n k:Nat} (h:w.cell? ⟨c,0,none⟩=some (.slice p n k)):(loadVar 137 ⟨c,0,none⟩).run Tryz.prog w=.ok (.slice p n k) w:=by go_simp
theorem meth_len {w:World} {c:Nat} {p:Option Addr} {n k:Nat} (h:w.cell? ⟨c,0,none⟩=some (.slice p n k)):(method 297 140 (.pointer (some ⟨c,0,none⟩)) "Len").run Tryz.prog w=.ok (104,.slice p n k) w :=
 method_val 296 _ _ _ _ _ _ _ row_len Tryz.underlying140 (load_items h)
theorem meth_less {w:World} {c:Nat} {p:Option Addr} {n k:Nat} (h:w.cell? ⟨c,0,none⟩=some (.slice p n k)):(method 297 140 (.pointer (some ⟨c,0,none⟩)) "Less").run Tryz.prog w=.ok (144,.slice p n k) w :=
 method_val 296 _ _ _ _ _ _ _ row_less Tryz.underlying140 (load_items h)
theorem meth_swap {w:World} {c:Nat} {p:Option Addr} {n k:Nat} (h:w.cell? ⟨c,0,none⟩=some (.slice p n k)):(method 297 140 (.pointer (some ⟨c,0,none⟩)) "Swap").run Tryz.prog w=.ok (145,.slice p n k) w :=
 method_val 296 _ _ _ _ _ _ _ row_swap Tryz.underlying140 (load_items h)
theorem meth_push (c:Nat) (w:World):(method 297 140 (.pointer (some ⟨c,0,none⟩)) "Push").run Tryz.prog w=.ok (148,.pointer (some ⟨c,0,none⟩)) w:=by kernel_rfl
theorem meth_pop (c:Nat) (w:World):(method 297 140 (.pointer (some ⟨c,0,none⟩)) "Pop").run Tryz.prog w=.ok (147,.pointer (some ⟨c,0,none⟩)) w:=by kernel_rfl
open Go.RowKit
def Downed (c g cap n lo:Nat) (d:List Qm.It) (w:World) (e:Ending) (w':World):Prop :=
 ∃ b d',e=.returned (.bool b)∧HR w' c g cap d'∧d'.Perm d∧(∀ m,n≤m→Qm.itAt d' m=Qm.itAt d m)∧Qm.HeapF d' n lo∧Turns (fun k=>k=g) w w'
structure DRel (c g cap n lo:Nat) (d:List Qm.It) (w:World) (k:Nat) (d':List Qm.It) (wr:World):Prop where
 le:k≤n
 lok:lo≤k
 hr:HR wr c g cap d'
 perm:d'.Perm d
 tail:∀ m,n≤m→Qm.itAt d' m=Qm.itAt d m
 down:Qm.DownI d' n lo k
 turns:Turns (fun k=>k=g) w wr
theorem turns_more {g:Nat} {a b c:World} (h:Turns (fun k=>k=g) a b) (k:Turns (fun k=>k=g) b c):Turns (fun k=>k=g) a c:=h.trans (k.mono fun _ _ h=>Or.inl h)
theorem DRel.below {c g cap n lo:Nat} {d:List Qm.It} {w:World} {k:Nat} {d':List Qm.It} {wr w':World} (h:DRel c g cap n lo d w k d' wr) (hb:Below wr.heap.size wr w'):DRel c g cap n lo d w k d' w' :=
 ⟨h.le,h.lok,h.hr.below hb,h.perm,h.tail,h.down,turns_more h.turns (Turns.of_below hb)⟩
theorem DRel.len {c g cap n lo:Nat} {d:List Qm.It} {w:World} {k:Nat} {d':List Qm.It} {wr:World} (h:DRel c g cap n lo d w k d' wr) (hn:n≤d.length):n≤d'.length:=by
 rw [h.perm.length_eq]; exact hn
theorem DRel.stop {c g cap n lo:Nat} {d:List Qm.It} {w:World} {k:Nat} {d':List Qm.It} {wr:World} (h:DRel c g cap n lo d w k d' wr) (b:Bool) (hc:∀ m,0<m→m<n→(m - 1) / 2=k→¬ Qm.ltI (Qm.itAt d' m) (Qm.itAt d' k)) :
  Downed c g cap n lo d w (.returned (.bool b)) wr:=⟨b,d',rfl,h.hr,h.perm,h.tail,h.down.stop hc,h.turns⟩
theorem DRel.step {c g cap n lo:Nat} {d:List Qm.It} {w:World} {k j:Nat} {d':List Qm.It} {wr w':World} (h:DRel c g cap n lo d w k d' wr) (hn:n≤d.length) (hj:j<n) (hj0:0<j) (hjk:(j - 1) / 2=k)
  (hlt:Qm.ltI (Qm.itAt d' j) (Qm.itAt d' k)) (hc:∀ m,0<m→m<n→(m - 1) / 2=k→¬ Qm.ltI (Qm.itAt d' m) (Qm.itAt d' j))
  (hr:HR w' c g cap (Qm.sw d' k j)) (ht:Turns (fun k=>k=g) wr w'):DRel c g cap n lo d w j (Qm.sw d' k j) w':=by
 have hl:=h.len hn
 refine ⟨by omega,by have:=h.lok; omega,hr,(Qm.sw_perm (by omega) (by omega)).trans h.perm,fun m hm=>?_,h.down.step hl hj hj0 hjk h.lok hlt hc,turns_more h.turns ht⟩
 rw [Qm.sw_at (by omega) (by omega),if_neg (by omega),if_neg (by omega)]
 exact h.tail m hm
theorem down_any (c g cap:Nat) (d:List Qm.It) (i n:Nat) (w:World) (h:HR w c g cap d) (hn:n≤d.length) (hi:i≤n) (hD:Qm.DownI d n i i) :
  Calls Tryz.prog 101 #[.iface 140 (.pointer (some ⟨c,0,none⟩)),.int .i64 (i:Int),.int .i64 (n:Int)] w (Downed c g cap n i d w):=by
 have hlen:=h.len
 have HS:=Hi (show DRel c g cap n i d w i d w from ⟨hi,Nat.le_refl _,h,List.Perm.refl _,fun _ _=>rfl,hD,Turns.refl _ _⟩)
 clear h hD
 go_enter Tryz.func101,Tryz.ntmps101
 go_wp2
 go_loopw [7] (fun x wr=>∃ (k:Nat) (d':List Qm.It),x=.int .i64 (k:Int)∧DRel c g cap n i d w k d' wr) (fun x _=>n - (intOf x).toNat)
 case atStart=>exact ⟨i,d,rfl,HS.out⟩
 case round =>
  obtain ⟨k,d',rfl,hR⟩:=hrel
  have HR0:=Hi hR
  have hkn:=hR.le
  have hdl:=hR.len hn
  have hd2:=hR.hr.len
  clear HS
  have n1:decide (2 * (k:Int)+1<0)=false:=decide_eq_false (by omega)
  by_cases h1:2 * k+1<n
  ·have m0:=meth_less hR.hr.cell
   have t1:decide ((n:Int)≤2 * (k:Int)+1)=false:=decide_eq_false (by omega)
   by_cases h2:2 * k+2<n
   ·have t2:decide (2 * (k:Int)+1+1<(n:Int))=true:=decide_eq_true (by omega)
    have L0:=less_any c g cap d' (2 * k+2) (2 * k+1) wr hR.hr (by omega) (by omega)
    rw [show ((2 * k+2:Nat):Int)=2 * (k:Int)+1+1 from by omega,show ((2 * k+1:Nat):Int)=2 * (k:Int)+1 from by omega] at L0
    have HL0:=Hi L0
    clear hR L0
    by_cases hb:Qm.ltI (Qm.itAt d' (2 * k+2)) (Qm.itAt d' (2 * k+1))
    ·have hbt:decide (Qm.ltI (Qm.itAt d' (2 * k+2)) (Qm.itAt d' (2 * k+1)))=true:=decide_eq_true hb
     rw [hbt] at HL0
     have HB:=Hi hb
     clear hbt hb
     go_wp2_with fail
     refine HL0.out.mono ?_
     rintro e w1 ⟨rfl,hb1⟩
     have HRW:=Hi (HR0.out.below hb1)
     have m1:=meth_less HRW.out.hr.cell
     clear hb1 HL0 m0
     have LL:=less_any c g cap d' (2 * k+2) k w1 HRW.out.hr (by omega) (by omega)
     rw [show ((2 * k+2:Nat):Int)=2 * (k:Int)+1+1 from by omega] at LL
     have HLL:=Hi LL
     have HC:Hid (∀ m,0<m→m<n→(m - 1) / 2=k→¬ Qm.ltI (Qm.itAt d' m) (Qm.itAt d' (2 * k+2))):=Hi (fun m _ _ e=>(by omega:m=2 * k+2∨m=2 * k+1).elim (fun e=>by rw [e]; exact Qm.ltI_irrefl _) (fun e=>by rw [e]; exact Qm.ltI_asymm HB.out))
     clear LL
     by_cases hlt:Qm.ltI (Qm.itAt d' (2 * k+2)) (Qm.itAt d' k)
     ·have hbt:decide (Qm.ltI (Qm.itAt d' (2 * k+2)) (Qm.itAt d' k))=true:=decide_eq_true hlt
      rw [hbt] at HLL
      have HLT:=Hi hlt
      clear hbt hlt
      go_wp2_with fail
      refine HLL.out.mono ?_
      rintro e w2 ⟨rfl,hb2⟩
      have HR2:=Hi (HRW.out.below hb2)
      have ms:=meth_swap HR2.out.hr.cell
      have SW:=swap_any c g cap d' k (2 * k+2) w2 HR2.out.hr (by omega) (by omega)
      rw [show ((2 * k+2:Nat):Int)=2 * (k:Int)+1+1 from by omega] at SW
      have HSW:=Hi SW
      clear hb2 SW
      go_wp2_with fail
      refine HSW.out.mono ?_
      rintro e w3 ⟨rfl,hr3,ht3⟩
      have HR3:=Hi (HR2.out.step (j:=2 * k+2) hn (by omega) (by omega) (by omega) HLT.out HC.out hr3 ht3)
      clear hr3 ht3
      go_wp2
      go_roundw
      case rel=>exact ⟨2 * k+2,_,by go_num,HR3.out⟩
      case measure=>simp [intOf]; omega
     ·have hbt:decide (Qm.ltI (Qm.itAt d' (2 * k+2)) (Qm.itAt d' k))=false:=decide_eq_false hlt
      rw [hbt] at HLL
      have HLT:=Hi hlt
      clear hbt hlt
      go_wp2_with fail
      refine HLL.out.mono ?_
      rintro e w2 ⟨rfl,hb2⟩
      have HR2:=Hi (HRW.out.below hb2)
      clear hb2
      go_wp2
      go_ret
      exact HR2.out.stop _ (fun m a b e=>Qm.leI_trans HLT.out (HC.out m a b e))
    ·have hbt:decide (Qm.ltI (Qm.itAt d' (2 * k+2)) (Qm.itAt d' (2 * k+1)))=false:=decide_eq_false hb
     rw [hbt] at HL0
     have HB:=Hi hb
     clear hbt hb
     go_wp2_with fail
     refine HL0.out.mono ?_
     rintro e w1 ⟨rfl,hb1⟩
     have HRW:=Hi (HR0.out.below hb1)
     have m1:=meth_less HRW.out.hr.cell
     clear hb1 HL0 m0
     have LL:=less_any c g cap d' (2 * k+1) k w1 HRW.out.hr (by omega) (by omega)
     rw [show ((2 * k+1:Nat):Int)=2 * (k:Int)+1 from by omega] at LL
     have HLL:=Hi LL
     have HC:Hid (∀ m,0<m→m<n→(m - 1) / 2=k→¬ Qm.ltI (Qm.itAt d' m) (Qm.itAt d' (2 * k+1))):=Hi (fun m _ _ e=>(by omega:m=2 * k+2∨m=2 * k+1).elim (fun e=>by rw [e]; exact HB.out) (fun e=>by rw [e]; exact Qm.ltI_irrefl _))
     clear LL
     by_cases hlt:Qm.ltI (Qm.itAt d' (2 * k+1)) (Qm.itAt d' k)
     ·have hbt:decide (Qm.ltI (Qm.itAt d' (2 * k+1)) (Qm.itAt d' k))=true:=decide_eq_true hlt
      rw [hbt] at HLL
      have HLT:=Hi hlt
      clear hbt hlt
      go_wp2_with fail
      refine HLL.out.mono ?_
      rintro e w2 ⟨rfl,hb2⟩
      have HR2:=Hi (HRW.out.below hb2)
      have ms:=meth_swap HR2.out.hr.cell
      have SW:=swap_any c g cap d' k (2 * k+1) w2 HR2.out.hr (by omega) (by omega)
      rw [show ((2 * k+1:Nat):Int)=2 * (k:Int)+1 from by omega] at SW
      have HSW:=Hi SW
      clear hb2 SW
      go_wp2_with fail
      refine HSW.out.mono ?_
      rintro e w3 ⟨rfl,hr3,ht3⟩
      have HR3:=Hi (HR2.out.step (j:=2 * k+1) hn (by omega) (by omega) (by omega) HLT.out HC.out hr3 ht3)
      clear hr3 ht3
      go_wp2
      go_roundw
      case rel=>exact ⟨2 * k+1,_,by go_num,HR3.out⟩
      case measure=>simp [intOf]; omega
     ·have hbt:decide (Qm.ltI (Qm.itAt d' (2 * k+1)) (Qm.itAt d' k))=false:=decide_eq_false hlt
      rw [hbt] at HLL
      have HLT:=Hi hlt
      clear hbt hlt
      go_wp2_with fail
      refine HLL.out.mono ?_
      rintro e w2 ⟨rfl,hb2⟩
      have HR2:=Hi (HRW.out.below hb2)
      clear hb2
      go_wp2
      go_ret
      exact HR2.out.stop _ (fun m a b e=>Qm.leI_trans HLT.out (HC.out m a b e))
   ·have t2:decide (2 * (k:Int)+1+1<(n:Int))=false:=decide_eq_false (by omega)
    have HRW:=HR0
    clear hR
    have LL:=less_any c g cap d' (2 * k+1) k wr HRW.out.hr (by omega) (by omega)
    rw [show ((2 * k+1:Nat):Int)=2 * (k:Int)+1 from by omega] at LL
    have HLL:=Hi LL
    have HC:Hid (∀ m,0<m→m<n→(m - 1) / 2=k→¬ Qm.ltI (Qm.itAt d' m) (Qm.itAt d' (2 * k+1))):=Hi (fun m _ _ e=>by rw [(by omega:m=2 * k+1)]; exact Qm.ltI_irrefl _)
    clear LL
    by_cases hlt:Qm.ltI (Qm.itAt d' (2 * k+1)) (Qm.itAt d' k)
    ·have hbt:decide (Qm.ltI (Qm.itAt d' (2 * k+1)) (Qm.itAt d' k))=true:=decide_eq_true hlt
     rw [hbt] at HLL
     have HLT:=Hi hlt
     clear hbt hlt
     go_wp2_with fail
     refine HLL.out.mono ?_
     rintro e w2 ⟨rfl,hb2⟩
     have HR2:=Hi (HRW.out.below hb2)
     have ms:=meth_swap HR2.out.hr.cell
     have SW:=swap_any c g cap d' k (2 * k+1) w2 HR2.out.hr (by omega) (by omega)
     rw [show ((2 * k+1:Nat):Int)=2 * (k:Int)+1 from by omega] at SW
     have HSW:=Hi SW
     clear hb2 SW
     go_wp2_with fail
     refine HSW.out.mono ?_
     rintro e w3 ⟨rfl,hr3,ht3⟩
     have HR3:=Hi (HR2.out.step (j:=2 * k+1) hn (by omega) (by omega) (by omega) HLT.out HC.out hr3 ht3)
     clear hr3 ht3
     go_wp2
     go_roundw
     case rel=>exact ⟨2 * k+1,_,by go_num,HR3.out⟩
     case measure=>simp [intOf]; omega
    ·have hbt:decide (Qm.ltI (Qm.itAt d' (2 * k+1)) (Qm.itAt d' k))=false:=decide_eq_false hlt
     rw [hbt] at HLL
     have HLT:=Hi hlt
     clear hbt hlt
     go_wp2_with fail
     refine HLL.out.mono ?_
     rintro e w2 ⟨rfl,hb2⟩
     have HR2:=Hi (HRW.out.below hb2)
     clear hb2
     go_wp2
     go_ret
     exact HR2.out.stop _ (fun m a b e=>Qm.leI_trans HLT.out (HC.out m a b e))
  ·have t1:decide ((n:Int)≤2 * (k:Int)+1)=true:=decide_eq_true (by omega)
   clear hR
   go_wp2
   go_ret
   exact HR0.out.stop _ (fun m _ hm hk=>by omega)
open Go.RowKit
def Upped (c g cap:Nat) (d:List Qm.It) (w:World) (e:Ending) (w':World):Prop :=
 e=.returned (.tuple #[])∧∃ d',HR w' c g cap d'∧d'.Perm d∧Qm.HeapF d' d'.length 0∧Turns (fun k=>k=g) w w'
structure URel (c g cap:Nat) (d:List Qm.It) (w:World) (k:Nat) (d':List Qm.It) (wr:World):Prop where
 lt:k<d.length
 hr:HR wr c g cap d'
 perm:d'.Perm d
 up:Qm.UpI d' d.length k
 turns:Turns (fun k=>k=g) w wr
theorem URel.below {c g cap:Nat} {d:List Qm.It} {w:World} {k:Nat} {d':List Qm.It} {wr w':World} (h:URel c g cap d w k d' wr) (hb:Below wr.heap.size wr w'):URel c g cap d w k d' w' :=
 ⟨h.lt,h.hr.below hb,h.perm,h.up,h.turns.trans (Turns.of_below hb)⟩
theorem URel.stop {c g cap:Nat} {d:List Qm.It} {w:World} {k:Nat} {d':List Qm.It} {wr:World} (h:URel c g cap d w k d' wr) (hc:0<k→¬ Qm.ltI (Qm.itAt d' k) (Qm.itAt d' ((k - 1) / 2))) :
  Upped c g cap d w (.returned (.tuple #[])) wr:=⟨rfl,d',h.hr,h.perm,by rw [h.perm.length_eq]; exact h.up.stop hc,h.turns⟩
theorem URel.step {c g cap:Nat} {d:List Qm.It} {w:World} {k:Nat} {d':List Qm.It} {wr w':World} (h:URel c g cap d w k d' wr) (hk0:0<k)
  (hlt:Qm.ltI (Qm.itAt d' k) (Qm.itAt d' ((k - 1) / 2))) (hr:HR w' c g cap (Qm.sw d' ((k - 1) / 2) k)) (ht:Turns (fun k=>k=g) wr w'):URel c g cap d w ((k - 1) / 2) (Qm.sw d' ((k - 1) / 2) k) w':=by
 have hl:=h.perm.length_eq
 have hk:=h.lt
 exact ⟨by omega,hr,(Qm.sw_perm (by omega) (by omega)).trans h.perm,h.up.step (by omega) hk hk0 hlt,h.turns.trans (ht.mono fun _ _ h=>Or.inl h)⟩
theorem up_any (c g cap:Nat) (d:List Qm.It) (j:Nat) (w:World) (h:HR w c g cap d) (hj:j<d.length) (hU:Qm.UpI d d.length j) :
  Calls Tryz.prog 118 #[.iface 140 (.pointer (some ⟨c,0,none⟩)),.int .i64 (j:Int)] w (Upped c g cap d w):=by
 have hlen:=h.len
 have HS:=Hi (show URel c g cap d w j d w from ⟨hj,h,List.Perm.refl _,hU,Turns.refl _ _⟩)
 clear h hU
 go_enter Tryz.func118,Tryz.ntmps118
 go_wp2
 go_loopw [1] (fun x wr=>∃ (k:Nat) (d':List Qm.It),x=.int .i64 (k:Int)∧URel c g cap d w k d' wr) (fun x _=>(intOf x).toNat)
 case atStart=>exact ⟨j,d,rfl,HS.out⟩
 case round =>
  obtain ⟨k,d',rfl,hR⟩:=hrel
  have HR0:=Hi hR
  have hk:=hR.lt
  have hl:=hR.perm.length_eq
  have hd2:=hR.hr.len
  have m0:=meth_less hR.hr.cell
  clear HS
  rcases Nat.eq_zero_or_pos k with rfl | h0
  ·clear hR
   go_wp2
   go_end0
   exact HR0.out.stop fun h=>absurd h (Nat.lt_irrefl 0)
  ·obtain ⟨p,hp⟩:∃ p:Nat,p=(k - 1) / 2:=⟨_,rfl⟩
   have pk:((k:Int) - 1) / 2=(p:Int):=by omega
   have pk2:((k:Int) - 1).tdiv 2=(p:Int):=by rw [Int.tdiv_eq_ediv_of_nonneg (by omega)]; exact pk
   have t1:((p:Int) == (k:Int))=false:=by rw [beq_eq_false_iff_ne]; omega
   have hpl:p<d'.length:=by omega
   have hkl:k<d'.length:=by omega
   have hpk:p<k:=by omega
   have hp2:p≤2000:=by omega
   have hk2:k≤2000:=by omega
   have L0:=less_any c g cap d' k p wr hR.hr hkl hpl
   have HL0:=Hi L0
   have HP:=Hi hp
   clear hR L0 hp hl
   by_cases hb:Qm.ltI (Qm.itAt d' k) (Qm.itAt d' p)
   ·have hbt:decide (Qm.ltI (Qm.itAt d' k) (Qm.itAt d' p))=true:=decide_eq_true hb
    rw [hbt] at HL0
    have HB:=Hi hb
    clear hbt hb
    go_wp2_with fail
    refine HL0.out.mono ?_
    rintro e w2 ⟨rfl,hb2⟩
    have HR2:=Hi (HR0.out.below hb2)
    have ms:=meth_swap HR2.out.hr.cell
    have HSW:=Hi (swap_any c g cap d' p k w2 HR2.out.hr hpl hkl)
    clear hb2
    go_wp2_with fail
    refine HSW.out.mono ?_
    rintro e w3 ⟨rfl,hr3,ht3⟩
    have HR3:=Hi (HR2.out.step (by omega) (by rw [← HP.out]; exact HB.out) (by rw [← HP.out]; exact hr3) ht3)
    clear hr3 ht3
    go_wp2
    go_roundw
    case rel=>exact ⟨(k - 1) / 2,_,by rw [HP.out],HR3.out⟩
    case measure=>simp [intOf]; omega
   ·have hbt:decide (Qm.ltI (Qm.itAt d' k) (Qm.itAt d' p))=false:=decide_eq_false hb
    rw [hbt] at HL0
    have HB:=Hi hb
    clear hbt hb
    go_wp2_with fail
    refine HL0.out.mono ?_
    rintro e w2 ⟨rfl,hb2⟩
    have HR2:=Hi (HR0.out.below hb2)
    clear hb2
    go_wp2
    go_end0
    exact HR2.out.stop fun _=>by rw [← HP.out]; exact HB.out
open Go.RowKit
structure HQ (w:World) (c:Nat) (p:Option Addr) (cap:Nat) (d:List Qm.It):Prop where
 cell:w.cell? ⟨c,0,none⟩=some (.slice p d.length cap)
 free:w.frozen? ⟨c,0,none⟩=false
 own:w.ownsRow 0 115 3 (.slice p d.length cap) d.length (itCells d)
 ne:∀ a,p=some a→a.block≠c
 len:d.length≤2000
theorem own_addr {w:World} {B:Nat} {E:TypeId} {k:Nat} {p:Option Addr} {n c:Nat} {xs:List Value} (h:w.ownsRow B E k (.slice p n c) n xs):p=none ∨ ∃ g,p=some ⟨g,0,none⟩:=by
 rcases h.2 with ⟨h2,-⟩ | ⟨g,cap,cur,hv,-⟩
 ·cases h2; exact Or.inl rfl
 ·cases hv; exact Or.inr ⟨g,rfl⟩
theorem HQ.hr {w:World} {c:Nat} {p:Option Addr} {cap:Nat} {d:List Qm.It} (h:HQ w c p cap d) (h0:0<d.length):∃ g,p=some ⟨g,0,none⟩∧HR w c g cap d:=by
 rcases own_addr h.own with rfl | ⟨g,rfl⟩
 ·rcases h.own.2 with ⟨-,h2⟩ | ⟨g,cap,cur,hv,-⟩
  ·omega
  ·cases hv
 ·exact ⟨g,rfl,h.cell,h.free,fun e=>h.ne _ rfl e.symm,h.own,h.len⟩
theorem HR.hq {w:World} {c g cap:Nat} {d:List Qm.It} (h:HR w c g cap d):HQ w c (some ⟨g,0,none⟩) cap d:=⟨h.cell,h.free,h.own,fun a e=>by cases e; exact fun e=>h.ne e.symm,h.len⟩
theorem HQ.turns {F:Nat→Prop} {w w':World} {c:Nat} {p:Option Addr} {cap:Nat} {d:List Qm.It} (h:HQ w c p cap d) (ht:Turns F w w') (hc:¬ F c) (hg:∀ a,p=some a→¬ F a.block):HQ w' c p cap d :=
 ⟨ht.cell h.cell hc,by rw [ht.frozen (cell_lt h.cell) hc]; exact h.free,ht.own h.own fun k hk=>by
  rcases own_addr h.own with rfl | ⟨g,rfl⟩
  ·cases hk
  ·cases hk; exact hg _ rfl,h.ne,h.len⟩
theorem HQ.below {w w':World} {c:Nat} {p:Option Addr} {cap:Nat} {d:List Qm.It} (h:HQ w c p cap d) (hb:Below w.heap.size w w'):HQ w' c p cap d :=
 h.turns (F:=fun _=>False) (Turns.of_below hb) (fun h=>h) (fun _ _ h=>h)
theorem step_append_k {P:Program} {w:World} {ops:Array Oper} {o:Oper} {a:Act} {K:Act→World→Prop} {Q:Exit→Act→World→Prop} {E:Prop} (hgd:o.guard=none) (s x:Operand) (t:TypeId)
  (ho:o.op=.call { callee:=.builtin .append,args:=#[s,x],argTypes:=#[t,t] })
  (base:Nat) (e:TypeId) (i:TypeInfo) (z:Value) (k bytes:Nat) (ht:P.underlying t=some (.slice e)) (hi:P.info? e=some i) (hz:i.zero=some z)
  (hsize:i.size=k) (hk0:0<k) (hby:i.bytes=bytes) (hb1:bytes≤1000) (hzs:z.cells.size=k)
  (v:Value) (n:Nat) (xs:List Value) (hs:a.eval s=v) (hown:w.ownsRow base e k v n xs)
  (p:Option Addr) (m c:Nat) (us:List Value) (hx:a.eval x=.slice p m c) (hus:us.length=m * k) (hrd:Rd w p us) (hpn:p=none→c=0) (h1:∀ u ∈ us,u.oneCell'=true)
  (hsz:n+m≤10000) (hbase:base≤w.heap.size)
  (h:∀ p' c' w',w'.ownsRow base e k (.slice p' (n+m) c') (n+m) (xs ++ us)→w.grownBy w' v.ownBlock→(∀ g,(Value.slice p' (n+m) c').ownBlock=some g→v.ownBlock=some g∨w.heap.size≤g)→K (a.put o.dst (.slice p' (n+m) c')) w') :
  if Region.wanted o (yielded ops a.tmps)=true then Oper.wp P o a w K Q else E:=by
 have hw:Region.wanted o (yielded ops a.tmps)=true:=by simp [Region.wanted,hgd]
 rw [if_pos hw]
 obtain ⟨v',w',hr,h2,h3,h4⟩:=run_append_k (P:=P) w base t o.type e i z k bytes ht hi hz hsize hk0 hby (by omega) hzs v n xs hown p m c us hus hrd hpn h1
  (Nat.le_trans (Nat.mul_le_mul hsz hb1) (by decide)) (by unfold maxLen; omega) hbase
 obtain ⟨p',c',rfl,-⟩:=own_rd h2
 unfold Oper.wp execOp
 simp only [ho,resolve,invoke,builtin,Sem.run_bind,Sem.run_pure,Result.andThen_ok,List.map_toArray,List.map_cons,List.map_nil,hs,hx,hr]
 exact h p' c' w' h2 h3 h4
theorem info_item:(Tryz.prog.info? 115).map (fun i=>(i.zero,i.size,i.bytes))=some (some (.agg #[.int .i64 0,.int .i64 0,.int .i64 0]),3,24):=by kernel_rfl
theorem rd_one (w:World) (x:Qm.It) (E:TypeId):Rd (w.alloc (.cells #[.int .i64 x.1.1,.int .i64 x.1.2,.int .i64 x.2] E)) (some ⟨w.heap.size,0,none⟩) (itCells [x]):=fun _=>⟨_,0,rfl,fun i u hu=>by
 rw [Nat.zero_add,World.cell?_alloc_at _ _ _ _ rfl]
 rw [← hu]
 simp [itCells]⟩
theorem assert_item (x y z:Value) (w:World):(Instr.typeAssert (.iface 115 (.agg #[x,y,z])) 20 115 false).run Tryz.prog w=.ok (.agg #[x,y,z]) w:=by kernel_rfl
def Pushed (c:Nat) (p:Option Addr) (d:List Qm.It) (w:World) (e:Ending) (w':World):Prop :=
 e=.returned (.tuple #[])∧∃ p' cap',HQ w' c p' cap' d∧Turns (fun k=>k=c ∨ ∃ a,p=some a∧a.block=k) w w'∧(∀ a,p'=some a→p=some a∨w.heap.size≤a.block)
theorem pushed_new {c:Nat} {p p':Option Addr} {cap c':Nat} {d:List Qm.It} {x:Qm.It} {w W w1:World} (h:HQ W c p cap d) (hb:Below w.heap.size w W) (hne:∀ a,p=some a→a.block≠c)
  (ho:w1.ownsRow 0 115 3 (.slice p' (d.length+1) c') (d.length+1) (itCells d ++ itCells [x])) (hg:W.grownBy w1 (Value.slice p d.length cap).ownBlock)
  (hf:∀ g,(Value.slice p' (d.length+1) c').ownBlock=some g→(Value.slice p d.length cap).ownBlock=some g∨W.heap.size≤g) (hc:c<w.heap.size) (hl:d.length<2000) :
  w1.cell? ⟨c,0,none⟩=some (.slice p d.length cap)∧w1.frozen? ⟨c,0,none⟩=false ∧
  ∀ w2,Below w1.heap.size w1 w2→Pushed c p (d ++ [x]) w (.returned (.tuple #[])) (w2.setCell ⟨c,0,none⟩ (.slice p' (d.length+1) c')):=by
 have hpb:∀ g,(Value.slice p d.length cap).ownBlock=some g→∃ a,p=some a∧a.block=g:=by
  intro g hg
  cases p with
  | none=>cases hg
  | some a=>cases hg; exact ⟨a,rfl,rfl⟩
 have ht:=Turns.of_grown hg
 have hcn:¬ (Value.slice p d.length cap).ownBlock=some c:=fun e=>by
  obtain ⟨a,ha,e⟩:=hpb c e
  exact hne a ha e
 have k1:=ht.cell h.cell hcn
 have k2:=ht.frozen (cell_lt h.cell) hcn
 refine ⟨k1,by rw [k2]; exact h.free,fun w2 hw2=>⟨rfl,p',c',⟨?_,?_,?_,?_,?_⟩,?_,?_⟩⟩
 ·rw [List.length_append]
  exact qcell_same (by rw [hw2.cell (cell_lt k1)]; exact k1)
 ·rw [World.frozen?_setCell,hw2.frozen (cell_lt k1),k2]; exact h.free
 ·rw [itCells_append,List.length_append]
  refine (turns_set c w2 0 _).own ((Turns.of_below (F:=fun _=>False) hw2).own ho fun _ _ h=>h) fun g hg2 e=>?_
  subst e
  rcases hf g hg2 with h1 | h1
  ·exact hcn h1
  ·have:=hb.size; omega
 ·intro a ha e
  subst e
  rcases hf a.block (by rw [ha]; rfl) with h1 | h1
  ·exact hcn h1
  ·have:=hb.size; omega
 ·rw [List.length_append,List.length_singleton]; omega
 ·refine (Turns.of_below hb).trans ((ht.mono fun k _ hk=>Or.inl (Or.inr (hpb k hk))).trans ?_)
  refine (Turns.of_below hw2).trans ((turns_set c w2 0 _).mono fun k _ hk=>?_)
  exact Or.inl (Or.inl (Or.inl (Or.inl hk)))
 ·intro a ha
  rcases hf a.block (by rw [ha]; rfl) with h1 | h1
  ·left
   rcases own_addr h.own with rfl | ⟨g,rfl⟩
   ·cases h1
   ·cases h1
    rcases own_addr ho with rfl | ⟨g',rfl⟩
    ·cases ha
    ·cases ha; rfl
  ·right; have:=hb.size; omega
theorem ipush_any (c:Nat) (p:Option Addr) (cap:Nat) (d:List Qm.It) (t r k:Int) (w:World) (h:HQ w c p cap d) (hl:d.length<2000) :
  Calls Tryz.prog 148 #[.pointer (some ⟨c,0,none⟩),.iface 115 (.agg #[.int .i64 t,.int .i64 r,.int .i64 k])] w (Pushed c p (d ++ [((t,r),k)]) w):=by
 obtain ⟨i0,hi,hz0,hz1,hz2⟩:=info_parts info_item
 have hc:=h.cell
 have hf:=h.free
 have hcw:=cell_lt h.cell
 have ta:=fun W=>assert_item (.int .i64 t) (.int .i64 r) (.int .i64 k) W
 have hbel:Below w.heap.size w (w.alloc (.cells #[.int .i64 t,.int .i64 r,.int .i64 k] 115)).drew:=((Below.refl _ _).alloc (Nat.le_refl _) _).drew
 have HO:=Hi (h.below hbel)
 have HRD:=Hi (show Rd (w.alloc (.cells #[.int .i64 t,.int .i64 r,.int .i64 k] 115)).drew (some ⟨w.heap.size,0,none⟩) (itCells [((t,r),k)]) from rd_one w ((t,r),k) 115)
 have HBel:=Hi hbel
 have hne:∀ a,p=some a→a.block≠c:=h.ne
 have HNE:=Hi hne
 clear h hbel hne
 go_enter Tryz.func148,Tryz.ntmps148
 go_wp2
 go_region_law (refine step_append_k rfl _ _ 137 rfl 0 115 i0 _ 3 24 Tryz.underlying137 hi hz0 hz1 (by decide) hz2 (by decide) rfl _ d.length (itCells d) rfl HO.out.own _ 1 1 (itCells [((t,r),k)]) rfl rfl HRD.out (fun e=>by cases e) itCells_one (by omega) (Nat.zero_le _) ?_; intro p' c' w1 ho1 hg1 hf1; have hq1:=pushed_new HO.out HBel.out HNE.out ho1 hg1 hf1 hcw hl; have hc1:=hq1.1; have hc2:=hq1.2.1; have HQ1:=Hi hq1.2.2; clear hq1 ho1 hg1 hf1 hc hf)
 all_goals
  go_end0
  exact HQ1.out w1 (Below.refl _ _)
def Popped (c g cap:Nat) (d:List Qm.It) (w:World) (e:Ending) (w':World):Prop :=
 e=.returned (.iface 115 (.agg #[.int .i64 (Qm.itAt d (d.length - 1)).1.1,.int .i64 (Qm.itAt d (d.length - 1)).1.2,.int .i64 (Qm.itAt d (d.length - 1)).2]))∧HR w' c g cap (d.take (d.length - 1))∧Turns (fun k=>k=c) w w'
theorem HR.cap {w:World} {c g cap:Nat} {d:List Qm.It} (h:HR w c g cap d):d.length≤cap:=by
 obtain ⟨p,c',e,-,h1,-⟩:=own_rd h.own
 cases e
 exact h1
theorem popped_new {c g cap m:Nat} {d:List Qm.It} {w:World} (h:HR w c g cap d) (hm:d.length=m+1) :
  HR (w.setCell ⟨c,0,none⟩ (.slice (some ⟨g,0,none⟩) m cap)) c g cap (d.take (d.length - 1)):=by
 have hl:(d.take (d.length - 1)).length=m:=by rw [List.length_take]; omega
 have ho:=own_take h.own m (by omega)
 rw [itCells_take] at ho
 refine ⟨?_,by simpa using h.free,h.ne,?_,by rw [hl]; have:=h.len; omega⟩
 ·rw [hl]; exact qcell_same h.cell
 ·rw [hl,hm,Nat.add_sub_cancel]
  exact (turns_set c w 0 _).own ho fun g' hg' e=>by cases hg'; exact h.ne e.symm
theorem ipop_any (c g cap:Nat) (d:List Qm.It) (w:World) (h:HR w c g cap d) (h0:0<d.length) :
  Calls Tryz.prog 147 #[.pointer (some ⟨c,0,none⟩)] w (Popped c g cap d w):=by
 obtain ⟨m,hm⟩:∃ m:Nat,d.length=m+1:=⟨d.length - 1,by omega⟩
 have hc:=h.cell
 have hf:=h.free
 have hcw:c<w.heap.size:=h.lt.1
 have hgw:g<w.heap.size:=h.lt.2
 obtain ⟨i0,i1,i2⟩:=h.at m (by omega)
 have hml:m<d.length:=by omega
 have hm2:m≤2000:=by have:=h.len; omega
 have hl2:=h.len
 have hcap:m≤cap:=by have:=h.cap; omega
 have HN:=Hi (popped_new h hm)
 have HX:=Hi (show d.length - 1=m from by omega)
 have hn1:(d.length:Int) - 1=(m:Int):=by omega
 clear h hm h0
 unfold Popped
 rw [HX.out]
 rw [HX.out] at HN
 generalize Qm.itAt d m=x at *
 obtain ⟨⟨t,r⟩,k⟩:=x
 dsimp only at *
 go_enter Tryz.func147,Tryz.ntmps147
 go_wp2
 go_ret
 exact ⟨rfl,HN.out.below ((Below.refl _ _).alloc (Nat.le_refl _) _),(turns_set c w 0 _).trans (Turns.of_below ((Below.refl _ _).alloc (Nat.le_refl _) _))⟩
open Go.RowKit
def inRow (p:Option Addr) (k:Nat):Prop:=∃ a,p=some a∧a.block=k
def Inited (c:Nat) (p:Option Addr) (cap:Nat) (d:List Qm.It) (w:World) (e:Ending) (w':World):Prop :=
 e=.returned (.tuple #[])∧∃ d',HQ w' c p cap d'∧d'.Perm d∧Qm.HeapF d' d'.length 0∧Turns (inRow p) w w'
theorem init_any (c:Nat) (p:Option Addr) (cap:Nat) (d:List Qm.It) (w:World) (h:HQ w c p cap d) :
  Calls Tryz.prog 79 #[.iface 140 (.pointer (some ⟨c,0,none⟩))] w (Inited c p cap d w):=by
 have ml:=meth_len h.cell
 have hl2:=h.len
 by_cases h2:d.length<2
 ·have HE:=Hi (show Inited c p cap d w (.returned (.tuple #[])) w from ⟨rfl,d,h,List.Perm.refl _,Qm.HeapF.none (by omega),Turns.refl _ _⟩)
  have hq:(d.length:Int) / 2 - 1 = -1:=by omega
  have hq2:(d.length:Int) / 2=0:=by omega
  have HL:=Hi (fun W=>qitems_len p d.length cap W)
  clear h
  go_enter Tryz.func79,Tryz.ntmps79
  go_wp2_with fail
  refine (HL.out _).mono ?_
  rintro e w1 ⟨rfl,rfl⟩
  go_wp2
  refine wp_loop_rounds 1 ?_
  rw [rounds_succ]
  go_wp2
  go_end0
  exact HE.out
 ·obtain ⟨g,rfl,hr⟩:=h.hr (by omega)
  obtain ⟨s,hs⟩:∃ s:Nat,s=d.length / 2:=⟨_,rfl⟩
  have hq2:(d.length:Int) / 2=(s:Int):=by omega
  have hs1:1≤s:=by omega
  have hs2:s≤2000:=by omega
  have HS:=Hi (show HR w c g cap d∧d.Perm d∧Qm.HeapF d d.length s∧Turns (fun k=>k=g) w w from ⟨hr,List.Perm.refl _,Qm.HeapF.none (by omega),Turns.refl _ _⟩)
  have HSD:=Hi hs
  have HL:=Hi (fun W=>qitems_len (some ⟨g,0,none⟩) d.length cap W)
  clear h hr hs
  go_enter Tryz.func79,Tryz.ntmps79
  go_wp2_with fail
  refine (HL.out _).mono ?_
  rintro e w1 ⟨rfl,rfl⟩
  clear ml
  go_wp2
  go_loopw [3] (fun x wr=>∃ (i:Int) (d':List Qm.It),x=.int .i64 i∧-1≤i∧i<(s:Int)∧(HR wr c g cap d'∧d'.Perm d∧Qm.HeapF d' d.length (i+1).toNat∧Turns (fun k=>k=g) w wr)) (fun x _=>((intOf x)+1).toNat)
  case atStart=>exact ⟨(s:Int) - 1,d,rfl,by omega,by omega,by rw [show ((s:Int) - 1+1).toNat=s from by omega]; exact HS.out⟩
  case round =>
   obtain ⟨i,d',rfl,hi1,hi2,hR⟩:=hrel
   have HR0:=Hi hR
   clear hR
   by_cases h0:0≤i
   ·obtain ⟨m,rfl⟩:∃ m:Nat,i=(m:Int):=⟨i.toNat,by omega⟩
    have hm:m<s:=by omega
    have hm2:2 * m+1<d.length:=by have:=HSD.out; omega
    have D:=down_any c g cap d' m d.length wr HR0.out.1 (by rw [HR0.out.2.1.length_eq]; exact Nat.le_refl _) (by omega) (Qm.DownI.init (by have:=HR0.out.2.2.1; rwa [show ((m:Int)+1).toNat=m+1 from by omega] at this))
    have HD:=Hi D
    clear D hi1 h0
    go_wp2_with fail
    refine HD.out.mono ?_
    rintro e w2 ⟨b,d2,rfl,q1,q2,-,q4,q5⟩
    have HR2:=Hi (show HR w2 c g cap d2∧d2.Perm d∧Qm.HeapF d2 d.length m∧Turns (fun k=>k=g) w w2 from ⟨q1,q2.trans HR0.out.2.1,q4,turns_more HR0.out.2.2.2 q5⟩)
    clear q1 q2 q4 q5
    go_wp2
    go_roundw
    case rel=>exact ⟨(m:Int) - 1,d2,rfl,by omega,by omega,by rw [show ((m:Int) - 1+1).toNat=m from by omega]; exact HR2.out⟩
    case measure=>simp [intOf]
   ·obtain rfl:i = -1:=by omega
    go_wp2
    go_end0
    refine ⟨rfl,d',HR0.out.1.hq,HR0.out.2.1,?_,HR0.out.2.2.2.mono fun k _ hk=>⟨_,rfl,hk.symm⟩⟩
    rw [HR0.out.2.1.length_eq]
    exact HR0.out.2.2.1
def HPushed (c:Nat) (p:Option Addr) (d:List Qm.It) (w:World) (e:Ending) (w':World):Prop :=
 e=.returned (.tuple #[])∧∃ p' cap' d',HQ w' c p' cap' d'∧d'.Perm d∧Qm.HeapF d' d'.length 0∧Turns (fun k=>k=c∨inRow p k) w w'∧(∀ a,p'=some a→p=some a∨(w.heap.size≤a.block∧a.block<w'.heap.size))
theorem hpush_any (c:Nat) (p:Option Addr) (cap:Nat) (d:List Qm.It) (t r k:Int) (w:World) (h:HQ w c p cap d) (hd:Qm.HeapF d d.length 0) (hl:d.length<2000) :
  Calls Tryz.prog 103 #[.iface 140 (.pointer (some ⟨c,0,none⟩)),.iface 115 (.agg #[.int .i64 t,.int .i64 r,.int .i64 k])] w (HPushed c p (d ++ [((t,r),k)]) w):=by
 have mp:=meth_push c w
 have HP:=Hi (ipush_any c p cap d t r k w h hl)
 have HD:=Hi hd
 have hln:(d ++ [((t,r),k)]).length=d.length+1:=by simp
 have hit:Qm.HeapF (d ++ [((t,r),k)]) d.length 0:=hd.congr fun j hj=>Qm.itAt_append hj
 have HI:=Hi (Qm.UpI.start hit)
 clear h hd hit
 generalize d ++ [((t,r),k)]=D at *
 have HLN:=Hi hln
 clear hln
 go_enter Tryz.func103,Tryz.ntmps103
 go_wp2_with fail
 refine HP.out.mono ?_
 rintro e w1 ⟨rfl,p1,cap1,hq,ht,hp⟩
 obtain ⟨g,rfl,hr⟩:=hq.hr (by have:=HLN.out; omega)
 have ml:=meth_len hr.cell
 have HL:=Hi (fun W=>qitems_len (some ⟨g,0,none⟩) D.length cap1 W)
 have hl1:(D.length:Int) - 1=(d.length:Int):=by have:=HLN.out; omega
 have HU1:=Hi (up_any c g cap1 D d.length w1 hr (by have:=HLN.out; omega) (by rw [HLN.out]; exact HI.out))
 have HT:=Hi ht
 have HPP:=Hi hp
 have hlD:D.length≤2000:=hr.len
 clear hq hr ht hp mp
 go_wp2_with fail
 refine (HL.out _).mono ?_
 rintro e w2 ⟨rfl,rfl⟩
 go_wp2_with fail
 refine HU1.out.mono ?_
 rintro e w3 ⟨rfl,d',q1,q2,q3,q4⟩
 have HE:=Hi (show HPushed c p D w (.returned (.tuple #[])) w3 from ⟨rfl,_,_,d',q1.hq,q2,q3,HT.out.trans (q4.mono fun j _ hj=>by
   subst hj
   rcases HPP.out _ rfl with h1 | h1
   ·exact Or.inl (Or.inr ⟨_,h1,rfl⟩)
   ·exact Or.inr h1),fun a ha=>by
   rcases HPP.out a ha with h1 | h1
   ·exact Or.inl h1
   ·cases ha; exact Or.inr ⟨h1,q1.lt.2⟩⟩)
 clear q1 q2 q3 q4
 go_wp2
 go_end0
 exact HE.out
def HPopped (c g cap:Nat) (d:List Qm.It) (w:World) (e:Ending) (w':World):Prop :=
 e=.returned (.iface 115 (.agg #[.int .i64 (Qm.itAt d 0).1.1,.int .i64 (Qm.itAt d 0).1.2,.int .i64 (Qm.itAt d 0).2]))∧∃ d',HQ w' c (some ⟨g,0,none⟩) cap d'∧(Qm.itAt d 0 :: d').Perm d∧Qm.HeapF d' d'.length 0∧Turns (fun k=>k=c∨k=g) w w'
theorem down_start {d:List Qm.It} {n:Nat} (hd:Qm.HeapF d d.length 0) (hn:d.length=n+1):Qm.DownI (Qm.sw d 0 n) n 0 0:=by
 have A:=Qm.sw_at (d:=d) (i:=0) (j:=n) (by omega) (by omega)
 refine ⟨fun k h0 hk _ hne=>?_,fun k _ _ _ h0 _=>absurd h0 (Nat.lt_irrefl 0)⟩
 rw [A k,A ((k - 1) / 2),if_neg (by omega),if_neg (by omega),if_neg (by omega),if_neg hne]
 exact hd k h0 (by omega) (Nat.zero_le _)
theorem pop_perm {d d2:List Qm.It} {n:Nat} (hn:d.length=n+1) (hp:d2.Perm (Qm.sw d 0 n)) (ht:Qm.itAt d2 n=Qm.itAt (Qm.sw d 0 n) n):d2.length=n+1∧Qm.itAt d2 n=Qm.itAt d 0∧(Qm.itAt d 0 :: d2.take n).Perm d:=by
 have hl:d2.length=n+1:=by rw [hp.length_eq,Qm.sw_length]; exact hn
 have hi:Qm.itAt d2 n=Qm.itAt d 0:=by rw [ht,Qm.sw_at (by omega) (by omega),if_pos rfl]
 have hd:=Qm.take_last d2 (by omega)
 rw [show d2.length - 1=n from by omega,hi] at hd
 refine ⟨hl,hi,?_⟩
 have h1:(Qm.itAt d 0 :: d2.take n).Perm (d2.take n ++ [Qm.itAt d 0]):=(List.perm_append_comm (l₁:=[Qm.itAt d 0]) (l₂:=d2.take n))
 rw [hd] at h1
 exact h1.trans (hp.trans (Qm.sw_perm (by omega) (by omega)))
theorem hpop_any (c g cap:Nat) (d:List Qm.It) (w:World) (h:HR w c g cap d) (hd:Qm.HeapF d d.length 0) (h0:0<d.length) :
  Calls Tryz.prog 83 #[.iface 140 (.pointer (some ⟨c,0,none⟩))] w (HPopped c g cap d w):=by
 obtain ⟨n,hn⟩:∃ n:Nat,d.length=n+1:=⟨d.length - 1,by omega⟩
 have hn1:(d.length:Int) - 1=(n:Int):=by omega
 have hn2:n≤2000:=by have:=h.len; omega
 have ml:=meth_len h.cell
 have ms:=meth_swap h.cell
 have HL:=Hi (fun W=>qitems_len (some ⟨g,0,none⟩) d.length cap W)
 have HS:=Hi (swap_any c g cap d 0 n w h (by omega) (by omega))
 have HDS:=Hi (down_start hd hn)
 have HN:=Hi hn
 have hl2:=h.len
 clear h hd hn h0
 go_enter Tryz.func83,Tryz.ntmps83
 go_wp2_with fail
 refine (HL.out _).mono ?_
 rintro e w1 ⟨rfl,rfl⟩
 go_wp2_with fail
 refine HS.out.mono ?_
 rintro e w2 ⟨rfl,hr2,ht2⟩
 have HT2:=Hi ht2
 have HD:=Hi (down_any c g cap (Qm.sw d 0 n) 0 n w2 hr2 (by rw [Qm.sw_length]; have:=HN.out; omega) (Nat.zero_le _) HDS.out)
 clear hr2 ht2 ml ms
 go_wp2_with fail
 refine HD.out.mono ?_
 rintro e w3 ⟨b,d2,rfl,q1,q2,q3,q4,q5⟩
 obtain ⟨p1,p2,p3⟩:=pop_perm HN.out q2 (q3 n (Nat.le_refl _))
 have mp:=meth_pop c w3
 have P:=ipop_any c g cap d2 w3 q1 (by omega)
 unfold Popped at P
 rw [show d2.length - 1=n from by omega,p2] at P
 have HP:=Hi P
 have HT3:=Hi (turns_more HT2.out q5)
 have HF:=Hi (show Qm.HeapF (d2.take n) (d2.take n).length 0 by
  rw [List.length_take,Nat.min_eq_left (by omega)]
  exact q4.congr fun k hk=>Qm.itAt_take hk)
 have HPM:=Hi p3
 clear q1 q2 q3 q4 q5 p1 p2 p3 P
 go_wp2_with fail
 refine HP.out.mono ?_
 rintro e w4 ⟨rfl,hr4,ht4⟩
 have HE:=Hi (show HPopped c g cap d w _ w4 from ⟨rfl,d2.take n,hr4.hq,HPM.out,HF.out,(HT3.out.mono fun k _ hk=>Or.inr hk).trans (ht4.mono fun k _ hk=>Or.inl (Or.inl hk))⟩)
 clear hr4 ht4
 go_wp2
 go_ret
 exact HE.out
open Go.RowKit
def QO (w:World) (q:Nat) (F:Nat→Prop) (l:List Qm.It):Prop :=
 ∃ c p cap d,w.cell? ⟨q,0,none⟩=some (.pointer (some ⟨c,0,none⟩))∧q≠c∧(∀ a,p=some a→a.block≠q)∧HQ w c p cap d∧Qm.HeapF d d.length 0∧d.Perm l∧F q∧F c∧∀ k,inRow p k→F k
theorem QO.mono {w:World} {q:Nat} {F G:Nat→Prop} {l:List Qm.It} (h:QO w q F l) (hm:∀ k,F k→G k):QO w q G l:=by
 obtain ⟨c,p,cap,d,h1,h2,h3,h4,h5,h6,h7,h8,h9⟩:=h
 exact ⟨c,p,cap,d,h1,h2,h3,h4,h5,h6,hm _ h7,hm _ h8,fun k hk=>hm _ (h9 k hk)⟩
theorem QO.perm {w:World} {q:Nat} {F:Nat→Prop} {l m:List Qm.It} (h:QO w q F l) (hp:l.Perm m):QO w q F m:=by
 obtain ⟨c,p,cap,d,h1,h2,h3,h4,h5,h6,h7⟩:=h
 exact ⟨c,p,cap,d,h1,h2,h3,h4,h5,h6.trans hp,h7⟩
theorem QO.turns {w w':World} {q:Nat} {F G:Nat→Prop} {l:List Qm.It} (h:QO w q F l) (ht:Turns G w w') (hd:∀ k,F k→¬ G k):QO w' q F l:=by
 obtain ⟨c,p,cap,d,h1,h2,h3,h4,h5,h6,h7,h8,h9⟩:=h
 exact ⟨c,p,cap,d,ht.cell h1 (hd _ h7),h2,h3,h4.turns ht (hd _ h8) (fun a ha=>hd _ (h9 _ ⟨a,ha,rfl⟩)),h5,h6,h7,h8,h9⟩
theorem QO.below {w w':World} {q:Nat} {F:Nat→Prop} {l:List Qm.It} (h:QO w q F l) (hb:Below w.heap.size w w'):QO w' q F l :=
 h.turns (G:=fun _=>False) (Turns.of_below hb) (fun _ _ h=>h)
theorem QO.len {w:World} {q:Nat} {F:Nat→Prop} {l:List Qm.It} (h:QO w q F l):l.length≤2000:=by
 obtain ⟨c,p,cap,d,h1,h2,h3,h4,h5,h6,-⟩:=h
 rw [← h6.length_eq]; exact h4.len
def ext (F:Nat→Prop) (w w':World) (k:Nat):Prop:=F k∨(w.heap.size≤k∧k<w'.heap.size)
theorem ours_yes (q c:Nat) (w:World) (h:w.cell? ⟨q,0,none⟩=some (.pointer (some ⟨c,0,none⟩))):Calls Tryz.prog 102 #[.pointer (some ⟨q,0,none⟩)] w fun e w'=>e=.returned (.bool true)∧w=w':=by
 go_enter Tryz.func102,Tryz.ntmps102
 go_wp2
 go_ret
 exact ⟨rfl,rfl⟩
theorem qlen_at (q c:Nat) (p:Option Addr) (n k:Nat) (w:World) (h:w.cell? ⟨q,0,none⟩=some (.pointer (some ⟨c,0,none⟩))) (hc:w.cell? ⟨c,0,none⟩=some (.slice p n k)) :
  Calls Tryz.prog 82 #[.pointer (some ⟨q,0,none⟩)] w fun e w'=>e=.returned (.int .i64 (n:Int))∧w=w':=by
 have HO:=Hi (ours_yes q c w h)
 have HL:=Hi (fun W=>qitems_len p n k W)
 go_enter Tryz.func82,Tryz.ntmps82
 go_wp2_with fail
 refine HO.out.mono ?_
 rintro e w1 ⟨rfl,rfl⟩
 go_wp2_with fail
 refine (HL.out _).mono ?_
 rintro e w1 ⟨rfl,rfl⟩
 go_wp2
 go_ret
 exact ⟨rfl,rfl⟩
def QPushed (q:Nat) (F:Nat→Prop) (l:List Qm.It) (w:World) (e:Ending) (w':World):Prop :=
 e=.returned (.int .i64 0)∧QO w' q (ext F w w') l∧Turns F w w'
theorem qpush_any (q:Nat) (F:Nat→Prop) (l:List Qm.It) (t r k:Int) (w:World) (h:QO w q F l) (hl:l.length<2000) :
  Calls Tryz.prog 81 #[.pointer (some ⟨q,0,none⟩),.agg #[.int .i64 t,.int .i64 r,.int .i64 k]] w (QPushed q F (((t,r),k) :: l) w):=by
 have hb:=(Below.refl w.heap.size w).alloc (Nat.le_refl _) (.cells #[.int .i64 t,.int .i64 r,.int .i64 k] 115)
 have h':=h.below hb
 obtain ⟨c,p,cap,d,h1,h2,h3,h4,h5,h6,h7,h8,h9⟩:=h'
 have hdl:d.length<2000:=by rw [h6.length_eq]; exact hl
 have HO:=Hi (ours_yes q c _ h1)
 have HL:=Hi (qlen_at q c p d.length cap _ h1 h4.cell)
 have hq0:=h1
 have HB:=Hi hb
 have HP:=Hi (fun W (hW:Below (w.alloc (.cells #[.int .i64 t,.int .i64 r,.int .i64 k] 115)).heap.size (w.alloc (.cells #[.int .i64 t,.int .i64 r,.int .i64 k] 115)) W)=>hpush_any c p cap d t r k W (h4.below hW) h5 hdl)
 have HE:=Hi (show ∀ W,Below (w.alloc (.cells #[.int .i64 t,.int .i64 r,.int .i64 k] 115)).heap.size (w.alloc (.cells #[.int .i64 t,.int .i64 r,.int .i64 k] 115)) W→∀ e w',HPushed c p (d ++ [((t,r),k)]) W e w'→QPushed q F (((t,r),k) :: l) w (.returned (.int .i64 0)) w' from by
  rintro W hW e w' ⟨-,p',cap',d',k1,k2,k3,k4,k5⟩
  have hbW:Below w.heap.size w W:=hb.trans (hW.mono (by simp))
  refine ⟨rfl,⟨c,p',cap',d',k4.cell (by rw [hW.cell (cell_lt h1)]; exact h1) ?_,h2,fun a ha=>?_,k1,k3,?_,Or.inl h7,Or.inl h8,?_⟩,(Turns.of_below hbW).trans (k4.mono fun j _ hj=>Or.inl ?_)⟩
  ·rintro (e | ⟨a,ha,e⟩)
   ·exact h2 e
   ·exact h3 a ha e
  ·rcases k5 a ha with h | h
   ·exact h3 a h
   ·have:=cell_lt h1
    have:=hW.size
    simp at *
    omega
  ·refine k2.trans ?_
   exact (List.perm_append_comm (l₁:=d) (l₂:=[((t,r),k)])).trans (h6.cons _)
  ·rintro j ⟨a,ha,rfl⟩
   rcases k5 a ha with h | h
   ·exact Or.inl (h9 _ ⟨a,h,rfl⟩)
   ·exact Or.inr ⟨Nat.le_trans hbW.size h.1,h.2⟩
  ·rcases hj with rfl | hj
   ·exact h8
   ·exact h9 _ hj)
 have hd3:decide (1048576≤(d.length:Int))=false:=decide_eq_false (by omega)
 clear h hb h1 h2 h3 h4 h5 h6 h7 h8 h9
 go_enter Tryz.func81,Tryz.ntmps81
 go_wp2_with fail
 refine HO.out.mono ?_
 rintro e w1 ⟨rfl,rfl⟩
 go_wp2_with fail
 refine HL.out.mono ?_
 rintro e w1 ⟨rfl,rfl⟩
 go_wp2
 go_region_with (go_at_call 103; refine (HP.out _ (Below.refl _ _).drew).mono ?_; intro e w' hpp; have hE:=HE.out _ (Below.refl _ _).drew e w' hpp; have hee:=hpp.1; subst hee; clear hpp)
 all_goals
  have HE2:=Hi hE
  clear hE
  go_wp2
  go_ret
  exact HE2.out
open Go.RowKit
def Cloned (l:List Qm.It) (w:World) (e:Ending) (w':World):Prop :=
 ∃ p' c',e=.returned (.slice p' l.length c')∧w'.ownsRow w.heap.size 115 3 (.slice p' l.length c') l.length (itCells l)∧Below w.heap.size w w'
theorem qclone_any (p:Option Addr) (cap:Nat) (l:List Qm.It) (w:World) (h:Rd w p (itCells l)) (hpn:p=none→cap=0) (hl:l.length≤2000) :
  Calls Tryz.prog 78 #[.slice p l.length cap] w (Cloned l w):=by
 obtain ⟨i0,hi,hz0,hz1,hz2⟩:=info_parts info_item
 have qT:∀ (w:World) (a:Option Addr) (n c n' c':Nat),(binOp .eql 136 (.slice a n c) (.slice none n' c')).run Tryz.prog w=.ok (.bool a.isNone) w:=fun w a n c n' c'=>Lib.run_eql_slice_nil w _ _ a n c n' c' Tryz.underlying136
 cases p with
 | none =>
  have h0:l=[]:=by
   cases l with
   | nil=>rfl
   | cons a l =>
    obtain ⟨b,o,e,-⟩:=h (by rw [itCells_length]; simp)
    cases e
  subst h0
  have HE:=Hi (show Cloned [] w (.returned (.slice none 0 0)) w from ⟨none,0,rfl,World.ownsRow_nil _ _ _ _,Below.refl _ _⟩)
  clear h hpn
  go_enter Tryz.func78,Tryz.ntmps78
  go_wp2
  go_ret
  exact HE.out
 | some a =>
  have hb:Below w.heap.size w (w.alloc (.cells #[] 115)):=(Below.refl _ _).alloc (Nat.le_refl _) _
  have HR:=Hi (h.below hb)
  have HB:=Hi hb
  have HO:=Hi (World.ownsRow_lit (base:=w.heap.size) (e:=115) (size:=3) w #[] 0 (Nat.le_refl _) (by simp [maxLen]) (by simp))
  clear h hb hpn
  go_enter Tryz.func78,Tryz.ntmps78
  go_wp2_with (at_builtin; refine wpList_append_k rfl _ _ 136 rfl w.heap.size 115 i0 _ 3 24 Tryz.underlying136 hi hz0 hz1 (by decide) hz2 (by decide) rfl _ 0 [] rfl HO.out _ l.length cap (itCells l) rfl (itCells_length l) HR.out (fun e=>by cases e) itCells_one (by omega) (by simp) ?_)
  intro p' c' w1 ho1 hg1 _
  have hbw:=HB.out.grown hg1 (by simp) (fun k hk=>by cases hk; exact Nat.le_refl _)
  have HE:=Hi (show Cloned l w (.returned (.slice p' l.length c')) w1 from ⟨p',c',rfl,by simpa using ho1,hbw⟩)
  clear ho1 hg1 hbw
  go_wp2
  go_ret
  exact HE.out
def Newed (l:List Qm.It) (w:World) (e:Ending) (w':World):Prop :=
 ∃ q,e=.returned (.pointer (some ⟨q,0,none⟩))∧QO w' q (fun k=>w.heap.size≤k∧k<w'.heap.size) l∧Below w.heap.size w w'
theorem new_any (p:Option Addr) (cap:Nat) (l:List Qm.It) (w:World) (h:Rd w p (itCells l)) (hpn:p=none→cap=0) (hl:l.length≤2000) (hcap:l.length≤cap) :
  Calls Tryz.prog 58 #[.slice p l.length cap] w (Newed l w):=by
 have HC:=Hi (qclone_any p cap l w h hpn hl)
 have hmin:min (l.length:Int) 1048576=(l.length:Int):=by omega
 have hd:decide ((l.length:Int)<1048576)=true:=decide_eq_true (by omega)
 clear h hpn
 go_enter Tryz.func58,Tryz.ntmps58
 go_wp2_with fail
 refine HC.out.mono ?_
 rintro e w1 ⟨p1,c1,rfl,ho,hb⟩
 have hq:HQ (w1.alloc (.cells #[.slice p1 l.length c1] 137)) w1.heap.size p1 c1 l:=by
  have hlt:=World.ownsRow.lt ho
  refine ⟨World.cell?_alloc_at _ _ _ _ rfl,World.frozen?_alloc_at _ _ _ _ rfl,(own_base ho fun _ _=>Nat.zero_le _).alloc _,fun a ha e=>?_,hl⟩
  have:=(hlt a.block (by rw [ha]; rfl)).2
  omega
 have HI:=Hi (init_any w1.heap.size p1 c1 l _ hq)
 have HN:=Hi (show ∀ a,p1=some a→w.heap.size≤a.block∧a.block<w1.heap.size from fun a ha=>World.ownsRow.lt ho a.block (by rw [ha]; rfl))
 have HB:=Hi (hb.alloc hb.size (.cells #[.slice p1 l.length c1] 137))
 have HS:=Hi hb.size
 clear ho hb hq
 go_wp2_with fail
 refine HI.out.mono ?_
 rintro e w2 ⟨rfl,d,hq,hp,hf,ht⟩
 have hsz:=ht.size
 simp only [World.size_alloc] at hsz
 have HE:=Hi (show Newed l w (.returned (.pointer (some ⟨w2.heap.size,0,none⟩))) (w2.alloc (.cells #[.pointer (some ⟨w1.heap.size,0,none⟩)] 142)) by
  have h1:=HS.out
  have hb2:Below w.heap.size w w2:=HB.out.trans (ht.below (fun k _ ⟨a,ha,e⟩=>by have:=(HN.out a ha).1; omega) (by simp; omega))
  refine ⟨w2.heap.size,rfl,⟨w1.heap.size,p1,c1,d,World.cell?_alloc_at _ _ _ _ rfl,by omega,fun a ha=>?_,hq.below ((Below.refl _ _).alloc (Nat.le_refl _) _),hf,hp,?_,?_,?_⟩,hb2.alloc hb2.size _⟩
  ·have:=(HN.out a ha).2; omega
  ·simp; omega
  ·simp; omega
  ·rintro k ⟨a,ha,rfl⟩
   have:=HN.out a ha
   simp; omega)
 clear hq hp hf ht hsz
 go_wp2
 go_ret
 exact HE.out
theorem res3 {W:World} {b:Nat} {u0 u1 u2:Value} (h0:W.cell? ⟨b,0,none⟩=some u0) (h1:W.cell? ⟨b,1,none⟩=some u1) (h2:W.cell? ⟨b,2,none⟩=some u2) (v0 v1 v2:Value) :
  (W.setCell ⟨b,0,none⟩ v0).cell? ⟨b,0,none⟩=some v0∧(W.setCell ⟨b,0,none⟩ v0).cell? ⟨b,1,none⟩=some u1∧((W.setCell ⟨b,0,none⟩ v0).setCell ⟨b,1,none⟩ v1).cell? ⟨b,2,none⟩=some u2 ∧
  (((W.setCell ⟨b,0,none⟩ v0).setCell ⟨b,1,none⟩ v1).setCell ⟨b,2,none⟩ v2).cell? ⟨b,0,none⟩=some v0∧(((W.setCell ⟨b,0,none⟩ v0).setCell ⟨b,1,none⟩ v1).setCell ⟨b,2,none⟩ v2).cell? ⟨b,1,none⟩=some v1 ∧
  (((W.setCell ⟨b,0,none⟩ v0).setCell ⟨b,1,none⟩ v1).setCell ⟨b,2,none⟩ v2).cell? ⟨b,2,none⟩=some v2:=by
 have k0:(W.setCell ⟨b,0,none⟩ v0).cell? ⟨b,0,none⟩=some v0:=qcell_same h0
 have k1:(W.setCell ⟨b,0,none⟩ v0).cell? ⟨b,1,none⟩=some u1:=by rw [qcell_other (by simp)]; exact h1
 have k2:((W.setCell ⟨b,0,none⟩ v0).setCell ⟨b,1,none⟩ v1).cell? ⟨b,2,none⟩=some u2:=by rw [qcell_other (by simp),qcell_other (by simp)]; exact h2
 refine ⟨k0,k1,k2,?_,?_,qcell_same k2⟩
 ·rw [qcell_other (by simp),qcell_other (by simp)]; exact k0
 ·rw [qcell_other (by simp)]; exact qcell_same k1
def put3 (W:World) (b:Nat) (v0 v1 v2:Value):World:=((W.setCell ⟨b,0,none⟩ v0).setCell ⟨b,1,none⟩ v1).setCell ⟨b,2,none⟩ v2
theorem put3_turns (W:World) (b:Nat) (v0 v1 v2:Value):Turns (fun k=>k=b) W (put3 W b v0 v1 v2):=by
 have tr:∀ {a b' c:World},Turns (fun k=>k=b) a b'→Turns (fun k=>k=b) b' c→Turns (fun k=>k=b) a c:=fun h k=>h.trans (k.mono fun _ _ h=>Or.inl h)
 exact tr (tr (turns_set b W 0 v0) (turns_set b _ 1 v1)) (turns_set b _ 2 v2)
def itB (x:Qm.It) (b:Bool):Value:=.tuple #[.agg #[.int .i64 x.1.1,.int .i64 x.1.2,.int .i64 x.2],.bool b]
def QPopped (q:Nat) (F:Nat→Prop) (l:List Qm.It) (w:World) (e:Ending) (w':World):Prop :=
 ((l=[]∧e=.returned (itB ((0,0),0) false)∧QO w' q (ext F w w') []) ∨ ∃ x m,Qm.Least x l∧(x :: m).Perm l∧e=.returned (itB x true)∧QO w' q (ext F w w') m)∧Turns F w w'
theorem qpop_any (q:Nat) (F:Nat→Prop) (l:List Qm.It) (w:World) (h:QO w q F l):Calls Tryz.prog 61 #[.pointer (some ⟨q,0,none⟩)] w (QPopped q F l w):=by
 have hb:=(Below.refl w.heap.size w).alloc (Nat.le_refl _) (.cells #[.int .i64 0,.int .i64 0,.int .i64 0] 115)
 have h':=h.below hb
 have hsame:=h'
 obtain ⟨c,p,cap,d,h1,h2,h3,h4,h5,h6,h7,h8,h9⟩:=h'
 have HL:=Hi (qlen_at q c p d.length cap _ h1 h4.cell)
 have HB:=Hi hb
 by_cases h0:d.length=0
 ·have hl0:l=[]:=List.eq_nil_of_length_eq_zero (by rw [← h6.length_eq]; exact h0)
  subst hl0
  have HE:=Hi hsame
  rw [h0] at HL
  clear h hsame hb h1 h2 h3 h4 h5 h6 h7 h8 h9 h0
  go_enter Tryz.func61,Tryz.ntmps61
  go_wp2_with fail
  refine HL.out.mono ?_
  rintro e w1 ⟨rfl,rfl⟩
  go_wp2
  exact bodyPost_ret (v:=itB ((0,0),0) false) (by simp [results,Tryz.results61,go_sem,itB]) rfl ⟨Or.inl ⟨rfl,rfl,HE.out.mono fun _ hk=>Or.inl hk⟩,Turns.of_below HB.out⟩
 ·obtain ⟨g,rfl,hr⟩:=h4.hr (by omega)
  have hx:=(h5.least (by omega)).perm h6
  have hpos:0<d.length:=by omega
  have te:(((d.length:Nat):Int) == 0)=false:=by rw [beq_eq_false_iff_ne]; omega
  have hqq:=h1
  have HP:=Hi (hpop_any c g cap d _ hr h5 hpos)
  have hcw:c<w.heap.size:=by
   obtain ⟨c',p',cap',d',k1,k2,k3,k4,-⟩:=h
   have e:(w.alloc (.cells #[.int .i64 0,.int .i64 0,.int .i64 0] 115)).cell? ⟨q,0,none⟩=w.cell? ⟨q,0,none⟩:=hb.cell (cell_lt k1)
   rw [e,k1] at h1
   cases h1
   exact cell_lt k4.cell
  have hgw:g<w.heap.size:=by
   obtain ⟨c',p',cap',d',k1,k2,k3,k4,-⟩:=h
   have e:(w.alloc (.cells #[.int .i64 0,.int .i64 0,.int .i64 0] 115)).cell? ⟨q,0,none⟩=w.cell? ⟨q,0,none⟩:=hb.cell (cell_lt k1)
   rw [e,k1] at h1
   cases h1
   have e2:(w.alloc (.cells #[.int .i64 0,.int .i64 0,.int .i64 0] 115)).cell? ⟨c,0,none⟩=w.cell? ⟨c,0,none⟩:=hb.cell (cell_lt k4.cell)
   have k5:=hr.cell
   rw [e2,k4.cell] at k5
   simp only [Option.some.injEq,Value.slice.injEq] at k5
   obtain ⟨rfl,-,-⟩:=k5
   exact (World.ownsRow.lt k4.own g rfl).2
  have HFQ:=Hi h7
  have HFC:=Hi h8
  have HFG:=Hi (h9 g ⟨_,rfl,rfl⟩)
  have HQ1:=Hi (show q≠c∧q≠g∧q<w.heap.size from ⟨h2,fun e=>h3 _ rfl e.symm,by
   obtain ⟨c',p',cap',d',k1,-⟩:=h
   exact cell_lt k1⟩)
  have HPM:=Hi h6
  have HX:=Hi hx
  unfold HPopped at HP
  generalize Qm.itAt d 0=x at *
  obtain ⟨⟨t,r⟩,k⟩:=x
  dsimp only at *
  have z0:(w.alloc (.cells #[.int .i64 0,.int .i64 0,.int .i64 0] 115)).cell? ⟨w.heap.size,0,none⟩=some (.int .i64 0):=World.cell?_alloc_at _ _ _ _ rfl
  have z1:(w.alloc (.cells #[.int .i64 0,.int .i64 0,.int .i64 0] 115)).cell? ⟨w.heap.size,1,none⟩=some (.int .i64 0):=World.cell?_alloc_at _ _ _ _ rfl
  have z2:(w.alloc (.cells #[.int .i64 0,.int .i64 0,.int .i64 0] 115)).cell? ⟨w.heap.size,2,none⟩=some (.int .i64 0):=World.cell?_alloc_at _ _ _ _ rfl
  have zf:∀ o,(w.alloc (.cells #[.int .i64 0,.int .i64 0,.int .i64 0] 115)).frozen? ⟨w.heap.size,o,none⟩=false:=fun o=>World.frozen?_alloc_at _ _ _ _ rfl
  have HZ:=Hi (And.intro z0 (And.intro z1 (And.intro z2 zf)))
  have ta:=fun W=>assert_item (.int .i64 t) (.int .i64 r) (.int .i64 k) W
  have HCG:=Hi (And.intro hcw hgw)
  clear h hsame hb h1 h2 h3 h4 h5 h6 h7 h8 h9 hx h0 hr z0 z1 z2 zf hcw hgw
  go_enter Tryz.func61,Tryz.ntmps61
  go_wp2_with fail
  refine HL.out.mono ?_
  rintro e w1 ⟨rfl,rfl⟩
  go_wp2_with fail
  refine HP.out.mono ?_
  rintro e w2 ⟨rfl,d',hq2,hp2,hf2,ht2⟩
  obtain ⟨z0,z1,z2,zf⟩:=HZ.out
  have hnb:¬ (w.heap.size=c∨w.heap.size=g):=by have:=HCG.out; omega
  have y0:=ht2.cell z0 hnb
  have y1:=ht2.cell z1 hnb
  have y2:=ht2.cell z2 hnb
  have yf0:w2.frozen? ⟨w.heap.size,0,none⟩=false:=by rw [ht2.frozen (by simp) hnb]; exact zf 0
  have yf1:w2.frozen? ⟨w.heap.size,1,none⟩=false:=by rw [ht2.frozen (by simp) hnb]; exact zf 1
  have yf2:w2.frozen? ⟨w.heap.size,2,none⟩=false:=by rw [ht2.frozen (by simp) hnb]; exact zf 2
  obtain ⟨r0,r1,r2,r3,r4,r5⟩:=res3 y0 y1 y2 (.int .i64 t) (.int .i64 r) (.int .i64 k)
  have HE:=Hi (show QPopped q F l w (.returned (itB ((t,r),k) true)) (put3 w2 w.heap.size (.int .i64 t) (.int .i64 r) (.int .i64 k)) by
   have hT:Turns (fun k=>k=w.heap.size) w2 (put3 w2 w.heap.size (.int .i64 t) (.int .i64 r) (.int .i64 k)):=put3_turns _ _ _ _ _
   have hsz:=ht2.size
   simp only [World.size_alloc] at hsz
   refine ⟨Or.inr ⟨_,d',HX.out,hp2.trans HPM.out,rfl,c,some ⟨g,0,none⟩,cap,d',?_,HQ1.out.1,fun a ha=>by cases ha; exact fun e=>HQ1.out.2.1 e.symm,?_,hf2,List.Perm.refl _,Or.inl HFQ.out,Or.inl HFC.out,?_⟩,?_⟩
   ·exact hT.cell (ht2.cell hqq (show ¬ (q=c∨q=g) from by have:=HQ1.out; omega)) (by have:=HQ1.out; simp; omega)
   ·exact hq2.turns hT (by have:=HCG.out; simp; omega) (fun a ha=>by cases ha; have:=HCG.out; simp; omega)
   ·rintro j ⟨a,ha,rfl⟩; cases ha; exact Or.inl HFG.out
   ·refine (Turns.of_below HB.out).trans ((ht2.mono fun j _ hj=>Or.inl ?_).trans (hT.mono fun j _ hj=>Or.inl (Or.inr (by omega))))
    rcases hj with rfl | rfl
    ·exact HFC.out
    ·exact HFG.out)
  clear hq2 hp2 hf2 ht2 z0 z1 z2 zf hnb
  go_wp2
  exact bodyPost_ret (v:=itB ((t,r),k) true) (by simp [results,Tryz.results61,go_sem,itB,r3,r4,r5]) rfl HE.out
end Go.Proofs.YtfgnmnkihbgjnaaGreat
