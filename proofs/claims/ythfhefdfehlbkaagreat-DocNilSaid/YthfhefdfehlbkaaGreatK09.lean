/-
  THE GREATEST STAMP: slices.MaxFunc at stamps and stamp.Compare, and stamp.Max; lists of stamps in memory.
  No conditions.
  WHAT A LOG TELLS: a new one; Vector, Total, Waiting, Time.
  No conditions but sizes.
  WHAT A VECTOR LACKS: Since.
  No conditions but sizes.
-/
import Derived.Test.YthfhefdfehlbkaaGreatSh
import Derived.Test.YthfhefdfehlbkaaGreatK02
import Derived.Test.YthfhefdfehlbkaaGreatK08
set_option maxRecDepth 100000
set_option maxHeartbeats 8000000
namespace Go.Proofs.YthfhefdfehlbkaaGreat
open Go.RowKit
def stAt (l:List (Int × Int)) (i:Nat):Int × Int:=l.getD i (0,0)
def Stamps (w:World) (p:Option Addr) (l:List (Int × Int)):Prop :=
 0<l.length→∃ b o,p=some ⟨b,o,none⟩∧∀ i,i<l.length→w.cell? ⟨b,o+i * 2,none⟩=some (.int .i64 (stAt l i).1)∧w.cell? ⟨b,o+i * 2+1,none⟩=some (.int .i64 (stAt l i).2)
theorem Stamps.kept {w w':World} {p:Option Addr} {l:List (Int × Int)} (h:Stamps w p l) (hb:Below w.heap.size w w'):Stamps w' p l:=by
 intro h0
 obtain ⟨b,o,rfl,hc⟩:=h h0
 have hlt:b<w.heap.size:=cell_lt (hc 0 h0).1
 exact ⟨b,o,rfl,fun i hi=>⟨by rw [hb.cell (by simpa using hlt)]; exact (hc i hi).1,by rw [hb.cell (by simpa using hlt)]; exact (hc i hi).2⟩⟩
def maxS (m x:Int × Int):Int × Int:=if 0<cmpS x.1 x.2 m.1 m.2 then x else m
def maxL (l:List (Int × Int)) (k:Nat):Int × Int:=((l.take k).drop 1).foldl maxS (stAt l 0)
theorem maxL_one (l:List (Int × Int)):maxL l 1=stAt l 0:=by
 unfold maxL
 cases l <;> simp [stAt]
theorem maxL_succ (l:List (Int × Int)) (k:Nat) (h0:1≤k) (h:k<l.length):maxL l (k+1)=maxS (maxL l k) (stAt l k):=by
 unfold maxL
 rw [List.take_succ_eq_append_getElem h,List.drop_append_of_le_length (by simp; omega),List.foldl_append]
 simp [stAt,List.getD,List.getElem?_eq_getElem h]
theorem Stamps.cells {w:World} {b o:Nat} {l:List (Int × Int)} (h:Stamps w (some ⟨b,o,none⟩) l) (i:Nat) (hi:i<l.length):w.cell? ⟨b,o+i * 2,none⟩=some (.int .i64 (stAt l i).1)∧w.cell? ⟨b,o+i * 2+1,none⟩=some (.int .i64 (stAt l i).2):=by
 obtain ⟨b',o',e,hc⟩:=h (by omega)
 simp only [Option.some.injEq,Addr.mk.injEq] at e
 obtain ⟨rfl,rfl,-⟩:=e
 exact hc i hi
def MInv (w0:World) (m:Int × Int) (wr:World):Prop :=
 wr.cell? ⟨w0.heap.size+1,0,none⟩=some (.int .i64 m.1)∧wr.cell? ⟨w0.heap.size+1,1,none⟩=some (.int .i64 m.2)∧wr.frozen? ⟨w0.heap.size+1,0,none⟩=false∧wr.frozen? ⟨w0.heap.size+1,1,none⟩=false ∧
 wr.cell? ⟨w0.heap.size,0,none⟩=some (.int .i64 0)∧wr.cell? ⟨w0.heap.size,1,none⟩=some (.int .i64 0)∧wr.frozen? ⟨w0.heap.size,0,none⟩=false∧wr.frozen? ⟨w0.heap.size,1,none⟩=false∧Below w0.heap.size w0 wr
theorem MInv.kept {w0 wr w':World} {m:Int × Int} (h:MInv w0 m wr) (hb:Below wr.heap.size wr w'):MInv w0 m w':=by
 obtain ⟨m0,m1,r0,r1,z0,z1,y0,y1,h9⟩:=h
 have hs:w0.heap.size+1<wr.heap.size:=cell_lt m0
 have c:∀ o,w'.cell? ⟨w0.heap.size+1,o,none⟩=wr.cell? ⟨w0.heap.size+1,o,none⟩:=fun o=>hb.cell (by simpa using hs)
 have f:∀ o,w'.frozen? ⟨w0.heap.size+1,o,none⟩=wr.frozen? ⟨w0.heap.size+1,o,none⟩:=fun o=>hb.frozen (by simpa using hs)
 have c':∀ o,w'.cell? ⟨w0.heap.size,o,none⟩=wr.cell? ⟨w0.heap.size,o,none⟩:=fun o=>hb.cell (by simp; omega)
 have f':∀ o,w'.frozen? ⟨w0.heap.size,o,none⟩=wr.frozen? ⟨w0.heap.size,o,none⟩:=fun o=>hb.frozen (by simp; omega)
 exact ⟨by rw [c]; exact m0,by rw [c]; exact m1,by rw [f]; exact r0,by rw [f]; exact r1,by rw [c']; exact z0,by rw [c']; exact z1,by rw [f']; exact y0,by rw [f']; exact y1,h9.trans (hb.mono (by omega))⟩
theorem MInv.set {w0 wr:World} {m:Int × Int} (h:MInv w0 m wr) (x y:Int):MInv w0 (x,y) ((wr.setCell ⟨w0.heap.size+1,0,none⟩ (.int .i64 x)).setCell ⟨w0.heap.size+1,1,none⟩ (.int .i64 y)):=by
 obtain ⟨m0,m1,r0,r1,z0,z1,y0,y1,h9⟩:=h
 have hs:w0.heap.size+1<wr.heap.size:=cell_lt m0
 refine ⟨?_,?_,by simpa using r0,by simpa using r1,?_,?_,by simpa using y0,by simpa using y1,(h9.setCell (by simp) _).setCell (by simp) _⟩
 ·rw [cell_other (by simp)]; exact cell_same m0
 ·exact cell_same (by rw [cell_other (by simp)]; exact m1)
 ·rw [cell_other (by simp),cell_other (by simp)]; exact z0
 ·rw [cell_other (by simp),cell_other (by simp)]; exact z1
theorem MInv.start (w0:World) (m:Int × Int):MInv w0 m ((w0.alloc (.cells #[.int .i64 0,.int .i64 0] 35)).alloc (.cells #[.int .i64 m.1,.int .i64 m.2] 35)):=by
 refine ⟨?_,?_,?_,?_,?_,?_,?_,?_,((Below.refl _ _).alloc (Nat.le_refl _) _).alloc (by simp) _⟩
 ·rw [World.cell?_alloc_at _ _ _ _ (by simp)]; rfl
 ·rw [World.cell?_alloc_at _ _ _ _ (by simp)]; rfl
 ·rw [World.frozen?_alloc_at _ _ _ _ (by simp)]
 ·rw [World.frozen?_alloc_at _ _ _ _ (by simp)]
 ·rw [(Below.alloc (Below.refl _ _) (Nat.le_refl _) (.cells #[.int .i64 m.1,.int .i64 m.2] 35)).cell (by simp)]; rw [World.cell?_alloc_at _ _ _ _ rfl]; rfl
 ·rw [(Below.alloc (Below.refl _ _) (Nat.le_refl _) (.cells #[.int .i64 m.1,.int .i64 m.2] 35)).cell (by simp)]; rw [World.cell?_alloc_at _ _ _ _ rfl]; rfl
 ·rw [(Below.alloc (Below.refl _ _) (Nat.le_refl _) (.cells #[.int .i64 m.1,.int .i64 m.2] 35)).frozen (by simp)]; rw [World.frozen?_alloc_at _ _ _ _ rfl]
 ·rw [(Below.alloc (Below.refl _ _) (Nat.le_refl _) (.cells #[.int .i64 m.1,.int .i64 m.2] 35)).frozen (by simp)]; rw [World.frozen?_alloc_at _ _ _ _ rfl]
theorem maxFunc_any (p:Option Addr) (c:Nat) (l:List (Int × Int)) (w:World) (h:Stamps w p l) (h0:0<l.length) (hl:l.length≤4611686018427387904) :
  Calls Tryz.prog 275 #[.slice p l.length c,.func (.func 168) #[] #[]] w fun e w'=>e=.returned (.agg #[.int .i64 (maxL l l.length).1,.int .i64 (maxL l l.length).2])∧Below w.heap.size w w':=by
 obtain ⟨b,o,rfl,-⟩:=h h0
 have HS:=Hi h
 obtain ⟨c0,c1⟩:=h.cells 0 h0
 rw [Nat.zero_mul,Nat.add_zero] at c0 c1
 have hblt:b<w.heap.size:=cell_lt c0
 have HI:=Hi (MInv.start w (stAt l 0))
 rw [← maxL_one l] at HI
 clear h
 go_enter Tryz.func275,Tryz.ntmps275
 go_wp2
 go_loopw [6] (fun i wr=>∃ k:Nat,1≤k∧k≤l.length∧i=.int .i64 k∧MInv w (maxL l k) wr) (fun i _=>l.length - (intOf i).toNat)
 case atStart=>exact ⟨1,Nat.le_refl _,h0,rfl,by rw [maxL_one] at HI ⊢; exact HI.out⟩
 case round =>
  obtain ⟨k,hk1,hk,rfl,hI⟩:=hrel
  have HI2:=Hi hI
  obtain ⟨m0,m1,r0,r1,z0,z1,y0,y1,hb⟩:=hI
  have hs:w.heap.size+1<wr.heap.size:=cell_lt m0
  by_cases hlt:k<l.length
  ·have HM:=Hi (maxL_succ l k hk1 hlt)
   obtain ⟨x0,x1⟩:=HS.out.cells k hlt
   rw [← hb.cell (p:=⟨b,o+k * 2,none⟩) (by simpa using hblt)] at x0
   rw [← hb.cell (p:=⟨b,o+k * 2+1,none⟩) (by simpa using hblt)] at x1
   have hx:wr.cell? ⟨b,o+k * 2,none⟩=some (.int .i64 (stAt l k).1)∧wr.cell? ⟨b,o+k * 2+1,none⟩=some (.int .i64 (stAt l k).2):=⟨x0,x1⟩
   have HX:=Hi hx
   clear c0 c1 hb HI hx
   generalize hm:maxL l k=m at *
   generalize stAt l k=x at *
   obtain ⟨mx,my⟩:=m
   obtain ⟨xx,xy⟩:=x
   dsimp only at *
   have hC:=fun W=>compare_any xx xy mx my W
   by_cases hgt:0<cmpS xx xy mx my
   ·have HG:=Hi (show maxS (mx,my) (xx,xy)=(xx,xy) from if_pos hgt)
    generalize cmpS xx xy mx my=v at *
    have HCH:=Hi hC
    clear hC hm
    go_wp2
    go_region_with (go_at_call 168; refine (HCH.out _).mono ?_; rintro e w' ⟨rfl,hbc⟩)
    all_goals
     have hbw:Below wr.heap.size wr w':=(Below.refl wr.heap.size wr).drew.trans hbc
     have HI3:=Hi (HI2.out.kept hbw)
     obtain ⟨n0,n1,s0,s1,-⟩:=HI2.out.kept hbw
     obtain ⟨x2,x3⟩:=HX.out
     rw [← hbw.cell (p:=⟨b,o+k * 2,none⟩) (by simp; omega)] at x2
     rw [← hbw.cell (p:=⟨b,o+k * 2+1,none⟩) (by simp; omega)] at x3
     clear hbc hbw x0 x1 m0 m1 r0 r1 z0 z1 y0 y1
     go_wp2
     go_roundw
     case rel =>
      refine ⟨k+1,by omega,by omega,by go_num,?_⟩
      rw [HM.out,HG.out]
      exact HI3.out.set xx xy
     case measure=>simp [intOf]; omega
   ·have HG:=Hi (show maxS (mx,my) (xx,xy)=(mx,my) from if_neg hgt)
    generalize cmpS xx xy mx my=v at *
    have dg:decide (0<v)=false:=decide_eq_false hgt
    have HCH:=Hi hC
    clear hC hm
    go_wp2
    go_region_with (go_at_call 168; refine (HCH.out _).mono ?_; rintro e w' ⟨rfl,hbc⟩)
    all_goals
     have hbw:Below wr.heap.size wr w':=(Below.refl wr.heap.size wr).drew.trans hbc
     have HI3:=Hi (HI2.out.kept hbw)
     clear hbc hbw x0 x1 m0 m1 r0 r1 z0 z1 y0 y1
     go_wp2
     go_roundw
     case rel =>
      refine ⟨k+1,by omega,by omega,by go_num,?_⟩
      rw [HM.out,HG.out]
      exact HI3.out
     case measure=>simp [intOf]; omega
  ·obtain rfl:k=l.length:=by omega
   have q0:(wr.setCell ⟨w.heap.size,0,none⟩ (.int .i64 (maxL l l.length).1)).cell? ⟨w.heap.size,0,none⟩=some (.int .i64 (maxL l l.length).1):=cell_same z0
   have q1:(wr.setCell ⟨w.heap.size,0,none⟩ (.int .i64 (maxL l l.length).1)).cell? ⟨w.heap.size,1,none⟩=some (.int .i64 0):=by rw [cell_other (by simp)]; exact z1
   have q2:((wr.setCell ⟨w.heap.size,0,none⟩ (.int .i64 (maxL l l.length).1)).setCell ⟨w.heap.size,1,none⟩ (.int .i64 (maxL l l.length).2)).cell? ⟨w.heap.size,1,none⟩=some (.int .i64 (maxL l l.length).2):=cell_same q1
   have HE:=Hi ((hb.setCell (p:=⟨w.heap.size,0,none⟩) (by simp) (.int .i64 (maxL l l.length).1)).setCell (p:=⟨w.heap.size,1,none⟩) (by simp) (.int .i64 (maxL l l.length).2))
   go_wp2
   exact bodyPost_ret (v:=.agg #[.int .i64 (maxL l l.length).1,.int .i64 (maxL l l.length).2]) (by simp [results,Tryz.results275,go_sem,q0,q2]) rfl ⟨rfl,HE.out⟩
def maxOf (l:List (Int × Int)):Int × Int:=if l.length=0 then (0,0) else maxL l l.length
theorem max_any (p:Option Addr) (c:Nat) (l:List (Int × Int)) (w:World) (h:Stamps w p l) (hl:l.length≤4611686018427387904) :
  Calls Tryz.prog 222 #[.slice p l.length c] w fun e w'=>e=.returned (.agg #[.int .i64 (maxOf l).1,.int .i64 (maxOf l).2])∧Below w.heap.size w w':=by
 have hb:=(Below.refl w.heap.size w).alloc (Nat.le_refl _) (.cells #[.int .i64 0,.int .i64 0] 35)
 have HB:=Hi hb
 by_cases h0:l.length=0
 ·have HM:=Hi (show maxOf l=(0,0) from if_pos h0)
  rw [h0]
  clear hb h h0
  go_enter Tryz.func222,Tryz.ntmps222
  go_wp2
  refine bodyPost_ret (v:=.agg #[.int .i64 0,.int .i64 0]) (by simp [results,Tryz.results222,go_sem]) rfl ?_
  rw [HM.out]
  exact ⟨rfl,HB.out⟩
 ·have hml:maxOf l=maxL l l.length:=if_neg h0
  have te:(((l.length:Nat):Int) == 0)=false:=by rw [beq_eq_false_iff_ne]; omega
  have HC:=Hi (maxFunc_any p c l _ (h.kept hb) (by omega) hl)
  rw [← hml] at HC
  generalize maxOf l=m at *
  obtain ⟨mx,my⟩:=m
  dsimp only at *
  have h1:0<l.length:=by omega
  clear hb h h0 hml
  go_enter Tryz.func222,Tryz.ntmps222
  go_wp2_with fail
  refine HC.out.mono ?_
  rintro e w1 ⟨rfl,hb1⟩
  have c0:=hb1.cell (p:=⟨w.heap.size,0,none⟩) (by simp)
  have c1:=hb1.cell (p:=⟨w.heap.size,1,none⟩) (by simp)
  have f0:=hb1.frozen (p:=⟨w.heap.size,0,none⟩) (by simp)
  have f1:=hb1.frozen (p:=⟨w.heap.size,1,none⟩) (by simp)
  rw [World.cell?_alloc_at _ _ _ _ rfl] at c0 c1
  rw [World.frozen?_alloc_at _ _ _ _ rfl] at f0 f1
  have c0':w1.cell? ⟨w.heap.size,0,none⟩=some (.int .i64 0):=c0
  have c1':w1.cell? ⟨w.heap.size,1,none⟩=some (.int .i64 0):=c1
  have HB1:=Hi (HB.out.trans (hb1.mono (by simp)))
  clear hb1 c0 c1
  have q0:(w1.setCell ⟨w.heap.size,0,none⟩ (.int .i64 mx)).cell? ⟨w.heap.size,0,none⟩=some (.int .i64 mx):=cell_same c0'
  have q1:(w1.setCell ⟨w.heap.size,0,none⟩ (.int .i64 mx)).cell? ⟨w.heap.size,1,none⟩=some (.int .i64 0):=by rw [cell_other (by simp)]; exact c1'
  have q2:((w1.setCell ⟨w.heap.size,0,none⟩ (.int .i64 mx)).setCell ⟨w.heap.size,1,none⟩ (.int .i64 my)).cell? ⟨w.heap.size,1,none⟩=some (.int .i64 my):=cell_same q1
  have HE:=Hi ((HB1.out.setCell (p:=⟨w.heap.size,0,none⟩) (by simp) (.int .i64 mx)).setCell (p:=⟨w.heap.size,1,none⟩) (by simp) (.int .i64 my))
  go_wp2
  exact bodyPost_ret (v:=.agg #[.int .i64 mx,.int .i64 my]) (by simp [results,Tryz.results222,go_sem,q0,q2]) rfl ⟨rfl,HE.out⟩
open Go.RowKit
theorem run_build_st9 (w:World) (M:Nat):(Instr.build 218 #[(1,.map (some M))]).run Tryz.prog w=.ok (.agg (lsA (fun _=>.slice none 0 0) M)) w:=by kernel_rfl
def Sm.zero:Sm:=⟨fun _=>none,fun _=>0,fun _=>[],[]⟩
theorem Sm.zero_lg:Sm.zero.lg=Lg.zero:=rfl
def LMade (w:World) (e:Ending) (w':World):Prop :=
 ∃ l S M m,e=.returned (.pointer (some ⟨l,0,none⟩))∧Lo w' l S M m (fun k=>w.heap.size≤k∧k<w'.heap.size∧k≠l)∧m.lg=Lg.zero∧w.heap.size≤l∧l<w'.heap.size∧Below w.heap.size w w'
theorem made_of (w:World) (T U:TypeId) (W:World) (hW:W=((w.alloc (.map #[] 0)).alloc (.cells (lsA (fun _=>.slice none 0 0) w.heap.size) T)).alloc (.cells #[.pointer (some ⟨w.heap.size+1,0,none⟩)] U)) :
  LMade w (.returned (.pointer (some ⟨w.heap.size+2,0,none⟩))) W:=by
 have h1:∀ (w:World) (o:Obj),Below w.heap.size w (w.alloc o):=fun w o=>(Below.refl _ _).alloc (Nat.le_refl _) _
 have e1:(w.alloc (.map #[] 0)).heap.size=w.heap.size+1:=by simp
 have e2:((w.alloc (.map #[] 0)).alloc (.cells (lsA (fun _=>.slice none 0 0) w.heap.size) T)).heap.size=w.heap.size+2:=by simp
 have hM:=WMap.made w
 have hS:=AgAt.new (w.alloc (.map #[] 0)) (lsA (fun _=>.slice none 0 0) w.heap.size) T
 have hl:=AgAt.new ((w.alloc (.map #[] 0)).alloc (.cells (lsA (fun _=>.slice none 0 0) w.heap.size) T)) #[.pointer (some ⟨w.heap.size+1,0,none⟩)] U
 rw [e1] at hS
 rw [e2,← hW] at hl
 have b3:Below (w.heap.size+2) ((w.alloc (.map #[] 0)).alloc (.cells (lsA (fun _=>.slice none 0 0) w.heap.size) T)) W:=by rw [hW,← e2]; exact h1 _ _
 have b2:Below (w.heap.size+1) (w.alloc (.map #[] 0)) W:=by
  have:=h1 (w.alloc (.map #[] 0)) (.cells (lsA (fun _=>.slice none 0 0) w.heap.size) T)
  rw [e1] at this
  exact this.trans (b3.mono (by omega))
 have hz:W.heap.size=w.heap.size+3:=by rw [hW]; simp
 have hM':WMap W w.heap.size []:=hM.block (b2.block _ (by omega))
 have hS':AgAt W (w.heap.size+1) (lsA (fun _=>.slice none 0 0) w.heap.size):=hS.block (b3.block _ (by omega))
 have hn:∀ r,(Sm.zero.v r).ownBlock=none:=fun r=>rfl
 refine ⟨w.heap.size+2,w.heap.size+1,w.heap.size,Sm.zero,rfl,⟨⟨hS',hM',fun r hr=>World.ownsRow_nil _ _ _ _,fun r hr e he=>(by cases he),fun e he=>(by cases he),fun r r' b _ _ h=>?_,fun r b _ h=>?_,?_,?_,?_,fun k hk=>hk.2.1⟩,?_,hl,fun h=>h.2.2 rfl⟩,rfl,by omega,by omega,?_⟩
 ·rw [hn] at h; cases h
 ·rw [hn] at h; cases h
 ·exact ⟨by omega,by omega,by omega⟩
 ·exact ⟨by omega,by omega,by omega⟩
 ·omega
 ·rw [Sm.zero_lg]; exact LgOk.zero
 ·exact (h1 w _).trans (b2.mono (by omega))
theorem lnew_any (w:World):Calls Tryz.prog 113 #[] w (LMade w):=by
 have hmm:=@run_makeMap Tryz.prog
 have hbs:=run_build_st9
 have HE:=Hi (made_of w 218 214 _ rfl)
 go_enter Tryz.func113,Tryz.ntmps113
 go_wp2
 go_ret
 exact HE.out
theorem lvector_any {l S M:Nat} {m:Sm} {F:Nat→Prop} (w:World) (h:Lo w l S M m F) :
  Calls Tryz.prog 127 #[.pointer (some ⟨l,0,none⟩)] w fun e w'=>e=.returned (.agg (vecA (vecL9 m.lg)))∧Below w.heap.size w w':=by
 have hb:=(Below.refl w.heap.size w).alloc (Nat.le_refl _) (.cells (vecA fun _=>0) 93)
 have HV:=Hi (VAt.new w (fun _=>0) 93)
 have y0:=(h.kept hb).cell
 have HO:=Hi (lours_yes y0)
 have HC:=Hi (svec_any _ (h.kept hb).st fun r hr=>Sm.len h.ok hr)
 rw [Sm.vec]
 have HB:=Hi hb
 clear h hb
 go_enter Tryz.func127,Tryz.ntmps127
 go_wp2_with fail
 refine HO.out.mono ?_
 rintro e w1 ⟨rfl,rfl⟩
 go_wp2_with fail
 refine HC.out.mono ?_
 rintro e w1 ⟨rfl,hb1⟩
 replace HV:=Hi (HV.out.kept hb1)
 replace HB:=Hi (HB.out.trans (hb1.mono HB.out.size))
 clear hb1 y0
 go_wp2_with (refine wpList_store_vec vtP rfl _ _ rfl _ rfl _ _ HV.out rfl ?_; intro w2 hv2 _ _ hb2)
 exact bodyPost_ret (results_vec vtP _ rfl hv2 rfl) rfl ⟨rfl,hb2 _ _ HB.out (Nat.le_refl _)⟩
theorem wp_load_ag {t:TypeId} {n:Nat} {A:Array Value} {w:World} (V:AgT t n) {o:Oper} {a:Act} {K:Act→World→Prop} {Q:Exit→Act→World→Prop} (y:Operand) (ho:o.op=.load t y)
  (b:Nat) (hx:a.eval y=.pointer (some ⟨b,0,none⟩)) (hn:A.size=n) (hv:AgAt w b A) (h:K (a.put o.dst (.agg A)) w):Oper.wp Tryz.prog o a w K Q:=by
 unfold Oper.wp
 rw [exec_load_ag V ho hx hn hv]
 exact h
theorem run_build_st2 (w:World) (a b c d:Int):(Instr.buildSlice 36 2 #[(0,.agg #[.int .i64 a,.int .i64 b]),(1,.agg #[.int .i64 c,.int .i64 d])]).run Tryz.prog w=.ok (.slice (some ⟨w.heap.size,0,none⟩) 2 2) (w.alloc (.cells #[.int .i64 a,.int .i64 b,.int .i64 c,.int .i64 d] 35)):=by kernel_rfl
theorem wp_build_st2 {w:World} {o:Oper} {a:Act} {K:Act→World→Prop} {Q:Exit→Act→World→Prop} (x y:Operand) (ho:o.op=.buildSlice 36 2 #[(0,x),(1,y)]) (p q r s:Int) (hx:a.eval x=.agg #[.int .i64 p,.int .i64 q]) (hy:a.eval y=.agg #[.int .i64 r,.int .i64 s])
  (h:K (a.put o.dst (.slice (some ⟨w.heap.size,0,none⟩) 2 2)) (w.alloc (.cells #[.int .i64 p,.int .i64 q,.int .i64 r,.int .i64 s] 35))):Oper.wp Tryz.prog o a w K Q:=by
 unfold Oper.wp execOp
 simp only [ho,Sem.run_bind,Sem.run_pure,Result.andThen_ok,List.map_toArray,List.map_cons,List.map_nil,hx,hy,run_build_st2]
 exact h
theorem stamps_two (w:World) (s u:Qm.St) (T:TypeId):Stamps (w.alloc (.cells #[.int .i64 s.1,.int .i64 s.2,.int .i64 u.1,.int .i64 u.2] T)) (some ⟨w.heap.size,0,none⟩) [s,u]:=fun _=>⟨_,0,rfl,fun i hi=>by
 have hi':i=0∨i=1:=by simp at hi; omega
 rcases hi' with rfl | rfl
 ·exact ⟨by rw [World.cell?_alloc_at _ _ _ _ rfl]; rfl,by rw [World.cell?_alloc_at _ _ _ _ rfl]; rfl⟩
 ·exact ⟨by rw [World.cell?_alloc_at _ _ _ _ rfl]; rfl,by rw [World.cell?_alloc_at _ _ _ _ rfl]; rfl⟩⟩
def tmS (L:Lg):Nat→Qm.St
 | 0=>(0,0)
 | k+1=>maxOf [tmS L k,lastR L k]
theorem ltime_any {l S M:Nat} {m:Sm} {F:Nat→Prop} (w:World) (h:Lo w l S M m F) :
  Calls Tryz.prog 128 #[.pointer (some ⟨l,0,none⟩)] w fun e w'=>e=.returned (.int .i64 (tmS m.lg 16).1)∧Below w.heap.size w w':=by
 have HO:=Hi (lours_yes h.cell)
 have HL:=Hi h
 have hb:=(Below.refl w.heap.size w).alloc (Nat.le_refl _) (.cells #[.int .i64 0,.int .i64 0] 35)
 have HA0:=Hi (AgAt.new w #[.int .i64 0,.int .i64 0] 35)
 have HB0:=Hi hb
 clear h hb
 go_enter Tryz.func128,Tryz.ntmps128
 go_wp2_with fail
 refine HO.out.mono ?_
 rintro e w1 ⟨rfl,rfl⟩
 go_wp2_with fail
 go_loopw [8] (fun i wr=>∃ k:Nat,k≤16∧i=.int .i64 (k:Int)∧AgAt wr w.heap.size #[.int .i64 (tmS m.lg k).1,.int .i64 (tmS m.lg k).2]∧Below w.heap.size w wr) (fun i _=>16 - (intOf i).toNat)
 case atStart=>exact ⟨0,by omega,rfl,HA0.out,HB0.out⟩
 case round =>
  clear HA0 HB0
  obtain ⟨k,hk,rfl,ha,hbw⟩:=hrel
  have HA:=Hi ha
  have HB:=Hi hbw
  clear ha hbw
  by_cases hlt:k<16
  ·have HEND:=Hi (fun W (hW:Below w.heap.size w W)=>end_any k W (HL.out.kept hW).st HL.out.ok hlt)
   have hmk:maxOf [tmS m.lg k,lastR m.lg k]=tmS m.lg (k+1):=rfl
   generalize tmS m.lg k=s at *
   go_upto_region 7 with fail
   replace HA:=Hi (show AgAt wr.drew w.heap.size #[.int .i64 s.1,.int .i64 s.2] from HA.out)
   refine wp_region_held_drew (S:=fun W=>Below w.heap.size w W) (by kernel_rfl) HB.out.drew (fun hS=>?_)
   generalize wr.drew=wd at *
   refine tX 1 rfl hS ?_
   refine tX 2 rfl hS ?_
   refine tX 3 rfl hS ?_
   refine tK 4 (v:=?_) rfl ?_ hS ?_
   rotate_left
   ·intro W hSW
    have y0:=(HL.out.kept hSW).cell
    go_simp
    all_goals with_reducible rfl
   go_simp
   refine tX 5 rfl hS ?_
   go_simp
   refine wpAnyH_ready (rs:=[0,6]) (by kernel_rfl) (by simp) ?_
   refine AllReadyH.cons rfl (fun K hK=>?_) (AllReadyH.cons rfl (fun K hK=>?_) AllReadyH.nil)
   ·refine step_of (by kernel_rfl) ?_
    refine wp_load_ag (A:=#[.int .i64 s.1,.int .i64 s.2]) stT _ rfl _ rfl rfl HA.out ?_
    refine hK.out _ _ hS (fun hS=>?_)
    clear hK K
    refine rD 6 rfl (fun K hK=>?_)
    go_simp
    go_wp2_with ((go_at_call 223; refine (HEND.out _ hS).mono ?_; rintro e w5 ⟨rfl,hb5⟩))
    replace HA:=Hi (AgAt.kept HA.out hb5)
    refine hK.out _ _ (hS.trans (hb5.mono hS.size)) (fun hS=>?_)
    clear hK K hb5
    refine rD 7 rfl (fun K hK=>?_)
    have hb6:=(Below.refl w5.heap.size w5).alloc (Nat.le_refl _) (.cells #[.int .i64 s.1,.int .i64 s.2,.int .i64 (lastR m.lg k).1,.int .i64 (lastR m.lg k).2] 35)
    have HST:=Hi (stamps_two w5 s (lastR m.lg k) 35)
    replace HA:=Hi (AgAt.kept HA.out hb6)
    refine step_of (by kernel_rfl) ?_
    refine wp_build_st2 _ _ rfl s.1 s.2 (lastR m.lg k).1 (lastR m.lg k).2 rfl rfl ?_
    refine hK.out _ _ (hS.trans (hb6.mono hS.size)) (fun hS=>?_)
    clear hK K hb6
    generalize w5.alloc (.cells #[.int .i64 s.1,.int .i64 s.2,.int .i64 (lastR m.lg k).1,.int .i64 (lastR m.lg k).2] 35)=w6 at *
    refine rD 8 rfl (fun K hK=>?_)
    go_simp
    have hmx:=max_any (some ⟨w5.heap.size,0,none⟩) 2 [s,lastR m.lg k] w6 HST.out (by simp)
    go_wp2_with ((go_at_call 222; refine hmx.mono ?_; rintro e w7 ⟨rfl,hb7⟩))
    replace HA:=Hi (AgAt.kept HA.out hb7)
    refine hK.out _ _ (hS.trans (hb7.mono hS.size)) (fun hS=>?_)
    clear hK K hb7 hmx
    refine rD 9 rfl (fun K hK=>?_)
    refine step_of (by kernel_rfl) ?_
    refine wp_store_ag stT _ _ rfl w.heap.size rfl _ HA.out rfl rfl rfl (stA_one _ _) ?_
    intro w8 hv8 hko8 hsz8 hbn8
    have HA8:=Hi hv8
    have hS8:=hbn8 _ _ hS (Nat.le_refl _)
    refine hK.out _ _ hS8 (fun hS=>?_)
    clear hK K hv8 hko8 hsz8 hbn8 hS8
    refine wpAnyH_done (by kernel_rfl) ?_ _
    go_simp
    go_wp2
    go_roundw
    case rel=>exact ⟨k+1,by omega,by go_num,HA8.out,hS⟩
    case measure=>simp [intOf]; omega
   ·go_simp
    go_wp2_with ((go_at_call 223; refine (HEND.out _ hS).mono ?_; rintro e w5 ⟨rfl,hb5⟩))
    replace HA:=Hi (AgAt.kept HA.out hb5)
    refine hK.out _ _ (hS.trans (hb5.mono hS.size)) (fun hS=>?_)
    clear hK K hb5
    refine rD 0 rfl (fun K hK=>?_)
    refine step_of (by kernel_rfl) ?_
    refine wp_load_ag (A:=#[.int .i64 s.1,.int .i64 s.2]) stT _ rfl _ rfl rfl HA.out ?_
    refine hK.out _ _ hS (fun hS=>?_)
    clear hK K
    refine rD 7 rfl (fun K hK=>?_)
    have hb6:=(Below.refl w5.heap.size w5).alloc (Nat.le_refl _) (.cells #[.int .i64 s.1,.int .i64 s.2,.int .i64 (lastR m.lg k).1,.int .i64 (lastR m.lg k).2] 35)
    have HST:=Hi (stamps_two w5 s (lastR m.lg k) 35)
    replace HA:=Hi (AgAt.kept HA.out hb6)
    refine step_of (by kernel_rfl) ?_
    refine wp_build_st2 _ _ rfl s.1 s.2 (lastR m.lg k).1 (lastR m.lg k).2 rfl rfl ?_
    refine hK.out _ _ (hS.trans (hb6.mono hS.size)) (fun hS=>?_)
    clear hK K hb6
    generalize w5.alloc (.cells #[.int .i64 s.1,.int .i64 s.2,.int .i64 (lastR m.lg k).1,.int .i64 (lastR m.lg k).2] 35)=w6 at *
    refine rD 8 rfl (fun K hK=>?_)
    go_simp
    have hmx:=max_any (some ⟨w5.heap.size,0,none⟩) 2 [s,lastR m.lg k] w6 HST.out (by simp)
    go_wp2_with ((go_at_call 222; refine hmx.mono ?_; rintro e w7 ⟨rfl,hb7⟩))
    replace HA:=Hi (AgAt.kept HA.out hb7)
    refine hK.out _ _ (hS.trans (hb7.mono hS.size)) (fun hS=>?_)
    clear hK K hb7 hmx
    refine rD 9 rfl (fun K hK=>?_)
    refine step_of (by kernel_rfl) ?_
    refine wp_store_ag stT _ _ rfl w.heap.size rfl _ HA.out rfl rfl rfl (stA_one _ _) ?_
    intro w8 hv8 hko8 hsz8 hbn8
    have HA8:=Hi hv8
    have hS8:=hbn8 _ _ hS (Nat.le_refl _)
    refine hK.out _ _ hS8 (fun hS=>?_)
    clear hK K hv8 hko8 hsz8 hbn8 hS8
    refine wpAnyH_done (by kernel_rfl) ?_ _
    go_simp
    go_wp2
    go_roundw
    case rel=>exact ⟨k+1,by omega,by go_num,HA8.out,hS⟩
    case measure=>simp [intOf]; omega
  ·obtain rfl:k=16:=by omega
   have y1:=AgAt.cell HA.out 0
   go_wp2
   go_ret
   exact ⟨rfl,HB.out⟩
open Go.RowKit
end Go.Proofs.YthfhefdfehlbkaaGreat
