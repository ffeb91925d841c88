/-
  THE DOCUMENT's Right over ops: the same answer as the program's.
  No conditions but sizes.
  THE DOCUMENT's Right over batches: the same answer as the program's.
  No conditions but sizes.
  THE DOCUMENT's Stamp and End of a batch.
  No conditions but sizes.
-/
import Derived.Test.YtfgnmnkihbgjnaaGreatSh
import Derived.Test.YtfgnmnkihbgjnaaGreatRoRightA
import Derived.Test.YtfgnmnkihbgjnaaGreatGG
set_option maxRecDepth 100000
set_option maxHeartbeats 8000000
namespace Go.Proofs.YtfgnmnkihbgjnaaGreat
open Go.RowKit
theorem rright4_any (x:Opp) (q:Option Addr) (c:Nat) (w:World) (hs:Sz x) (ha:Pa w x q c) (hk:x.k=4):Calls Tryz.prog 65 #[.agg (opA x q c)] w fun e w'=>e=.returned (.bool (rightO x))∧Below w.heap.size w w':=by
 have HX:=Hi (OpAt.new w x q c 89)
 have HB:=Hi ((Below.refl w.heap.size w).alloc (Nat.le_refl _) (.cells (opA x q c) 89))
 have HA:=Hi (ha.kept HB.out)
 have HSK:=Hi (show x.key.size≤140737488355328 from hs.key)
 have HSV:=Hi (show x.vt.size≤4611686018427387904 from hs.val)
 have HSP:=Hi (show x.path.length≤4611686018427387904 from hs.path)
 clear ha hs
 have HK:=Hi hk
 have HNA:=Hi (fun W=>rnamed4_any x q c W hk)
 have HEX:=Hi (fun h=>fit4_expr (x:=x) hk h)
 have HNO:=Hi (fun h=>fit4_no (x:=x) hk h)
 have HSM:=Hi (fun W (hp:Pa W x q c)=>rsame_any ({ Opp.zero with k:=4,nt:=x.nt,nr:=x.nr,on:=x.on }:Opp) x none q 0 c W (Nat.zero_le _) (Pa.none _ _ rfl) hp)
 clear hk
 generalize hss:sameO ({ Opp.zero with k:=4,nt:=x.nt,nr:=x.nr,on:=x.on }:Opp) x=ss at *
 clear hss
 cases ss with
 | false =>
  have HR:=Hi (HNO.out rfl)
  go_enter Tryz.func65,Tryz.ntmps65
  go_upto_region 1 with fail
  refine wp_region_held_drew (S:=Bel (w.alloc (.cells (opA x q c) 89))) (by kernel_rfl) (Bel.start (w.alloc (.cells (opA x q c) 89))) (fun hS=>?_)
  refine tK 0 (v:=.agg (opA _ _ _)) rfl (fun W hSW=>exec_load_op otR rfl rfl (HX.out.bel hSW)) hS ?_
  refine tK 2 (v:=.agg (opA _ _ _)) rfl (fun W hSW=>exec_load_op otR rfl rfl (HX.out.bel hSW)) hS ?_
  refine rD 1 rfl (fun K hK=>?_)
  go_simp
  go_wp2_with ((go_at_call 85; refine (HNA.out _).mono ?_; rintro e wn ⟨rfl,hbn⟩))
  refine hK.out _ _ (hS.trans hbn) (fun hS=>?_)
  clear hK K
  refine rD 3 rfl (fun K hK=>?_)
  go_simp
  go_wp2_with ((go_at_call 50; refine (HSM.out _ (HA.out.bel hS)).mono ?_; rintro e wn ⟨rfl,hbn⟩))
  refine hK.out _ _ (hS.trans hbn) (fun hS=>?_)
  clear hK K
  refine tX 4 rfl hS ?_
  go_simp
  have HS:=Hi hS
  refine wpAnyH_done (by kernel_rfl) ?_ _
  go_wp2
  go_ret
  exact ⟨ret_b HR.out.symm,HB.out.trans (Below.mono HS.out HB.out.size)⟩
 | true =>
  have HE:=Hi (HEX.out rfl)
  clear HEX HNO
  go_enter Tryz.func65,Tryz.ntmps65
  go_upto_region 1 with fail
  refine wp_region_held_drew (S:=Bel (w.alloc (.cells (opA x q c) 89))) (by kernel_rfl) (Bel.start (w.alloc (.cells (opA x q c) 89))) (fun hS=>?_)
  refine tK 0 (v:=.agg (opA _ _ _)) rfl (fun W hSW=>exec_load_op otR rfl rfl (HX.out.bel hSW)) hS ?_
  refine tK 2 (v:=.agg (opA _ _ _)) rfl (fun W hSW=>exec_load_op otR rfl rfl (HX.out.bel hSW)) hS ?_
  refine rD 1 rfl (fun K hK=>?_)
  go_simp
  go_wp2_with ((go_at_call 85; refine (HNA.out _).mono ?_; rintro e wn ⟨rfl,hbn⟩))
  refine hK.out _ _ (hS.trans hbn) (fun hS=>?_)
  clear hK K
  refine rD 3 rfl (fun K hK=>?_)
  go_simp
  go_wp2_with ((go_at_call 50; refine (HSM.out _ (HA.out.bel hS)).mono ?_; rintro e wn ⟨rfl,hbn⟩))
  refine hK.out _ _ (hS.trans hbn) (fun hS=>?_)
  clear hK K
  refine tX 4 rfl hS ?_
  go_simp
  have HS:=Hi hS
  refine wpAnyH_done (by kernel_rfl) ?_ _
  replace HX:=Hi (HX.out.bel HS.out)
  replace HA:=Hi (HA.out.bel HS.out)
  replace HB:=Hi (HB.out.trans (Below.mono HS.out HB.out.size))
  clear HS
  obtain ⟨x0,x1,x2,x3,x4,x5,x6,x7,x8,x9,x10,x11⟩:=HX.out.cells
  rw [HK.out] at x0
  cases hkey:Km.rightB x.key.data.toList with
  | false =>
   have HKK:=Hi hkey
   go_wp2_with fail
   refine (rkRight_any x.key _ HSK.out).mono ?_
   rw [HKK.out]
   rintro e w1 ⟨rfl,rfl⟩
   go_wp2_with fail
   refine (refVright8_any x.p x.vk x.vn x.vt _ HSV.out).mono ?_
   rintro e w3 ⟨rfl,hb3⟩
   replace HX:=Hi (HX.out.kept hb3)
   replace HA:=Hi (HA.out.kept hb3)
   replace HB:=Hi (HB.out.trans (hb3.mono HB.out.size))
   clear hb3
   clear x0 x1 x2 x3 x4 x5 x6 x7 x8 x9 x10 x11
   obtain ⟨x0,x1,x2,x3,x4,x5,x6,x7,x8,x9,x10,x11⟩:=HX.out.cells
   rw [HK.out] at x0
   go_wp2_with fail
   refine (rnode_any x.nt x.nr _).mono ?_
   cases hnd:okNode x.nt x.nr with
   | false =>
    have HND:=Hi hnd
    rintro e w4 ⟨rfl,hb4⟩
    replace HX:=Hi (HX.out.kept hb4)
    replace HA:=Hi (HA.out.kept hb4)
    replace HB:=Hi (HB.out.trans (hb4.mono HB.out.size))
    clear hb4
    have HR:=Hi (HE.out.trans (show _=false from by rw [HND.out] <;> rfl))
    clear x0 x1 x2 x3 x4 x5 x6 x7 x8 x9 x10 x11
    obtain ⟨x0,x1,x2,x3,x4,x5,x6,x7,x8,x9,x10,x11⟩:=HX.out.cells
    rw [HK.out] at x0
    go_wp2
    go_ret
    exact ⟨ret_b HR.out.symm,HB.out⟩
   | true =>
    have HND:=Hi hnd
    rintro e w4 ⟨rfl,hb4⟩
    replace HX:=Hi (HX.out.kept hb4)
    replace HA:=Hi (HA.out.kept hb4)
    replace HB:=Hi (HB.out.trans (hb4.mono HB.out.size))
    clear hb4
    clear x0 x1 x2 x3 x4 x5 x6 x7 x8 x9 x10 x11
    obtain ⟨x0,x1,x2,x3,x4,x5,x6,x7,x8,x9,x10,x11⟩:=HX.out.cells
    rw [HK.out] at x0
    have HR:=Hi (HE.out.trans HND.out)
    go_wp2
    go_ret
    exact ⟨ret_b HR.out.symm,HB.out⟩
  | true =>
   have HKK:=Hi hkey
   go_wp2_with fail
   refine (rkRight_any x.key _ HSK.out).mono ?_
   rw [HKK.out]
   rintro e w1 ⟨rfl,rfl⟩
   go_wp2_with fail
   refine (rplace_any x.rt x.rr _).mono ?_
   rintro e w2 ⟨rfl,hb2⟩
   replace HX:=Hi (HX.out.kept hb2)
   replace HA:=Hi (HA.out.kept hb2)
   replace HB:=Hi (HB.out.trans (hb2.mono HB.out.size))
   clear hb2
   clear x0 x1 x2 x3 x4 x5 x6 x7 x8 x9 x10 x11
   obtain ⟨x0,x1,x2,x3,x4,x5,x6,x7,x8,x9,x10,x11⟩:=HX.out.cells
   rw [HK.out] at x0
   go_wp2_with fail
   refine (refVright8_any x.p x.vk x.vn x.vt _ HSV.out).mono ?_
   rintro e w3 ⟨rfl,hb3⟩
   replace HX:=Hi (HX.out.kept hb3)
   replace HA:=Hi (HA.out.kept hb3)
   replace HB:=Hi (HB.out.trans (hb3.mono HB.out.size))
   clear hb3
   clear x0 x1 x2 x3 x4 x5 x6 x7 x8 x9 x10 x11
   obtain ⟨x0,x1,x2,x3,x4,x5,x6,x7,x8,x9,x10,x11⟩:=HX.out.cells
   rw [HK.out] at x0
   go_wp2_with fail
   refine (rnode_any x.nt x.nr _).mono ?_
   cases hnd:okNode x.nt x.nr with
   | false =>
    have HND:=Hi hnd
    rintro e w4 ⟨rfl,hb4⟩
    replace HX:=Hi (HX.out.kept hb4)
    replace HA:=Hi (HA.out.kept hb4)
    replace HB:=Hi (HB.out.trans (hb4.mono HB.out.size))
    clear hb4
    have HR:=Hi (HE.out.trans (show _=false from by rw [HND.out] <;> rfl))
    clear x0 x1 x2 x3 x4 x5 x6 x7 x8 x9 x10 x11
    obtain ⟨x0,x1,x2,x3,x4,x5,x6,x7,x8,x9,x10,x11⟩:=HX.out.cells
    rw [HK.out] at x0
    go_wp2
    go_ret
    exact ⟨ret_b HR.out.symm,HB.out⟩
   | true =>
    have HND:=Hi hnd
    rintro e w4 ⟨rfl,hb4⟩
    replace HX:=Hi (HX.out.kept hb4)
    replace HA:=Hi (HA.out.kept hb4)
    replace HB:=Hi (HB.out.trans (hb4.mono HB.out.size))
    clear hb4
    clear x0 x1 x2 x3 x4 x5 x6 x7 x8 x9 x10 x11
    obtain ⟨x0,x1,x2,x3,x4,x5,x6,x7,x8,x9,x10,x11⟩:=HX.out.cells
    rw [HK.out] at x0
    have HR:=Hi (HE.out.trans HND.out)
    go_wp2
    go_ret
    exact ⟨ret_b HR.out.symm,HB.out⟩
theorem rright5_any (x:Opp) (q:Option Addr) (c:Nat) (w:World) (hs:Sz x) (ha:Pa w x q c) (hk:x.k=5):Calls Tryz.prog 65 #[.agg (opA x q c)] w fun e w'=>e=.returned (.bool (rightO x))∧Below w.heap.size w w':=by
 have HX:=Hi (OpAt.new w x q c 89)
 have HB:=Hi ((Below.refl w.heap.size w).alloc (Nat.le_refl _) (.cells (opA x q c) 89))
 have HA:=Hi (ha.kept HB.out)
 have HSK:=Hi (show x.key.size≤140737488355328 from hs.key)
 have HSV:=Hi (show x.vt.size≤4611686018427387904 from hs.val)
 have HSP:=Hi (show x.path.length≤4611686018427387904 from hs.path)
 clear ha hs
 have HK:=Hi hk
 have HNA:=Hi (fun W=>rnamed5_any x q c W hk)
 have HEX:=Hi (fun h=>fit5_expr (x:=x) hk h)
 have HNO:=Hi (fun h=>fit5_no (x:=x) hk h)
 have HSM:=Hi (fun W (hp:Pa W x q c)=>rsame_any ({ Opp.zero with k:=5,nt:=x.nt,nr:=x.nr,rt:=x.rt,rr:=x.rr }:Opp) x none q 0 c W (Nat.zero_le _) (Pa.none _ _ rfl) hp)
 clear hk
 generalize hss:sameO ({ Opp.zero with k:=5,nt:=x.nt,nr:=x.nr,rt:=x.rt,rr:=x.rr }:Opp) x=ss at *
 clear hss
 cases ss with
 | false =>
  have HR:=Hi (HNO.out rfl)
  go_enter Tryz.func65,Tryz.ntmps65
  go_upto_region 1 with fail
  refine wp_region_held_drew (S:=Bel (w.alloc (.cells (opA x q c) 89))) (by kernel_rfl) (Bel.start (w.alloc (.cells (opA x q c) 89))) (fun hS=>?_)
  refine tK 0 (v:=.agg (opA _ _ _)) rfl (fun W hSW=>exec_load_op otR rfl rfl (HX.out.bel hSW)) hS ?_
  refine tK 2 (v:=.agg (opA _ _ _)) rfl (fun W hSW=>exec_load_op otR rfl rfl (HX.out.bel hSW)) hS ?_
  refine rD 1 rfl (fun K hK=>?_)
  go_simp
  go_wp2_with ((go_at_call 85; refine (HNA.out _).mono ?_; rintro e wn ⟨rfl,hbn⟩))
  refine hK.out _ _ (hS.trans hbn) (fun hS=>?_)
  clear hK K
  refine rD 3 rfl (fun K hK=>?_)
  go_simp
  go_wp2_with ((go_at_call 50; refine (HSM.out _ (HA.out.bel hS)).mono ?_; rintro e wn ⟨rfl,hbn⟩))
  refine hK.out _ _ (hS.trans hbn) (fun hS=>?_)
  clear hK K
  refine tX 4 rfl hS ?_
  go_simp
  have HS:=Hi hS
  refine wpAnyH_done (by kernel_rfl) ?_ _
  go_wp2
  go_ret
  exact ⟨ret_b HR.out.symm,HB.out.trans (Below.mono HS.out HB.out.size)⟩
 | true =>
  have HE:=Hi (HEX.out rfl)
  clear HEX HNO
  go_enter Tryz.func65,Tryz.ntmps65
  go_upto_region 1 with fail
  refine wp_region_held_drew (S:=Bel (w.alloc (.cells (opA x q c) 89))) (by kernel_rfl) (Bel.start (w.alloc (.cells (opA x q c) 89))) (fun hS=>?_)
  refine tK 0 (v:=.agg (opA _ _ _)) rfl (fun W hSW=>exec_load_op otR rfl rfl (HX.out.bel hSW)) hS ?_
  refine tK 2 (v:=.agg (opA _ _ _)) rfl (fun W hSW=>exec_load_op otR rfl rfl (HX.out.bel hSW)) hS ?_
  refine rD 1 rfl (fun K hK=>?_)
  go_simp
  go_wp2_with ((go_at_call 85; refine (HNA.out _).mono ?_; rintro e wn ⟨rfl,hbn⟩))
  refine hK.out _ _ (hS.trans hbn) (fun hS=>?_)
  clear hK K
  refine rD 3 rfl (fun K hK=>?_)
  go_simp
  go_wp2_with ((go_at_call 50; refine (HSM.out _ (HA.out.bel hS)).mono ?_; rintro e wn ⟨rfl,hbn⟩))
  refine hK.out _ _ (hS.trans hbn) (fun hS=>?_)
  clear hK K
  refine tX 4 rfl hS ?_
  go_simp
  have HS:=Hi hS
  refine wpAnyH_done (by kernel_rfl) ?_ _
  replace HX:=Hi (HX.out.bel HS.out)
  replace HA:=Hi (HA.out.bel HS.out)
  replace HB:=Hi (HB.out.trans (Below.mono HS.out HB.out.size))
  clear HS
  obtain ⟨x0,x1,x2,x3,x4,x5,x6,x7,x8,x9,x10,x11⟩:=HX.out.cells
  rw [HK.out] at x0
  cases hkey:Km.rightB x.key.data.toList with
  | false =>
   have HKK:=Hi hkey
   go_wp2_with fail
   refine (rkRight_any x.key _ HSK.out).mono ?_
   rw [HKK.out]
   rintro e w1 ⟨rfl,rfl⟩
   go_wp2_with fail
   refine (refVright8_any x.p x.vk x.vn x.vt _ HSV.out).mono ?_
   rintro e w3 ⟨rfl,hb3⟩
   replace HX:=Hi (HX.out.kept hb3)
   replace HA:=Hi (HA.out.kept hb3)
   replace HB:=Hi (HB.out.trans (hb3.mono HB.out.size))
   clear hb3
   clear x0 x1 x2 x3 x4 x5 x6 x7 x8 x9 x10 x11
   obtain ⟨x0,x1,x2,x3,x4,x5,x6,x7,x8,x9,x10,x11⟩:=HX.out.cells
   rw [HK.out] at x0
   go_wp2_with fail
   refine (rnode_any x.nt x.nr _).mono ?_
   cases hnd:okNode x.nt x.nr with
   | false =>
    have HND:=Hi hnd
    rintro e w4 ⟨rfl,hb4⟩
    replace HX:=Hi (HX.out.kept hb4)
    replace HA:=Hi (HA.out.kept hb4)
    replace HB:=Hi (HB.out.trans (hb4.mono HB.out.size))
    clear hb4
    have HR:=Hi (HE.out.trans (show _=false from by rw [HND.out] <;> rfl))
    clear x0 x1 x2 x3 x4 x5 x6 x7 x8 x9 x10 x11
    obtain ⟨x0,x1,x2,x3,x4,x5,x6,x7,x8,x9,x10,x11⟩:=HX.out.cells
    rw [HK.out] at x0
    go_wp2
    go_ret
    exact ⟨ret_b HR.out.symm,HB.out⟩
   | true =>
    have HND:=Hi hnd
    rintro e w4 ⟨rfl,hb4⟩
    replace HX:=Hi (HX.out.kept hb4)
    replace HA:=Hi (HA.out.kept hb4)
    replace HB:=Hi (HB.out.trans (hb4.mono HB.out.size))
    clear hb4
    clear x0 x1 x2 x3 x4 x5 x6 x7 x8 x9 x10 x11
    obtain ⟨x0,x1,x2,x3,x4,x5,x6,x7,x8,x9,x10,x11⟩:=HX.out.cells
    rw [HK.out] at x0
    go_wp2_with fail
    refine (rnode_any x.rt x.rr _).mono ?_
    cases hn2:okNode x.rt x.rr with
    | true =>
     have HR:=Hi (HE.out.trans (show _=true from by rw [HND.out,hn2] <;> rfl))
     rintro e w5 ⟨rfl,hb5⟩
     replace HX:=Hi (HX.out.kept hb5)
     replace HA:=Hi (HA.out.kept hb5)
     replace HB:=Hi (HB.out.trans (hb5.mono HB.out.size))
     clear hb5
     clear x0 x1 x2 x3 x4 x5 x6 x7 x8 x9 x10 x11
     obtain ⟨x0,x1,x2,x3,x4,x5,x6,x7,x8,x9,x10,x11⟩:=HX.out.cells
     rw [HK.out] at x0
     go_wp2
     go_ret
     exact ⟨ret_b HR.out.symm,HB.out⟩
    | false =>
     have HRZ:=Hi (HE.out.trans (show _=isZ x.rt x.rr from by rw [HND.out,hn2] <;> rfl))
     rintro e w5 ⟨rfl,hb5⟩
     replace HX:=Hi (HX.out.kept hb5)
     replace HA:=Hi (HA.out.kept hb5)
     replace HB:=Hi (HB.out.trans (hb5.mono HB.out.size))
     clear hb5
     clear x0 x1 x2 x3 x4 x5 x6 x7 x8 x9 x10 x11
     obtain ⟨x0,x1,x2,x3,x4,x5,x6,x7,x8,x9,x10,x11⟩:=HX.out.cells
     rw [HK.out] at x0
     by_cases hz:x.rt=0
     ·rw [hz] at x3
      by_cases hy:x.rr=0
      ·have HR:=Hi (HRZ.out.trans (show _=true from by unfold isZ; rw [hz,hy]; rfl))
       rw [hy] at x4
       clear hz hy
       go_wp2
       go_ret
       exact ⟨ret_b HR.out.symm,HB.out⟩
      ·have y0:(x.rr == 0)=false:=by simpa using hy
       have HR:=Hi (HRZ.out.trans (show _=false from by unfold isZ; rw [hz,y0]; rfl))
       clear hz hy
       go_wp2
       go_ret
       exact ⟨ret_b HR.out.symm,HB.out⟩
     ·have z0:(x.rt == 0)=false:=by simpa using hz
      have HR:=Hi (HRZ.out.trans (show _=false from by unfold isZ; rw [z0]; rfl))
      clear hz
      go_wp2
      go_ret
      exact ⟨ret_b HR.out.symm,HB.out⟩
  | true =>
   have HKK:=Hi hkey
   go_wp2_with fail
   refine (rkRight_any x.key _ HSK.out).mono ?_
   rw [HKK.out]
   rintro e w1 ⟨rfl,rfl⟩
   go_wp2_with fail
   refine (rplace_any x.rt x.rr _).mono ?_
   rintro e w2 ⟨rfl,hb2⟩
   replace HX:=Hi (HX.out.kept hb2)
   replace HA:=Hi (HA.out.kept hb2)
   replace HB:=Hi (HB.out.trans (hb2.mono HB.out.size))
   clear hb2
   clear x0 x1 x2 x3 x4 x5 x6 x7 x8 x9 x10 x11
   obtain ⟨x0,x1,x2,x3,x4,x5,x6,x7,x8,x9,x10,x11⟩:=HX.out.cells
   rw [HK.out] at x0
   go_wp2_with fail
   refine (refVright8_any x.p x.vk x.vn x.vt _ HSV.out).mono ?_
   rintro e w3 ⟨rfl,hb3⟩
   replace HX:=Hi (HX.out.kept hb3)
   replace HA:=Hi (HA.out.kept hb3)
   replace HB:=Hi (HB.out.trans (hb3.mono HB.out.size))
   clear hb3
   clear x0 x1 x2 x3 x4 x5 x6 x7 x8 x9 x10 x11
   obtain ⟨x0,x1,x2,x3,x4,x5,x6,x7,x8,x9,x10,x11⟩:=HX.out.cells
   rw [HK.out] at x0
   go_wp2_with fail
   refine (rnode_any x.nt x.nr _).mono ?_
   cases hnd:okNode x.nt x.nr with
   | false =>
    have HND:=Hi hnd
    rintro e w4 ⟨rfl,hb4⟩
    replace HX:=Hi (HX.out.kept hb4)
    replace HA:=Hi (HA.out.kept hb4)
    replace HB:=Hi (HB.out.trans (hb4.mono HB.out.size))
    clear hb4
    have HR:=Hi (HE.out.trans (show _=false from by rw [HND.out] <;> rfl))
    clear x0 x1 x2 x3 x4 x5 x6 x7 x8 x9 x10 x11
    obtain ⟨x0,x1,x2,x3,x4,x5,x6,x7,x8,x9,x10,x11⟩:=HX.out.cells
    rw [HK.out] at x0
    go_wp2
    go_ret
    exact ⟨ret_b HR.out.symm,HB.out⟩
   | true =>
    have HND:=Hi hnd
    rintro e w4 ⟨rfl,hb4⟩
    replace HX:=Hi (HX.out.kept hb4)
    replace HA:=Hi (HA.out.kept hb4)
    replace HB:=Hi (HB.out.trans (hb4.mono HB.out.size))
    clear hb4
    clear x0 x1 x2 x3 x4 x5 x6 x7 x8 x9 x10 x11
    obtain ⟨x0,x1,x2,x3,x4,x5,x6,x7,x8,x9,x10,x11⟩:=HX.out.cells
    rw [HK.out] at x0
    go_wp2_with fail
    refine (rnode_any x.rt x.rr _).mono ?_
    cases hn2:okNode x.rt x.rr with
    | true =>
     have HR:=Hi (HE.out.trans (show _=true from by rw [HND.out,hn2] <;> rfl))
     rintro e w5 ⟨rfl,hb5⟩
     replace HX:=Hi (HX.out.kept hb5)
     replace HA:=Hi (HA.out.kept hb5)
     replace HB:=Hi (HB.out.trans (hb5.mono HB.out.size))
     clear hb5
     clear x0 x1 x2 x3 x4 x5 x6 x7 x8 x9 x10 x11
     obtain ⟨x0,x1,x2,x3,x4,x5,x6,x7,x8,x9,x10,x11⟩:=HX.out.cells
     rw [HK.out] at x0
     go_wp2
     go_ret
     exact ⟨ret_b HR.out.symm,HB.out⟩
    | false =>
     have HRZ:=Hi (HE.out.trans (show _=isZ x.rt x.rr from by rw [HND.out,hn2] <;> rfl))
     rintro e w5 ⟨rfl,hb5⟩
     replace HX:=Hi (HX.out.kept hb5)
     replace HA:=Hi (HA.out.kept hb5)
     replace HB:=Hi (HB.out.trans (hb5.mono HB.out.size))
     clear hb5
     clear x0 x1 x2 x3 x4 x5 x6 x7 x8 x9 x10 x11
     obtain ⟨x0,x1,x2,x3,x4,x5,x6,x7,x8,x9,x10,x11⟩:=HX.out.cells
     rw [HK.out] at x0
     by_cases hz:x.rt=0
     ·rw [hz] at x3
      by_cases hy:x.rr=0
      ·have HR:=Hi (HRZ.out.trans (show _=true from by unfold isZ; rw [hz,hy]; rfl))
       rw [hy] at x4
       clear hz hy
       go_wp2
       go_ret
       exact ⟨ret_b HR.out.symm,HB.out⟩
      ·have y0:(x.rr == 0)=false:=by simpa using hy
       have HR:=Hi (HRZ.out.trans (show _=false from by unfold isZ; rw [hz,y0]; rfl))
       clear hz hy
       go_wp2
       go_ret
       exact ⟨ret_b HR.out.symm,HB.out⟩
     ·have z0:(x.rt == 0)=false:=by simpa using hz
      have HR:=Hi (HRZ.out.trans (show _=false from by unfold isZ; rw [z0]; rfl))
      clear hz
      go_wp2
      go_ret
      exact ⟨ret_b HR.out.symm,HB.out⟩
theorem rright6_any (x:Opp) (q:Option Addr) (c:Nat) (w:World) (hs:Sz x) (ha:Pa w x q c) (hk:x.k=6):Calls Tryz.prog 65 #[.agg (opA x q c)] w fun e w'=>e=.returned (.bool (rightO x))∧Below w.heap.size w w':=by
 have HX:=Hi (OpAt.new w x q c 89)
 have HB:=Hi ((Below.refl w.heap.size w).alloc (Nat.le_refl _) (.cells (opA x q c) 89))
 have HA:=Hi (ha.kept HB.out)
 have HSK:=Hi (show x.key.size≤140737488355328 from hs.key)
 have HSV:=Hi (show x.vt.size≤4611686018427387904 from hs.val)
 have HSP:=Hi (show x.path.length≤4611686018427387904 from hs.path)
 clear ha hs
 have HK:=Hi hk
 have HNA:=Hi (fun W=>rnamed6_any x q c W hk)
 have HEX:=Hi (fun h=>fit6_expr (x:=x) hk h)
 have HNO:=Hi (fun h=>fit6_no (x:=x) hk h)
 have HSM:=Hi (fun W (hp:Pa W x q c)=>rsame_any ({ Opp.zero with k:=6,nt:=x.nt,nr:=x.nr,path:=x.path,p:=x.p,vk:=x.vk,vn:=x.vn,vt:=x.vt }:Opp) x q q c c W (by simpa using HSP.out) ⟨hp.rd,hp.nil,hp.cap⟩ hp)
 clear hk
 generalize hss:sameO ({ Opp.zero with k:=6,nt:=x.nt,nr:=x.nr,path:=x.path,p:=x.p,vk:=x.vk,vn:=x.vn,vt:=x.vt }:Opp) x=ss at *
 clear hss
 cases ss with
 | false =>
  have HR:=Hi (HNO.out rfl)
  go_enter Tryz.func65,Tryz.ntmps65
  go_upto_region 1 with fail
  refine wp_region_held_drew (S:=Bel (w.alloc (.cells (opA x q c) 89))) (by kernel_rfl) (Bel.start (w.alloc (.cells (opA x q c) 89))) (fun hS=>?_)
  refine tK 0 (v:=.agg (opA _ _ _)) rfl (fun W hSW=>exec_load_op otR rfl rfl (HX.out.bel hSW)) hS ?_
  refine tK 2 (v:=.agg (opA _ _ _)) rfl (fun W hSW=>exec_load_op otR rfl rfl (HX.out.bel hSW)) hS ?_
  refine rD 1 rfl (fun K hK=>?_)
  go_simp
  go_wp2_with ((go_at_call 85; refine (HNA.out _).mono ?_; rintro e wn ⟨rfl,hbn⟩))
  refine hK.out _ _ (hS.trans hbn) (fun hS=>?_)
  clear hK K
  refine rD 3 rfl (fun K hK=>?_)
  go_simp
  go_wp2_with ((go_at_call 50; refine (HSM.out _ (HA.out.bel hS)).mono ?_; rintro e wn ⟨rfl,hbn⟩))
  refine hK.out _ _ (hS.trans hbn) (fun hS=>?_)
  clear hK K
  refine tX 4 rfl hS ?_
  go_simp
  have HS:=Hi hS
  refine wpAnyH_done (by kernel_rfl) ?_ _
  go_wp2
  go_ret
  exact ⟨ret_b HR.out.symm,HB.out.trans (Below.mono HS.out HB.out.size)⟩
 | true =>
  have HE:=Hi (HEX.out rfl)
  clear HEX HNO
  go_enter Tryz.func65,Tryz.ntmps65
  go_upto_region 1 with fail
  refine wp_region_held_drew (S:=Bel (w.alloc (.cells (opA x q c) 89))) (by kernel_rfl) (Bel.start (w.alloc (.cells (opA x q c) 89))) (fun hS=>?_)
  refine tK 0 (v:=.agg (opA _ _ _)) rfl (fun W hSW=>exec_load_op otR rfl rfl (HX.out.bel hSW)) hS ?_
  refine tK 2 (v:=.agg (opA _ _ _)) rfl (fun W hSW=>exec_load_op otR rfl rfl (HX.out.bel hSW)) hS ?_
  refine rD 1 rfl (fun K hK=>?_)
  go_simp
  go_wp2_with ((go_at_call 85; refine (HNA.out _).mono ?_; rintro e wn ⟨rfl,hbn⟩))
  refine hK.out _ _ (hS.trans hbn) (fun hS=>?_)
  clear hK K
  refine rD 3 rfl (fun K hK=>?_)
  go_simp
  go_wp2_with ((go_at_call 50; refine (HSM.out _ (HA.out.bel hS)).mono ?_; rintro e wn ⟨rfl,hbn⟩))
  refine hK.out _ _ (hS.trans hbn) (fun hS=>?_)
  clear hK K
  refine tX 4 rfl hS ?_
  go_simp
  have HS:=Hi hS
  refine wpAnyH_done (by kernel_rfl) ?_ _
  replace HX:=Hi (HX.out.bel HS.out)
  replace HA:=Hi (HA.out.bel HS.out)
  replace HB:=Hi (HB.out.trans (Below.mono HS.out HB.out.size))
  clear HS
  obtain ⟨x0,x1,x2,x3,x4,x5,x6,x7,x8,x9,x10,x11⟩:=HX.out.cells
  rw [HK.out] at x0
  cases hkey:Km.rightB x.key.data.toList with
  | false =>
   have HKK:=Hi hkey
   go_wp2_with fail
   refine (rkRight_any x.key _ HSK.out).mono ?_
   rw [HKK.out]
   rintro e w1 ⟨rfl,rfl⟩
   go_wp2_with fail
   refine (refVright8_any x.p x.vk x.vn x.vt _ HSV.out).mono ?_
   rintro e w3 ⟨rfl,hb3⟩
   replace HX:=Hi (HX.out.kept hb3)
   replace HA:=Hi (HA.out.kept hb3)
   replace HB:=Hi (HB.out.trans (hb3.mono HB.out.size))
   clear hb3
   clear x0 x1 x2 x3 x4 x5 x6 x7 x8 x9 x10 x11
   obtain ⟨x0,x1,x2,x3,x4,x5,x6,x7,x8,x9,x10,x11⟩:=HX.out.cells
   rw [HK.out] at x0
   go_wp2_with fail
   refine (rnode_any x.nt x.nr _).mono ?_
   cases hnd:okNode x.nt x.nr with
   | false =>
    have HND:=Hi hnd
    rintro e w4 ⟨rfl,hb4⟩
    replace HX:=Hi (HX.out.kept hb4)
    replace HA:=Hi (HA.out.kept hb4)
    replace HB:=Hi (HB.out.trans (hb4.mono HB.out.size))
    clear hb4
    have HR:=Hi (HE.out.trans (show _=false from by rw [HND.out] <;> rfl))
    clear x0 x1 x2 x3 x4 x5 x6 x7 x8 x9 x10 x11
    obtain ⟨x0,x1,x2,x3,x4,x5,x6,x7,x8,x9,x10,x11⟩:=HX.out.cells
    rw [HK.out] at x0
    go_wp2
    go_ret
    exact ⟨ret_b HR.out.symm,HB.out⟩
   | true =>
    have HND:=Hi hnd
    rintro e w4 ⟨rfl,hb4⟩
    replace HX:=Hi (HX.out.kept hb4)
    replace HA:=Hi (HA.out.kept hb4)
    replace HB:=Hi (HB.out.trans (hb4.mono HB.out.size))
    clear hb4
    clear x0 x1 x2 x3 x4 x5 x6 x7 x8 x9 x10 x11
    obtain ⟨x0,x1,x2,x3,x4,x5,x6,x7,x8,x9,x10,x11⟩:=HX.out.cells
    rw [HK.out] at x0
    go_wp2_with fail
    refine (rpath_any q c x.path _ HA.out.rd HSP.out).mono ?_
    cases hn2:okPath x.path with
    | false =>
     have HR:=Hi (HE.out.trans (show _=false from by rw [HND.out,hn2] <;> rfl))
     rintro e w5 ⟨rfl,hb5⟩
     replace HX:=Hi (HX.out.kept hb5)
     replace HA:=Hi (HA.out.kept hb5)
     replace HB:=Hi (HB.out.trans (hb5.mono HB.out.size))
     clear hb5
     clear x0 x1 x2 x3 x4 x5 x6 x7 x8 x9 x10 x11
     obtain ⟨x0,x1,x2,x3,x4,x5,x6,x7,x8,x9,x10,x11⟩:=HX.out.cells
     rw [HK.out] at x0
     go_wp2
     go_ret
     exact ⟨ret_b HR.out.symm,HB.out⟩
    | true =>
     have HR:=Hi (HE.out.trans (show _=right8V x.p x.vk x.vn x.vt.data.toList from by rw [HND.out,hn2] <;> rfl))
     rintro e w5 ⟨rfl,hb5⟩
     replace HX:=Hi (HX.out.kept hb5)
     replace HA:=Hi (HA.out.kept hb5)
     replace HB:=Hi (HB.out.trans (hb5.mono HB.out.size))
     clear hb5
     clear x0 x1 x2 x3 x4 x5 x6 x7 x8 x9 x10 x11
     obtain ⟨x0,x1,x2,x3,x4,x5,x6,x7,x8,x9,x10,x11⟩:=HX.out.cells
     rw [HK.out] at x0
     go_wp2
     go_ret
     exact ⟨ret_b HR.out.symm,HB.out⟩
  | true =>
   have HKK:=Hi hkey
   go_wp2_with fail
   refine (rkRight_any x.key _ HSK.out).mono ?_
   rw [HKK.out]
   rintro e w1 ⟨rfl,rfl⟩
   go_wp2_with fail
   refine (rplace_any x.rt x.rr _).mono ?_
   rintro e w2 ⟨rfl,hb2⟩
   replace HX:=Hi (HX.out.kept hb2)
   replace HA:=Hi (HA.out.kept hb2)
   replace HB:=Hi (HB.out.trans (hb2.mono HB.out.size))
   clear hb2
   clear x0 x1 x2 x3 x4 x5 x6 x7 x8 x9 x10 x11
   obtain ⟨x0,x1,x2,x3,x4,x5,x6,x7,x8,x9,x10,x11⟩:=HX.out.cells
   rw [HK.out] at x0
   go_wp2_with fail
   refine (refVright8_any x.p x.vk x.vn x.vt _ HSV.out).mono ?_
   rintro e w3 ⟨rfl,hb3⟩
   replace HX:=Hi (HX.out.kept hb3)
   replace HA:=Hi (HA.out.kept hb3)
   replace HB:=Hi (HB.out.trans (hb3.mono HB.out.size))
   clear hb3
   clear x0 x1 x2 x3 x4 x5 x6 x7 x8 x9 x10 x11
   obtain ⟨x0,x1,x2,x3,x4,x5,x6,x7,x8,x9,x10,x11⟩:=HX.out.cells
   rw [HK.out] at x0
   go_wp2_with fail
   refine (rnode_any x.nt x.nr _).mono ?_
   cases hnd:okNode x.nt x.nr with
   | false =>
    have HND:=Hi hnd
    rintro e w4 ⟨rfl,hb4⟩
    replace HX:=Hi (HX.out.kept hb4)
    replace HA:=Hi (HA.out.kept hb4)
    replace HB:=Hi (HB.out.trans (hb4.mono HB.out.size))
    clear hb4
    have HR:=Hi (HE.out.trans (show _=false from by rw [HND.out] <;> rfl))
    clear x0 x1 x2 x3 x4 x5 x6 x7 x8 x9 x10 x11
    obtain ⟨x0,x1,x2,x3,x4,x5,x6,x7,x8,x9,x10,x11⟩:=HX.out.cells
    rw [HK.out] at x0
    go_wp2
    go_ret
    exact ⟨ret_b HR.out.symm,HB.out⟩
   | true =>
    have HND:=Hi hnd
    rintro e w4 ⟨rfl,hb4⟩
    replace HX:=Hi (HX.out.kept hb4)
    replace HA:=Hi (HA.out.kept hb4)
    replace HB:=Hi (HB.out.trans (hb4.mono HB.out.size))
    clear hb4
    clear x0 x1 x2 x3 x4 x5 x6 x7 x8 x9 x10 x11
    obtain ⟨x0,x1,x2,x3,x4,x5,x6,x7,x8,x9,x10,x11⟩:=HX.out.cells
    rw [HK.out] at x0
    go_wp2_with fail
    refine (rpath_any q c x.path _ HA.out.rd HSP.out).mono ?_
    cases hn2:okPath x.path with
    | false =>
     have HR:=Hi (HE.out.trans (show _=false from by rw [HND.out,hn2] <;> rfl))
     rintro e w5 ⟨rfl,hb5⟩
     replace HX:=Hi (HX.out.kept hb5)
     replace HA:=Hi (HA.out.kept hb5)
     replace HB:=Hi (HB.out.trans (hb5.mono HB.out.size))
     clear hb5
     clear x0 x1 x2 x3 x4 x5 x6 x7 x8 x9 x10 x11
     obtain ⟨x0,x1,x2,x3,x4,x5,x6,x7,x8,x9,x10,x11⟩:=HX.out.cells
     rw [HK.out] at x0
     go_wp2
     go_ret
     exact ⟨ret_b HR.out.symm,HB.out⟩
    | true =>
     have HR:=Hi (HE.out.trans (show _=right8V x.p x.vk x.vn x.vt.data.toList from by rw [HND.out,hn2] <;> rfl))
     rintro e w5 ⟨rfl,hb5⟩
     replace HX:=Hi (HX.out.kept hb5)
     replace HA:=Hi (HA.out.kept hb5)
     replace HB:=Hi (HB.out.trans (hb5.mono HB.out.size))
     clear hb5
     clear x0 x1 x2 x3 x4 x5 x6 x7 x8 x9 x10 x11
     obtain ⟨x0,x1,x2,x3,x4,x5,x6,x7,x8,x9,x10,x11⟩:=HX.out.cells
     rw [HK.out] at x0
     go_wp2
     go_ret
     exact ⟨ret_b HR.out.symm,HB.out⟩
theorem rrightN_any (x:Opp) (q:Option Addr) (c:Nat) (w:World) (hs:Sz x) (ha:Pa w x q c) (h1:x.k≠1) (h2:x.k≠2) (h3:x.k≠3) (h4:x.k≠4) (h5:x.k≠5) (h6:x.k≠6):Calls Tryz.prog 65 #[.agg (opA x q c)] w fun e w'=>e=.returned (.bool (rightO x))∧Below w.heap.size w w':=by
 have HX:=Hi (OpAt.new w x q c 89)
 have HB:=Hi ((Below.refl w.heap.size w).alloc (Nat.le_refl _) (.cells (opA x q c) 89))
 have HA:=Hi (ha.kept HB.out)
 have HSK:=Hi (show x.key.size≤140737488355328 from hs.key)
 have HSV:=Hi (show x.vt.size≤4611686018427387904 from hs.val)
 have HSP:=Hi (show x.path.length≤4611686018427387904 from hs.path)
 clear ha hs
 have d1:(x.k == 1)=false:=by simpa using h1
 have d2:(x.k == 2)=false:=by simpa using h2
 have d3:(x.k == 3)=false:=by simpa using h3
 have d4:(x.k == 4)=false:=by simpa using h4
 have d5:(x.k == 5)=false:=by simpa using h5
 have d6:(x.k == 6)=false:=by simpa using h6
 have HNA:=Hi (fun W=>rnamedN_any x q c W h1 h2 h3 h4 h5 h6)
 have HR:=Hi (rightO_none h1 h2 h3 h4 h5 h6)
 have HSM:=Hi (fun W (hp:Pa W x q c)=>rsame_any Opp.zero x none q 0 c W (Nat.zero_le _) (Pa.none _ _ rfl) hp)
 clear h1 h2 h3 h4 h5 h6
 generalize sameO Opp.zero x=ss at *
 cases ss with
 | false =>
  go_enter Tryz.func65,Tryz.ntmps65
  go_upto_region 1 with fail
  refine wp_region_held_drew (S:=Bel (w.alloc (.cells (opA x q c) 89))) (by kernel_rfl) (Bel.start (w.alloc (.cells (opA x q c) 89))) (fun hS=>?_)
  refine tK 0 (v:=.agg (opA _ _ _)) rfl (fun W hSW=>exec_load_op otR rfl rfl (HX.out.bel hSW)) hS ?_
  refine tK 2 (v:=.agg (opA _ _ _)) rfl (fun W hSW=>exec_load_op otR rfl rfl (HX.out.bel hSW)) hS ?_
  refine rD 1 rfl (fun K hK=>?_)
  go_simp
  go_wp2_with ((go_at_call 85; refine (HNA.out _).mono ?_; rintro e wn ⟨rfl,hbn⟩))
  refine hK.out _ _ (hS.trans hbn) (fun hS=>?_)
  clear hK K
  refine rD 3 rfl (fun K hK=>?_)
  go_simp
  go_wp2_with ((go_at_call 50; refine (HSM.out _ (HA.out.bel hS)).mono ?_; rintro e wn ⟨rfl,hbn⟩))
  refine hK.out _ _ (hS.trans hbn) (fun hS=>?_)
  clear hK K
  refine tX 4 rfl hS ?_
  go_simp
  have HS:=Hi hS
  refine wpAnyH_done (by kernel_rfl) ?_ _
  go_wp2
  go_ret
  exact ⟨ret_b HR.out.symm,HB.out.trans (Below.mono HS.out HB.out.size)⟩
 | true =>
  go_enter Tryz.func65,Tryz.ntmps65
  go_upto_region 1 with fail
  refine wp_region_held_drew (S:=Bel (w.alloc (.cells (opA x q c) 89))) (by kernel_rfl) (Bel.start (w.alloc (.cells (opA x q c) 89))) (fun hS=>?_)
  refine tK 0 (v:=.agg (opA _ _ _)) rfl (fun W hSW=>exec_load_op otR rfl rfl (HX.out.bel hSW)) hS ?_
  refine tK 2 (v:=.agg (opA _ _ _)) rfl (fun W hSW=>exec_load_op otR rfl rfl (HX.out.bel hSW)) hS ?_
  refine rD 1 rfl (fun K hK=>?_)
  go_simp
  go_wp2_with ((go_at_call 85; refine (HNA.out _).mono ?_; rintro e wn ⟨rfl,hbn⟩))
  refine hK.out _ _ (hS.trans hbn) (fun hS=>?_)
  clear hK K
  refine rD 3 rfl (fun K hK=>?_)
  go_simp
  go_wp2_with ((go_at_call 50; refine (HSM.out _ (HA.out.bel hS)).mono ?_; rintro e wn ⟨rfl,hbn⟩))
  refine hK.out _ _ (hS.trans hbn) (fun hS=>?_)
  clear hK K
  refine tX 4 rfl hS ?_
  go_simp
  have HS:=Hi hS
  refine wpAnyH_done (by kernel_rfl) ?_ _
  replace HX:=Hi (HX.out.bel HS.out)
  replace HA:=Hi (HA.out.bel HS.out)
  replace HB:=Hi (HB.out.trans (Below.mono HS.out HB.out.size))
  clear HS
  obtain ⟨x0,x1,x2,x3,x4,x5,x6,x7,x8,x9,x10,x11⟩:=HX.out.cells
  cases hkey:Km.rightB x.key.data.toList with
  | false =>
   have HKK:=Hi hkey
   go_wp2_with fail
   refine (rkRight_any x.key _ HSK.out).mono ?_
   rw [HKK.out]
   rintro e w1 ⟨rfl,rfl⟩
   go_wp2_with fail
   refine (refVright8_any x.p x.vk x.vn x.vt _ HSV.out).mono ?_
   rintro e w3 ⟨rfl,hb3⟩
   replace HX:=Hi (HX.out.kept hb3)
   replace HA:=Hi (HA.out.kept hb3)
   replace HB:=Hi (HB.out.trans (hb3.mono HB.out.size))
   clear hb3
   clear x0 x1 x2 x3 x4 x5 x6 x7 x8 x9 x10 x11
   obtain ⟨x0,x1,x2,x3,x4,x5,x6,x7,x8,x9,x10,x11⟩:=HX.out.cells
   go_wp2
   go_ret
   exact ⟨ret_b HR.out.symm,HB.out⟩
  | true =>
   have HKK:=Hi hkey
   go_wp2_with fail
   refine (rkRight_any x.key _ HSK.out).mono ?_
   rw [HKK.out]
   rintro e w1 ⟨rfl,rfl⟩
   go_wp2_with fail
   refine (rplace_any x.rt x.rr _).mono ?_
   rintro e w2 ⟨rfl,hb2⟩
   replace HX:=Hi (HX.out.kept hb2)
   replace HA:=Hi (HA.out.kept hb2)
   replace HB:=Hi (HB.out.trans (hb2.mono HB.out.size))
   clear hb2
   clear x0 x1 x2 x3 x4 x5 x6 x7 x8 x9 x10 x11
   obtain ⟨x0,x1,x2,x3,x4,x5,x6,x7,x8,x9,x10,x11⟩:=HX.out.cells
   go_wp2_with fail
   refine (refVright8_any x.p x.vk x.vn x.vt _ HSV.out).mono ?_
   rintro e w3 ⟨rfl,hb3⟩
   replace HX:=Hi (HX.out.kept hb3)
   replace HA:=Hi (HA.out.kept hb3)
   replace HB:=Hi (HB.out.trans (hb3.mono HB.out.size))
   clear hb3
   clear x0 x1 x2 x3 x4 x5 x6 x7 x8 x9 x10 x11
   obtain ⟨x0,x1,x2,x3,x4,x5,x6,x7,x8,x9,x10,x11⟩:=HX.out.cells
   go_wp2
   go_ret
   exact ⟨ret_b HR.out.symm,HB.out⟩
theorem rright_any (x:Opp) (q:Option Addr) (c:Nat) (w:World) (hs:Sz x) (ha:Pa w x q c):Calls Tryz.prog 65 #[.agg (opA x q c)] w fun e w'=>e=.returned (.bool (rightO x))∧Below w.heap.size w w':=by
 by_cases h1:x.k=1
 ·exact rright1_any x q c w hs ha h1
 by_cases h2:x.k=2
 ·exact rright2_any x q c w hs ha h2
 by_cases h3:x.k=3
 ·exact rright3_any x q c w hs ha h3
 by_cases h4:x.k=4
 ·exact rright4_any x q c w hs ha h4
 by_cases h5:x.k=5
 ·exact rright5_any x q c w hs ha h5
 by_cases h6:x.k=6
 ·exact rright6_any x q c w hs ha h6
 exact rrightN_any x q c w hs ha h1 h2 h3 h4 h5 h6
open Go.RowKit
theorem r8right_any (x:Bat) (p:Option Addr) (c:Nat) (w:World) (hs:Szs x.ops) (h:Bops w x p c):Calls Tryz.prog 38 #[.agg (btA x p c)] w fun e w'=>e=.returned (.bool (rightT x))∧Below w.heap.size w w':=by
 obtain ⟨l,h⟩:=h
 have HX:=Hi (AgAt.new w (btA x p c) 43)
 have HB:=Hi ((Below.refl w.heap.size w).alloc (Nat.le_refl _) (.cells (btA x p c) 43))
 have HOS:=Hi (h.kept ((Below.refl w.heap.size w).alloc (Nat.le_refl _) (.cells (btA x p c) 43)))
 have HSZ:=Hi hs
 have hlen:=hs.len
 obtain ⟨x0,x1,x2,x3⟩:=BtAt.cells HX.out
 have HHN:=Hi (fun hn=>headT_no (x:=x) hn)
 have HHY:=Hi (fun hn=>headT_yes (x:=x) hn)
 have HRH:=Hi (fun hn=>rightT_head (x:=x) hn)
 have HRN:=Hi (fun hn=>rightT_nohead (x:=x) hn)
 have hw1:IntKind.i64.wrap (1099511627776 - (x.ops.length:Int))=1099511627776 - (x.ops.length:Int):=by rw [IntKind.wrap_i64]; omega
 have hw2:IntKind.i64.wrap (1099511627776 - (x.ops.length:Int)+1)=1099511627776 - (x.ops.length:Int)+1:=by rw [IntKind.wrap_i64]; omega
 clear h hs
 by_cases h0:0≤x.r
 rotate_left
 ·have d0:decide (x.r<0)=true:=decide_eq_true (by omega)
  have HR:=Hi (HRN.out (HHN.out (by omega)))
  clear HOS HSZ
  generalize x.ops.length=n at *
  go_enter Tryz.func38,Tryz.ntmps38
  go_wp2
  go_ret
  exact ⟨ret_b HR.out.symm,HB.out⟩
 have d0:decide (x.r<0)=false:=decide_eq_false (by omega)
 by_cases h1:x.r≤15
 rotate_left
 ·have d1:decide ((16:Int)≤x.r)=true:=decide_eq_true (by omega)
  have HR:=Hi (HRN.out (HHN.out (by omega)))
  clear HOS HSZ
  generalize x.ops.length=n at *
  go_enter Tryz.func38,Tryz.ntmps38
  go_wp2
  go_ret
  exact ⟨ret_b HR.out.symm,HB.out⟩
 have d1:decide ((16:Int)≤x.r)=false:=decide_eq_false (by omega)
 by_cases h2:1≤x.s
 rotate_left
 ·have d2:decide (x.s<1)=true:=decide_eq_true (by omega)
  have HR:=Hi (HRN.out (HHN.out (by omega)))
  clear HOS HSZ
  generalize x.ops.length=n at *
  go_enter Tryz.func38,Tryz.ntmps38
  go_wp2
  go_ret
  exact ⟨ret_b HR.out.symm,HB.out⟩
 have d2:decide (x.s<1)=false:=decide_eq_false (by omega)
 by_cases h3:x.s≤512
 rotate_left
 ·have d3:decide ((512:Int)<x.s)=true:=decide_eq_true (by omega)
  have HR:=Hi (HRN.out (HHN.out (by omega)))
  clear HOS HSZ
  generalize x.ops.length=n at *
  go_enter Tryz.func38,Tryz.ntmps38
  go_wp2
  go_ret
  exact ⟨ret_b HR.out.symm,HB.out⟩
 have d3:decide ((512:Int)<x.s)=false:=decide_eq_false (by omega)
 by_cases h4:1≤x.ops.length
 rotate_left
 ·have d4:decide ((x.ops.length:Int)<1)=true:=decide_eq_true (by omega)
  have HR:=Hi (HRN.out (HHN.out (by omega)))
  clear HOS HSZ
  generalize x.ops.length=n at *
  go_enter Tryz.func38,Tryz.ntmps38
  go_wp2
  go_ret
  exact ⟨ret_b HR.out.symm,HB.out⟩
 have d4:decide ((x.ops.length:Int)<1)=false:=decide_eq_false (by omega)
 by_cases h5:x.ops.length≤64
 rotate_left
 ·have d5:decide ((64:Int)<(x.ops.length:Int))=true:=decide_eq_true (by omega)
  have HR:=Hi (HRN.out (HHN.out (by omega)))
  clear HOS HSZ
  generalize x.ops.length=n at *
  go_enter Tryz.func38,Tryz.ntmps38
  go_wp2
  go_ret
  exact ⟨ret_b HR.out.symm,HB.out⟩
 have d5:decide ((64:Int)<(x.ops.length:Int))=false:=decide_eq_false (by omega)
 by_cases h6:1≤x.t
 rotate_left
 ·have d6:decide (x.t<1)=true:=decide_eq_true (by omega)
  have HR:=Hi (HRN.out (HHN.out (by omega)))
  clear HOS HSZ
  generalize x.ops.length=n at *
  go_enter Tryz.func38,Tryz.ntmps38
  go_wp2
  go_ret
  exact ⟨ret_b HR.out.symm,HB.out⟩
 have d6:decide (x.t<1)=false:=decide_eq_false (by omega)
 by_cases h7:x.t≤1099511627776 - ((x.ops.length:Int) - 1)
 rotate_left
 ·have d7:decide (1099511627776 - (x.ops.length:Int)+1<x.t)=true:=decide_eq_true (by omega)
  have HR:=Hi (HRN.out (HHN.out (by omega)))
  clear HOS HSZ
  generalize x.ops.length=n at *
  go_enter Tryz.func38,Tryz.ntmps38
  go_wp2
  go_ret
  exact ⟨ret_b HR.out.symm,HB.out⟩
 have d7:decide (1099511627776 - (x.ops.length:Int)+1<x.t)=false:=decide_eq_false (by omega)
 have HR0:=Hi (HRH.out (HHY.out (by omega)))
 obtain ⟨b,o,rfl,hb⟩:=HOS.out.rd.addr (by rw [enCells_length,HOS.out.len]; omega)
 clear HHN HHY HRH HRN h0 h1 h2 h3 h6 h7
 go_enter Tryz.func38,Tryz.ntmps38
 go_wp2
 go_loopw [4] (fun i wr=>∃ k:Nat,k≤x.ops.length∧i=.int .i64 (k:Int)∧(∀ j,j<k→rightO (opOf x.ops j)=true)∧BtAt wr w.heap.size x (some ⟨b,o,none⟩) c∧Os wr (some ⟨b,o,none⟩) c l x.ops∧Below w.heap.size w wr) (fun i _=>x.ops.length - (intOf i).toNat)
 case atStart=>exact ⟨0,Nat.zero_le _,rfl,fun j hj=>absurd hj (Nat.not_lt_zero _),HX.out,HOS.out,HB.out⟩
 case round =>
  clear x0 x1 x2 x3 HX HOS HB d0 d1 d2 d3 d4 d5 d6 d7 hw1 hw2
  obtain ⟨k,hk,rfl,ho,hx,hos,hbw⟩:=hrel
  have HO:=Hi ho
  have HX:=Hi hx
  have HOS:=Hi hos
  have HBW:=Hi hbw
  clear ho hx hos hbw
  by_cases hlt:k<x.ops.length
  ·have e0:decide ((k:Int)<(x.ops.length:Int))=true:=decide_eq_true (by omega)
   have HXK:=Hi (HOS.out.x k)
   have HPA:=Hi (HOS.out.paOf hlt)
   have HLL:=Hi (show k<l.length by rw [HOS.out.len]; exact hlt)
   have HN:=Hi (rright_any (opOf x.ops k) (enOf l k).q (enOf l k).c wr (HSZ.out.of hlt) HPA.out)
   have HNO:=Hi (fun h=>all_no (l:=x.ops) (f:=rightO) hlt h)
   have HST:=Hi (show rightO (opOf x.ops k)=true→∀ j,j<k+1→rightO (opOf x.ops j)=true from fun he j hj=>by
    rcases Nat.lt_or_ge j k with e | e
    ·exact HO.out j e
    ·obtain rfl:j=k:=by omega
     exact he)
   have x3:=(BtAt.cells HX.out).2.2.2
   go_wp2_with (refine wpList_load_en otR rfl _ rfl _ _ _ rfl _ HOS.out.rd HLL.out ?_; rw [HXK.out])
   refine HN.out.mono ?_
   cases hr:rightO (opOf x.ops k) with
   | false =>
    have HR:=Hi (HR0.out.trans (HNO.out hr))
    rintro e w1 ⟨rfl,hb1⟩
    have HB4:=Hi (HBW.out.trans (hb1.mono HBW.out.size))
    clear hb1
    go_wp2
    go_ret
    exact ⟨ret_b HR.out.symm,HB4.out⟩
   | true =>
    have HR:=Hi (HST.out hr)
    rintro e w1 ⟨rfl,hb1⟩
    have HB4:=Hi (HBW.out.trans (hb1.mono HBW.out.size))
    have HX4:=Hi (AgAt.kept HX.out hb1)
    have HO4:=Hi (HOS.out.kept hb1)
    clear hb1 x3
    go_wp2
    go_roundw
    case rel=>exact ⟨k+1,by omega,by go_num,HR.out,HX4.out,HO4.out,HB4.out⟩
    case measure=>simp [intOf]; omega
  ·obtain rfl:k=x.ops.length:=by omega
   have e0:decide ((x.ops.length:Int)<(x.ops.length:Int))=false:=decide_eq_false (by omega)
   have HR:=Hi (HR0.out.trans (all_yes (l:=x.ops) (f:=rightO) HO.out))
   clear HO HOS
   generalize x.ops.length=n at *
   go_wp2
   go_ret
   exact ⟨ret_b HR.out.symm,HBW.out⟩
open Go.RowKit
theorem r8stamp_any (x:Bat) (p:Option Addr) (c:Nat) (i:Int) (w:World) (hs:Szs x.ops) (h:Bops w x p c) (hi:-1000000≤i∧i≤1000000) :
  Calls Tryz.prog 71 #[.agg (btA x p c),.int .i64 i] w fun e w'=>e=.returned (.agg #[.int .i64 (stampT x i).1,.int .i64 (stampT x i).2])∧Below w.heap.size w w':=by
 have hlen:=hs.len
 have h1:∀ (w:World) (o:Obj),Below w.heap.size w (w.alloc o):=fun w o=>(Below.refl _ _).alloc (Nat.le_refl _) _
 have HX:=Hi (show BtAt ((w.alloc (.cells (btA x p c) 43)).alloc (.cells #[.int .i64 0,.int .i64 0] 50)) w.heap.size x p c from (AgAt.new w (btA x p c) 43).kept (h1 _ _))
 have hz:=AgAt.new (w.alloc (.cells (btA x p c) 43)) #[.int .i64 0,.int .i64 0] 50
 rw [show (w.alloc (.cells (btA x p c) 43)).heap.size=w.heap.size+1 from by simp] at hz
 have HZ:=Hi hz
 have HB:=Hi (show Below w.heap.size w ((w.alloc (.cells (btA x p c) 43)).alloc (.cells #[.int .i64 0,.int .i64 0] 50)) from (h1 _ _).trans ((h1 _ _).mono (by simp)))
 have HRI:=Hi (r8right_any x p c _ hs (h.kept HB.out))
 have HNO:=Hi (fun hh=>stampT_no (x:=x) (i:=i) hh)
 have HYE:=Hi (fun hh=>stampT_yes (x:=x) (i:=i) hh)
 clear h hs h1 hz
 cases hr:rightT x with
 | false =>
  rw [hr] at HRI
  have HR:=Hi (HNO.out (by rw [hr]; simp))
  clear hr
  go_enter Tryz.func71,Tryz.ntmps71
  go_wp2_with (refine wpList_load_ag btR (by kernel_rfl) _ rfl _ rfl (A:=btA x p c) rfl HX.out ?_)
  refine HRI.out.mono ?_
  rintro e w2 ⟨rfl,hb2⟩
  have HZ2:=Hi (AgAt.kept HZ.out hb2)
  have HB2:=Hi (HB.out.trans (hb2.mono HB.out.size))
  obtain ⟨x0,x1,x2,x3⟩:=BtAt.cells (AgAt.kept HX.out hb2)
  clear hb2
  go_wp2_with (refine wpList_store_ag (A:=#[.int .i64 0,.int .i64 0]) stT rfl _ _ rfl _ rfl _ HZ2.out rfl rfl rfl (stA_one _ _) ?_; intro w3 hv3 _ _ hb3)
  exact bodyPost_ret (results_ag stT _ rfl rfl hv3 rfl) rfl ⟨by rw [HR.out],hb3 _ _ HB2.out (by omega)⟩
 | true =>
  rw [hr] at HRI
  by_cases g1:i<0
  ·have d1:decide (i<0)=true:=decide_eq_true g1
   have HR:=Hi (HNO.out (by omega))
   go_enter Tryz.func71,Tryz.ntmps71
   go_wp2_with (refine wpList_load_ag btR (by kernel_rfl) _ rfl _ rfl (A:=btA x p c) rfl HX.out ?_)
   refine HRI.out.mono ?_
   rintro e w2 ⟨rfl,hb2⟩
   have HZ2:=Hi (AgAt.kept HZ.out hb2)
   have HB2:=Hi (HB.out.trans (hb2.mono HB.out.size))
   obtain ⟨x0,x1,x2,x3⟩:=BtAt.cells (AgAt.kept HX.out hb2)
   clear hb2
   go_wp2_with (refine wpList_store_ag (A:=#[.int .i64 0,.int .i64 0]) stT rfl _ _ rfl _ rfl _ HZ2.out rfl rfl rfl (stA_one _ _) ?_; intro w3 hv3 _ _ hb3)
   exact bodyPost_ret (results_ag stT _ rfl rfl hv3 rfl) rfl ⟨by rw [HR.out],hb3 _ _ HB2.out (by omega)⟩
  ·have d1:decide (i<0)=false:=decide_eq_false g1
   by_cases g2:(x.ops.length:Int)≤i
   ·have d2:decide ((x.ops.length:Int)≤i)=true:=decide_eq_true g2
    have HR:=Hi (HNO.out (by omega))
    go_enter Tryz.func71,Tryz.ntmps71
    go_wp2_with (refine wpList_load_ag btR (by kernel_rfl) _ rfl _ rfl (A:=btA x p c) rfl HX.out ?_)
    refine HRI.out.mono ?_
    rintro e w2 ⟨rfl,hb2⟩
    have HZ2:=Hi (AgAt.kept HZ.out hb2)
    have HB2:=Hi (HB.out.trans (hb2.mono HB.out.size))
    obtain ⟨x0,x1,x2,x3⟩:=BtAt.cells (AgAt.kept HX.out hb2)
    clear hb2
    go_wp2_with (refine wpList_store_ag (A:=#[.int .i64 0,.int .i64 0]) stT rfl _ _ rfl _ rfl _ HZ2.out rfl rfl rfl (stA_one _ _) ?_; intro w3 hv3 _ _ hb3)
    exact bodyPost_ret (results_ag stT _ rfl rfl hv3 rfl) rfl ⟨by rw [HR.out],hb3 _ _ HB2.out (by omega)⟩
   ·have d2:decide ((x.ops.length:Int)≤i)=false:=decide_eq_false g2
    have HR:=Hi (HYE.out ⟨by omega,by omega,hr⟩)
    have hxt:=(rightT_iff.1 hr).2.2.2.1
    have hxl:=(rightT_iff.1 hr).2.2.1
    have hwr:IntKind.i64.wrap (x.t+i)=x.t+i:=wraps_i64 _ (by omega) (by omega)
    clear hr
    go_enter Tryz.func71,Tryz.ntmps71
    go_wp2_with (refine wpList_load_ag btR (by kernel_rfl) _ rfl _ rfl (A:=btA x p c) rfl HX.out ?_)
    refine HRI.out.mono ?_
    rintro e w2 ⟨rfl,hb2⟩
    have HZ2:=Hi (AgAt.kept HZ.out hb2)
    have HB2:=Hi (HB.out.trans (hb2.mono HB.out.size))
    obtain ⟨x0,x1,x2,x3⟩:=BtAt.cells (AgAt.kept HX.out hb2)
    clear hb2
    go_wp2_with (refine wpList_store_ag (A:=#[.int .i64 (x.t+i),.int .i64 x.r]) stT rfl _ _ rfl _ rfl _ HZ2.out rfl rfl rfl (stA_one _ _) ?_; intro w3 hv3 _ _ hb3)
    exact bodyPost_ret (results_ag stT _ rfl rfl hv3 rfl) rfl ⟨by rw [HR.out],hb3 _ _ HB2.out (by omega)⟩
theorem r8end_any (x:Bat) (p:Option Addr) (c:Nat) (w:World) (hs:Szs x.ops) (h:Bops w x p c) :
  Calls Tryz.prog 52 #[.agg (btA x p c)] w fun e w'=>e=.returned (.agg #[.int .i64 (endT x).1,.int .i64 (endT x).2])∧Below w.heap.size w w':=by
 have hlen:=hs.len
 have h1:∀ (w:World) (o:Obj),Below w.heap.size w (w.alloc o):=fun w o=>(Below.refl _ _).alloc (Nat.le_refl _) _
 have HX:=Hi (show BtAt ((w.alloc (.cells (btA x p c) 43)).alloc (.cells #[.int .i64 0,.int .i64 0] 50)) w.heap.size x p c from (AgAt.new w (btA x p c) 43).kept (h1 _ _))
 have hz:=AgAt.new (w.alloc (.cells (btA x p c) 43)) #[.int .i64 0,.int .i64 0] 50
 rw [show (w.alloc (.cells (btA x p c) 43)).heap.size=w.heap.size+1 from by simp] at hz
 have HZ:=Hi hz
 have HB:=Hi (show Below w.heap.size w ((w.alloc (.cells (btA x p c) 43)).alloc (.cells #[.int .i64 0,.int .i64 0] 50)) from (h1 _ _).trans ((h1 _ _).mono (by simp)))
 have HS:=Hi (r8stamp_any x p c ((x.ops.length:Int) - 1) _ hs (h.kept HB.out) (by omega))
 obtain ⟨x0,x1,x2,x3⟩:=BtAt.cells HX.out
 have hwr:IntKind.i64.wrap ((x.ops.length:Int) - 1)=(x.ops.length:Int) - 1:=by rw [IntKind.wrap_i64]; omega
 clear h hs h1 hz
 go_enter Tryz.func52,Tryz.ntmps52
 go_wp2_with (refine wpList_load_ag btR (by kernel_rfl) _ rfl _ rfl (A:=btA x p c) rfl HX.out ?_)
 refine HS.out.mono ?_
 rintro e w2 ⟨rfl,hb2⟩
 have HZ2:=Hi (AgAt.kept HZ.out hb2)
 have HB2:=Hi (HB.out.trans (hb2.mono HB.out.size))
 clear hb2
 go_wp2_with (refine wpList_store_ag (A:=#[.int .i64 (stampT x ((x.ops.length:Int) - 1)).1,.int .i64 (stampT x ((x.ops.length:Int) - 1)).2]) stT rfl _ _ rfl _ rfl _ HZ2.out rfl rfl rfl (stA_one _ _) ?_; intro w3 hv3 _ _ hb3)
 exact bodyPost_ret (results_ag stT _ rfl rfl hv3 rfl) rfl ⟨rfl,hb3 _ _ HB2.out (Nat.le_succ _)⟩
end Go.Proofs.YtfgnmnkihbgjnaaGreat
