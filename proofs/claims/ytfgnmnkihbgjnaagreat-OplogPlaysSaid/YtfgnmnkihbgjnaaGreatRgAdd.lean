/-
  THE DOCUMENT'S LOG: Add.
  No conditions but sizes.
-/
import Derived.Test.YtfgnmnkihbgjnaaGreatSh
import Derived.Test.YtfgnmnkihbgjnaaGreatHG
import Derived.Deep.DeepCutAuto
set_option maxRecDepth 100000
set_option maxHeartbeats 32000000
namespace Go.Proofs.YtfgnmnkihbgjnaaGreat
open Go.RowKit
theorem rgadd_any {R:Nat} {m:Rm} {F:Nat→Prop} (x:Bat) (p:Option Addr) (c:Nat) (w:World) (h:Rg w R m F) (ho:LgOk m.lg) (hap:ApL m.lg) (hs:Szs x.ops) (hcp:CpSz x) (hbo:BopsF (fun k=>k≠R∧m.wv.ownBlock≠some k) w x p c) :
  Calls Tryz.prog 11 #[.pointer (some ⟨R,0,none⟩),.agg (btA x p c)] w (RAdded R F m x w):=by
 obtain ⟨i0,hi,hz0,hz1,hz2⟩:=info_parts oinfo_rbt
 have hb:=(Below.refl w.heap.size w).alloc (Nat.le_refl _) (.cells (btA x p c) 43)
 have HI:=Hi (show RaI R m F x p c w (w.alloc (.cells (btA x p c) 43)) from ⟨h.kept hb,AgAt.new w (btA x p c) 43,hbo.below hb,hb,h.lt,h.slt,fun k hk=>h.wait.lt hk⟩)
 have HRI:=Hi (r8right_any x p c _ hs HI.out.bo.bops)
 have HOKL:=Hi ho
 have HAPL:=Hi hap
 have HX:=Hi HI.out.bx
 clear h hb hbo
 go_enter Tryz.func11,Tryz.ntmps11
 cases hr:rightT x with
 | false =>
  rw [hr] at HRI
  have HA:=Hi (addL_bad (L:=m.lg) hr)
  clear hr
  go_wp2_with (refine wpList_load_ag btR (by kernel_rfl) _ rfl _ rfl (A:=btA x p c) rfl HX.out ?_)
  refine HRI.out.mono ?_
  rintro e w1 ⟨rfl,hb1⟩
  have HE:=Hi ((HI.out.kept hb1).no HA.out)
  clear hb1
  go_wp2
  go_ret2
  exact HE.out
 | true =>
  have HOKB:=Hi (show OkB x from ⟨hr,hs,hcp⟩)
  rw [hr] at HRI
  have HRT:=Hi hr
  clear hr hs hcp ho hap
  obtain ⟨hr,hxr⟩:=right_r HRT.out
  obtain ⟨r,hrr⟩:∃ r,x.r.toNat=r:=⟨_,rfl⟩
  rw [hrr] at hr hxr
  replace hxr:x.r=(r:Int):=hxr.symm
  have hsx:1≤x.s∧x.s≤512:=by have:=rightT_iff.1 HRT.out; omega
  go_wp2_with (refine wpList_load_ag btR (by kernel_rfl) _ rfl _ rfl (A:=btA x p c) rfl HX.out ?_)
  refine HRI.out.mono ?_
  rintro e w1 ⟨rfl,hb1⟩
  have HI1:=Hi (HI.out.kept hb1)
  clear hb1 HI HRI HX
  obtain ⟨x0,x1,x2,x3⟩:=BtAt.cells HI1.out.bx
  rw [hxr] at x0
  go_upto_region 4 with fail
  clear x0 x1 x2 x3
  have HLN:=Hi (Rm.len HOKL.out hr)
  have HWL:=Hi (show m.we.length≤1000 from by have:=HOKL.out.wlen; simp [Rm.lg] at this; omega)
  have HNS:=Hi (show nextS m.lg x.r.toNat=((m.el r).length:Int)+1 from by rw [hrr]; simp [nextS,Rm.lg])
  have hln:=HLN.out
  have hwr:IntKind.i64.wrap (((m.el r).length:Int)+1)=((m.el r).length:Int)+1:=wraps_i64 _ (by omega) (by omega)
  refine wp_region_held_drew (S:=fun W=>RaI R m F x p c w W) (by kernel_rfl) (HI1.out.kept (Below.drew (Below.refl _ _))) (fun hS=>?_)
  clear HI1
  generalize w1.drew=we at *
  by_cases g1:x.s≤((m.el r).length:Int)
  ·have d1:decide (x.s≤((m.el r).length:Int))=true:=decide_eq_true g1
   have HA:=Hi (addL_there (L:=m.lg) HRT.out (Or.inr (by rw [HNS.out]; omega)))
   refine tX 0 rfl hS ?_
   refine tK 1 (v:=?_) rfl ?_ hS ?_
   rotate_left
   ·intro W hSW
    obtain ⟨x0,x1,x2,x3⟩:=BtAt.cells hSW.bx
    rw [hxr] at x0
    go_simp
    all_goals with_reducible rfl
   refine tX 2 rfl hS ?_
   refine tX 3 rfl hS ?_
   go_simp
   refine tX 4 rfl hS ?_
   refine tX 5 rfl hS ?_
   refine tK 6 (v:=?_) rfl ?_ hS ?_
   rotate_left
   ·intro W hSW
    have hri:(r:Int)<16:=by omega
    go_simp
    all_goals with_reducible rfl
   refine tK 7 (v:=?_) rfl ?_ hS ?_
   rotate_left
   ·intro W hSW
    have yc:=hSW.rg.cell hr
    go_simp
    all_goals with_reducible rfl
   go_simp
   refine tX 8 rfl hS ?_
   refine tX 9 rfl hS ?_
   refine tX 10 rfl hS ?_
   go_simp
   refine tU 11 rfl hS ?_
   go_simp
   refine tU 12 rfl hS ?_
   go_simp
   refine tU 13 rfl hS ?_
   go_simp
   refine tU 14 rfl hS ?_
   go_simp
   refine tU 15 rfl hS ?_
   go_simp
   refine tU 16 rfl hS ?_
   refine tX 17 rfl hS ?_
   go_simp
   refine wpAnyH_done (by kernel_rfl) ?_ _
   go_simp
   have HE:=Hi (hS.no HA.out)
   clear hS
   go_wp2
   go_ret2
   exact HE.out
  ·have d1:decide (x.s≤((m.el r).length:Int))=false:=decide_eq_false g1
   cases hany:m.lg.wait.any (atPl x.r x.s) with
   | true =>
    obtain ⟨i,hi2,hw,-,-⟩:=wtL_yes hany
    rw [hxr] at hw
    have HWT:=Hi hw
    have HA:=Hi (addL_there (L:=m.lg) HRT.out (Or.inl hany))
    have dz:decide ((0:Int)≤(i:Int))=true:=decide_eq_true (by omega)
    clear hany hi2 hw
    refine tX 0 rfl hS ?_
    refine tK 1 (v:=?_) rfl ?_ hS ?_
    rotate_left
    ·intro W hSW
     obtain ⟨x0,x1,x2,x3⟩:=BtAt.cells hSW.bx
     rw [hxr] at x0
     go_simp
     all_goals with_reducible rfl
    refine tX 2 rfl hS ?_
    refine tX 3 rfl hS ?_
    go_simp
    refine tX 4 rfl hS ?_
    refine tX 5 rfl hS ?_
    refine tK 6 (v:=?_) rfl ?_ hS ?_
    rotate_left
    ·intro W hSW
     have hri:(r:Int)<16:=by omega
     go_simp
     all_goals with_reducible rfl
    refine tK 7 (v:=?_) rfl ?_ hS ?_
    rotate_left
    ·intro W hSW
     have yc:=hSW.rg.cell hr
     go_simp
     all_goals with_reducible rfl
    go_simp
    refine tX 8 rfl hS ?_
    refine tX 9 rfl hS ?_
    refine tX 10 rfl hS ?_
    refine tX 11 rfl hS ?_
    go_simp
    refine tX 12 rfl hS ?_
    refine tX 13 rfl hS ?_
    refine tK 14 (v:=?_) rfl ?_ hS ?_
    rotate_left
    ·intro W hSW
     obtain ⟨x0,x1,x2,x3⟩:=BtAt.cells hSW.bx
     rw [hxr] at x0
     go_simp
     all_goals with_reducible rfl
    go_simp
    refine rD 15 rfl (fun K hK=>?_)
    go_simp
    go_wp2_with ((go_at_call 39; refine (rgwaits_any (r:Int) x.s _ hS.rg HWL.out).mono ?_; rintro e wn ⟨rfl,rfl⟩))
    rw [HWT.out]
    refine hK.out _ _ hS (fun hS=>?_)
    clear hK K
    refine tX 16 rfl hS ?_
    refine tX 17 rfl hS ?_
    go_simp
    refine wpAnyH_done (by kernel_rfl) ?_ _
    go_simp
    have HE:=Hi (hS.no HA.out)
    clear hS
    go_wp2
    go_ret2
    exact HE.out
   | false =>
    have HWT:=Hi (show wtL m.lg.wait (r:Int) x.s = -1 from by rw [← hxr]; exact wtL_no hany)
    have HNY:=Hi hany
    clear hany
    refine tX 0 rfl hS ?_
    refine tK 1 (v:=?_) rfl ?_ hS ?_
    rotate_left
    ·intro W hSW
     obtain ⟨x0,x1,x2,x3⟩:=BtAt.cells hSW.bx
     rw [hxr] at x0
     go_simp
     all_goals with_reducible rfl
    refine tX 2 rfl hS ?_
    refine tX 3 rfl hS ?_
    go_simp
    refine tX 4 rfl hS ?_
    refine tX 5 rfl hS ?_
    refine tK 6 (v:=?_) rfl ?_ hS ?_
    rotate_left
    ·intro W hSW
     have hri:(r:Int)<16:=by omega
     go_simp
     all_goals with_reducible rfl
    refine tK 7 (v:=?_) rfl ?_ hS ?_
    rotate_left
    ·intro W hSW
     have yc:=hSW.rg.cell hr
     go_simp
     all_goals with_reducible rfl
    go_simp
    refine tX 8 rfl hS ?_
    refine tX 9 rfl hS ?_
    refine tX 10 rfl hS ?_
    refine tX 11 rfl hS ?_
    go_simp
    refine tX 12 rfl hS ?_
    refine tX 13 rfl hS ?_
    refine tK 14 (v:=?_) rfl ?_ hS ?_
    rotate_left
    ·intro W hSW
     obtain ⟨x0,x1,x2,x3⟩:=BtAt.cells hSW.bx
     rw [hxr] at x0
     go_simp
     all_goals with_reducible rfl
    go_simp
    refine rD 15 rfl (fun K hK=>?_)
    go_simp
    go_wp2_with ((go_at_call 39; refine (rgwaits_any (r:Int) x.s _ hS.rg HWL.out).mono ?_; rintro e wn ⟨rfl,rfl⟩))
    rw [HWT.out]
    refine hK.out _ _ hS (fun hS=>?_)
    clear hK K
    refine tX 16 rfl hS ?_
    refine tX 17 rfl hS ?_
    go_simp
    refine wpAnyH_done (by kernel_rfl) ?_ _
    go_simp
    have HS4:=Hi hS
    clear hS
    go_upto_region 6 with fail
    refine wp_region_held_drew (S:=fun W=>RaI R m F x p c w W) (by kernel_rfl) (HS4.out.kept (Below.drew (Below.refl _ _))) (fun hS=>?_)
    clear HS4
    generalize we.drew=wf at *
    by_cases g2:((m.el r).length:Int)+1<x.s
    ·have d2:decide (((m.el r).length:Int)+1<x.s)=true:=decide_eq_true g2
     refine tX 0 rfl hS ?_
     refine tK 1 (v:=?_) rfl ?_ hS ?_
     rotate_left
     ·intro W hSW
      obtain ⟨x0,x1,x2,x3⟩:=BtAt.cells hSW.bx
      rw [hxr] at x0
      go_simp
      all_goals with_reducible rfl
     refine tX 2 rfl hS ?_
     refine tX 3 rfl hS ?_
     go_simp
     refine tX 4 rfl hS ?_
     refine tX 5 rfl hS ?_
     refine tK 6 (v:=?_) rfl ?_ hS ?_
     rotate_left
     ·intro W hSW
      have hri:(r:Int)<16:=by omega
      go_simp
      all_goals with_reducible rfl
     refine tK 7 (v:=?_) rfl ?_ hS ?_
     rotate_left
     ·intro W hSW
      have yc:=hSW.rg.cell hr
      go_simp
      all_goals with_reducible rfl
     go_simp
     refine tX 8 rfl hS ?_
     refine tX 9 rfl hS ?_
     refine tX 10 rfl hS ?_
     go_simp
     refine wpAnyH_done (by kernel_rfl) ?_ _
     go_simp
     have HS6:=Hi hS
     clear hS
     have yw:=HS6.out.rg.wcell
     by_cases g3:64≤m.we.length
     ·have d3:decide ((64:Int)≤(m.we.length:Int))=true:=decide_eq_true (by omega)
      have HA:=Hi (addL_fullw (L:=m.lg) HRT.out HNY.out (by rw [HNS.out]; omega) (by simpa [Rm.lg] using g3))
      have HE:=Hi (HS6.out.no HA.out)
      go_wp2
      go_ret2
      exact HE.out
     ·have d3:decide ((64:Int)≤(m.we.length:Int))=false:=decide_eq_false (by omega)
      have HA:=Hi (addL_gap (L:=m.lg) HRT.out HNY.out (by rw [HNS.out]; omega) (by simpa [Rm.lg] using g3))
      go_upto_region 9 with fail
      clear yw
      have T0:=Hi (show RaI R m F x p c w wf.drew from HS6.out.kept (Below.drew (Below.refl _ _)))
      refine wp_region_held_drew (S:=fun W=>BtAt W w.heap.size x p c) (by kernel_rfl) T0.out.bx (fun hS=>?_)
      clear HS6
      generalize wf.drew=wd at *
      refine tX 0 rfl hS ?_
      refine tX 1 rfl hS ?_
      refine tX 2 rfl hS ?_
      refine tX 3 rfl hS ?_
      go_simp
      refine tK 5 (v:=.agg (btA x p c)) rfl (fun W hSW=>exec_load_ag btR rfl rfl rfl hSW) hS ?_
      go_simp
      refine wpAnyH_ready (rs:=[4,6]) (by kernel_rfl) (by simp) ?_
      refine AllReadyH.cons rfl (fun K hK=>?_) (AllReadyH.cons rfl (fun K hK=>?_) AllReadyH.nil)
      ·have yc:=(T0.out.kept (Below.refl wd.heap.size wd)).rg.wcell
       go_simp
       refine hK.out _ _ hS (fun hS=>?_)
       clear hK K yc
       refine rD 6 rfl (fun K hK=>?_)
       go_simp
       go_wp2_with ((go_at_call 40; refine (rgcopied_any _ _ _ _ T0.out.bo.bops HOKB.out.cp).mono ?_; rintro e w6 ⟨p6,c6,rfl,hp6,hb6⟩))
       have HP6:=Hi hp6
       have HB6:=Hi hb6
       refine hK.out _ _ (AgAt.kept hS hb6) (fun hS=>?_)
       clear hK K hp6 hb6
       refine rD 7 rfl (fun K hK=>?_)
       have hb7:=(Below.refl w6.heap.size w6).alloc (Nat.le_refl _) (.cells (btA x p6 c6) 43)
       have HP7:=Hi (((BopsF.ofN HP6.out).below hb7).mono (G:=fun k=>w.heap.size≤k∧k<(w6.alloc (.cells (btA x p6 c6) 43)).heap.size) fun k hk h1=>⟨Nat.le_trans T0.out.bel.size h1,hk⟩)
       have HB7:=Hi (HB6.out.trans (hb7.mono HB6.out.size))
       have HRW:=Hi (rd_bt_one w6 ⟨x,p6,c6⟩ 43)
       refine step_of (by kernel_rfl) ?_
       refine wp_build_rbt _ rfl x p6 c6 rfl ?_
       refine hK.out _ _ (AgAt.kept hS hb7) (fun hS=>?_)
       clear hK K hb7
       generalize w6.alloc (.cells (btA x p6 c6) 43)=w7 at *
       refine rD 8 rfl (fun K hK=>?_)
       refine step_append_kN (by kernel_rfl) _ _ 22 rfl 0 43 i0 _ 4 48 Tryz.underlying22 hi hz0 hz1 (by decide) hz2 (by decide) rfl (.slice m.wq m.we.length m.wc) m.we.length (beCells m.we) rfl (T0.out.kept HB7.out).rg.wait.own _ 1 1 (beL ⟨x,p6,c6⟩) rfl rfl HRW.out (fun h=>by cases h) (beL_one _) (by have:=HWL.out; omega) (Nat.zero_le _) ?_
       intro p8 c8 w8 ho8 hg8 hw8
       have HG:=Hi ((T0.out.kept HB7.out).gap (c6:=c6) HP7.out (fun k hk=>hk) ho8 hg8 hw8 HA.out)
       refine hK.out _ _ (AgAt.block hS (hg8.block _ (AgAt.lt hS) (fun e=>by have:=T0.out.lW _ e.symm; omega))) (fun hS=>?_)
       clear hK K ho8 hg8 hw8
       refine tX 9 rfl hS ?_
       refine tX 10 rfl hS ?_
       go_simp
       refine rD 11 rfl (fun K hK=>?_)
       have yc:=(AgAt.cell HG.out.2 16).trans (rgA_wait _ _)
       have yf:=AgAt.free HG.out.2 16
       unfold Rm.wv at yc
       go_simp
       refine hK.out _ _ (AgAt.block hS (heap_setCell_other _ _ _ _ (by have:=T0.out.lR; simp; omega))) (fun hS=>?_)
       clear hK K yc yf
       refine wpAnyH_done (by kernel_rfl) ?_ _
       go_simp
       have HE:=Hi HG.out.1
       generalize w8.setCell ⟨R,16,none⟩ (.slice p8 (m.we.length+1) c8)=w9 at *
       clear hS HG
       go_wp2
       go_ret2
       exact HE.out
      ·go_simp
       go_wp2_with ((go_at_call 40; refine (rgcopied_any _ _ _ _ T0.out.bo.bops HOKB.out.cp).mono ?_; rintro e w6 ⟨p6,c6,rfl,hp6,hb6⟩))
       have HP6:=Hi hp6
       have HB6:=Hi hb6
       refine hK.out _ _ (AgAt.kept hS hb6) (fun hS=>?_)
       clear hK K hp6 hb6
       refine wpAnyH_ready (rs:=[4,7]) (by kernel_rfl) (by simp) ?_
       refine AllReadyH.cons rfl (fun K hK=>?_) (AllReadyH.cons rfl (fun K hK=>?_) AllReadyH.nil)
       ·have yc:=(T0.out.kept HB6.out).rg.wcell
        go_simp
        refine hK.out _ _ hS (fun hS=>?_)
        clear hK K yc
        refine rD 7 rfl (fun K hK=>?_)
        have hb7:=(Below.refl w6.heap.size w6).alloc (Nat.le_refl _) (.cells (btA x p6 c6) 43)
        have HP7:=Hi (((BopsF.ofN HP6.out).below hb7).mono (G:=fun k=>w.heap.size≤k∧k<(w6.alloc (.cells (btA x p6 c6) 43)).heap.size) fun k hk h1=>⟨Nat.le_trans T0.out.bel.size h1,hk⟩)
        have HB7:=Hi (HB6.out.trans (hb7.mono HB6.out.size))
        have HRW:=Hi (rd_bt_one w6 ⟨x,p6,c6⟩ 43)
        refine step_of (by kernel_rfl) ?_
        refine wp_build_rbt _ rfl x p6 c6 rfl ?_
        refine hK.out _ _ (AgAt.kept hS hb7) (fun hS=>?_)
        clear hK K hb7
        generalize w6.alloc (.cells (btA x p6 c6) 43)=w7 at *
        refine rD 8 rfl (fun K hK=>?_)
        refine step_append_kN (by kernel_rfl) _ _ 22 rfl 0 43 i0 _ 4 48 Tryz.underlying22 hi hz0 hz1 (by decide) hz2 (by decide) rfl (.slice m.wq m.we.length m.wc) m.we.length (beCells m.we) rfl (T0.out.kept HB7.out).rg.wait.own _ 1 1 (beL ⟨x,p6,c6⟩) rfl rfl HRW.out (fun h=>by cases h) (beL_one _) (by have:=HWL.out; omega) (Nat.zero_le _) ?_
        intro p8 c8 w8 ho8 hg8 hw8
        have HG:=Hi ((T0.out.kept HB7.out).gap (c6:=c6) HP7.out (fun k hk=>hk) ho8 hg8 hw8 HA.out)
        refine hK.out _ _ (AgAt.block hS (hg8.block _ (AgAt.lt hS) (fun e=>by have:=T0.out.lW _ e.symm; omega))) (fun hS=>?_)
        clear hK K ho8 hg8 hw8
        refine tX 9 rfl hS ?_
        refine tX 10 rfl hS ?_
        go_simp
        refine rD 11 rfl (fun K hK=>?_)
        have yc:=(AgAt.cell HG.out.2 16).trans (rgA_wait _ _)
        have yf:=AgAt.free HG.out.2 16
        unfold Rm.wv at yc
        go_simp
        refine hK.out _ _ (AgAt.block hS (heap_setCell_other _ _ _ _ (by have:=T0.out.lR; simp; omega))) (fun hS=>?_)
        clear hK K yc yf
        refine wpAnyH_done (by kernel_rfl) ?_ _
        go_simp
        have HE:=Hi HG.out.1
        generalize w8.setCell ⟨R,16,none⟩ (.slice p8 (m.we.length+1) c8)=w9 at *
        clear hS HG
        go_wp2
        go_ret2
        exact HE.out
       ·have hb7:=(Below.refl w6.heap.size w6).alloc (Nat.le_refl _) (.cells (btA x p6 c6) 43)
        have HP7:=Hi (((BopsF.ofN HP6.out).below hb7).mono (G:=fun k=>w.heap.size≤k∧k<(w6.alloc (.cells (btA x p6 c6) 43)).heap.size) fun k hk h1=>⟨Nat.le_trans T0.out.bel.size h1,hk⟩)
        have HB7:=Hi (HB6.out.trans (hb7.mono HB6.out.size))
        have HRW:=Hi (rd_bt_one w6 ⟨x,p6,c6⟩ 43)
        refine step_of (by kernel_rfl) ?_
        refine wp_build_rbt _ rfl x p6 c6 rfl ?_
        refine hK.out _ _ (AgAt.kept hS hb7) (fun hS=>?_)
        clear hK K hb7
        generalize w6.alloc (.cells (btA x p6 c6) 43)=w7 at *
        refine rD 4 rfl (fun K hK=>?_)
        have yc:=(T0.out.kept HB7.out).rg.wcell
        go_simp
        refine hK.out _ _ hS (fun hS=>?_)
        clear hK K yc
        refine rD 8 rfl (fun K hK=>?_)
        refine step_append_kN (by kernel_rfl) _ _ 22 rfl 0 43 i0 _ 4 48 Tryz.underlying22 hi hz0 hz1 (by decide) hz2 (by decide) rfl (.slice m.wq m.we.length m.wc) m.we.length (beCells m.we) rfl (T0.out.kept HB7.out).rg.wait.own _ 1 1 (beL ⟨x,p6,c6⟩) rfl rfl HRW.out (fun h=>by cases h) (beL_one _) (by have:=HWL.out; omega) (Nat.zero_le _) ?_
        intro p8 c8 w8 ho8 hg8 hw8
        have HG:=Hi ((T0.out.kept HB7.out).gap (c6:=c6) HP7.out (fun k hk=>hk) ho8 hg8 hw8 HA.out)
        refine hK.out _ _ (AgAt.block hS (hg8.block _ (AgAt.lt hS) (fun e=>by have:=T0.out.lW _ e.symm; omega))) (fun hS=>?_)
        clear hK K ho8 hg8 hw8
        refine tX 9 rfl hS ?_
        refine tX 10 rfl hS ?_
        go_simp
        refine rD 11 rfl (fun K hK=>?_)
        have yc:=(AgAt.cell HG.out.2 16).trans (rgA_wait _ _)
        have yf:=AgAt.free HG.out.2 16
        unfold Rm.wv at yc
        go_simp
        refine hK.out _ _ (AgAt.block hS (heap_setCell_other _ _ _ _ (by have:=T0.out.lR; simp; omega))) (fun hS=>?_)
        clear hK K yc yf
        refine wpAnyH_done (by kernel_rfl) ?_ _
        go_simp
        have HE:=Hi HG.out.1
        generalize w8.setCell ⟨R,16,none⟩ (.slice p8 (m.we.length+1) c8)=w9 at *
        clear hS HG
        go_wp2
        go_ret2
        exact HE.out
    ·have d2:decide (((m.el r).length:Int)+1<x.s)=false:=decide_eq_false g2
     refine tX 0 rfl hS ?_
     refine tK 1 (v:=?_) rfl ?_ hS ?_
     rotate_left
     ·intro W hSW
      obtain ⟨x0,x1,x2,x3⟩:=BtAt.cells hSW.bx
      rw [hxr] at x0
      go_simp
      all_goals with_reducible rfl
     refine tX 2 rfl hS ?_
     refine tX 3 rfl hS ?_
     go_simp
     refine tX 4 rfl hS ?_
     refine tX 5 rfl hS ?_
     refine tK 6 (v:=?_) rfl ?_ hS ?_
     rotate_left
     ·intro W hSW
      have hri:(r:Int)<16:=by omega
      go_simp
      all_goals with_reducible rfl
     refine tK 7 (v:=?_) rfl ?_ hS ?_
     rotate_left
     ·intro W hSW
      have yc:=hSW.rg.cell hr
      go_simp
      all_goals with_reducible rfl
     go_simp
     refine tX 8 rfl hS ?_
     refine tX 9 rfl hS ?_
     refine tX 10 rfl hS ?_
     go_simp
     refine wpAnyH_done (by kernel_rfl) ?_ _
     go_simp
     have T:=hS
     clear hS
     have hse:x.s=((m.el r).length:Int)+1:=by omega
     have HFI:=Hi (fun W (hW:RaI R m F x p c w W)=>rgfits_any x p c W hW.rg HOKL.out HRT.out)
     have HTO:=Hi (rgtotal_any wf T.rg HOKL.out)
     by_cases g3:512≤totL m.lg
     ·have d3:decide ((512:Int)≤totL m.lg)=true:=decide_eq_true g3
      have HA:=Hi (addL_full (L:=m.lg) HRT.out HNY.out (by rw [HNS.out]; exact hse) g3)
      have HE:=Hi (T.no HA.out)
      clear T
      go_wp2_with fail
      refine HTO.out.mono ?_
      rintro e w5 ⟨rfl,rfl⟩
      go_wp2
      go_ret2
      exact HE.out
     ·have d3:decide ((512:Int)≤totL m.lg)=false:=decide_eq_false g3
      have HNF:=Hi g3
      have T0:=Hi T
      have HX:=Hi T.bx
      clear T
      cases hfit:fitsL m.lg x with
      | false =>
       rw [hfit] at HFI
       have HA:=Hi (addL_form (L:=m.lg) HRT.out HNY.out (by rw [HNS.out]; exact hse) g3 hfit)
       clear hfit
       go_wp2_with fail
       refine HTO.out.mono ?_
       rintro e w5 ⟨rfl,rfl⟩
       go_wp2_with (refine wpList_load_ag btR (by kernel_rfl) _ rfl _ rfl (A:=btA x p c) rfl HX.out ?_)
       refine (HFI.out _ T0.out).mono ?_
       rintro e w6 ⟨rfl,hb6⟩
       have HE:=Hi ((T0.out.kept hb6).no HA.out)
       clear hb6
       go_wp2
       go_ret2
       exact HE.out
      | true =>
       rw [hfit] at HFI
       have HA:=Hi (addL_ok (L:=m.lg) HRT.out HNY.out (by rw [HNS.out]; exact hse) g3 hfit)
       rw [hrr] at HA
       clear hfit
       go_wp2_with fail
       refine HTO.out.mono ?_
       rintro e w5 ⟨rfl,rfl⟩
       go_wp2_with (refine wpList_load_ag btR (by kernel_rfl) _ rfl _ rfl (A:=btA x p c) rfl HX.out ?_)
       refine (HFI.out _ T0.out).mono ?_
       rintro e wg ⟨rfl,hb6⟩
       have T:=T0.out.kept hb6
       clear hb6 T0 HFI HTO HX d1 d2 d3
       have HE4:=Hi HA.out
       have HAL:=Hi HA.out
       obtain ⟨L1,hL1⟩:∃ L1,L1=followL (m.lg.wait.length+1) (enterL m.lg x) r:=⟨_,rfl⟩
       rw [← hL1] at HAL
       have HL1:=Hi hL1.symm
       obtain ⟨n0,hn0⟩:∃ n0,n0=(m.el r).length:=⟨_,rfl⟩
       have HN0:=Hi (show x.s.toNat - 1=n0 from by omega)
       rw [HN0.out] at HAL
       have HN0E:=Hi hn0
       clear hL1 hn0 HE4 HA
       go_upto_region 15 with fail
       have HT0:=Hi T
       go_cut [] (fun wx=>∃ (q:Option Addr) (d:Nat) (e:Be) (G:Nat→Prop),e.x=x∧ReS R F (fun k=>m.wv.ownBlock=some k) w (m.put r (m.el r ++ [e]) q d) G none 0 [] wx∧BtAt wx w.heap.size x p c∧BopsF (fun k=>k≠R∧m.wv.ownBlock≠some k) wx x p c∧w.heap.size≤wx.heap.size)
       case first =>
        have T0:=Hi (show RaI R m F x p c w wg.drew from T.kept (Below.drew (Below.refl _ _)))
        refine wp_region_held_drew (S:=fun W=>BtAt W w.heap.size x p c) (by kernel_rfl) T0.out.bx (fun hS=>?_)
        clear T HT0 HAL
        generalize wg.drew=wd at *
        refine tX 0 rfl hS ?_
        refine tX 1 rfl hS ?_
        refine tX 3 rfl hS ?_
        refine tX 4 rfl hS ?_
        go_simp
        refine tX 5 rfl hS ?_
        refine tX 6 rfl hS ?_
        refine tK 7 (v:=?_) rfl ?_ hS ?_
        rotate_left
        ·intro W hSW
         have hri:(r:Int)<16:=by omega
         go_simp
         all_goals with_reducible rfl
        go_simp
        refine tK 10 (v:=.agg (btA x p c)) rfl (fun W hSW=>exec_load_ag btR rfl rfl rfl hSW) hS ?_
        refine tX 14 rfl hS ?_
        refine tX 15 rfl hS ?_
        go_simp
        refine wpAnyH_ready (rs:=[2,8]) (by kernel_rfl) (by simp) ?_
        refine AllReadyH.cons rfl (fun K hK=>?_) (AllReadyH.cons rfl (fun K hK=>?_) AllReadyH.nil)
        ·have hb:=(Below.refl wd.heap.size wd).alloc (Nat.le_refl _) (.cells #[] 43)
         have HO2:=Hi (World.ownsRow_lit (base:=wd.heap.size) (e:=43) (size:=4) wd #[] 0 (Below.refl wd.heap.size wd).size (by simp [maxLen]) (by simp))
         have HC2:=Hi (Below.refl wd.heap.size wd).size
         have HB2:=Hi ((Below.refl wd.heap.size wd).trans (hb.mono (Below.refl wd.heap.size wd).size))
         go_simp
         refine hK.out _ _ (AgAt.kept hS hb) (fun hS=>?_)
         clear hK K hb
         generalize wd.alloc (.cells #[] 43)=w2 at *
         refine rD 8 rfl (fun K hK=>?_)
         have yc:=(T0.out.rg.kept HB2.out).cell hr
         go_simp
         refine hK.out _ _ hS (fun hS=>?_)
         clear hK K yc
         refine rD 9 rfl (fun K hK=>?_)
         refine step_append_kN (by kernel_rfl) _ _ 22 rfl wd.heap.size 43 i0 _ 4 48 Tryz.underlying22 hi hz0 hz1 (by decide) hz2 (by decide) rfl _ 0 [] rfl HO2.out _ (m.el r).length (m.c r) (beCells (m.el r)) rfl (beCells_length _) ((T0.out.kept HB2.out).rg.row r hr).rd ((T0.out.kept HB2.out).rg.row r hr).nil beCells_one (by have:=HLN.out; omega) HB2.out.size ?_
         intro p9 c9 w9 ho9 hg9 _
         rw [Nat.zero_add,List.nil_append] at ho9
         have hb9:=HB2.out.grown hg9 HB2.out.size (fun k hk=>by cases hk; exact HC2.out)
         have HO9:=Hi ho9
         have HB9:=Hi hb9
         refine hK.out _ _ (AgAt.kept T0.out.bx hb9) (fun hS=>?_)
         clear hK K hb9 ho9 hg9
         rw [Nat.zero_add]
         refine rD 11 rfl (fun K hK=>?_)
         go_simp
         go_wp2_with ((go_at_call 40; refine (rgcopied_any _ _ _ _ (T0.out.kept HB9.out).bo.bops HOKB.out.cp).mono ?_; rintro e w11 ⟨p11,c11,rfl,hp11,hb11⟩))
         have HP11:=Hi hp11
         have HB11:=Hi hb11
         refine hK.out _ _ (AgAt.kept hS hb11) (fun hS=>?_)
         clear hK K hp11 hb11
         refine rD 12 rfl (fun K hK=>?_)
         have hb12:=(Below.refl w11.heap.size w11).alloc (Nat.le_refl _) (.cells (btA x p11 c11) 43)
         have HP12:=Hi ((BopsF.ofN HP11.out).below hb12)
         have HB12:=Hi (HB11.out.trans (hb12.mono HB11.out.size))
         have HRW:=Hi (rd_bt_one w11 ⟨x,p11,c11⟩ 43)
         refine step_of (by kernel_rfl) ?_
         refine wp_build_rbt _ rfl x p11 c11 rfl ?_
         refine hK.out _ _ (AgAt.kept hS hb12) (fun hS=>?_)
         clear hK K hb12
         generalize w11.alloc (.cells (btA x p11 c11) 43)=w12 at *
         refine rD 13 rfl (fun K hK=>?_)
         refine step_append_kN (by kernel_rfl) _ _ 22 rfl wd.heap.size 43 i0 _ 4 48 Tryz.underlying22 hi hz0 hz1 (by decide) hz2 (by decide) rfl (.slice p9 (m.el r).length c9) (m.el r).length (beCells (m.el r)) rfl (own_belowK HO9.out HB12.out) _ 1 1 (beL ⟨x,p11,c11⟩) rfl rfl HRW.out (fun h=>by cases h) (beL_one _) (by have:=HLN.out; omega) (by have:=HB9.out.size; have:=HB12.out.size; omega) ?_
         intro p13 c13 w13 ho13 hg13 _
         have HE13:=Hi (rob_ext (e:=⟨x,p11,c11⟩) (T0.out.rg.row r hr) HB9.out HO9.out HB12.out HP12.out (fun k hk=>Or.inr hk) T0.out.rg.lt ho13 hg13)
         refine hK.out _ _ (AgAt.kept T0.out.bx HE13.out.2) (fun hS=>?_)
         clear hK K ho13 hg13
         refine tK 16 (v:=?_) rfl ?_ hS ?_
         rotate_left
         ·intro W hSW
          have hri:(r:Int)<16:=by omega
          go_simp
          all_goals with_reducible rfl
         go_simp
         refine rD 17 rfl (fun K hK=>?_)
         have yc:=(T0.out.kept HE13.out.2).rg.cell hr
         have yf:=AgAt.free (T0.out.kept HE13.out.2).rg.st r
         go_simp
         refine hK.out _ _ (AgAt.block hS (heap_setCell_other _ _ _ _ (by have:=T0.out.lR; simp; omega))) (fun hS=>?_)
         clear hK K yc yf
         refine wpAnyH_done (by kernel_rfl) ?_ _
         go_simp
         have HE:=Hi (T0.out.reS.entered hr HE13.out.2 HE13.out.1)
         have HX:=Hi ((T0.out.kept HE13.out.2).box r (.slice p13 ((m.el r).length+1) c13))
         have HZ:=Hi (show w.heap.size≤(w13.setCell ⟨R,r,none⟩ (.slice p13 ((m.el r).length+1) c13)).heap.size from by have:=T0.out.bel.size; have:=HE13.out.2.size; simp; omega)
         generalize w13.setCell ⟨R,r,none⟩ (.slice p13 ((m.el r).length+1) c13)=w14 at *
         clear hS
         go_wp2_with fail
         go_meet
         exact ⟨p13,c13,⟨x,p11,c11⟩,_,rfl,HE.out,HX.out.1,HX.out.2,HZ.out⟩
        ·have yc:=(T0.out.rg.kept (Below.refl wd.heap.size wd)).cell hr
         go_simp
         refine hK.out _ _ hS (fun hS=>?_)
         clear hK K yc
         refine rD 2 rfl (fun K hK=>?_)
         have hb:=(Below.refl wd.heap.size wd).alloc (Nat.le_refl _) (.cells #[] 43)
         have HO2:=Hi (World.ownsRow_lit (base:=wd.heap.size) (e:=43) (size:=4) wd #[] 0 (Below.refl wd.heap.size wd).size (by simp [maxLen]) (by simp))
         have HC2:=Hi (Below.refl wd.heap.size wd).size
         have HB2:=Hi ((Below.refl wd.heap.size wd).trans (hb.mono (Below.refl wd.heap.size wd).size))
         go_simp
         refine hK.out _ _ (AgAt.kept hS hb) (fun hS=>?_)
         clear hK K hb
         generalize wd.alloc (.cells #[] 43)=w2 at *
         refine rD 9 rfl (fun K hK=>?_)
         refine step_append_kN (by kernel_rfl) _ _ 22 rfl wd.heap.size 43 i0 _ 4 48 Tryz.underlying22 hi hz0 hz1 (by decide) hz2 (by decide) rfl _ 0 [] rfl HO2.out _ (m.el r).length (m.c r) (beCells (m.el r)) rfl (beCells_length _) ((T0.out.kept HB2.out).rg.row r hr).rd ((T0.out.kept HB2.out).rg.row r hr).nil beCells_one (by have:=HLN.out; omega) HB2.out.size ?_
         intro p9 c9 w9 ho9 hg9 _
         rw [Nat.zero_add,List.nil_append] at ho9
         have hb9:=HB2.out.grown hg9 HB2.out.size (fun k hk=>by cases hk; exact HC2.out)
         have HO9:=Hi ho9
         have HB9:=Hi hb9
         refine hK.out _ _ (AgAt.kept T0.out.bx hb9) (fun hS=>?_)
         clear hK K hb9 ho9 hg9
         rw [Nat.zero_add]
         refine rD 11 rfl (fun K hK=>?_)
         go_simp
         go_wp2_with ((go_at_call 40; refine (rgcopied_any _ _ _ _ (T0.out.kept HB9.out).bo.bops HOKB.out.cp).mono ?_; rintro e w11 ⟨p11,c11,rfl,hp11,hb11⟩))
         have HP11:=Hi hp11
         have HB11:=Hi hb11
         refine hK.out _ _ (AgAt.kept hS hb11) (fun hS=>?_)
         clear hK K hp11 hb11
         refine rD 12 rfl (fun K hK=>?_)
         have hb12:=(Below.refl w11.heap.size w11).alloc (Nat.le_refl _) (.cells (btA x p11 c11) 43)
         have HP12:=Hi ((BopsF.ofN HP11.out).below hb12)
         have HB12:=Hi (HB11.out.trans (hb12.mono HB11.out.size))
         have HRW:=Hi (rd_bt_one w11 ⟨x,p11,c11⟩ 43)
         refine step_of (by kernel_rfl) ?_
         refine wp_build_rbt _ rfl x p11 c11 rfl ?_
         refine hK.out _ _ (AgAt.kept hS hb12) (fun hS=>?_)
         clear hK K hb12
         generalize w11.alloc (.cells (btA x p11 c11) 43)=w12 at *
         refine rD 13 rfl (fun K hK=>?_)
         refine step_append_kN (by kernel_rfl) _ _ 22 rfl wd.heap.size 43 i0 _ 4 48 Tryz.underlying22 hi hz0 hz1 (by decide) hz2 (by decide) rfl (.slice p9 (m.el r).length c9) (m.el r).length (beCells (m.el r)) rfl (own_belowK HO9.out HB12.out) _ 1 1 (beL ⟨x,p11,c11⟩) rfl rfl HRW.out (fun h=>by cases h) (beL_one _) (by have:=HLN.out; omega) (by have:=HB9.out.size; have:=HB12.out.size; omega) ?_
         intro p13 c13 w13 ho13 hg13 _
         have HE13:=Hi (rob_ext (e:=⟨x,p11,c11⟩) (T0.out.rg.row r hr) HB9.out HO9.out HB12.out HP12.out (fun k hk=>Or.inr hk) T0.out.rg.lt ho13 hg13)
         refine hK.out _ _ (AgAt.kept T0.out.bx HE13.out.2) (fun hS=>?_)
         clear hK K ho13 hg13
         refine tK 16 (v:=?_) rfl ?_ hS ?_
         rotate_left
         ·intro W hSW
          have hri:(r:Int)<16:=by omega
          go_simp
          all_goals with_reducible rfl
         go_simp
         refine rD 17 rfl (fun K hK=>?_)
         have yc:=(T0.out.kept HE13.out.2).rg.cell hr
         have yf:=AgAt.free (T0.out.kept HE13.out.2).rg.st r
         go_simp
         refine hK.out _ _ (AgAt.block hS (heap_setCell_other _ _ _ _ (by have:=T0.out.lR; simp; omega))) (fun hS=>?_)
         clear hK K yc yf
         refine wpAnyH_done (by kernel_rfl) ?_ _
         go_simp
         have HE:=Hi (T0.out.reS.entered hr HE13.out.2 HE13.out.1)
         have HX:=Hi ((T0.out.kept HE13.out.2).box r (.slice p13 ((m.el r).length+1) c13))
         have HZ:=Hi (show w.heap.size≤(w13.setCell ⟨R,r,none⟩ (.slice p13 ((m.el r).length+1) c13)).heap.size from by have:=T0.out.bel.size; have:=HE13.out.2.size; simp; omega)
         generalize w13.setCell ⟨R,r,none⟩ (.slice p13 ((m.el r).length+1) c13)=w14 at *
         clear hS
         go_wp2_with fail
         go_meet
         exact ⟨p13,c13,⟨x,p11,c11⟩,_,rfl,HE.out,HX.out.1,HX.out.2,HZ.out⟩
       case rest =>
        clear T HT0
        obtain ⟨q,d,e,G,hex,hT,hX,hBO,hZ⟩:=hcut
        have T1:=Hi (hT.one hBO fun k hk=>hk.1)
        have HX:=Hi hX
        have HLG:=Hi (show (m.put r (m.el r ++ [e]) q d).lg=enterL m.lg x from by rw [← hex]; exact m.put_enter r e q d (by rw [hex]; exact hrr))
        have HLS:=Hi (show ReL R r n0 F (fun k=>m.wv.ownBlock=some k) w L1 (m.lg.wait.length+1) (m.put r (m.el r ++ [e]) q d) G (some ⟨wc.heap.size,0,none⟩) 1 [⟨x,p,c⟩] (wc.alloc (.cells (btA x p c) 43)) from by
         refine ⟨T1.out,by rw [HLG.out]; exact HOKL.out.enter HOKB.out (by have:=HNF.out; omega),by rw [HLG.out]; exact HAPL.out.enter _,by rw [HLG.out]; exact HL1.out,?_,?_,?_⟩
         ·show m.we.length<m.lg.wait.length+1
          simp [Rm.lg]
         ·rw [HLG.out]
          have h1:(enterL m.lg x).row r=m.lg.row r ++ [x]:=by unfold enterL; dsimp only; rw [if_pos hrr.symm]
          have h2:(m.lg.row r).length=n0:=by rw [HN0E.out]; simp [Rm.lg]
          rw [h1,← h2,List.drop_left]
          rfl
         ·simp only [Rm.put,if_true,List.length_append]
          rw [HN0E.out]
          omega)
        clear hex hT hX hBO T1 HLG
        go_wp2_with (first | (refine wpList_load_ag btR (by kernel_rfl) _ rfl _ rfl (A:=btA x p c) rfl HX.out ?_) | (refine wpList_build_rbt rfl _ rfl x p c rfl ?_))
        go_loopg [7] (m.lg.wait.length+1) (fun g s7 wr=>∃ (m1:Rm) (F1:Nat→Prop) (po:Option Addr) (co:Nat) (lo:List Be),s7=.slice po lo.length co∧ReL R r n0 F (fun k=>m.wv.ownBlock=some k) w L1 g m1 F1 po co lo wr)
        case atStart=>exact ⟨_,_,_,_,_,rfl,HLS.out⟩
        case round =>
         clear HLS HX
         obtain ⟨m1,F1,po,co,lo,rfl,hL⟩:=hrel
         obtain ⟨g1,rfl⟩:∃ g1,gk=g1+1:=⟨gk - 1,by have:=hL.fuel; omega⟩
         have T:=Hi hL
         have HDONE:=Hi (fun (m2:Rm) (F2:Nat→Prop) (W:World) (h1:ReS R F (fun k=>m.wv.ownBlock=some k) w m2 F2 po co lo W) (h2:m2.lg.row r=m1.lg.row r) (h3:m2.lg=L1)=>h1.done (x:=x) (by rw [HAL.out,h3]) (by rw [HAL.out,hL.olg,← h2,h3]) (by rw [HAL.out]))
         clear hL
         by_cases hfull:512≤totL m1.lg
         ·have hd:decide (totL m1.lg<512)=false:=decide_eq_false (by omega)
          have HE:=Hi (HDONE.out m1 F1 wr T.out.re rfl ((followL_full hfull).symm.trans T.out.eq))
          go_wp2_with fail
          refine (rgtotal_any _ T.out.re.rg T.out.ok).mono ?_
          rintro e w1 ⟨rfl,rfl⟩
          go_wp2
          go_ret2
          exact HE.out
         ·have hd:decide (totL m1.lg<512)=true:=decide_eq_true (by omega)
          have HNF:=Hi hfull
          have HNS:=Hi (show nextS m1.lg r=((m1.el r).length:Int)+1 from by simp [nextS,Rm.lg])
          have HLN:=Hi (Rm.len T.out.ok hr)
          have HWL:=Hi (show m1.we.length≤1000 from by have:=T.out.ok.wlen; simp [Rm.lg] at this; omega)
          have HW1:=Hi (show IntKind.i64.wrap (((m1.el r).length:Int)+1)=((m1.el r).length:Int)+1 from wraps_i64 _ (by omega) (by have:=HLN.out; omega))
          go_wp2_with fail
          refine (rgtotal_any _ T.out.re.rg T.out.ok).mono ?_
          rintro e w1 ⟨rfl,rfl⟩
          clear hfull
          have T1:=Hi T.out.re
          have yc:=T1.out.rg.cell hr
          have hri:(r:Int)<16:=by omega
          have hw1:=HW1.out
          cases hany:m1.lg.wait.any (atPl (r:Int) (nextS m1.lg r)) with
          | false =>
           have HWT:=Hi (show wtL m1.lg.wait (r:Int) (((m1.el r).length:Int)+1) = -1 from by rw [← HNS.out]; exact wtL_no hany)
           have HE:=Hi (HDONE.out m1 F1 wr T1.out rfl ((followL_none (by have:=HNF.out; omega) (any_find hany)).symm.trans T.out.eq))
           clear hany
           go_wp2_with fail
           refine (rgwaits_any (r:Int) (((m1.el r).length:Int)+1) _ T1.out.rg HWL.out).mono ?_
           rintro e wn ⟨rfl,rfl⟩
           rw [HWT.out]
           go_wp2
           go_ret2
           exact HE.out
          | true =>
           obtain ⟨i,hi,hw,hat,hfind⟩:=wtL_yes hany
           have hi2:i<m1.we.length:=by simpa [Rm.lg] using hi
           have hxe:m1.lg.wait[i]=(beOf m1.we i).x:=beOf_map hi2
           rw [hxe] at hat hfind
           have HWT:=Hi (show wtL m1.lg.wait (r:Int) (((m1.el r).length:Int)+1)=(i:Int) from by rw [← HNS.out]; exact hw)
           have HAT:=Hi hat
           have HFO:=Hi ((followL_some (g:=g1) (by have:=HNF.out; omega) hfind).symm.trans T.out.eq)
           have HIL:=Hi hi2
           have hmem:=beOf_mem hi2
           have HYK:=Hi (T.out.ok.wright _ (List.mem_map.2 ⟨_,hmem,rfl⟩))
           have HYR:=Hi (show (beOf m1.we i).x.r.toNat=r from by rw [(atPl_iff.1 hat).1]; simp)
           clear hany hi hw hat hfind hxe
           go_wp2_with fail
           refine (rgwaits_any (r:Int) (((m1.el r).length:Int)+1) _ T1.out.rg HWL.out).mono ?_
           rintro e wn ⟨rfl,rfl⟩
           rw [HWT.out]
           obtain ⟨bq,hq,hbq,-⟩:∃ bq,m1.wq=some ⟨bq,0,none⟩∧bq<wr.heap.size∧True:=by
            obtain ⟨h1,h2,h3,h4⟩:=T1.out.rg.wait.rd
            obtain ⟨b,o,e,-⟩:=h1.addr (by rw [beCells_length]; omega)
            have h5:=h4 _ e
            obtain ⟨h6,h7,-⟩:=h5
            cases h7
            exact ⟨b,e,h6,trivial⟩
           have HQ:=Hi hq
           have hw0:=T1.out.rg.wcell
           have HWR:=Hi T1.out.rg.wait.rd
           rw [hq] at hw0 HWR
           have HBO:=Hi ((T1.out.rg.wait.ops _ hmem).mono (G:=F1) fun k _ hk=>hk.1)
           have hil:(i:Int)<(m1.we.length:Int):=by omega
           have hd8:decide ((i:Int)<0)=false:=decide_eq_false (by omega)
           clear hq hi2 hmem
           go_upto_region 21 with (first | (refine wpList_load_be0 btR rfl _ rfl bq i rfl m1.we HWR.out.1 HIL.out ?_) | (refine wpList_store_newag btR rfl _ _ rfl rfl _ rfl rfl rfl (btA_one _ _ _) ?_; intro w4 hv4 hb4))
           clear hw0
           go_simp
           go_cut [] (fun wx=>∃ (q:Option Addr) (d:Nat),ReS R F (fun k=>m.wv.ownBlock=some k) w (m1.setW (m1.we.eraseIdx i) q d) F1 po co lo wx∧BtAt wx wr.heap.size (beOf m1.we i).x (beOf m1.we i).p (beOf m1.we i).c∧BopsF F1 wx (beOf m1.we i).x (beOf m1.we i).p (beOf m1.we i).c∧wr.heap.size<wx.heap.size)
           case first =>
            generalize hy:beOf m1.we i=y at *
            have HY:=Hi hy
            clear hy
            have T4:=Hi (T1.out.kept hb4)
            have HV4:=Hi hv4
            have HBO4:=Hi (HBO.out.below hb4)
            have HYN:=Hi (show wr.heap.size≠R∧wr.heap.size<w4.heap.size from ⟨by have:=T1.out.rg.slt; omega,AgAt.lt hv4⟩)
            clear hb4 hv4
            have HIL1:=Hi (show i+1≤m1.we.length from HIL.out)
            have HWC:=Hi (show m1.we.length≤m1.wc from HWR.out.2.1)
            have HW2:=Hi (show IntKind.i64.wrap ((i:Int)+1)=(i:Int)+1 from wraps_i64 _ (by omega) (by have:=HWL.out; have:=HIL.out; omega))
            generalize hYY:wr.heap.size=Y at *
            clear hYY T1 T HBO HFO HDONE HAL HWT
            have T0:=Hi (show ReS R F (fun k=>m.wv.ownBlock=some k) w m1 F1 po co lo w4.drew from T4.out.kept (Below.drew (Below.refl _ _)))
            have HV0:=Hi (show BtAt w4.drew Y y.x y.p y.c from AgAt.kept HV4.out (Below.drew (Below.refl _ _)))
            have HBO0:=Hi (show BopsF F1 w4.drew y.x y.p y.c from HBO4.out.below (Below.drew (Below.refl _ _)))
            have HYN0:=Hi (show Y<w4.drew.heap.size from HYN.out.2)
            refine wp_region_held_drew (S:=fun _=>True) (by kernel_rfl) trivial (fun hS=>?_)
            clear T4 HV4 HBO4
            generalize w4.drew=wd at *
            have HRQ:=Hi (fun W (hW:Below wd.heap.size wd W)=>show Rd W (some ⟨bq,0,none⟩) (beCells m1.we) from by
             have:=(T0.out.kept hW).rg.wait.rd.1
             rw [HQ.out] at this
             exact this)
            have HDN:=Hi (show drq bq m1.wc (i+1)=none→m1.wc - (i+1)=0 from fun h=>by unfold drq at h; split at h <;> cases h)
            have HER:=Hi (fun (W:World) (q:Option Addr) (d:Nat) (hW:Below wd.heap.size wd W) (ho:W.ownsRow wd.heap.size 43 4 (.slice q (i+(m1.we.length - (i+1))) d) (i+(m1.we.length - (i+1))) (beCells (m1.we.take i) ++ beCells (m1.we.drop (i+1)))) =>
             show ReS R F (fun k=>m.wv.ownBlock=some k) w (m1.setW (m1.we.eraseIdx i) q d) F1 po co lo (W.setCell ⟨R,16,none⟩ (.slice q (i+(m1.we.length - (i+1))) d))∧BtAt (W.setCell ⟨R,16,none⟩ (.slice q (i+(m1.we.length - (i+1))) d)) Y y.x y.p y.c∧BopsF F1 (W.setCell ⟨R,16,none⟩ (.slice q (i+(m1.we.length - (i+1))) d)) y.x y.p y.c∧Y<(W.setCell ⟨R,16,none⟩ (.slice q (i+(m1.we.length - (i+1))) d)).heap.size from by
             have hll:(m1.we.eraseIdx i).length=i+(m1.we.length - (i+1)):=by
              have:=HIL.out
              rw [List.length_eraseIdx]
              simp [this]
              omega
             rw [← beCells_append,take_drop_erase] at ho
             have hof:∀ b,(Value.slice q (m1.we.eraseIdx i).length d).ownBlock=some b→wd.heap.size≤b:=fun b hb=>by rw [hll] at hb; exact (World.ownsRow.lt ho b hb).1
             have hrow:ARow F1 W q d (m1.we.eraseIdx i):=by
              refine ARow.made (by rw [hll]; exact own_base ho fun _ _=>Nat.zero_le _) (fun e he=>?_) fun k hk hh=>?_
              ·exact (((T0.out.rg.wait.ops e (List.mem_of_mem_eraseIdx he)).mono (G:=F1) fun k _ hk=>hk.1).below hW)
              ·have:=hof k hh
               have:=T0.out.rg.lt k hk
               omega
             exact ⟨T0.out.setW hW hrow hof hll,AgAt.block (AgAt.kept HV0.out hW) (heap_setCell_other _ _ _ _ (by simpa using HYN.out.1)),(HBO0.out.below hW).turns (set_turns R W 16 _) (fun k hk e=>T0.out.rg.nR (e ▸ hk)),by have:=hW.size; have:=HYN0.out; simp; omega⟩)
            refine tX 0 rfl hS ?_
            refine tX 2 rfl hS ?_
            refine tX 3 rfl hS ?_
            refine tX 4 rfl hS ?_
            go_simp
            refine tX 6 rfl hS ?_
            refine tX 9 rfl hS ?_
            refine tX 10 rfl hS ?_
            refine tX 11 rfl hS ?_
            go_simp
            refine tX 13 rfl hS ?_
            refine tK 14 (v:=?_) rfl ?_ hS ?_
            rotate_left
            ·intro W hSW
             have hw2:=HW2.out
             go_simp
             all_goals with_reducible rfl
            go_simp
            refine wpAnyH_ready (rs:=[1,5,12]) (by kernel_rfl) (by simp) ?_
            refine AllReadyH.cons rfl (fun K hK=>?_) (AllReadyH.cons rfl (fun K hK=>?_) (AllReadyH.cons rfl (fun K hK=>?_) AllReadyH.nil))
            ·have hb:=(Below.refl wd.heap.size wd).alloc (Nat.le_refl _) (.cells #[] 43)
             have HO1:=Hi (World.ownsRow_lit (base:=wd.heap.size) (e:=43) (size:=4) wd #[] 0 (Below.refl wd.heap.size wd).size (by simp [maxLen]) (by simp))
             have HC1:=Hi (Below.refl wd.heap.size wd).size
             have HB1:=Hi ((Below.refl wd.heap.size wd).trans (hb.mono (Below.refl wd.heap.size wd).size))
             go_simp
             refine hK.out _ _ (hS) (fun hS=>?_)
             clear hK K hb
             generalize wd.alloc (.cells #[] 43)=w1 at *
             refine wpAnyH_ready (rs:=[5,12]) (by kernel_rfl) (by simp) ?_
             refine AllReadyH.cons rfl (fun K hK=>?_) (AllReadyH.cons rfl (fun K hK=>?_) AllReadyH.nil)
             ·have yc:=(T0.out.kept HB1.out).rg.wcell
              rw [HQ.out] at yc
              go_simp
              refine hK.out _ _ hS (fun hS=>?_)
              clear hK K yc
              refine tK 7 (v:=.slice (some ⟨bq,0,none⟩) i m1.wc) rfl (fun W _=>exec_take_be rfl rfl rfl (by have:=HIL.out; have:=HWC.out; omega)) hS ?_
              go_simp
              refine wpAnyH_ready (rs:=[8,12]) (by kernel_rfl) (by simp) ?_
              refine AllReadyH.cons rfl (fun K hK=>?_) (AllReadyH.cons rfl (fun K hK=>?_) AllReadyH.nil)
              ·refine step_append_kN (by kernel_rfl) _ _ 22 rfl wd.heap.size 43 i0 _ 4 48 Tryz.underlying22 hi hz0 hz1 (by decide) hz2 (by decide) rfl _ 0 [] rfl HO1.out _ i m1.wc (beCells (m1.we.take i)) rfl (by rw [beCells_length,List.length_take,Nat.min_eq_left (Nat.le_of_lt HIL.out)]) (rd_take_be (HRQ.out _ HB1.out) i) (fun h=>by cases h) beCells_one (by have:=HWL.out; have:=HIL.out; omega) HB1.out.size ?_
               intro p8 c8 w8 ho8 hg8 _
               rw [Nat.zero_add,List.nil_append] at ho8
               have hb8:=HB1.out.grown hg8 HB1.out.size (fun k hk=>by cases hk; exact HC1.out)
               have HO8:=Hi ho8
               have HB8:=Hi hb8
               refine hK.out _ _ hS (fun hS=>?_)
               clear hK K hb8 ho8 hg8
               rw [Nat.zero_add]
               refine rD 12 rfl (fun K hK=>?_)
               have yc:=(T0.out.kept HB8.out).rg.wcell
               rw [HQ.out] at yc
               go_simp
               refine hK.out _ _ hS (fun hS=>?_)
               clear hK K yc
               refine tK 15 (v:=.slice (drq bq m1.wc (i+1)) (m1.we.length - (i+1)) (m1.wc - (i+1))) rfl (fun W _=>exec_drop_be rfl rfl rfl HIL1.out) hS ?_
               go_simp
               refine rD 16 rfl (fun K hK=>?_)
               refine step_append_kN (by kernel_rfl) _ _ 22 rfl wd.heap.size 43 i0 _ 4 48 Tryz.underlying22 hi hz0 hz1 (by decide) hz2 (by decide) rfl (.slice p8 i c8) i (beCells (m1.we.take i)) rfl HO8.out _ (m1.we.length - (i+1)) (m1.wc - (i+1)) (beCells (m1.we.drop (i+1))) rfl (by rw [beCells_length,List.length_drop]) (rd_drop_be (HRQ.out _ HB8.out) (i+1) HWC.out) (fun h=>HDN.out h) beCells_one (by have:=HWL.out; have:=HIL.out; omega) HB8.out.size ?_
               intro p16 c16 w16 ho16 hg16 _
               have hb16:=HB8.out.grown hg16 HB8.out.size (fun k hk=>(World.ownsRow.lt HO8.out k hk).1)
               have HB16:=Hi hb16
               have HO16:=Hi ho16
               refine hK.out _ _ hS (fun hS=>?_)
               clear hK K ho16 hg16 hb16
               refine tX 17 rfl hS ?_
               refine tX 18 rfl hS ?_
               go_simp
               refine rD 19 rfl (fun K hK=>?_)
               have yc:=(T0.out.kept HB16.out).rg.wcell
               have yf:=AgAt.free (T0.out.kept HB16.out).rg.st 16
               go_simp
               refine hK.out _ _ hS (fun hS=>?_)
               clear hK K yc yf
               refine wpAnyH_done (by kernel_rfl) ?_ _
               go_simp
               have HE:=Hi (HER.out w16 p16 c16 HB16.out HO16.out)
               generalize w16.setCell ⟨R,16,none⟩ (.slice p16 (i+(m1.we.length - (i+1))) c16)=w17 at *
               clear hS
               go_wp2_with fail
               go_meet
               exact ⟨p16,c16,HE.out.1,HE.out.2.1,HE.out.2.2.1,HE.out.2.2.2⟩
              ·have yc:=(T0.out.kept HB1.out).rg.wcell
               rw [HQ.out] at yc
               go_simp
               refine hK.out _ _ hS (fun hS=>?_)
               clear hK K yc
               refine tK 15 (v:=.slice (drq bq m1.wc (i+1)) (m1.we.length - (i+1)) (m1.wc - (i+1))) rfl (fun W _=>exec_drop_be rfl rfl rfl HIL1.out) hS ?_
               go_simp
               refine rD 8 rfl (fun K hK=>?_)
               refine step_append_kN (by kernel_rfl) _ _ 22 rfl wd.heap.size 43 i0 _ 4 48 Tryz.underlying22 hi hz0 hz1 (by decide) hz2 (by decide) rfl _ 0 [] rfl HO1.out _ i m1.wc (beCells (m1.we.take i)) rfl (by rw [beCells_length,List.length_take,Nat.min_eq_left (Nat.le_of_lt HIL.out)]) (rd_take_be (HRQ.out _ HB1.out) i) (fun h=>by cases h) beCells_one (by have:=HWL.out; have:=HIL.out; omega) HB1.out.size ?_
               intro p8 c8 w8 ho8 hg8 _
               rw [Nat.zero_add,List.nil_append] at ho8
               have hb8:=HB1.out.grown hg8 HB1.out.size (fun k hk=>by cases hk; exact HC1.out)
               have HO8:=Hi ho8
               have HB8:=Hi hb8
               refine hK.out _ _ hS (fun hS=>?_)
               clear hK K hb8 ho8 hg8
               rw [Nat.zero_add]
               refine rD 16 rfl (fun K hK=>?_)
               refine step_append_kN (by kernel_rfl) _ _ 22 rfl wd.heap.size 43 i0 _ 4 48 Tryz.underlying22 hi hz0 hz1 (by decide) hz2 (by decide) rfl (.slice p8 i c8) i (beCells (m1.we.take i)) rfl HO8.out _ (m1.we.length - (i+1)) (m1.wc - (i+1)) (beCells (m1.we.drop (i+1))) rfl (by rw [beCells_length,List.length_drop]) (rd_drop_be (HRQ.out _ HB8.out) (i+1) HWC.out) (fun h=>HDN.out h) beCells_one (by have:=HWL.out; have:=HIL.out; omega) HB8.out.size ?_
               intro p16 c16 w16 ho16 hg16 _
               have hb16:=HB8.out.grown hg16 HB8.out.size (fun k hk=>(World.ownsRow.lt HO8.out k hk).1)
               have HB16:=Hi hb16
               have HO16:=Hi ho16
               refine hK.out _ _ hS (fun hS=>?_)
               clear hK K ho16 hg16 hb16
               refine tX 17 rfl hS ?_
               refine tX 18 rfl hS ?_
               go_simp
               refine rD 19 rfl (fun K hK=>?_)
               have yc:=(T0.out.kept HB16.out).rg.wcell
               have yf:=AgAt.free (T0.out.kept HB16.out).rg.st 16
               go_simp
               refine hK.out _ _ hS (fun hS=>?_)
               clear hK K yc yf
               refine wpAnyH_done (by kernel_rfl) ?_ _
               go_simp
               have HE:=Hi (HER.out w16 p16 c16 HB16.out HO16.out)
               generalize w16.setCell ⟨R,16,none⟩ (.slice p16 (i+(m1.we.length - (i+1))) c16)=w17 at *
               clear hS
               go_wp2_with fail
               go_meet
               exact ⟨p16,c16,HE.out.1,HE.out.2.1,HE.out.2.2.1,HE.out.2.2.2⟩
             ·have yc:=(T0.out.kept HB1.out).rg.wcell
              rw [HQ.out] at yc
              go_simp
              refine hK.out _ _ hS (fun hS=>?_)
              clear hK K yc
              refine tK 15 (v:=.slice (drq bq m1.wc (i+1)) (m1.we.length - (i+1)) (m1.wc - (i+1))) rfl (fun W _=>exec_drop_be rfl rfl rfl HIL1.out) hS ?_
              go_simp
              refine rD 5 rfl (fun K hK=>?_)
              have yc:=(T0.out.kept HB1.out).rg.wcell
              rw [HQ.out] at yc
              go_simp
              refine hK.out _ _ hS (fun hS=>?_)
              clear hK K yc
              refine tK 7 (v:=.slice (some ⟨bq,0,none⟩) i m1.wc) rfl (fun W _=>exec_take_be rfl rfl rfl (by have:=HIL.out; have:=HWC.out; omega)) hS ?_
              go_simp
              refine rD 8 rfl (fun K hK=>?_)
              refine step_append_kN (by kernel_rfl) _ _ 22 rfl wd.heap.size 43 i0 _ 4 48 Tryz.underlying22 hi hz0 hz1 (by decide) hz2 (by decide) rfl _ 0 [] rfl HO1.out _ i m1.wc (beCells (m1.we.take i)) rfl (by rw [beCells_length,List.length_take,Nat.min_eq_left (Nat.le_of_lt HIL.out)]) (rd_take_be (HRQ.out _ HB1.out) i) (fun h=>by cases h) beCells_one (by have:=HWL.out; have:=HIL.out; omega) HB1.out.size ?_
              intro p8 c8 w8 ho8 hg8 _
              rw [Nat.zero_add,List.nil_append] at ho8
              have hb8:=HB1.out.grown hg8 HB1.out.size (fun k hk=>by cases hk; exact HC1.out)
              have HO8:=Hi ho8
              have HB8:=Hi hb8
              refine hK.out _ _ hS (fun hS=>?_)
              clear hK K hb8 ho8 hg8
              rw [Nat.zero_add]
              refine rD 16 rfl (fun K hK=>?_)
              refine step_append_kN (by kernel_rfl) _ _ 22 rfl wd.heap.size 43 i0 _ 4 48 Tryz.underlying22 hi hz0 hz1 (by decide) hz2 (by decide) rfl (.slice p8 i c8) i (beCells (m1.we.take i)) rfl HO8.out _ (m1.we.length - (i+1)) (m1.wc - (i+1)) (beCells (m1.we.drop (i+1))) rfl (by rw [beCells_length,List.length_drop]) (rd_drop_be (HRQ.out _ HB8.out) (i+1) HWC.out) (fun h=>HDN.out h) beCells_one (by have:=HWL.out; have:=HIL.out; omega) HB8.out.size ?_
              intro p16 c16 w16 ho16 hg16 _
              have hb16:=HB8.out.grown hg16 HB8.out.size (fun k hk=>(World.ownsRow.lt HO8.out k hk).1)
              have HB16:=Hi hb16
              have HO16:=Hi ho16
              refine hK.out _ _ hS (fun hS=>?_)
              clear hK K ho16 hg16 hb16
              refine tX 17 rfl hS ?_
              refine tX 18 rfl hS ?_
              go_simp
              refine rD 19 rfl (fun K hK=>?_)
              have yc:=(T0.out.kept HB16.out).rg.wcell
              have yf:=AgAt.free (T0.out.kept HB16.out).rg.st 16
              go_simp
              refine hK.out _ _ hS (fun hS=>?_)
              clear hK K yc yf
              refine wpAnyH_done (by kernel_rfl) ?_ _
              go_simp
              have HE:=Hi (HER.out w16 p16 c16 HB16.out HO16.out)
              generalize w16.setCell ⟨R,16,none⟩ (.slice p16 (i+(m1.we.length - (i+1))) c16)=w17 at *
              clear hS
              go_wp2_with fail
              go_meet
              exact ⟨p16,c16,HE.out.1,HE.out.2.1,HE.out.2.2.1,HE.out.2.2.2⟩
            ·have yc:=(T0.out.kept (Below.refl wd.heap.size wd)).rg.wcell
             rw [HQ.out] at yc
             go_simp
             refine hK.out _ _ hS (fun hS=>?_)
             clear hK K yc
             refine tK 7 (v:=.slice (some ⟨bq,0,none⟩) i m1.wc) rfl (fun W _=>exec_take_be rfl rfl rfl (by have:=HIL.out; have:=HWC.out; omega)) hS ?_
             go_simp
             refine wpAnyH_ready (rs:=[1,12]) (by kernel_rfl) (by simp) ?_
             refine AllReadyH.cons rfl (fun K hK=>?_) (AllReadyH.cons rfl (fun K hK=>?_) AllReadyH.nil)
             ·have hb:=(Below.refl wd.heap.size wd).alloc (Nat.le_refl _) (.cells #[] 43)
              have HO1:=Hi (World.ownsRow_lit (base:=wd.heap.size) (e:=43) (size:=4) wd #[] 0 (Below.refl wd.heap.size wd).size (by simp [maxLen]) (by simp))
              have HC1:=Hi (Below.refl wd.heap.size wd).size
              have HB1:=Hi ((Below.refl wd.heap.size wd).trans (hb.mono (Below.refl wd.heap.size wd).size))
              go_simp
              refine hK.out _ _ (hS) (fun hS=>?_)
              clear hK K hb
              generalize wd.alloc (.cells #[] 43)=w1 at *
              refine wpAnyH_ready (rs:=[8,12]) (by kernel_rfl) (by simp) ?_
              refine AllReadyH.cons rfl (fun K hK=>?_) (AllReadyH.cons rfl (fun K hK=>?_) AllReadyH.nil)
              ·refine step_append_kN (by kernel_rfl) _ _ 22 rfl wd.heap.size 43 i0 _ 4 48 Tryz.underlying22 hi hz0 hz1 (by decide) hz2 (by decide) rfl _ 0 [] rfl HO1.out _ i m1.wc (beCells (m1.we.take i)) rfl (by rw [beCells_length,List.length_take,Nat.min_eq_left (Nat.le_of_lt HIL.out)]) (rd_take_be (HRQ.out _ HB1.out) i) (fun h=>by cases h) beCells_one (by have:=HWL.out; have:=HIL.out; omega) HB1.out.size ?_
               intro p8 c8 w8 ho8 hg8 _
               rw [Nat.zero_add,List.nil_append] at ho8
               have hb8:=HB1.out.grown hg8 HB1.out.size (fun k hk=>by cases hk; exact HC1.out)
               have HO8:=Hi ho8
               have HB8:=Hi hb8
               refine hK.out _ _ hS (fun hS=>?_)
               clear hK K hb8 ho8 hg8
               rw [Nat.zero_add]
               refine rD 12 rfl (fun K hK=>?_)
               have yc:=(T0.out.kept HB8.out).rg.wcell
               rw [HQ.out] at yc
               go_simp
               refine hK.out _ _ hS (fun hS=>?_)
               clear hK K yc
               refine tK 15 (v:=.slice (drq bq m1.wc (i+1)) (m1.we.length - (i+1)) (m1.wc - (i+1))) rfl (fun W _=>exec_drop_be rfl rfl rfl HIL1.out) hS ?_
               go_simp
               refine rD 16 rfl (fun K hK=>?_)
               refine step_append_kN (by kernel_rfl) _ _ 22 rfl wd.heap.size 43 i0 _ 4 48 Tryz.underlying22 hi hz0 hz1 (by decide) hz2 (by decide) rfl (.slice p8 i c8) i (beCells (m1.we.take i)) rfl HO8.out _ (m1.we.length - (i+1)) (m1.wc - (i+1)) (beCells (m1.we.drop (i+1))) rfl (by rw [beCells_length,List.length_drop]) (rd_drop_be (HRQ.out _ HB8.out) (i+1) HWC.out) (fun h=>HDN.out h) beCells_one (by have:=HWL.out; have:=HIL.out; omega) HB8.out.size ?_
               intro p16 c16 w16 ho16 hg16 _
               have hb16:=HB8.out.grown hg16 HB8.out.size (fun k hk=>(World.ownsRow.lt HO8.out k hk).1)
               have HB16:=Hi hb16
               have HO16:=Hi ho16
               refine hK.out _ _ hS (fun hS=>?_)
               clear hK K ho16 hg16 hb16
               refine tX 17 rfl hS ?_
               refine tX 18 rfl hS ?_
               go_simp
               refine rD 19 rfl (fun K hK=>?_)
               have yc:=(T0.out.kept HB16.out).rg.wcell
               have yf:=AgAt.free (T0.out.kept HB16.out).rg.st 16
               go_simp
               refine hK.out _ _ hS (fun hS=>?_)
               clear hK K yc yf
               refine wpAnyH_done (by kernel_rfl) ?_ _
               go_simp
               have HE:=Hi (HER.out w16 p16 c16 HB16.out HO16.out)
               generalize w16.setCell ⟨R,16,none⟩ (.slice p16 (i+(m1.we.length - (i+1))) c16)=w17 at *
               clear hS
               go_wp2_with fail
               go_meet
               exact ⟨p16,c16,HE.out.1,HE.out.2.1,HE.out.2.2.1,HE.out.2.2.2⟩
              ·have yc:=(T0.out.kept HB1.out).rg.wcell
               rw [HQ.out] at yc
               go_simp
               refine hK.out _ _ hS (fun hS=>?_)
               clear hK K yc
               refine tK 15 (v:=.slice (drq bq m1.wc (i+1)) (m1.we.length - (i+1)) (m1.wc - (i+1))) rfl (fun W _=>exec_drop_be rfl rfl rfl HIL1.out) hS ?_
               go_simp
               refine rD 8 rfl (fun K hK=>?_)
               refine step_append_kN (by kernel_rfl) _ _ 22 rfl wd.heap.size 43 i0 _ 4 48 Tryz.underlying22 hi hz0 hz1 (by decide) hz2 (by decide) rfl _ 0 [] rfl HO1.out _ i m1.wc (beCells (m1.we.take i)) rfl (by rw [beCells_length,List.length_take,Nat.min_eq_left (Nat.le_of_lt HIL.out)]) (rd_take_be (HRQ.out _ HB1.out) i) (fun h=>by cases h) beCells_one (by have:=HWL.out; have:=HIL.out; omega) HB1.out.size ?_
               intro p8 c8 w8 ho8 hg8 _
               rw [Nat.zero_add,List.nil_append] at ho8
               have hb8:=HB1.out.grown hg8 HB1.out.size (fun k hk=>by cases hk; exact HC1.out)
               have HO8:=Hi ho8
               have HB8:=Hi hb8
               refine hK.out _ _ hS (fun hS=>?_)
               clear hK K hb8 ho8 hg8
               rw [Nat.zero_add]
               refine rD 16 rfl (fun K hK=>?_)
               refine step_append_kN (by kernel_rfl) _ _ 22 rfl wd.heap.size 43 i0 _ 4 48 Tryz.underlying22 hi hz0 hz1 (by decide) hz2 (by decide) rfl (.slice p8 i c8) i (beCells (m1.we.take i)) rfl HO8.out _ (m1.we.length - (i+1)) (m1.wc - (i+1)) (beCells (m1.we.drop (i+1))) rfl (by rw [beCells_length,List.length_drop]) (rd_drop_be (HRQ.out _ HB8.out) (i+1) HWC.out) (fun h=>HDN.out h) beCells_one (by have:=HWL.out; have:=HIL.out; omega) HB8.out.size ?_
               intro p16 c16 w16 ho16 hg16 _
               have hb16:=HB8.out.grown hg16 HB8.out.size (fun k hk=>(World.ownsRow.lt HO8.out k hk).1)
               have HB16:=Hi hb16
               have HO16:=Hi ho16
               refine hK.out _ _ hS (fun hS=>?_)
               clear hK K ho16 hg16 hb16
               refine tX 17 rfl hS ?_
               refine tX 18 rfl hS ?_
               go_simp
               refine rD 19 rfl (fun K hK=>?_)
               have yc:=(T0.out.kept HB16.out).rg.wcell
               have yf:=AgAt.free (T0.out.kept HB16.out).rg.st 16
               go_simp
               refine hK.out _ _ hS (fun hS=>?_)
               clear hK K yc yf
               refine wpAnyH_done (by kernel_rfl) ?_ _
               go_simp
               have HE:=Hi (HER.out w16 p16 c16 HB16.out HO16.out)
               generalize w16.setCell ⟨R,16,none⟩ (.slice p16 (i+(m1.we.length - (i+1))) c16)=w17 at *
               clear hS
               go_wp2_with fail
               go_meet
               exact ⟨p16,c16,HE.out.1,HE.out.2.1,HE.out.2.2.1,HE.out.2.2.2⟩
             ·have yc:=(T0.out.kept (Below.refl wd.heap.size wd)).rg.wcell
              rw [HQ.out] at yc
              go_simp
              refine hK.out _ _ hS (fun hS=>?_)
              clear hK K yc
              refine tK 15 (v:=.slice (drq bq m1.wc (i+1)) (m1.we.length - (i+1)) (m1.wc - (i+1))) rfl (fun W _=>exec_drop_be rfl rfl rfl HIL1.out) hS ?_
              go_simp
              refine rD 1 rfl (fun K hK=>?_)
              have hb:=(Below.refl wd.heap.size wd).alloc (Nat.le_refl _) (.cells #[] 43)
              have HO1:=Hi (World.ownsRow_lit (base:=wd.heap.size) (e:=43) (size:=4) wd #[] 0 (Below.refl wd.heap.size wd).size (by simp [maxLen]) (by simp))
              have HC1:=Hi (Below.refl wd.heap.size wd).size
              have HB1:=Hi ((Below.refl wd.heap.size wd).trans (hb.mono (Below.refl wd.heap.size wd).size))
              go_simp
              refine hK.out _ _ (hS) (fun hS=>?_)
              clear hK K hb
              generalize wd.alloc (.cells #[] 43)=w1 at *
              refine rD 8 rfl (fun K hK=>?_)
              refine step_append_kN (by kernel_rfl) _ _ 22 rfl wd.heap.size 43 i0 _ 4 48 Tryz.underlying22 hi hz0 hz1 (by decide) hz2 (by decide) rfl _ 0 [] rfl HO1.out _ i m1.wc (beCells (m1.we.take i)) rfl (by rw [beCells_length,List.length_take,Nat.min_eq_left (Nat.le_of_lt HIL.out)]) (rd_take_be (HRQ.out _ HB1.out) i) (fun h=>by cases h) beCells_one (by have:=HWL.out; have:=HIL.out; omega) HB1.out.size ?_
              intro p8 c8 w8 ho8 hg8 _
              rw [Nat.zero_add,List.nil_append] at ho8
              have hb8:=HB1.out.grown hg8 HB1.out.size (fun k hk=>by cases hk; exact HC1.out)
              have HO8:=Hi ho8
              have HB8:=Hi hb8
              refine hK.out _ _ hS (fun hS=>?_)
              clear hK K hb8 ho8 hg8
              rw [Nat.zero_add]
              refine rD 16 rfl (fun K hK=>?_)
              refine step_append_kN (by kernel_rfl) _ _ 22 rfl wd.heap.size 43 i0 _ 4 48 Tryz.underlying22 hi hz0 hz1 (by decide) hz2 (by decide) rfl (.slice p8 i c8) i (beCells (m1.we.take i)) rfl HO8.out _ (m1.we.length - (i+1)) (m1.wc - (i+1)) (beCells (m1.we.drop (i+1))) rfl (by rw [beCells_length,List.length_drop]) (rd_drop_be (HRQ.out _ HB8.out) (i+1) HWC.out) (fun h=>HDN.out h) beCells_one (by have:=HWL.out; have:=HIL.out; omega) HB8.out.size ?_
              intro p16 c16 w16 ho16 hg16 _
              have hb16:=HB8.out.grown hg16 HB8.out.size (fun k hk=>(World.ownsRow.lt HO8.out k hk).1)
              have HB16:=Hi hb16
              have HO16:=Hi ho16
              refine hK.out _ _ hS (fun hS=>?_)
              clear hK K ho16 hg16 hb16
              refine tX 17 rfl hS ?_
              refine tX 18 rfl hS ?_
              go_simp
              refine rD 19 rfl (fun K hK=>?_)
              have yc:=(T0.out.kept HB16.out).rg.wcell
              have yf:=AgAt.free (T0.out.kept HB16.out).rg.st 16
              go_simp
              refine hK.out _ _ hS (fun hS=>?_)
              clear hK K yc yf
              refine wpAnyH_done (by kernel_rfl) ?_ _
              go_simp
              have HE:=Hi (HER.out w16 p16 c16 HB16.out HO16.out)
              generalize w16.setCell ⟨R,16,none⟩ (.slice p16 (i+(m1.we.length - (i+1))) c16)=w17 at *
              clear hS
              go_wp2_with fail
              go_meet
              exact ⟨p16,c16,HE.out.1,HE.out.2.1,HE.out.2.2.1,HE.out.2.2.2⟩
            ·have yc:=(T0.out.kept (Below.refl wd.heap.size wd)).rg.wcell
             rw [HQ.out] at yc
             go_simp
             refine hK.out _ _ hS (fun hS=>?_)
             clear hK K yc
             refine tK 15 (v:=.slice (drq bq m1.wc (i+1)) (m1.we.length - (i+1)) (m1.wc - (i+1))) rfl (fun W _=>exec_drop_be rfl rfl rfl HIL1.out) hS ?_
             go_simp
             refine wpAnyH_ready (rs:=[1,5]) (by kernel_rfl) (by simp) ?_
             refine AllReadyH.cons rfl (fun K hK=>?_) (AllReadyH.cons rfl (fun K hK=>?_) AllReadyH.nil)
             ·have hb:=(Below.refl wd.heap.size wd).alloc (Nat.le_refl _) (.cells #[] 43)
              have HO1:=Hi (World.ownsRow_lit (base:=wd.heap.size) (e:=43) (size:=4) wd #[] 0 (Below.refl wd.heap.size wd).size (by simp [maxLen]) (by simp))
              have HC1:=Hi (Below.refl wd.heap.size wd).size
              have HB1:=Hi ((Below.refl wd.heap.size wd).trans (hb.mono (Below.refl wd.heap.size wd).size))
              go_simp
              refine hK.out _ _ (hS) (fun hS=>?_)
              clear hK K hb
              generalize wd.alloc (.cells #[] 43)=w1 at *
              refine rD 5 rfl (fun K hK=>?_)
              have yc:=(T0.out.kept HB1.out).rg.wcell
              rw [HQ.out] at yc
              go_simp
              refine hK.out _ _ hS (fun hS=>?_)
              clear hK K yc
              refine tK 7 (v:=.slice (some ⟨bq,0,none⟩) i m1.wc) rfl (fun W _=>exec_take_be rfl rfl rfl (by have:=HIL.out; have:=HWC.out; omega)) hS ?_
              go_simp
              refine rD 8 rfl (fun K hK=>?_)
              refine step_append_kN (by kernel_rfl) _ _ 22 rfl wd.heap.size 43 i0 _ 4 48 Tryz.underlying22 hi hz0 hz1 (by decide) hz2 (by decide) rfl _ 0 [] rfl HO1.out _ i m1.wc (beCells (m1.we.take i)) rfl (by rw [beCells_length,List.length_take,Nat.min_eq_left (Nat.le_of_lt HIL.out)]) (rd_take_be (HRQ.out _ HB1.out) i) (fun h=>by cases h) beCells_one (by have:=HWL.out; have:=HIL.out; omega) HB1.out.size ?_
              intro p8 c8 w8 ho8 hg8 _
              rw [Nat.zero_add,List.nil_append] at ho8
              have hb8:=HB1.out.grown hg8 HB1.out.size (fun k hk=>by cases hk; exact HC1.out)
              have HO8:=Hi ho8
              have HB8:=Hi hb8
              refine hK.out _ _ hS (fun hS=>?_)
              clear hK K hb8 ho8 hg8
              rw [Nat.zero_add]
              refine rD 16 rfl (fun K hK=>?_)
              refine step_append_kN (by kernel_rfl) _ _ 22 rfl wd.heap.size 43 i0 _ 4 48 Tryz.underlying22 hi hz0 hz1 (by decide) hz2 (by decide) rfl (.slice p8 i c8) i (beCells (m1.we.take i)) rfl HO8.out _ (m1.we.length - (i+1)) (m1.wc - (i+1)) (beCells (m1.we.drop (i+1))) rfl (by rw [beCells_length,List.length_drop]) (rd_drop_be (HRQ.out _ HB8.out) (i+1) HWC.out) (fun h=>HDN.out h) beCells_one (by have:=HWL.out; have:=HIL.out; omega) HB8.out.size ?_
              intro p16 c16 w16 ho16 hg16 _
              have hb16:=HB8.out.grown hg16 HB8.out.size (fun k hk=>(World.ownsRow.lt HO8.out k hk).1)
              have HB16:=Hi hb16
              have HO16:=Hi ho16
              refine hK.out _ _ hS (fun hS=>?_)
              clear hK K ho16 hg16 hb16
              refine tX 17 rfl hS ?_
              refine tX 18 rfl hS ?_
              go_simp
              refine rD 19 rfl (fun K hK=>?_)
              have yc:=(T0.out.kept HB16.out).rg.wcell
              have yf:=AgAt.free (T0.out.kept HB16.out).rg.st 16
              go_simp
              refine hK.out _ _ hS (fun hS=>?_)
              clear hK K yc yf
              refine wpAnyH_done (by kernel_rfl) ?_ _
              go_simp
              have HE:=Hi (HER.out w16 p16 c16 HB16.out HO16.out)
              generalize w16.setCell ⟨R,16,none⟩ (.slice p16 (i+(m1.we.length - (i+1))) c16)=w17 at *
              clear hS
              go_wp2_with fail
              go_meet
              exact ⟨p16,c16,HE.out.1,HE.out.2.1,HE.out.2.2.1,HE.out.2.2.2⟩
             ·have yc:=(T0.out.kept (Below.refl wd.heap.size wd)).rg.wcell
              rw [HQ.out] at yc
              go_simp
              refine hK.out _ _ hS (fun hS=>?_)
              clear hK K yc
              refine tK 7 (v:=.slice (some ⟨bq,0,none⟩) i m1.wc) rfl (fun W _=>exec_take_be rfl rfl rfl (by have:=HIL.out; have:=HWC.out; omega)) hS ?_
              go_simp
              refine rD 1 rfl (fun K hK=>?_)
              have hb:=(Below.refl wd.heap.size wd).alloc (Nat.le_refl _) (.cells #[] 43)
              have HO1:=Hi (World.ownsRow_lit (base:=wd.heap.size) (e:=43) (size:=4) wd #[] 0 (Below.refl wd.heap.size wd).size (by simp [maxLen]) (by simp))
              have HC1:=Hi (Below.refl wd.heap.size wd).size
              have HB1:=Hi ((Below.refl wd.heap.size wd).trans (hb.mono (Below.refl wd.heap.size wd).size))
              go_simp
              refine hK.out _ _ (hS) (fun hS=>?_)
              clear hK K hb
              generalize wd.alloc (.cells #[] 43)=w1 at *
              refine rD 8 rfl (fun K hK=>?_)
              refine step_append_kN (by kernel_rfl) _ _ 22 rfl wd.heap.size 43 i0 _ 4 48 Tryz.underlying22 hi hz0 hz1 (by decide) hz2 (by decide) rfl _ 0 [] rfl HO1.out _ i m1.wc (beCells (m1.we.take i)) rfl (by rw [beCells_length,List.length_take,Nat.min_eq_left (Nat.le_of_lt HIL.out)]) (rd_take_be (HRQ.out _ HB1.out) i) (fun h=>by cases h) beCells_one (by have:=HWL.out; have:=HIL.out; omega) HB1.out.size ?_
              intro p8 c8 w8 ho8 hg8 _
              rw [Nat.zero_add,List.nil_append] at ho8
              have hb8:=HB1.out.grown hg8 HB1.out.size (fun k hk=>by cases hk; exact HC1.out)
              have HO8:=Hi ho8
              have HB8:=Hi hb8
              refine hK.out _ _ hS (fun hS=>?_)
              clear hK K hb8 ho8 hg8
              rw [Nat.zero_add]
              refine rD 16 rfl (fun K hK=>?_)
              refine step_append_kN (by kernel_rfl) _ _ 22 rfl wd.heap.size 43 i0 _ 4 48 Tryz.underlying22 hi hz0 hz1 (by decide) hz2 (by decide) rfl (.slice p8 i c8) i (beCells (m1.we.take i)) rfl HO8.out _ (m1.we.length - (i+1)) (m1.wc - (i+1)) (beCells (m1.we.drop (i+1))) rfl (by rw [beCells_length,List.length_drop]) (rd_drop_be (HRQ.out _ HB8.out) (i+1) HWC.out) (fun h=>HDN.out h) beCells_one (by have:=HWL.out; have:=HIL.out; omega) HB8.out.size ?_
              intro p16 c16 w16 ho16 hg16 _
              have hb16:=HB8.out.grown hg16 HB8.out.size (fun k hk=>(World.ownsRow.lt HO8.out k hk).1)
              have HB16:=Hi hb16
              have HO16:=Hi ho16
              refine hK.out _ _ hS (fun hS=>?_)
              clear hK K ho16 hg16 hb16
              refine tX 17 rfl hS ?_
              refine tX 18 rfl hS ?_
              go_simp
              refine rD 19 rfl (fun K hK=>?_)
              have yc:=(T0.out.kept HB16.out).rg.wcell
              have yf:=AgAt.free (T0.out.kept HB16.out).rg.st 16
              go_simp
              refine hK.out _ _ hS (fun hS=>?_)
              clear hK K yc yf
              refine wpAnyH_done (by kernel_rfl) ?_ _
              go_simp
              have HE:=Hi (HER.out w16 p16 c16 HB16.out HO16.out)
              generalize w16.setCell ⟨R,16,none⟩ (.slice p16 (i+(m1.we.length - (i+1))) c16)=w17 at *
              clear hS
              go_wp2_with fail
              go_meet
              exact ⟨p16,c16,HE.out.1,HE.out.2.1,HE.out.2.2.1,HE.out.2.2.2⟩
           case rest =>
            obtain ⟨q,d,hT,hV,hB,hYZ⟩:=hcut
            generalize hy:beOf m1.we i=y at *
            have HY:=Hi hy
            clear hy
            have HYN:=Hi (show wr.heap.size≠R from by have:=T1.out.rg.slt; omega)
            obtain ⟨m2,hm2⟩:∃ m2,m2=m1.setW (m1.we.eraseIdx i) q d:=⟨_,rfl⟩
            have HLG:=Hi (show m2.lg=dropL m1.lg (r:Int) (nextS m1.lg r) from by rw [hm2,HNS.out]; exact Rm.erased T.out.ap HIL.out (by rw [HY.out,← HNS.out]; exact HAT.out) q d)
            have HEL:=Hi (show m2.el=m1.el∧m2.we.length+1=m1.we.length∧m2.lg.row=m1.lg.row from by
             rw [hm2]
             refine ⟨rfl,?_,rfl⟩
             show (m1.we.eraseIdx i).length+1=_
             have:=HIL.out
             rw [List.length_eraseIdx,if_pos this]
             omega)
            rw [← hm2] at hT
            have T2:=Hi hT
            have HV2:=Hi hV
            have HB2:=Hi hB
            have HOK2:=Hi (show LgOk m2.lg from by rw [HLG.out]; exact T.out.ok.drop _ _)
            have HAP2:=Hi (show ApL m2.lg from by rw [HLG.out]; exact T.out.ap.drop _ _)
            have HYNR:=Hi HYN.out
            have HYRT:=Hi (show y.x.r.toNat=r from HYR.out)
            have HYK2:=Hi (show OkB y.x from HYK.out)
            have HFO2:=Hi (show (if fitsL m2.lg y.x=true then followL g1 (enterL m2.lg y.x) r else m2.lg)=L1 from by rw [HLG.out]; exact HFO.out)
            have HLN2:=Hi (show (m2.el r).length≤512 from by rw [HEL.out.1]; exact HLN.out)
            have HT512:=Hi (show ¬ 512≤totL m2.lg from by rw [HLG.out]; have:=HNF.out; show ¬ 512≤totL m1.lg; omega)
            have HOLG:=Hi (show lo.map (·.x)=(m2.lg.row r).drop n0∧n0≤(m2.el r).length∧m2.we.length<g1∧m2.lg.row r=m1.lg.row r from ⟨by rw [HEL.out.2.2]; exact T.out.olg,by rw [HEL.out.1]; exact T.out.ln,by have:=T.out.fuel; have:=HEL.out.2.1; omega,by rw [HEL.out.2.2]⟩)
            have HYS:=Hi hYZ
            clear hT hV hB hYZ hm2 T T1 HBO HFO HLG HEL HAT HY HNF HWT HWL HIL HQ HWR HYR HYK HYN
            generalize hYY:wr.heap.size=Y at *
            clear hYY
            have HFI:=Hi (rgfits_any y.x y.p y.c wc T2.out.rg HOK2.out HYK2.out.right)
            cases hfit:fitsL m2.lg y.x with
            | false =>
             rw [hfit] at HFI
             have HE:=Hi (fun W (hW:Below wc.heap.size wc W)=>HDONE.out m2 F1 W (T2.out.kept hW) HOLG.out.2.2.2 (by have:=HFO2.out; rw [hfit] at this; exact this))
             clear hfit
             go_wp2_with (refine wpList_load_ag btR (by kernel_rfl) _ rfl _ rfl (A:=btA y.x y.p y.c) rfl HV2.out ?_)
             refine HFI.out.mono ?_
             rintro e w5 ⟨rfl,hb5⟩
             have HE5:=Hi (HE.out _ hb5)
             clear hb5
             go_wp2
             go_ret2
             exact HE5.out
            | true =>
             rw [hfit] at HFI
             have HFT:=Hi hfit
             clear hfit
             go_wp2_with (refine wpList_load_ag btR (by kernel_rfl) _ rfl _ rfl (A:=btA y.x y.p y.c) rfl HV2.out ?_)
             refine HFI.out.mono ?_
             rintro e w5 ⟨rfl,hb5⟩
             have T5:=Hi (T2.out.kept hb5)
             have HV5:=Hi (AgAt.kept HV2.out hb5)
             have HB5:=Hi (HB2.out.below hb5)
             clear hb5 T2 HV2 HB2 HFI
             go_upto_region 23 with fail
             go_cut [] (fun wx=>∃ (q:Option Addr) (d:Nat) (G:Nat→Prop),ReS R F (fun k=>m.wv.ownBlock=some k) w (m2.put r (m2.el r ++ [y]) q d) G po co lo wx∧BtAt wx Y y.x y.p y.c∧BopsF F1 wx y.x y.p y.c)
             case first =>
              have T0:=Hi (show ReS R F (fun k=>m.wv.ownBlock=some k) w m2 F1 po co lo w5.drew from T5.out.kept (Below.drew (Below.refl _ _)))
              have T0B:=Hi (show BtAt w5.drew Y y.x y.p y.c from AgAt.kept HV5.out (Below.drew (Below.refl _ _)))
              have HYO:=Hi (show BopsF F1 w5.drew y.x y.p y.c from HB5.out.below (Below.drew (Below.refl _ _)))
              have HYR:=Hi HYNR.out
              have HLN:=Hi HLN2.out
              refine wp_region_held_drew (S:=fun W=>BtAt W Y y.x y.p y.c) (by kernel_rfl) T0B.out (fun hS=>?_)
              clear T5 HV5 HB5 HDONE HAL
              generalize w5.drew=wd at *
              refine tX 0 rfl hS ?_
              refine tX 1 rfl hS ?_
              refine tX 3 rfl hS ?_
              refine tX 4 rfl hS ?_
              go_simp
              refine tX 5 rfl hS ?_
              refine tX 6 rfl hS ?_
              refine tK 7 (v:=?_) rfl ?_ hS ?_
              rotate_left
              ·intro W hSW
               have hri:(r:Int)<16:=by omega
               go_simp
               all_goals with_reducible rfl
              go_simp
              refine tK 10 (v:=.agg (btA y.x y.p y.c)) rfl (fun W hSW=>exec_load_ag btR rfl rfl rfl hSW) hS ?_
              refine tX 13 rfl hS ?_
              refine tX 14 rfl hS ?_
              go_simp
              refine wpAnyH_ready (rs:=[2,8,11]) (by kernel_rfl) (by simp) ?_
              refine AllReadyH.cons rfl (fun K hK=>?_) (AllReadyH.cons rfl (fun K hK=>?_) (AllReadyH.cons rfl (fun K hK=>?_) AllReadyH.nil))
              ·have hb:=(Below.refl wd.heap.size wd).alloc (Nat.le_refl _) (.cells #[] 43)
               have HO2:=Hi (World.ownsRow_lit (base:=wd.heap.size) (e:=43) (size:=4) wd #[] 0 (Below.refl wd.heap.size wd).size (by simp [maxLen]) (by simp))
               have HC2:=Hi (Below.refl wd.heap.size wd).size
               have HB2:=Hi ((Below.refl wd.heap.size wd).trans (hb.mono (Below.refl wd.heap.size wd).size))
               have HL2:=Hi (show wd.heap.size<(wd.alloc (.cells #[] 43)).heap.size from by simp)
               go_simp
               refine hK.out _ _ (AgAt.kept hS hb) (fun hS=>?_)
               clear hK K hb
               generalize wd.alloc (.cells #[] 43)=w2 at *
               refine wpAnyH_ready (rs:=[8,11]) (by kernel_rfl) (by simp) ?_
               refine AllReadyH.cons rfl (fun K hK=>?_) (AllReadyH.cons rfl (fun K hK=>?_) AllReadyH.nil)
               ·have yc:=(T0.out.rg.kept HB2.out).cell hr
                go_simp
                refine hK.out _ _ hS (fun hS=>?_)
                clear hK K yc
                refine wpAnyH_ready (rs:=[9,11]) (by kernel_rfl) (by simp) ?_
                refine AllReadyH.cons rfl (fun K hK=>?_) (AllReadyH.cons rfl (fun K hK=>?_) AllReadyH.nil)
                ·refine step_append_kN (by kernel_rfl) _ _ 22 rfl wd.heap.size 43 i0 _ 4 48 Tryz.underlying22 hi hz0 hz1 (by decide) hz2 (by decide) rfl _ 0 [] rfl HO2.out _ (m2.el r).length (m2.c r) (beCells (m2.el r)) rfl (beCells_length _) ((T0.out.rg.kept HB2.out).row r hr).rd ((T0.out.rg.kept HB2.out).row r hr).nil beCells_one (by have:=HLN.out; omega) HB2.out.size ?_
                 intro p9 c9 w9 ho9 hg9 _
                 rw [Nat.zero_add,List.nil_append] at ho9
                 have hb9:=HB2.out.grown hg9 HB2.out.size (fun k hk=>by cases hk; exact HC2.out)
                 have HO9:=Hi ho9
                 have HO9L:=Hi ho9
                 have HB9:=Hi hb9
                 refine hK.out _ _ (AgAt.kept T0B.out hb9) (fun hS=>?_)
                 clear hK K hb9 ho9 hg9
                 rw [Nat.zero_add]
                 refine rD 11 rfl (fun K hK=>?_)
                 have hb:=(Below.refl w9.heap.size w9).alloc (Nat.le_refl _) (.cells (btA y.x y.p y.c) 43)
                 have HRW:=Hi (rd_bt_one w9 y 43)
                 have HB11:=Hi (HB9.out.trans (hb.mono HB9.out.size))
                 have HC11:=Hi (show w9.heap.size<(w9.alloc (.cells (btA y.x y.p y.c) 43)).heap.size from by simp)
                 replace HO9:=Hi (own_belowK HO9.out hb)
                 have HB9X:=Hi hb
                 refine step_of (by kernel_rfl) ?_
                 refine wp_build_rbt _ rfl y.x y.p y.c rfl ?_
                 refine hK.out _ _ (AgAt.kept hS hb) (fun hS=>?_)
                 clear hK K hb
                 generalize w9.alloc (.cells (btA y.x y.p y.c) 43)=w11 at *
                 refine rD 12 rfl (fun K hK=>?_)
                 refine step_append_kN (by kernel_rfl) _ _ 22 rfl wd.heap.size 43 i0 _ 4 48 Tryz.underlying22 hi hz0 hz1 (by decide) hz2 (by decide) rfl (.slice p9 (m2.el r).length c9) (m2.el r).length (beCells (m2.el r)) rfl HO9.out _ 1 1 (beL y) rfl rfl HRW.out (fun h=>by cases h) (beL_one _) (by have:=HLN.out; omega) ((HB9.out.trans (HB9X.out.mono HB9.out.size))).size ?_
                 intro p12 c12 w12 ho12 hg12 _
                 have HE12:=Hi (rob_ext (e:=y) (T0.out.rg.row r hr) HB9.out HO9L.out HB9X.out (HYO.out.below (HB9.out.trans (HB9X.out.mono HB9.out.size))) (fun k hk=>Or.inl hk) T0.out.rg.lt ho12 hg12)
                 refine hK.out _ _ (AgAt.kept T0B.out HE12.out.2) (fun hS=>?_)
                 clear hK K ho12 hg12
                 refine tK 15 (v:=?_) rfl ?_ hS ?_
                 rotate_left
                 ·intro W hSW
                  have hri:(r:Int)<16:=by omega
                  go_simp
                  all_goals with_reducible rfl
                 go_simp
                 refine rD 16 rfl (fun K hK=>?_)
                 have yc:=(T0.out.rg.kept HE12.out.2).cell hr
                 have yf:=AgAt.free (T0.out.rg.kept HE12.out.2).st r
                 go_simp
                 refine hK.out _ _ (AgAt.block hS (heap_setCell_other _ _ _ _ (by simpa using HYR.out))) (fun hS=>?_)
                 clear hK K yc yf
                 refine wpAnyH_done (by kernel_rfl) ?_ _
                 go_simp
                 have HE:=Hi (T0.out.entered hr HE12.out.2 HE12.out.1)
                 have HX:=Hi ((HYO.out.below HE12.out.2).turns (set_turns R w12 r (.slice p12 ((m2.el r).length+1) c12)) fun k hk e=>T0.out.rg.nR (e ▸ hk))
                 generalize w12.setCell ⟨R,r,none⟩ (.slice p12 ((m2.el r).length+1) c12)=w17 at *
                 go_wp2_with fail
                 go_meet
                 exact ⟨p12,c12,_,HE.out,hS,HX.out⟩
                ·have hb:=(Below.refl w2.heap.size w2).alloc (Nat.le_refl _) (.cells (btA y.x y.p y.c) 43)
                 have HRW:=Hi (rd_bt_one w2 y 43)
                 have HB11:=Hi (HB2.out.trans (hb.mono HB2.out.size))
                 have HC11:=Hi (show w2.heap.size<(w2.alloc (.cells (btA y.x y.p y.c) 43)).heap.size from by simp)
                 replace HO2:=Hi (own_belowK HO2.out hb)
                 have HNE:=Hi (show (wd.heap.size:Nat)≠w2.heap.size from by have:=HL2.out; omega)
                 refine step_of (by kernel_rfl) ?_
                 refine wp_build_rbt _ rfl y.x y.p y.c rfl ?_
                 refine hK.out _ _ (AgAt.kept hS hb) (fun hS=>?_)
                 clear hK K hb
                 generalize w2.alloc (.cells (btA y.x y.p y.c) 43)=w11 at *
                 refine rD 9 rfl (fun K hK=>?_)
                 refine step_append_kN (by kernel_rfl) _ _ 22 rfl wd.heap.size 43 i0 _ 4 48 Tryz.underlying22 hi hz0 hz1 (by decide) hz2 (by decide) rfl _ 0 [] rfl HO2.out _ (m2.el r).length (m2.c r) (beCells (m2.el r)) rfl (beCells_length _) ((T0.out.rg.kept HB11.out).row r hr).rd ((T0.out.rg.kept HB11.out).row r hr).nil beCells_one (by have:=HLN.out; omega) HB11.out.size ?_
                 intro p9 c9 w9 ho9 hg9 _
                 rw [Nat.zero_add,List.nil_append] at ho9
                 have hb9:=HB11.out.grown hg9 HB11.out.size (fun k hk=>by cases hk; exact HC2.out)
                 have HO9:=Hi ho9
                 have HO9L:=Hi ho9
                 have HB9:=Hi hb9
                 replace HRW:=Hi ((Turns.of_grown hg9).rd HRW.out (fun a ha e=>by cases ha; exact HNE.out (Option.some.inj e)))
                 refine hK.out _ _ (AgAt.kept T0B.out hb9) (fun hS=>?_)
                 clear hK K hb9 ho9 hg9
                 rw [Nat.zero_add]
                 refine rD 12 rfl (fun K hK=>?_)
                 refine step_append_kN (by kernel_rfl) _ _ 22 rfl wd.heap.size 43 i0 _ 4 48 Tryz.underlying22 hi hz0 hz1 (by decide) hz2 (by decide) rfl (.slice p9 (m2.el r).length c9) (m2.el r).length (beCells (m2.el r)) rfl HO9.out _ 1 1 (beL y) rfl rfl HRW.out (fun h=>by cases h) (beL_one _) (by have:=HLN.out; omega) (HB9.out).size ?_
                 intro p12 c12 w12 ho12 hg12 _
                 have HE12:=Hi (rob_ext (e:=y) (T0.out.rg.row r hr) HB9.out HO9L.out (Below.refl _ _) (HYO.out.below HB9.out) (fun k hk=>Or.inl hk) T0.out.rg.lt ho12 hg12)
                 refine hK.out _ _ (AgAt.kept T0B.out HE12.out.2) (fun hS=>?_)
                 clear hK K ho12 hg12
                 refine tK 15 (v:=?_) rfl ?_ hS ?_
                 rotate_left
                 ·intro W hSW
                  have hri:(r:Int)<16:=by omega
                  go_simp
                  all_goals with_reducible rfl
                 go_simp
                 refine rD 16 rfl (fun K hK=>?_)
                 have yc:=(T0.out.rg.kept HE12.out.2).cell hr
                 have yf:=AgAt.free (T0.out.rg.kept HE12.out.2).st r
                 go_simp
                 refine hK.out _ _ (AgAt.block hS (heap_setCell_other _ _ _ _ (by simpa using HYR.out))) (fun hS=>?_)
                 clear hK K yc yf
                 refine wpAnyH_done (by kernel_rfl) ?_ _
                 go_simp
                 have HE:=Hi (T0.out.entered hr HE12.out.2 HE12.out.1)
                 have HX:=Hi ((HYO.out.below HE12.out.2).turns (set_turns R w12 r (.slice p12 ((m2.el r).length+1) c12)) fun k hk e=>T0.out.rg.nR (e ▸ hk))
                 generalize w12.setCell ⟨R,r,none⟩ (.slice p12 ((m2.el r).length+1) c12)=w17 at *
                 go_wp2_with fail
                 go_meet
                 exact ⟨p12,c12,_,HE.out,hS,HX.out⟩
               ·have hb:=(Below.refl w2.heap.size w2).alloc (Nat.le_refl _) (.cells (btA y.x y.p y.c) 43)
                have HRW:=Hi (rd_bt_one w2 y 43)
                have HB11:=Hi (HB2.out.trans (hb.mono HB2.out.size))
                have HC11:=Hi (show w2.heap.size<(w2.alloc (.cells (btA y.x y.p y.c) 43)).heap.size from by simp)
                replace HO2:=Hi (own_belowK HO2.out hb)
                have HNE:=Hi (show (wd.heap.size:Nat)≠w2.heap.size from by have:=HL2.out; omega)
                refine step_of (by kernel_rfl) ?_
                refine wp_build_rbt _ rfl y.x y.p y.c rfl ?_
                refine hK.out _ _ (AgAt.kept hS hb) (fun hS=>?_)
                clear hK K hb
                generalize w2.alloc (.cells (btA y.x y.p y.c) 43)=w11 at *
                refine rD 8 rfl (fun K hK=>?_)
                have yc:=(T0.out.rg.kept HB11.out).cell hr
                go_simp
                refine hK.out _ _ hS (fun hS=>?_)
                clear hK K yc
                refine rD 9 rfl (fun K hK=>?_)
                refine step_append_kN (by kernel_rfl) _ _ 22 rfl wd.heap.size 43 i0 _ 4 48 Tryz.underlying22 hi hz0 hz1 (by decide) hz2 (by decide) rfl _ 0 [] rfl HO2.out _ (m2.el r).length (m2.c r) (beCells (m2.el r)) rfl (beCells_length _) ((T0.out.rg.kept HB11.out).row r hr).rd ((T0.out.rg.kept HB11.out).row r hr).nil beCells_one (by have:=HLN.out; omega) HB11.out.size ?_
                intro p9 c9 w9 ho9 hg9 _
                rw [Nat.zero_add,List.nil_append] at ho9
                have hb9:=HB11.out.grown hg9 HB11.out.size (fun k hk=>by cases hk; exact HC2.out)
                have HO9:=Hi ho9
                have HO9L:=Hi ho9
                have HB9:=Hi hb9
                replace HRW:=Hi ((Turns.of_grown hg9).rd HRW.out (fun a ha e=>by cases ha; exact HNE.out (Option.some.inj e)))
                refine hK.out _ _ (AgAt.kept T0B.out hb9) (fun hS=>?_)
                clear hK K hb9 ho9 hg9
                rw [Nat.zero_add]
                refine rD 12 rfl (fun K hK=>?_)
                refine step_append_kN (by kernel_rfl) _ _ 22 rfl wd.heap.size 43 i0 _ 4 48 Tryz.underlying22 hi hz0 hz1 (by decide) hz2 (by decide) rfl (.slice p9 (m2.el r).length c9) (m2.el r).length (beCells (m2.el r)) rfl HO9.out _ 1 1 (beL y) rfl rfl HRW.out (fun h=>by cases h) (beL_one _) (by have:=HLN.out; omega) (HB9.out).size ?_
                intro p12 c12 w12 ho12 hg12 _
                have HE12:=Hi (rob_ext (e:=y) (T0.out.rg.row r hr) HB9.out HO9L.out (Below.refl _ _) (HYO.out.below HB9.out) (fun k hk=>Or.inl hk) T0.out.rg.lt ho12 hg12)
                refine hK.out _ _ (AgAt.kept T0B.out HE12.out.2) (fun hS=>?_)
                clear hK K ho12 hg12
                refine tK 15 (v:=?_) rfl ?_ hS ?_
                rotate_left
                ·intro W hSW
                 have hri:(r:Int)<16:=by omega
                 go_simp
                 all_goals with_reducible rfl
                go_simp
                refine rD 16 rfl (fun K hK=>?_)
                have yc:=(T0.out.rg.kept HE12.out.2).cell hr
                have yf:=AgAt.free (T0.out.rg.kept HE12.out.2).st r
                go_simp
                refine hK.out _ _ (AgAt.block hS (heap_setCell_other _ _ _ _ (by simpa using HYR.out))) (fun hS=>?_)
                clear hK K yc yf
                refine wpAnyH_done (by kernel_rfl) ?_ _
                go_simp
                have HE:=Hi (T0.out.entered hr HE12.out.2 HE12.out.1)
                have HX:=Hi ((HYO.out.below HE12.out.2).turns (set_turns R w12 r (.slice p12 ((m2.el r).length+1) c12)) fun k hk e=>T0.out.rg.nR (e ▸ hk))
                generalize w12.setCell ⟨R,r,none⟩ (.slice p12 ((m2.el r).length+1) c12)=w17 at *
                go_wp2_with fail
                go_meet
                exact ⟨p12,c12,_,HE.out,hS,HX.out⟩
              ·have yc:=(T0.out.rg.kept (Below.refl wd.heap.size wd)).cell hr
               go_simp
               refine hK.out _ _ hS (fun hS=>?_)
               clear hK K yc
               refine wpAnyH_ready (rs:=[2,11]) (by kernel_rfl) (by simp) ?_
               refine AllReadyH.cons rfl (fun K hK=>?_) (AllReadyH.cons rfl (fun K hK=>?_) AllReadyH.nil)
               ·have hb:=(Below.refl wd.heap.size wd).alloc (Nat.le_refl _) (.cells #[] 43)
                have HO2:=Hi (World.ownsRow_lit (base:=wd.heap.size) (e:=43) (size:=4) wd #[] 0 (Below.refl wd.heap.size wd).size (by simp [maxLen]) (by simp))
                have HC2:=Hi (Below.refl wd.heap.size wd).size
                have HB2:=Hi ((Below.refl wd.heap.size wd).trans (hb.mono (Below.refl wd.heap.size wd).size))
                have HL2:=Hi (show wd.heap.size<(wd.alloc (.cells #[] 43)).heap.size from by simp)
                go_simp
                refine hK.out _ _ (AgAt.kept hS hb) (fun hS=>?_)
                clear hK K hb
                generalize wd.alloc (.cells #[] 43)=w2 at *
                refine wpAnyH_ready (rs:=[9,11]) (by kernel_rfl) (by simp) ?_
                refine AllReadyH.cons rfl (fun K hK=>?_) (AllReadyH.cons rfl (fun K hK=>?_) AllReadyH.nil)
                ·refine step_append_kN (by kernel_rfl) _ _ 22 rfl wd.heap.size 43 i0 _ 4 48 Tryz.underlying22 hi hz0 hz1 (by decide) hz2 (by decide) rfl _ 0 [] rfl HO2.out _ (m2.el r).length (m2.c r) (beCells (m2.el r)) rfl (beCells_length _) ((T0.out.rg.kept HB2.out).row r hr).rd ((T0.out.rg.kept HB2.out).row r hr).nil beCells_one (by have:=HLN.out; omega) HB2.out.size ?_
                 intro p9 c9 w9 ho9 hg9 _
                 rw [Nat.zero_add,List.nil_append] at ho9
                 have hb9:=HB2.out.grown hg9 HB2.out.size (fun k hk=>by cases hk; exact HC2.out)
                 have HO9:=Hi ho9
                 have HO9L:=Hi ho9
                 have HB9:=Hi hb9
                 refine hK.out _ _ (AgAt.kept T0B.out hb9) (fun hS=>?_)
                 clear hK K hb9 ho9 hg9
                 rw [Nat.zero_add]
                 refine rD 11 rfl (fun K hK=>?_)
                 have hb:=(Below.refl w9.heap.size w9).alloc (Nat.le_refl _) (.cells (btA y.x y.p y.c) 43)
                 have HRW:=Hi (rd_bt_one w9 y 43)
                 have HB11:=Hi (HB9.out.trans (hb.mono HB9.out.size))
                 have HC11:=Hi (show w9.heap.size<(w9.alloc (.cells (btA y.x y.p y.c) 43)).heap.size from by simp)
                 replace HO9:=Hi (own_belowK HO9.out hb)
                 have HB9X:=Hi hb
                 refine step_of (by kernel_rfl) ?_
                 refine wp_build_rbt _ rfl y.x y.p y.c rfl ?_
                 refine hK.out _ _ (AgAt.kept hS hb) (fun hS=>?_)
                 clear hK K hb
                 generalize w9.alloc (.cells (btA y.x y.p y.c) 43)=w11 at *
                 refine rD 12 rfl (fun K hK=>?_)
                 refine step_append_kN (by kernel_rfl) _ _ 22 rfl wd.heap.size 43 i0 _ 4 48 Tryz.underlying22 hi hz0 hz1 (by decide) hz2 (by decide) rfl (.slice p9 (m2.el r).length c9) (m2.el r).length (beCells (m2.el r)) rfl HO9.out _ 1 1 (beL y) rfl rfl HRW.out (fun h=>by cases h) (beL_one _) (by have:=HLN.out; omega) ((HB9.out.trans (HB9X.out.mono HB9.out.size))).size ?_
                 intro p12 c12 w12 ho12 hg12 _
                 have HE12:=Hi (rob_ext (e:=y) (T0.out.rg.row r hr) HB9.out HO9L.out HB9X.out (HYO.out.below (HB9.out.trans (HB9X.out.mono HB9.out.size))) (fun k hk=>Or.inl hk) T0.out.rg.lt ho12 hg12)
                 refine hK.out _ _ (AgAt.kept T0B.out HE12.out.2) (fun hS=>?_)
                 clear hK K ho12 hg12
                 refine tK 15 (v:=?_) rfl ?_ hS ?_
                 rotate_left
                 ·intro W hSW
                  have hri:(r:Int)<16:=by omega
                  go_simp
                  all_goals with_reducible rfl
                 go_simp
                 refine rD 16 rfl (fun K hK=>?_)
                 have yc:=(T0.out.rg.kept HE12.out.2).cell hr
                 have yf:=AgAt.free (T0.out.rg.kept HE12.out.2).st r
                 go_simp
                 refine hK.out _ _ (AgAt.block hS (heap_setCell_other _ _ _ _ (by simpa using HYR.out))) (fun hS=>?_)
                 clear hK K yc yf
                 refine wpAnyH_done (by kernel_rfl) ?_ _
                 go_simp
                 have HE:=Hi (T0.out.entered hr HE12.out.2 HE12.out.1)
                 have HX:=Hi ((HYO.out.below HE12.out.2).turns (set_turns R w12 r (.slice p12 ((m2.el r).length+1) c12)) fun k hk e=>T0.out.rg.nR (e ▸ hk))
                 generalize w12.setCell ⟨R,r,none⟩ (.slice p12 ((m2.el r).length+1) c12)=w17 at *
                 go_wp2_with fail
                 go_meet
                 exact ⟨p12,c12,_,HE.out,hS,HX.out⟩
                ·have hb:=(Below.refl w2.heap.size w2).alloc (Nat.le_refl _) (.cells (btA y.x y.p y.c) 43)
                 have HRW:=Hi (rd_bt_one w2 y 43)
                 have HB11:=Hi (HB2.out.trans (hb.mono HB2.out.size))
                 have HC11:=Hi (show w2.heap.size<(w2.alloc (.cells (btA y.x y.p y.c) 43)).heap.size from by simp)
                 replace HO2:=Hi (own_belowK HO2.out hb)
                 have HNE:=Hi (show (wd.heap.size:Nat)≠w2.heap.size from by have:=HL2.out; omega)
                 refine step_of (by kernel_rfl) ?_
                 refine wp_build_rbt _ rfl y.x y.p y.c rfl ?_
                 refine hK.out _ _ (AgAt.kept hS hb) (fun hS=>?_)
                 clear hK K hb
                 generalize w2.alloc (.cells (btA y.x y.p y.c) 43)=w11 at *
                 refine rD 9 rfl (fun K hK=>?_)
                 refine step_append_kN (by kernel_rfl) _ _ 22 rfl wd.heap.size 43 i0 _ 4 48 Tryz.underlying22 hi hz0 hz1 (by decide) hz2 (by decide) rfl _ 0 [] rfl HO2.out _ (m2.el r).length (m2.c r) (beCells (m2.el r)) rfl (beCells_length _) ((T0.out.rg.kept HB11.out).row r hr).rd ((T0.out.rg.kept HB11.out).row r hr).nil beCells_one (by have:=HLN.out; omega) HB11.out.size ?_
                 intro p9 c9 w9 ho9 hg9 _
                 rw [Nat.zero_add,List.nil_append] at ho9
                 have hb9:=HB11.out.grown hg9 HB11.out.size (fun k hk=>by cases hk; exact HC2.out)
                 have HO9:=Hi ho9
                 have HO9L:=Hi ho9
                 have HB9:=Hi hb9
                 replace HRW:=Hi ((Turns.of_grown hg9).rd HRW.out (fun a ha e=>by cases ha; exact HNE.out (Option.some.inj e)))
                 refine hK.out _ _ (AgAt.kept T0B.out hb9) (fun hS=>?_)
                 clear hK K hb9 ho9 hg9
                 rw [Nat.zero_add]
                 refine rD 12 rfl (fun K hK=>?_)
                 refine step_append_kN (by kernel_rfl) _ _ 22 rfl wd.heap.size 43 i0 _ 4 48 Tryz.underlying22 hi hz0 hz1 (by decide) hz2 (by decide) rfl (.slice p9 (m2.el r).length c9) (m2.el r).length (beCells (m2.el r)) rfl HO9.out _ 1 1 (beL y) rfl rfl HRW.out (fun h=>by cases h) (beL_one _) (by have:=HLN.out; omega) (HB9.out).size ?_
                 intro p12 c12 w12 ho12 hg12 _
                 have HE12:=Hi (rob_ext (e:=y) (T0.out.rg.row r hr) HB9.out HO9L.out (Below.refl _ _) (HYO.out.below HB9.out) (fun k hk=>Or.inl hk) T0.out.rg.lt ho12 hg12)
                 refine hK.out _ _ (AgAt.kept T0B.out HE12.out.2) (fun hS=>?_)
                 clear hK K ho12 hg12
                 refine tK 15 (v:=?_) rfl ?_ hS ?_
                 rotate_left
                 ·intro W hSW
                  have hri:(r:Int)<16:=by omega
                  go_simp
                  all_goals with_reducible rfl
                 go_simp
                 refine rD 16 rfl (fun K hK=>?_)
                 have yc:=(T0.out.rg.kept HE12.out.2).cell hr
                 have yf:=AgAt.free (T0.out.rg.kept HE12.out.2).st r
                 go_simp
                 refine hK.out _ _ (AgAt.block hS (heap_setCell_other _ _ _ _ (by simpa using HYR.out))) (fun hS=>?_)
                 clear hK K yc yf
                 refine wpAnyH_done (by kernel_rfl) ?_ _
                 go_simp
                 have HE:=Hi (T0.out.entered hr HE12.out.2 HE12.out.1)
                 have HX:=Hi ((HYO.out.below HE12.out.2).turns (set_turns R w12 r (.slice p12 ((m2.el r).length+1) c12)) fun k hk e=>T0.out.rg.nR (e ▸ hk))
                 generalize w12.setCell ⟨R,r,none⟩ (.slice p12 ((m2.el r).length+1) c12)=w17 at *
                 go_wp2_with fail
                 go_meet
                 exact ⟨p12,c12,_,HE.out,hS,HX.out⟩
               ·have hb:=(Below.refl wd.heap.size wd).alloc (Nat.le_refl _) (.cells (btA y.x y.p y.c) 43)
                have HRW:=Hi (rd_bt_one wd y 43)
                have HB11:=Hi ((Below.refl wd.heap.size wd).trans (hb.mono (Below.refl wd.heap.size wd).size))
                have HC11:=Hi (show wd.heap.size<(wd.alloc (.cells (btA y.x y.p y.c) 43)).heap.size from by simp)
                refine step_of (by kernel_rfl) ?_
                refine wp_build_rbt _ rfl y.x y.p y.c rfl ?_
                refine hK.out _ _ (AgAt.kept hS hb) (fun hS=>?_)
                clear hK K hb
                generalize wd.alloc (.cells (btA y.x y.p y.c) 43)=w11 at *
                refine rD 2 rfl (fun K hK=>?_)
                have hb:=(Below.refl w11.heap.size w11).alloc (Nat.le_refl _) (.cells #[] 43)
                have HO2:=Hi (World.ownsRow_lit (base:=wd.heap.size) (e:=43) (size:=4) w11 #[] 0 HB11.out.size (by simp [maxLen]) (by simp))
                have HC2:=Hi HB11.out.size
                have HB2:=Hi (HB11.out.trans (hb.mono HB11.out.size))
                have HL2:=Hi (show w11.heap.size<(w11.alloc (.cells #[] 43)).heap.size from by simp)
                replace HRW:=Hi (HRW.out.below hb)
                have HNE:=Hi (show w11.heap.size≠wd.heap.size from by have:=HC11.out; omega)
                go_simp
                refine hK.out _ _ (AgAt.kept hS hb) (fun hS=>?_)
                clear hK K hb
                generalize w11.alloc (.cells #[] 43)=w2 at *
                refine rD 9 rfl (fun K hK=>?_)
                refine step_append_kN (by kernel_rfl) _ _ 22 rfl wd.heap.size 43 i0 _ 4 48 Tryz.underlying22 hi hz0 hz1 (by decide) hz2 (by decide) rfl _ 0 [] rfl HO2.out _ (m2.el r).length (m2.c r) (beCells (m2.el r)) rfl (beCells_length _) ((T0.out.rg.kept HB2.out).row r hr).rd ((T0.out.rg.kept HB2.out).row r hr).nil beCells_one (by have:=HLN.out; omega) HB2.out.size ?_
                intro p9 c9 w9 ho9 hg9 _
                rw [Nat.zero_add,List.nil_append] at ho9
                have hb9:=HB2.out.grown hg9 HB2.out.size (fun k hk=>by cases hk; exact HC2.out)
                have HO9:=Hi ho9
                have HO9L:=Hi ho9
                have HB9:=Hi hb9
                replace HRW:=Hi ((Turns.of_grown hg9).rd HRW.out (fun a ha e=>by cases ha; exact HNE.out (Option.some.inj e)))
                refine hK.out _ _ (AgAt.kept T0B.out hb9) (fun hS=>?_)
                clear hK K hb9 ho9 hg9
                rw [Nat.zero_add]
                refine rD 12 rfl (fun K hK=>?_)
                refine step_append_kN (by kernel_rfl) _ _ 22 rfl wd.heap.size 43 i0 _ 4 48 Tryz.underlying22 hi hz0 hz1 (by decide) hz2 (by decide) rfl (.slice p9 (m2.el r).length c9) (m2.el r).length (beCells (m2.el r)) rfl HO9.out _ 1 1 (beL y) rfl rfl HRW.out (fun h=>by cases h) (beL_one _) (by have:=HLN.out; omega) (HB9.out).size ?_
                intro p12 c12 w12 ho12 hg12 _
                have HE12:=Hi (rob_ext (e:=y) (T0.out.rg.row r hr) HB9.out HO9L.out (Below.refl _ _) (HYO.out.below HB9.out) (fun k hk=>Or.inl hk) T0.out.rg.lt ho12 hg12)
                refine hK.out _ _ (AgAt.kept T0B.out HE12.out.2) (fun hS=>?_)
                clear hK K ho12 hg12
                refine tK 15 (v:=?_) rfl ?_ hS ?_
                rotate_left
                ·intro W hSW
                 have hri:(r:Int)<16:=by omega
                 go_simp
                 all_goals with_reducible rfl
                go_simp
                refine rD 16 rfl (fun K hK=>?_)
                have yc:=(T0.out.rg.kept HE12.out.2).cell hr
                have yf:=AgAt.free (T0.out.rg.kept HE12.out.2).st r
                go_simp
                refine hK.out _ _ (AgAt.block hS (heap_setCell_other _ _ _ _ (by simpa using HYR.out))) (fun hS=>?_)
                clear hK K yc yf
                refine wpAnyH_done (by kernel_rfl) ?_ _
                go_simp
                have HE:=Hi (T0.out.entered hr HE12.out.2 HE12.out.1)
                have HX:=Hi ((HYO.out.below HE12.out.2).turns (set_turns R w12 r (.slice p12 ((m2.el r).length+1) c12)) fun k hk e=>T0.out.rg.nR (e ▸ hk))
                generalize w12.setCell ⟨R,r,none⟩ (.slice p12 ((m2.el r).length+1) c12)=w17 at *
                go_wp2_with fail
                go_meet
                exact ⟨p12,c12,_,HE.out,hS,HX.out⟩
              ·have hb:=(Below.refl wd.heap.size wd).alloc (Nat.le_refl _) (.cells (btA y.x y.p y.c) 43)
               have HRW:=Hi (rd_bt_one wd y 43)
               have HB11:=Hi ((Below.refl wd.heap.size wd).trans (hb.mono (Below.refl wd.heap.size wd).size))
               have HC11:=Hi (show wd.heap.size<(wd.alloc (.cells (btA y.x y.p y.c) 43)).heap.size from by simp)
               refine step_of (by kernel_rfl) ?_
               refine wp_build_rbt _ rfl y.x y.p y.c rfl ?_
               refine hK.out _ _ (AgAt.kept hS hb) (fun hS=>?_)
               clear hK K hb
               generalize wd.alloc (.cells (btA y.x y.p y.c) 43)=w11 at *
               refine wpAnyH_ready (rs:=[2,8]) (by kernel_rfl) (by simp) ?_
               refine AllReadyH.cons rfl (fun K hK=>?_) (AllReadyH.cons rfl (fun K hK=>?_) AllReadyH.nil)
               ·have hb:=(Below.refl w11.heap.size w11).alloc (Nat.le_refl _) (.cells #[] 43)
                have HO2:=Hi (World.ownsRow_lit (base:=wd.heap.size) (e:=43) (size:=4) w11 #[] 0 HB11.out.size (by simp [maxLen]) (by simp))
                have HC2:=Hi HB11.out.size
                have HB2:=Hi (HB11.out.trans (hb.mono HB11.out.size))
                have HL2:=Hi (show w11.heap.size<(w11.alloc (.cells #[] 43)).heap.size from by simp)
                replace HRW:=Hi (HRW.out.below hb)
                have HNE:=Hi (show w11.heap.size≠wd.heap.size from by have:=HC11.out; omega)
                go_simp
                refine hK.out _ _ (AgAt.kept hS hb) (fun hS=>?_)
                clear hK K hb
                generalize w11.alloc (.cells #[] 43)=w2 at *
                refine rD 8 rfl (fun K hK=>?_)
                have yc:=(T0.out.rg.kept HB2.out).cell hr
                go_simp
                refine hK.out _ _ hS (fun hS=>?_)
                clear hK K yc
                refine rD 9 rfl (fun K hK=>?_)
                refine step_append_kN (by kernel_rfl) _ _ 22 rfl wd.heap.size 43 i0 _ 4 48 Tryz.underlying22 hi hz0 hz1 (by decide) hz2 (by decide) rfl _ 0 [] rfl HO2.out _ (m2.el r).length (m2.c r) (beCells (m2.el r)) rfl (beCells_length _) ((T0.out.rg.kept HB2.out).row r hr).rd ((T0.out.rg.kept HB2.out).row r hr).nil beCells_one (by have:=HLN.out; omega) HB2.out.size ?_
                intro p9 c9 w9 ho9 hg9 _
                rw [Nat.zero_add,List.nil_append] at ho9
                have hb9:=HB2.out.grown hg9 HB2.out.size (fun k hk=>by cases hk; exact HC2.out)
                have HO9:=Hi ho9
                have HO9L:=Hi ho9
                have HB9:=Hi hb9
                replace HRW:=Hi ((Turns.of_grown hg9).rd HRW.out (fun a ha e=>by cases ha; exact HNE.out (Option.some.inj e)))
                refine hK.out _ _ (AgAt.kept T0B.out hb9) (fun hS=>?_)
                clear hK K hb9 ho9 hg9
                rw [Nat.zero_add]
                refine rD 12 rfl (fun K hK=>?_)
                refine step_append_kN (by kernel_rfl) _ _ 22 rfl wd.heap.size 43 i0 _ 4 48 Tryz.underlying22 hi hz0 hz1 (by decide) hz2 (by decide) rfl (.slice p9 (m2.el r).length c9) (m2.el r).length (beCells (m2.el r)) rfl HO9.out _ 1 1 (beL y) rfl rfl HRW.out (fun h=>by cases h) (beL_one _) (by have:=HLN.out; omega) (HB9.out).size ?_
                intro p12 c12 w12 ho12 hg12 _
                have HE12:=Hi (rob_ext (e:=y) (T0.out.rg.row r hr) HB9.out HO9L.out (Below.refl _ _) (HYO.out.below HB9.out) (fun k hk=>Or.inl hk) T0.out.rg.lt ho12 hg12)
                refine hK.out _ _ (AgAt.kept T0B.out HE12.out.2) (fun hS=>?_)
                clear hK K ho12 hg12
                refine tK 15 (v:=?_) rfl ?_ hS ?_
                rotate_left
                ·intro W hSW
                 have hri:(r:Int)<16:=by omega
                 go_simp
                 all_goals with_reducible rfl
                go_simp
                refine rD 16 rfl (fun K hK=>?_)
                have yc:=(T0.out.rg.kept HE12.out.2).cell hr
                have yf:=AgAt.free (T0.out.rg.kept HE12.out.2).st r
                go_simp
                refine hK.out _ _ (AgAt.block hS (heap_setCell_other _ _ _ _ (by simpa using HYR.out))) (fun hS=>?_)
                clear hK K yc yf
                refine wpAnyH_done (by kernel_rfl) ?_ _
                go_simp
                have HE:=Hi (T0.out.entered hr HE12.out.2 HE12.out.1)
                have HX:=Hi ((HYO.out.below HE12.out.2).turns (set_turns R w12 r (.slice p12 ((m2.el r).length+1) c12)) fun k hk e=>T0.out.rg.nR (e ▸ hk))
                generalize w12.setCell ⟨R,r,none⟩ (.slice p12 ((m2.el r).length+1) c12)=w17 at *
                go_wp2_with fail
                go_meet
                exact ⟨p12,c12,_,HE.out,hS,HX.out⟩
               ·have yc:=(T0.out.rg.kept HB11.out).cell hr
                go_simp
                refine hK.out _ _ hS (fun hS=>?_)
                clear hK K yc
                refine rD 2 rfl (fun K hK=>?_)
                have hb:=(Below.refl w11.heap.size w11).alloc (Nat.le_refl _) (.cells #[] 43)
                have HO2:=Hi (World.ownsRow_lit (base:=wd.heap.size) (e:=43) (size:=4) w11 #[] 0 HB11.out.size (by simp [maxLen]) (by simp))
                have HC2:=Hi HB11.out.size
                have HB2:=Hi (HB11.out.trans (hb.mono HB11.out.size))
                have HL2:=Hi (show w11.heap.size<(w11.alloc (.cells #[] 43)).heap.size from by simp)
                replace HRW:=Hi (HRW.out.below hb)
                have HNE:=Hi (show w11.heap.size≠wd.heap.size from by have:=HC11.out; omega)
                go_simp
                refine hK.out _ _ (AgAt.kept hS hb) (fun hS=>?_)
                clear hK K hb
                generalize w11.alloc (.cells #[] 43)=w2 at *
                refine rD 9 rfl (fun K hK=>?_)
                refine step_append_kN (by kernel_rfl) _ _ 22 rfl wd.heap.size 43 i0 _ 4 48 Tryz.underlying22 hi hz0 hz1 (by decide) hz2 (by decide) rfl _ 0 [] rfl HO2.out _ (m2.el r).length (m2.c r) (beCells (m2.el r)) rfl (beCells_length _) ((T0.out.rg.kept HB2.out).row r hr).rd ((T0.out.rg.kept HB2.out).row r hr).nil beCells_one (by have:=HLN.out; omega) HB2.out.size ?_
                intro p9 c9 w9 ho9 hg9 _
                rw [Nat.zero_add,List.nil_append] at ho9
                have hb9:=HB2.out.grown hg9 HB2.out.size (fun k hk=>by cases hk; exact HC2.out)
                have HO9:=Hi ho9
                have HO9L:=Hi ho9
                have HB9:=Hi hb9
                replace HRW:=Hi ((Turns.of_grown hg9).rd HRW.out (fun a ha e=>by cases ha; exact HNE.out (Option.some.inj e)))
                refine hK.out _ _ (AgAt.kept T0B.out hb9) (fun hS=>?_)
                clear hK K hb9 ho9 hg9
                rw [Nat.zero_add]
                refine rD 12 rfl (fun K hK=>?_)
                refine step_append_kN (by kernel_rfl) _ _ 22 rfl wd.heap.size 43 i0 _ 4 48 Tryz.underlying22 hi hz0 hz1 (by decide) hz2 (by decide) rfl (.slice p9 (m2.el r).length c9) (m2.el r).length (beCells (m2.el r)) rfl HO9.out _ 1 1 (beL y) rfl rfl HRW.out (fun h=>by cases h) (beL_one _) (by have:=HLN.out; omega) (HB9.out).size ?_
                intro p12 c12 w12 ho12 hg12 _
                have HE12:=Hi (rob_ext (e:=y) (T0.out.rg.row r hr) HB9.out HO9L.out (Below.refl _ _) (HYO.out.below HB9.out) (fun k hk=>Or.inl hk) T0.out.rg.lt ho12 hg12)
                refine hK.out _ _ (AgAt.kept T0B.out HE12.out.2) (fun hS=>?_)
                clear hK K ho12 hg12
                refine tK 15 (v:=?_) rfl ?_ hS ?_
                rotate_left
                ·intro W hSW
                 have hri:(r:Int)<16:=by omega
                 go_simp
                 all_goals with_reducible rfl
                go_simp
                refine rD 16 rfl (fun K hK=>?_)
                have yc:=(T0.out.rg.kept HE12.out.2).cell hr
                have yf:=AgAt.free (T0.out.rg.kept HE12.out.2).st r
                go_simp
                refine hK.out _ _ (AgAt.block hS (heap_setCell_other _ _ _ _ (by simpa using HYR.out))) (fun hS=>?_)
                clear hK K yc yf
                refine wpAnyH_done (by kernel_rfl) ?_ _
                go_simp
                have HE:=Hi (T0.out.entered hr HE12.out.2 HE12.out.1)
                have HX:=Hi ((HYO.out.below HE12.out.2).turns (set_turns R w12 r (.slice p12 ((m2.el r).length+1) c12)) fun k hk e=>T0.out.rg.nR (e ▸ hk))
                generalize w12.setCell ⟨R,r,none⟩ (.slice p12 ((m2.el r).length+1) c12)=w17 at *
                go_wp2_with fail
                go_meet
                exact ⟨p12,c12,_,HE.out,hS,HX.out⟩
             case rest =>
              obtain ⟨q,d,G,hT,hV,hB⟩:=hcut
              have T6:=Hi hT
              have HV6:=Hi hV
              have HB6:=Hi hB
              have HC6:=Hi (rgcopied_any y.x y.p y.c wc hB.bops HYK2.out.cp)
              have HNR:=Hi T6.out.rg.slt
              clear hT hV hB T5 HV5 HB5
              have HLG3:=Hi ((m2.put_enter r y q d HYRT.out))
              go_wp2_with (refine wpList_load_ag btR (by kernel_rfl) _ rfl _ rfl (A:=btA y.x y.p y.c) rfl HV6.out ?_)
              refine HC6.out.mono ?_
              rintro e w7 ⟨p7,c7,rfl,hp7,hb7⟩
              have hb8:=(Below.refl w7.heap.size w7).alloc (Nat.le_refl _) (.cells (btA y.x p7 c7) 43)
              have T8:=Hi ((T6.out.kept hb7).kept hb8)
              have HP8:=Hi (((BopsF.ofN hp7).below hb8).mono (G:=fun k=>k≠R∧(Value.slice po lo.length co).ownBlock≠some k) fun k _ hk=>⟨by have:=HNR.out; omega,fun hh=>by have:=T6.out.out.lt hh; omega⟩)
              have HRW:=Hi (rd_bt_one w7 ⟨y.x,p7,c7⟩ 43)
              have HLL:=Hi (show lo.length≤512 from by
               have h1:=congrArg List.length HOLG.out.1
               have h2:=HOK2.out.len hr
               simp only [List.length_map,List.length_drop] at h1
               omega)
              clear hp7 hb7 hb8
              go_wp2_with (first | (refine wpList_build_rbt rfl _ rfl y.x p7 c7 rfl ?_) | (at_builtin; refine wpList_append_k rfl _ _ 22 rfl 0 43 i0 _ 4 48 Tryz.underlying22 hi hz0 hz1 (by decide) hz2 (by decide) rfl _ lo.length (beCells lo) rfl T8.out.out.own _ 1 1 (beL ⟨y.x,p7,c7⟩) rfl rfl HRW.out (fun h=>by cases h) (beL_one _) (by have:=HLL.out; omega) (Nat.zero_le _) ?_; intro p9 c9 w9 ho9 hg9 hw9))
              have T9:=Hi (T8.out.push (e:=⟨y.x,p7,c7⟩) HP8.out ho9 hg9 (fun g hg=>(hw9 g hg).imp id fun h=>by simpa using h))
              clear ho9 hg9 hw9
              have HL9:=Hi (show ReL R r n0 F (fun k=>m.wv.ownBlock=some k) w L1 g1 (m2.put r (m2.el r ++ [y]) q d) G p9 c9 (lo ++ [⟨y.x,p7,c7⟩]) w9 from by
               refine ⟨T9.out,?_,?_,?_,HOLG.out.2.2.1,?_,?_⟩
               ·rw [HLG3.out]; exact HOK2.out.enter HYK2.out (by have:=HT512.out; omega)
               ·rw [HLG3.out]; exact HAP2.out.enter _
               ·have:=HFO2.out
                rw [if_pos HFT.out] at this
                rw [HLG3.out]
                exact this
               ·rw [HLG3.out]
                have h1:(enterL m2.lg y.x).row r=m2.lg.row r ++ [y.x]:=by unfold enterL; dsimp only; rw [if_pos HYRT.out.symm]
                have h2:(m2.lg.row r).length=(m2.el r).length:=by simp [Rm.lg]
                rw [h1,List.drop_append_of_le_length (by rw [h2]; exact HOLG.out.2.1),List.map_append,HOLG.out.1]
                rfl
               ·have:=HOLG.out.2.1
                simp only [Rm.put,if_true,List.length_append]
                omega)
              have HLE:=Hi (show ((lo ++ [(⟨y.x,p7,c7⟩:Be)]).length)=lo.length+1 from by simp)
              go_wp2
              go_roundg g1
              case rel=>exact ⟨_,_,p9,c9,lo ++ [⟨y.x,p7,c7⟩],by rw [HLE.out],HL9.out⟩
              case measure=>omega
end Go.Proofs.YtfgnmnkihbgjnaaGreat
