/-
  PRODUCTS: the document's Times.
  No conditions.
-/
import Derived.Test.YtfakbbbkfmnnhaaDoorVRefTimes
namespace Go.Proofs.YtfakbbbkfmnnhaaDoor
open Go.RowKit

theorem VTwo.far {w0 w : World} {k n k' n' : Int} {t t' : ByteArray} (h : VTwo w0 k n t k' n' t' w) (R : Nat) (v0 v1 v2 : Value) (hR : w0.heap.size + 1 < R) :
    VTwo w0 k n t k' n' t' (((w.setCell ⟨R, 0, none⟩ v0).setCell ⟨R, 1, none⟩ v1).setCell ⟨R, 2, none⟩ v2) := by
  obtain ⟨h1, h2, h3⟩ := h
  have e : ∀ b, b ≠ R → (((w.setCell ⟨R, 0, none⟩ v0).setCell ⟨R, 1, none⟩ v1).setCell ⟨R, 2, none⟩ v2).heap[b]? = w.heap[b]? := fun b hb => by
    rw [Below.heap_setCell _ _ _ _ (by simpa using hb), Below.heap_setCell _ _ _ _ (by simpa using hb), Below.heap_setCell _ _ _ _ (by simpa using hb)]
  refine ⟨(e _ (by omega)).trans h1, (e _ (by omega)).trans h2, ?_⟩
  exact ((h3.setCell (p := ⟨R, 0, none⟩) (by simp; omega) _).setCell (p := ⟨R, 1, none⟩) (by simp; omega) _).setCell (p := ⟨R, 2, none⟩) (by simp; omega) _

set_option maxRecDepth 100000 in
set_option maxHeartbeats 4000000 in
theorem refVtimes_any (k n : Int) (t : ByteArray) (k' n' : Int) (t' : ByteArray) (w : World) (ht : t.size ≤ 4611686018427387904) (ht' : t'.size ≤ 4611686018427387904) : Calls Tryd.prog 13 #[.agg #[.int .i64 k, .int .i64 n, .string t], .agg #[.int .i64 k', .int .i64 n', .string t']] w fun e w' => e = valE (Vm.timesV k n t.data.toList k' n' t'.data.toList) ∧ Below w.heap.size w w' := by
  have HV := Lib.hid (VTwo.res w k n t k' n' t')
  have HW := Lib.hid (VTwo.res2 w k n t k' n' t')
  cases hN : Vm.numsV k n t.data.toList k' n' t'.data.toList with
  | false =>
    have HA := Lib.hid (show Vm.timesV k n t.data.toList k' n' t'.data.toList = (0, 0, 1) by unfold Vm.timesV; rw [hN]; rfl)
    have HN := Lib.hid hN
    clear hN
    go_enter Tryd.func13, Tryd.ntmps13
    go_wp2_with fail
    refine (vboth_any k n t k' n' t' _ ht ht').mono ?_
    rw [HN.out]
    rintro e w1 ⟨rfl, hb1⟩
    have HV1 := Lib.hid (HV.out.kept hb1)
    have HW1 := Lib.hid (HW.out.kept hb1)
    clear hb1
    obtain ⟨q0, q1, q2, hE⟩ := HV1.out.read (0) (0) ⟨#[]⟩
    have HE := Lib.hid hE
    have y0 := HV1.out.2.1.free 0
    have y1 := HV1.out.2.1.free 1
    have y2 := HV1.out.2.1.free 2
    have z0 := HV1.out.2.1.cell0
    have z1 := HV1.out.2.1.cell1
    have z2 := HV1.out.2.1.cell2
    clear hE
    go_wp2
    refine bodyPost_ret (v := .tuple #[.agg #[.int .i64 (0), .int .i64 (0), .string ⟨#[]⟩], .int .i64 (1)]) (by simp [results, Tryd.results13, go_sem, q0, q1, q2]) rfl ?_
    rw [HA.out]
    exact ⟨rfl, HE.out⟩
  | true =>
    have HN := Lib.hid hN
    obtain ⟨hkk, hk, -, -, n0, n1, n2, n3, -, -⟩ := Vm.numsV_yes hN
    obtain rfl := hkk
    have HA := Lib.hid (show Vm.timesV k' n t.data.toList k' n' t'.data.toList = Vm.ansV k' (Vm.sgnV n n' (Vm.prodV k' n.natAbs n'.natAbs)) by unfold Vm.timesV; rw [hN]; rfl)
    have HC := Lib.hid (ans_capped k' n n' (Vm.prodV k' n.natAbs n'.natAbs) hk)
    clear hN
    rcases hk with rfl | rfl
    · have HP := Lib.hid (fun W => product_one n.natAbs n'.natAbs W (abs_le n n0 n1) (abs_le n' n2 n3))
      have HPD : Hid (Vm.prodV 1 n.natAbs n'.natAbs = n.natAbs * n'.natAbs) := Lib.hid rfl
      rw [HPD.out] at HA HC
      generalize n.natAbs * n'.natAbs = p at *
      have hm : min p 2199023255552 ≤ 4611686018427387904 := by omega
      generalize min p 2199023255552 = m at *
      have HSG := Lib.hid (fun W => refSigned_any m n n' W hm)
      have HQ := Lib.hid (fun W => vanswer_any 1 (Vm.sgnV n n' m) W)
      rw [HC.out] at HQ
      generalize Vm.ansV 1 (Vm.sgnV n n' p) = r at *
      generalize Vm.sgnV n n' m = g at *
      obtain ⟨ra, rb, rc⟩ := r
      unfold valE at HQ
      dsimp only at HQ
      go_enter Tryd.func13, Tryd.ntmps13
      go_wp2_with fail
      refine (vboth_any 1 n t 1 n' t' _ ht ht').mono ?_
      rw [HN.out]
      rintro e w1 ⟨rfl, hb1⟩
      have HV1 := Lib.hid (HV.out.kept hb1)
      have HW1 := Lib.hid (HW.out.kept hb1)
      clear hb1
      have x0 := HW1.out.1.cell0
      have x1 := HW1.out.1.cell1
      have x3 := HW1.out.2.1.cell1
      go_wp2
      go_quiet ((first | (go_at_call 32; exact Calls.quiet_of_same (refAbs_any n _ n0 n1)) | (go_at_call 32; exact Calls.quiet_of_same (refAbs_any n' _ n2 n3)) | (go_at_call 31; exact Calls.quiet_of_same (HP.out _))))
      go_wp2_with fail
      clear x0 x1 x3
      have HB1 := Lib.hid ((below_drewN (Below.refl w1.heap.size w1) nq).drew)
      refine wp_region_held_drew (S := (VTwo w 1 n t 1 n' t')) (by kernel_rfl) (HW1.out.kept HB1.out) (fun hS => ?_)
      refine wpAnyH_take (i := 0) (v := ?_) rfl (by kernel_rfl) (by kernel_rfl) (by kernel_rfl) (fun _ _ _ h => h) (Or.inl ⟨by kernel_rfl, ?_⟩) hS ?_
      rotate_left
      · intro W hSW
        go_simp
        all_goals with_reducible rfl
      refine wpAnyH_take (i := 1) (v := ?_) rfl (by kernel_rfl) (by kernel_rfl) (by kernel_rfl) (fun _ _ _ h => h) (Or.inl ⟨by kernel_rfl, ?_⟩) hS ?_
      rotate_left
      · intro W hSW
        have x0 := hSW.1.cell0
        have x1 := hSW.1.cell1
        have x3 := hSW.2.1.cell1
        go_simp
        all_goals with_reducible rfl
      refine wpAnyH_take (i := 2) (v := ?_) rfl (by kernel_rfl) (by kernel_rfl) (by kernel_rfl) (fun _ _ _ h => h) (Or.inl ⟨by kernel_rfl, ?_⟩) hS ?_
      rotate_left
      · intro W hSW
        go_simp
        all_goals with_reducible rfl
      refine wpAnyH_take (i := 3) (v := ?_) rfl (by kernel_rfl) (by kernel_rfl) (by kernel_rfl) (fun _ _ _ h => h) (Or.inl ⟨by kernel_rfl, ?_⟩) hS ?_
      rotate_left
      · intro W hSW
        go_simp
        all_goals with_reducible rfl
      refine wpAnyH_take (i := 4) (v := ?_) rfl (by kernel_rfl) (by kernel_rfl) (by kernel_rfl) (fun _ _ _ h => h) (Or.inl ⟨by kernel_rfl, ?_⟩) hS ?_
      rotate_left
      · intro W hSW
        have x0 := hSW.1.cell0
        have x1 := hSW.1.cell1
        have x3 := hSW.2.1.cell1
        go_simp
        all_goals with_reducible rfl
      refine wpAnyH_take (i := 5) (v := ?_) rfl (by kernel_rfl) (by kernel_rfl) (by kernel_rfl) (fun _ _ _ h => h) (Or.inl ⟨by kernel_rfl, ?_⟩) hS ?_
      rotate_left
      · intro W hSW
        go_simp
        all_goals with_reducible rfl
      refine wpAnyH_take (i := 6) (v := ?_) rfl (by kernel_rfl) (by kernel_rfl) (by kernel_rfl) (fun _ _ _ h => h) (Or.inl ⟨by kernel_rfl, ?_⟩) hS ?_
      rotate_left
      · intro W hSW
        have x0 := hSW.1.cell0
        have x1 := hSW.1.cell1
        have x3 := hSW.2.1.cell1
        go_simp
        all_goals with_reducible rfl
      refine wpAnyH_ready (rs := [7]) (by kernel_rfl) (by simp) ?_
      refine AllReadyH.cons rfl (fun K hK => ?_) AllReadyH.nil
      go_simp
      go_wp2_with ((go_at_call 33; refine (HSG.out _).mono ?_; rintro e wn ⟨rfl, rfl⟩))
      refine hK.out _ _ hS (fun hS => ?_)
      clear hK K
      refine wpAnyH_ready (rs := [8]) (by kernel_rfl) (by simp) ?_
      refine AllReadyH.cons rfl (fun K hK => ?_) AllReadyH.nil
      go_simp
      go_wp2_with ((go_at_call 26; refine (HQ.out _).mono ?_; rintro e w2 ⟨rfl, hbn⟩))
      refine hK.out _ _ (hS.kept hbn) (fun hS => ?_)
      clear hK K
      have HV2 := Lib.hid (HV1.out.kept (HB1.out.trans hbn))
      clear hbn
      refine wpAnyH_take (i := 9) (v := ?_) rfl (by kernel_rfl) (by kernel_rfl) (by kernel_rfl) (fun _ _ _ h => h) (Or.inl ⟨by kernel_rfl, ?_⟩) hS ?_
      rotate_left
      · intro W hSW
        go_simp
        all_goals with_reducible rfl
      refine wpAnyH_take (i := 10) (v := ?_) rfl (by kernel_rfl) (by kernel_rfl) (by kernel_rfl) (fun _ _ _ h => h) (Or.inl ⟨by kernel_rfl, ?_⟩) hS ?_
      rotate_left
      · intro W hSW
        go_simp
        all_goals with_reducible rfl
      obtain ⟨q0, q1, q2, hE⟩ := HV2.out.read (ra) (rb) ⟨#[]⟩
      have HE := Lib.hid hE
      have y0 := HV2.out.2.1.free 0
      have y1 := HV2.out.2.1.free 1
      have y2 := HV2.out.2.1.free 2
      have z0 := HV2.out.2.1.cell0
      have z1 := HV2.out.2.1.cell1
      have z2 := HV2.out.2.1.cell2
      clear hE
      refine wpAnyH_ready (rs := [11]) (by kernel_rfl) (by simp) ?_
      refine AllReadyH.cons rfl (fun K hK => ?_) AllReadyH.nil
      go_simp
      refine hK.out _ _ (hS.far _ _ _ _ (by omega)) (fun hS => ?_)
      clear hK K
      refine wpAnyH_take (i := 12) (v := ?_) rfl (by kernel_rfl) (by kernel_rfl) (by kernel_rfl) (fun _ _ _ h => h) (Or.inl ⟨by kernel_rfl, ?_⟩) hS ?_
      rotate_left
      · intro W hSW
        go_simp
        all_goals with_reducible rfl
      refine wpAnyH_done (by kernel_rfl) ?_ _
      clear hS
      go_wp2
      refine bodyPost_ret (v := .tuple #[.agg #[.int .i64 (ra), .int .i64 (rb), .string ⟨#[]⟩], .int .i64 (rc)]) (by simp [results, Tryd.results13, go_sem, q0, q1, q2]) rfl ?_
      rw [HA.out]
      exact ⟨rfl, HE.out⟩
    · have HP := Lib.hid (fun W => product_fix n.natAbs n'.natAbs W (abs_le n n0 n1) (abs_le n' n2 n3))
      have HPD : Hid (Vm.prodV 2 n.natAbs n'.natAbs = (n.natAbs * n'.natAbs + 32768) / 65536) := Lib.hid rfl
      rw [HPD.out] at HA HC
      generalize (n.natAbs * n'.natAbs + 32768) / 65536 = p at *
      have hm : min p 2199023255552 ≤ 4611686018427387904 := by omega
      generalize min p 2199023255552 = m at *
      have HSG := Lib.hid (fun W => refSigned_any m n n' W hm)
      have HQ := Lib.hid (fun W => vanswer_any 2 (Vm.sgnV n n' m) W)
      rw [HC.out] at HQ
      generalize Vm.ansV 2 (Vm.sgnV n n' p) = r at *
      generalize Vm.sgnV n n' m = g at *
      obtain ⟨ra, rb, rc⟩ := r
      unfold valE at HQ
      dsimp only at HQ
      go_enter Tryd.func13, Tryd.ntmps13
      go_wp2_with fail
      refine (vboth_any 2 n t 2 n' t' _ ht ht').mono ?_
      rw [HN.out]
      rintro e w1 ⟨rfl, hb1⟩
      have HV1 := Lib.hid (HV.out.kept hb1)
      have HW1 := Lib.hid (HW.out.kept hb1)
      clear hb1
      have x0 := HW1.out.1.cell0
      have x1 := HW1.out.1.cell1
      have x3 := HW1.out.2.1.cell1
      go_wp2
      go_quiet ((first | (go_at_call 32; exact Calls.quiet_of_same (refAbs_any n _ n0 n1)) | (go_at_call 32; exact Calls.quiet_of_same (refAbs_any n' _ n2 n3)) | (go_at_call 31; exact Calls.quiet_of_same (HP.out _))))
      go_wp2_with fail
      clear x0 x1 x3
      have HB1 := Lib.hid ((below_drewN (Below.refl w1.heap.size w1) nq).drew)
      refine wp_region_held_drew (S := (VTwo w 2 n t 2 n' t')) (by kernel_rfl) (HW1.out.kept HB1.out) (fun hS => ?_)
      refine wpAnyH_take (i := 0) (v := ?_) rfl (by kernel_rfl) (by kernel_rfl) (by kernel_rfl) (fun _ _ _ h => h) (Or.inl ⟨by kernel_rfl, ?_⟩) hS ?_
      rotate_left
      · intro W hSW
        go_simp
        all_goals with_reducible rfl
      refine wpAnyH_take (i := 1) (v := ?_) rfl (by kernel_rfl) (by kernel_rfl) (by kernel_rfl) (fun _ _ _ h => h) (Or.inl ⟨by kernel_rfl, ?_⟩) hS ?_
      rotate_left
      · intro W hSW
        have x0 := hSW.1.cell0
        have x1 := hSW.1.cell1
        have x3 := hSW.2.1.cell1
        go_simp
        all_goals with_reducible rfl
      refine wpAnyH_take (i := 2) (v := ?_) rfl (by kernel_rfl) (by kernel_rfl) (by kernel_rfl) (fun _ _ _ h => h) (Or.inl ⟨by kernel_rfl, ?_⟩) hS ?_
      rotate_left
      · intro W hSW
        go_simp
        all_goals with_reducible rfl
      refine wpAnyH_take (i := 3) (v := ?_) rfl (by kernel_rfl) (by kernel_rfl) (by kernel_rfl) (fun _ _ _ h => h) (Or.inl ⟨by kernel_rfl, ?_⟩) hS ?_
      rotate_left
      · intro W hSW
        go_simp
        all_goals with_reducible rfl
      refine wpAnyH_take (i := 4) (v := ?_) rfl (by kernel_rfl) (by kernel_rfl) (by kernel_rfl) (fun _ _ _ h => h) (Or.inl ⟨by kernel_rfl, ?_⟩) hS ?_
      rotate_left
      · intro W hSW
        have x0 := hSW.1.cell0
        have x1 := hSW.1.cell1
        have x3 := hSW.2.1.cell1
        go_simp
        all_goals with_reducible rfl
      refine wpAnyH_take (i := 5) (v := ?_) rfl (by kernel_rfl) (by kernel_rfl) (by kernel_rfl) (fun _ _ _ h => h) (Or.inl ⟨by kernel_rfl, ?_⟩) hS ?_
      rotate_left
      · intro W hSW
        go_simp
        all_goals with_reducible rfl
      refine wpAnyH_take (i := 6) (v := ?_) rfl (by kernel_rfl) (by kernel_rfl) (by kernel_rfl) (fun _ _ _ h => h) (Or.inl ⟨by kernel_rfl, ?_⟩) hS ?_
      rotate_left
      · intro W hSW
        have x0 := hSW.1.cell0
        have x1 := hSW.1.cell1
        have x3 := hSW.2.1.cell1
        go_simp
        all_goals with_reducible rfl
      refine wpAnyH_ready (rs := [7]) (by kernel_rfl) (by simp) ?_
      refine AllReadyH.cons rfl (fun K hK => ?_) AllReadyH.nil
      go_simp
      go_wp2_with ((go_at_call 33; refine (HSG.out _).mono ?_; rintro e wn ⟨rfl, rfl⟩))
      refine hK.out _ _ hS (fun hS => ?_)
      clear hK K
      refine wpAnyH_ready (rs := [8]) (by kernel_rfl) (by simp) ?_
      refine AllReadyH.cons rfl (fun K hK => ?_) AllReadyH.nil
      go_simp
      go_wp2_with ((go_at_call 26; refine (HQ.out _).mono ?_; rintro e w2 ⟨rfl, hbn⟩))
      refine hK.out _ _ (hS.kept hbn) (fun hS => ?_)
      clear hK K
      have HV2 := Lib.hid (HV1.out.kept (HB1.out.trans hbn))
      clear hbn
      refine wpAnyH_take (i := 9) (v := ?_) rfl (by kernel_rfl) (by kernel_rfl) (by kernel_rfl) (fun _ _ _ h => h) (Or.inl ⟨by kernel_rfl, ?_⟩) hS ?_
      rotate_left
      · intro W hSW
        go_simp
        all_goals with_reducible rfl
      refine wpAnyH_take (i := 10) (v := ?_) rfl (by kernel_rfl) (by kernel_rfl) (by kernel_rfl) (fun _ _ _ h => h) (Or.inl ⟨by kernel_rfl, ?_⟩) hS ?_
      rotate_left
      · intro W hSW
        go_simp
        all_goals with_reducible rfl
      obtain ⟨q0, q1, q2, hE⟩ := HV2.out.read (ra) (rb) ⟨#[]⟩
      have HE := Lib.hid hE
      have y0 := HV2.out.2.1.free 0
      have y1 := HV2.out.2.1.free 1
      have y2 := HV2.out.2.1.free 2
      have z0 := HV2.out.2.1.cell0
      have z1 := HV2.out.2.1.cell1
      have z2 := HV2.out.2.1.cell2
      clear hE
      refine wpAnyH_ready (rs := [11]) (by kernel_rfl) (by simp) ?_
      refine AllReadyH.cons rfl (fun K hK => ?_) AllReadyH.nil
      go_simp
      refine hK.out _ _ (hS.far _ _ _ _ (by omega)) (fun hS => ?_)
      clear hK K
      refine wpAnyH_take (i := 12) (v := ?_) rfl (by kernel_rfl) (by kernel_rfl) (by kernel_rfl) (fun _ _ _ h => h) (Or.inl ⟨by kernel_rfl, ?_⟩) hS ?_
      rotate_left
      · intro W hSW
        go_simp
        all_goals with_reducible rfl
      refine wpAnyH_done (by kernel_rfl) ?_ _
      clear hS
      go_wp2
      refine bodyPost_ret (v := .tuple #[.agg #[.int .i64 (ra), .int .i64 (rb), .string ⟨#[]⟩], .int .i64 (rc)]) (by simp [results, Tryd.results13, go_sem, q0, q1, q2]) rfl ?_
      rw [HA.out]
      exact ⟨rfl, HE.out⟩

end Go.Proofs.YtfakbbbkfmnnhaaDoor
