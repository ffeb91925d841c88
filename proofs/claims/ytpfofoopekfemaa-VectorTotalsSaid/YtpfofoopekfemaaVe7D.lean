/-
  VectorTotals: one that does not.
  No conditions.
-/
import Derived.Test.YtpfofoopekfemaaVe7
namespace Go.Proofs.Ytpfofoopekfemaa
open Go.RowKit

set_option maxRecDepth 100000 in
set_option maxHeartbeats 4000000 in
theorem totals_D (a b : Nat → Int) (w : World) (hra : vRight a = true) (hrb : vRight b = true) (hc : ¬ cmpF a b = 1) : Calls Try.prog 6 #[.agg (vecA a), .agg (vecA b)] w (Yes w) := by
  obtain ⟨V1, V2, hb0⟩ := two_rows w a b 23 23 _ rfl
  have HB0 := Lib.hid hb0
  have HV1 := Lib.hid V1
  have HV2 := Lib.hid V2
  clear hb0 V1 V2
  go_enter Try.func6, Try.ntmps6
  go_upto_region 1 with (fail)
  obtain ⟨wx, hwx⟩ : ∃ wx : World, wx = (w.alloc (.cells (vecA a) 23)).alloc (.cells (vecA b) 23) := ⟨_, rfl⟩
  rw [← hwx] at HB0 HV1 HV2 ⊢
  clear hwx
  have V1 := HV1.out
  have HRa := Lib.hid (fun W => right_any a W)
  have HRb := Lib.hid (fun W => right_any b W)
  have HTa := Lib.hid (fun W => total_any a W)
  have HTb := Lib.hid (fun W => total_any b W)
  rw [hra] at HRa
  rw [hrb] at HRb
  have HMO := Lib.hid (fun h => total_more hra hrb h)
  have HTJ := total_join hra hrb
  obtain ⟨-, ta0, ta1⟩ := total_right hra
  obtain ⟨-, tb0, tb1⟩ := total_right hrb
  obtain ⟨-, tj0, tj1⟩ := total_right (right_join hra hrb)
  obtain ⟨-, tm0, tm1⟩ := total_right (right_meet hra hrb)
  have HTj := Lib.hid (fun W => total_any (joinF a b) W)
  have HTm := Lib.hid (fun W => total_any (meetF a b) W)
  have HCM := Lib.hid (fun W => compare_any a b W)
  clear hra hrb
  generalize totalF a = A at *
  generalize totalF b = B at *
  generalize totalF (joinF a b) = J at *
  generalize totalF (meetF a b) = M at *
  have he : (J + M == A + B) = true := by simp [HTJ]
  have hw1 : IntKind.i64.wrap (J + M) = J + M := wraps_i64 _ (by omega) (by omega)
  have hw2 : IntKind.i64.wrap (A + B) = A + B := wraps_i64 _ (by omega) (by omega)
  clear HTJ
  clear HMO
  generalize cmpF a b = c at *
  have hc1 : (c == 1) = false := by simpa using hc
  have hc2 : decide (c = 1) = false := by simpa using hc
  go_wp2_with (first | (refine wpList_load_vec vtR rfl _ rfl _ rfl _ (by assumption) ?_) | (refine wpList_store_new vtP rfl _ _ rfl rfl (a) rfl ?_; intro wn hvn hbn; have hb1 := HB0.out.trans (hbn.mono HB0.out.size); have X0 := hvn; have V2 := HV2.out.kept hbn; clear V1) | (refine wpList_store_new vtP rfl _ _ rfl rfl (b) rfl ?_; intro wn hvn hbn; have HBZ := Lib.hid (hb1.trans (hbn.mono hb1.size)); have Y1 := hvn; have X1 := X0.kept hbn; clear V2 hb1 X0) | (refine wpList_load_vec vtP rfl _ rfl _ rfl _ (by assumption) ?_) | (refine wpList_load_vecG vtP (by kernel_rfl) _ rfl _ rfl _ (by assumption) ?_))
  refine (HRa.out _).mono ?_
  rintro e w3 ⟨rfl, hbc⟩
  have HX := Lib.hid (X1.kept hbc)
  have HY := Lib.hid (Y1.kept hbc)
  have HBZ := Lib.hid (HBZ.out.trans (hbc.mono HBZ.out.size))
  clear hbc X1 Y1
  have X1 := HX.out
  have Y1 := HY.out
  go_wp2_with (refine wpList_load_vecG vtP (by kernel_rfl) _ rfl _ rfl _ (by assumption) ?_)
  refine (HRb.out _).mono ?_
  rintro e wz ⟨rfl, hbc⟩
  have HX := Lib.hid (X1.kept hbc)
  have HY := Lib.hid (Y1.kept hbc)
  have HBZ := Lib.hid (HBZ.out.trans (hbc.mono HBZ.out.size))
  clear hbc X1 Y1
  go_wp2
  refine wp_region_held_drew (S := Bel wz) (by kernel_rfl) (Bel.start wz) (fun hS => ?_)
  refine wpAnyH_take (i := 0) (v := .agg (vecA _)) rfl (by kernel_rfl) (by kernel_rfl) (by kernel_rfl) (fun _ _ _ h => h) (Or.inl ⟨by kernel_rfl, fun W hSW => exec_load_vec vtP rfl rfl (HX.out.bel hSW)⟩) hS ?_
  refine wpAnyH_take (i := 1) (v := .agg (vecA _)) rfl (by kernel_rfl) (by kernel_rfl) (by kernel_rfl) (fun _ _ _ h => h) (Or.inl ⟨by kernel_rfl, fun W hSW => exec_load_vec vtP rfl rfl (HY.out.bel hSW)⟩) hS ?_
  refine wpAnyH_ready (rs := [2]) (by kernel_rfl) (by simp) ?_
  refine AllReadyH.cons rfl (fun K hK => ?_) AllReadyH.nil
  go_simp
  go_wp2_with ((go_at_call 27; refine (HCM.out _).mono ?_; rintro e wn ⟨rfl, hbn⟩))
  refine hK.out _ _ (hS.trans hbn) (fun hS => ?_)
  clear hK K
  refine wpAnyH_take (i := 3) (v := ?_) rfl (by kernel_rfl) (by kernel_rfl) (by kernel_rfl) (fun _ _ _ h => h) (Or.inl ⟨by kernel_rfl, ?_⟩) hS ?_
  rotate_left
  · intro W hSW
    go_simp
    all_goals with_reducible rfl
  refine wpAnyH_take (i := 4) (v := ?_) rfl (by kernel_rfl) (by kernel_rfl) (by kernel_rfl) (fun _ _ _ h => h) (Or.inl ⟨by kernel_rfl, ?_⟩) hS ?_
  rotate_left
  · intro W hSW
    go_simp
    all_goals with_reducible rfl
  go_simp
  refine wpAnyH_take (i := 5) (v := undef) rfl (by kernel_rfl) (by kernel_rfl) (by kernel_rfl) (fun _ _ _ h => h) (Or.inr ⟨by kernel_rfl, rfl⟩) hS ?_
  refine wpAnyH_take (i := 6) (v := undef) rfl (by kernel_rfl) (by kernel_rfl) (by kernel_rfl) (fun _ _ _ h => h) (Or.inr ⟨by kernel_rfl, rfl⟩) hS ?_
  refine wpAnyH_take (i := 7) (v := undef) rfl (by kernel_rfl) (by kernel_rfl) (by kernel_rfl) (fun _ _ _ h => h) (Or.inr ⟨by kernel_rfl, rfl⟩) hS ?_
  refine wpAnyH_take (i := 8) (v := undef) rfl (by kernel_rfl) (by kernel_rfl) (by kernel_rfl) (fun _ _ _ h => h) (Or.inr ⟨by kernel_rfl, rfl⟩) hS ?_
  refine wpAnyH_take (i := 9) (v := undef) rfl (by kernel_rfl) (by kernel_rfl) (by kernel_rfl) (fun _ _ _ h => h) (Or.inr ⟨by kernel_rfl, rfl⟩) hS ?_
  refine wpAnyH_take (i := 10) (v := ?_) rfl (by kernel_rfl) (by kernel_rfl) (by kernel_rfl) (fun _ _ _ h => h) (Or.inl ⟨by kernel_rfl, ?_⟩) hS ?_
  rotate_left
  · intro W hSW
    go_simp
    all_goals with_reducible rfl
  go_simp
  refine wpAnyH_done (by kernel_rfl) ?_ _
  have HX := Lib.hid (HX.out.bel hS)
  have HY := Lib.hid (HY.out.bel hS)
  have HBZ := Lib.hid (HBZ.out.trans (Below.mono hS HBZ.out.size))
  clear hS
  go_wp2
  refine wp_region_held_drew (S := Bel _) (by kernel_rfl) (Bel.start _) (fun hS => ?_)
  refine wpAnyH_take (i := 0) (v := .agg (vecA _)) rfl (by kernel_rfl) (by kernel_rfl) (by kernel_rfl) (fun _ _ _ h => h) (Or.inl ⟨by kernel_rfl, fun W hSW => exec_load_vec vtP rfl rfl (HX.out.bel hSW)⟩) hS ?_
  refine wpAnyH_take (i := 1) (v := .agg (vecA _)) rfl (by kernel_rfl) (by kernel_rfl) (by kernel_rfl) (fun _ _ _ h => h) (Or.inl ⟨by kernel_rfl, fun W hSW => exec_load_vec vtP rfl rfl (HY.out.bel hSW)⟩) hS ?_
  refine wpAnyH_take (i := 4) (v := .agg (vecA _)) rfl (by kernel_rfl) (by kernel_rfl) (by kernel_rfl) (fun _ _ _ h => h) (Or.inl ⟨by kernel_rfl, fun W hSW => exec_load_vec vtP rfl rfl (HX.out.bel hSW)⟩) hS ?_
  refine wpAnyH_take (i := 5) (v := .agg (vecA _)) rfl (by kernel_rfl) (by kernel_rfl) (by kernel_rfl) (fun _ _ _ h => h) (Or.inl ⟨by kernel_rfl, fun W hSW => exec_load_vec vtP rfl rfl (HY.out.bel hSW)⟩) hS ?_
  refine wpAnyH_take (i := 9) (v := .agg (vecA _)) rfl (by kernel_rfl) (by kernel_rfl) (by kernel_rfl) (fun _ _ _ h => h) (Or.inl ⟨by kernel_rfl, fun W hSW => exec_load_vec vtP rfl rfl (HX.out.bel hSW)⟩) hS ?_
  refine wpAnyH_take (i := 11) (v := .agg (vecA _)) rfl (by kernel_rfl) (by kernel_rfl) (by kernel_rfl) (fun _ _ _ h => h) (Or.inl ⟨by kernel_rfl, fun W hSW => exec_load_vec vtP rfl rfl (HY.out.bel hSW)⟩) hS ?_
  refine wpAnyH_ready (rs := [2]) (by kernel_rfl) (by simp) ?_
  refine AllReadyH.cons rfl (fun K hK => ?_) AllReadyH.nil
  go_simp
  go_wp2_with ((go_at_call 21; refine (join_any (a) (b) _).mono ?_; rintro e wn ⟨rfl, hbn⟩))
  refine hK.out _ _ (hS.trans hbn) (fun hS => ?_)
  clear hK K
  refine wpAnyH_ready (rs := [3]) (by kernel_rfl) (by simp) ?_
  refine AllReadyH.cons rfl (fun K hK => ?_) AllReadyH.nil
  go_simp
  go_wp2_with ((go_at_call 29; refine ((HTj.out _)).mono ?_; rintro e wn ⟨rfl, hbn⟩))
  refine hK.out _ _ (hS.trans hbn) (fun hS => ?_)
  clear hK K
  refine wpAnyH_ready (rs := [6]) (by kernel_rfl) (by simp) ?_
  refine AllReadyH.cons rfl (fun K hK => ?_) AllReadyH.nil
  go_simp
  go_wp2_with ((go_at_call 23; refine (meet_any (a) (b) _).mono ?_; rintro e wn ⟨rfl, hbn⟩))
  refine hK.out _ _ (hS.trans hbn) (fun hS => ?_)
  clear hK K
  refine wpAnyH_ready (rs := [7]) (by kernel_rfl) (by simp) ?_
  refine AllReadyH.cons rfl (fun K hK => ?_) AllReadyH.nil
  go_simp
  go_wp2_with ((go_at_call 29; refine ((HTm.out _)).mono ?_; rintro e wn ⟨rfl, hbn⟩))
  refine hK.out _ _ (hS.trans hbn) (fun hS => ?_)
  clear hK K
  refine wpAnyH_take (i := 8) (v := ?_) rfl (by kernel_rfl) (by kernel_rfl) (by kernel_rfl) (fun _ _ _ h => h) (Or.inl ⟨by kernel_rfl, ?_⟩) hS ?_
  rotate_left
  · intro W hSW
    go_simp
    all_goals with_reducible rfl
  refine wpAnyH_ready (rs := [10]) (by kernel_rfl) (by simp) ?_
  refine AllReadyH.cons rfl (fun K hK => ?_) AllReadyH.nil
  go_simp
  go_wp2_with ((go_at_call 29; refine ((HTa.out _)).mono ?_; rintro e wn ⟨rfl, hbn⟩))
  refine hK.out _ _ (hS.trans hbn) (fun hS => ?_)
  clear hK K
  refine wpAnyH_ready (rs := [12]) (by kernel_rfl) (by simp) ?_
  refine AllReadyH.cons rfl (fun K hK => ?_) AllReadyH.nil
  go_simp
  go_wp2_with ((go_at_call 29; refine ((HTb.out _)).mono ?_; rintro e wn ⟨rfl, hbn⟩))
  refine hK.out _ _ (hS.trans hbn) (fun hS => ?_)
  clear hK K
  refine wpAnyH_take (i := 13) (v := ?_) rfl (by kernel_rfl) (by kernel_rfl) (by kernel_rfl) (fun _ _ _ h => h) (Or.inl ⟨by kernel_rfl, ?_⟩) hS ?_
  rotate_left
  · intro W hSW
    go_simp
    all_goals with_reducible rfl
  refine wpAnyH_take (i := 14) (v := ?_) rfl (by kernel_rfl) (by kernel_rfl) (by kernel_rfl) (fun _ _ _ h => h) (Or.inl ⟨by kernel_rfl, ?_⟩) hS ?_
  rotate_left
  · intro W hSW
    go_simp
    all_goals with_reducible rfl
  refine wpAnyH_take (i := 15) (v := ?_) rfl (by kernel_rfl) (by kernel_rfl) (by kernel_rfl) (fun _ _ _ h => h) (Or.inl ⟨by kernel_rfl, ?_⟩) hS ?_
  rotate_left
  · intro W hSW
    go_simp
    all_goals with_reducible rfl
  refine wpAnyH_ready (rs := [16]) (by kernel_rfl) (by simp) ?_
  refine AllReadyH.cons rfl (fun K hK => ?_) AllReadyH.nil
  go_simp
  go_wp2_with ((go_at_call 31; refine (vknows_any _).mono ?_; rintro e wn ⟨rfl, hbn⟩))
  refine hK.out _ _ (hS.trans hbn) (fun hS => ?_)
  clear hK K
  refine wpAnyH_take (i := 17) (v := ?_) rfl (by kernel_rfl) (by kernel_rfl) (by kernel_rfl) (fun _ _ _ h => h) (Or.inl ⟨by kernel_rfl, ?_⟩) hS ?_
  rotate_left
  · intro W hSW
    go_simp
    all_goals with_reducible rfl
  refine wpAnyH_take (i := 18) (v := ?_) rfl (by kernel_rfl) (by kernel_rfl) (by kernel_rfl) (fun _ _ _ h => h) (Or.inl ⟨by kernel_rfl, ?_⟩) hS ?_
  rotate_left
  · intro W hSW
    go_simp
    all_goals with_reducible rfl
  refine wpAnyH_done (by kernel_rfl) ?_ _
  have HE := Lib.hid (HBZ.out.trans (Below.mono hS HBZ.out.size))
  go_wp2
  go_ret
  exact ⟨rfl, HE.out⟩

end Go.Proofs.Ytpfofoopekfemaa
