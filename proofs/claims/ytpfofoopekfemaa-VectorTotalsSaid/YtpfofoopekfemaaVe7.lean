/-
  The laws VectorTotals and VectorLattice, walked.
  No conditions.
-/
import Derived.Test.YtpfofoopekfemaaVe6
import Derived.Deep.DeepCutAuto
import Derived.Outline
namespace Go.Proofs.Ytpfofoopekfemaa
open Go.RowKit

/-- what a law answers: true; nothing that was there has turned -/
def Yes (w : World) (e : Ending) (w' : World) : Prop := e = .returned (.bool true) ∧ Below w.heap.size w w'
/-- a vector into a new block -/
theorem wpList_store_new {t : TypeId} (V : VT Try.prog t) {ops : Array Oper} {rest : List Oper} {o : Oper} {a : Act} {w : World} {T : TypeId} {Q : Exit → Act → World → Prop} (hgd : o.guard = none) (x y : Operand) (ho : o.op = .store t x y)
    (hx : a.eval x = .pointer (some ⟨w.heap.size, 0, none⟩)) (v : Nat → Int) (hy : a.eval y = .agg (vecA v))
    (h : ∀ w' : World, VAt w' w.heap.size v → Below w.heap.size w w' → wpList Try.prog ops Q rest (a.put o.dst undef) w') : wpList Try.prog ops Q (o :: rest) a (w.alloc (.cells (vecA fun _ => 0) T)) :=
  wpList_store_vec V hgd x y ho w.heap.size hx (fun _ => 0) v (VAt.new w _ T) hy fun w' hv _ _ hb => h w' hv (hb _ _ ((Below.refl _ _).alloc (Nat.le_refl _) _) (Nat.le_refl _))

theorem sum_join (a b : Nat → Int) (k : Nat) : sumTo (joinF a b) k + sumTo (meetF a b) k = sumTo a k + sumTo b k := by
  induction k with
  | zero => rfl
  | succ k ih =>
    have : joinF a b k + meetF a b k = a k + b k := by unfold joinF meetF; split <;> split <;> omega
    simp only [sumTo]; omega
theorem right_join {a b : Nat → Int} (h : vRight a = true) (k : vRight b = true) : vRight (joinF a b) = true := vRight_iff.2 fun i hi => by
  have := vRight_iff.1 h i hi
  have := vRight_iff.1 k i hi
  unfold joinF; split <;> omega
theorem right_meet {a b : Nat → Int} (h : vRight a = true) (k : vRight b = true) : vRight (meetF a b) = true := vRight_iff.2 fun i hi => by
  have := vRight_iff.1 h i hi
  have := vRight_iff.1 k i hi
  unfold meetF; split <;> omega
theorem total_right {a : Nat → Int} (h : vRight a = true) : totalF a = sumTo a 16 ∧ 0 ≤ totalF a ∧ totalF a ≤ 8192 := by
  have e : totalF a = sumTo a 16 := by unfold totalF; rw [if_pos h]
  have := sumTo_bd h 16 (Nat.le_refl _)
  exact ⟨e, by omega, by omega⟩
theorem total_join {a b : Nat → Int} (h : vRight a = true) (k : vRight b = true) : totalF (joinF a b) + totalF (meetF a b) = totalF a + totalF b := by
  rw [(total_right (right_join h k)).1, (total_right (right_meet h k)).1, (total_right h).1, (total_right k).1, sum_join]
theorem sum_le {a b : Nat → Int} (k : Nat) (h : ∀ i, i < k → b i ≤ a i) : sumTo b k ≤ sumTo a k := by
  induction k with
  | zero => exact Int.le_refl _
  | succ k ih => have := ih fun i hi => h i (by omega); have := h k (by omega); simp only [sumTo]; omega
theorem sum_lt {a b : Nat → Int} (k : Nat) (h : ∀ i, i < k → b i ≤ a i) (hn : ∃ i, i < k ∧ a i ≠ b i) : sumTo b k < sumTo a k := by
  induction k with
  | zero => obtain ⟨i, hi, _⟩ := hn; omega
  | succ k ih =>
    have hk := h k (by omega)
    have hle := sum_le (a := a) (b := b) k fun i hi => h i (by omega)
    simp only [sumTo]
    by_cases e : a k = b k
    · obtain ⟨i, hi, hne⟩ := hn
      have : sumTo b k < sumTo a k := ih (fun i hi => h i (by omega)) ⟨i, by
        rcases Nat.lt_or_ge i k with e2 | e2
        · exact e2
        · exact absurd (by rw [show i = k by omega]; exact e) hne, hne⟩
      omega
    · omega
theorem total_more {a b : Nat → Int} (h : vRight a = true) (k : vRight b = true) (hc : cmpF a b = 1) : totalF b < totalF a := by
  rw [(total_right h).1, (total_right k).1]
  unfold cmpF at hc
  by_cases h0 : eqv a b = true
  · rw [if_pos h0] at hc; simp at hc
  · rw [if_neg h0] at hc
    by_cases h1 : coversB a b = true
    · refine sum_lt 16 (coversB_iff.1 h1) ?_
      exact Classical.byContradiction fun hn => h0 (eqv_iff.2 fun i hi => Classical.byContradiction fun hne => hn ⟨i, hi, hne⟩)
    · rw [if_neg h1] at hc
      by_cases h2 : coversB b a = true
      · rw [if_pos h2] at hc; simp at hc
      · rw [if_neg h2] at hc; simp at hc
theorem total_bad {a : Nat → Int} (h : vRight a = false) : totalF a = 0 := by unfold totalF; rw [if_neg (by simp [h])]

set_option maxRecDepth 100000 in
set_option maxHeartbeats 4000000 in
theorem totals_A (a b : Nat → Int) (w : World) (hra : vRight a = false) : Calls Try.prog 6 #[.agg (vecA a), .agg (vecA b)] w (Yes w) := by
  obtain ⟨V1, V2, hb0⟩ := two_rows w a b 23 23 _ rfl
  have HB0 := Lib.hid hb0
  have HV1 := Lib.hid V1
  have HV2 := Lib.hid V2
  clear hb0 V1 V2
  go_enter Try.func6, Try.ntmps6
  go_upto_region 1 with (fail)
  obtain ⟨wx, hwx⟩ : ∃ wx : World, wx = (w.alloc (.cells (vecA a) 23)).alloc (.cells (vecA b) 23) := ⟨_, rfl⟩
  rw [← hwx] at HB0 HV1 HV2 ⊢
  clear hwx
  have V1 := HV1.out
  have HRa := Lib.hid (fun W => right_any a W)
  have HRb := Lib.hid (fun W => right_any b W)
  have HTa := Lib.hid (fun W => total_any a W)
  have HTb := Lib.hid (fun W => total_any b W)
  rw [hra] at HRa
  rw [total_bad hra] at HTa
  clear hra
  go_wp2_with (first | (refine wpList_load_vec vtR rfl _ rfl _ rfl _ (by assumption) ?_) | (refine wpList_store_new vtP rfl _ _ rfl rfl (a) rfl ?_; intro wn hvn hbn; have hb1 := HB0.out.trans (hbn.mono HB0.out.size); have X0 := hvn; have V2 := HV2.out.kept hbn; clear V1) | (refine wpList_store_new vtP rfl _ _ rfl rfl (b) rfl ?_; intro wn hvn hbn; have HBZ := Lib.hid (hb1.trans (hbn.mono hb1.size)); have Y1 := hvn; have X1 := X0.kept hbn; clear V2 hb1 X0) | (refine wpList_load_vec vtP rfl _ rfl _ rfl _ (by assumption) ?_) | (refine wpList_load_vecG vtP (by kernel_rfl) _ rfl _ rfl _ (by assumption) ?_))
  refine (HRa.out _).mono ?_
  rintro e wz ⟨rfl, hbc⟩
  have HX := Lib.hid (X1.kept hbc)
  have HY := Lib.hid (Y1.kept hbc)
  have HBZ := Lib.hid (HBZ.out.trans (hbc.mono HBZ.out.size))
  clear hbc X1 Y1
  go_wp2
  refine wp_region_held_drew (S := Bel wz) (by kernel_rfl) (Bel.start wz) (fun hS => ?_)
  refine wpAnyH_take (i := 0) (v := .agg (vecA _)) rfl (by kernel_rfl) (by kernel_rfl) (by kernel_rfl) (fun _ _ _ h => h) (Or.inl ⟨by kernel_rfl, fun W hSW => exec_load_vec vtP rfl rfl (HX.out.bel hSW)⟩) hS ?_
  refine wpAnyH_take (i := 2) (v := .agg (vecA _)) rfl (by kernel_rfl) (by kernel_rfl) (by kernel_rfl) (fun _ _ _ h => h) (Or.inl ⟨by kernel_rfl, fun W hSW => exec_load_vec vtP rfl rfl (HY.out.bel hSW)⟩) hS ?_
  refine wpAnyH_ready (rs := [1]) (by kernel_rfl) (by simp) ?_
  refine AllReadyH.cons rfl (fun K hK => ?_) AllReadyH.nil
  go_simp
  go_wp2_with ((go_at_call 29; refine ((HTa.out _)).mono ?_; rintro e wn ⟨rfl, hbn⟩))
  refine hK.out _ _ (hS.trans hbn) (fun hS => ?_)
  clear hK K
  refine wpAnyH_ready (rs := [3]) (by kernel_rfl) (by simp) ?_
  refine AllReadyH.cons rfl (fun K hK => ?_) AllReadyH.nil
  go_simp
  go_wp2_with ((go_at_call 29; refine ((HTb.out _)).mono ?_; rintro e wn ⟨rfl, hbn⟩))
  refine hK.out _ _ (hS.trans hbn) (fun hS => ?_)
  clear hK K
  refine wpAnyH_take (i := 4) (v := ?_) rfl (by kernel_rfl) (by kernel_rfl) (by kernel_rfl) (fun _ _ _ h => h) (Or.inl ⟨by kernel_rfl, ?_⟩) hS ?_
  rotate_left
  · intro W hSW
    go_simp
    all_goals with_reducible rfl
  refine wpAnyH_take (i := 5) (v := ?_) rfl (by kernel_rfl) (by kernel_rfl) (by kernel_rfl) (fun _ _ _ h => h) (Or.inl ⟨by kernel_rfl, ?_⟩) hS ?_
  rotate_left
  · intro W hSW
    go_simp
    all_goals with_reducible rfl
  refine wpAnyH_take (i := 6) (v := ?_) rfl (by kernel_rfl) (by kernel_rfl) (by kernel_rfl) (fun _ _ _ h => h) (Or.inl ⟨by kernel_rfl, ?_⟩) hS ?_
  rotate_left
  · intro W hSW
    go_simp
    all_goals with_reducible rfl
  refine wpAnyH_ready (rs := [7]) (by kernel_rfl) (by simp) ?_
  refine AllReadyH.cons rfl (fun K hK => ?_) AllReadyH.nil
  go_simp
  go_wp2_with ((go_at_call 31; refine (vknows_any _).mono ?_; rintro e wn ⟨rfl, hbn⟩))
  refine hK.out _ _ (hS.trans hbn) (fun hS => ?_)
  clear hK K
  refine wpAnyH_take (i := 8) (v := ?_) rfl (by kernel_rfl) (by kernel_rfl) (by kernel_rfl) (fun _ _ _ h => h) (Or.inl ⟨by kernel_rfl, ?_⟩) hS ?_
  rotate_left
  · intro W hSW
    go_simp
    all_goals with_reducible rfl
  refine wpAnyH_take (i := 9) (v := ?_) rfl (by kernel_rfl) (by kernel_rfl) (by kernel_rfl) (fun _ _ _ h => h) (Or.inl ⟨by kernel_rfl, ?_⟩) hS ?_
  rotate_left
  · intro W hSW
    go_simp
    all_goals with_reducible rfl
  refine wpAnyH_done (by kernel_rfl) ?_ _
  have HE := Lib.hid (HBZ.out.trans (Below.mono hS HBZ.out.size))
  go_wp2
  go_ret
  exact ⟨rfl, HE.out⟩

set_option maxRecDepth 100000 in
set_option maxHeartbeats 4000000 in
theorem totals_B (a b : Nat → Int) (w : World) (hra : vRight a = true) (hrb : vRight b = false) : Calls Try.prog 6 #[.agg (vecA a), .agg (vecA b)] w (Yes w) := by
  obtain ⟨V1, V2, hb0⟩ := two_rows w a b 23 23 _ rfl
  have HB0 := Lib.hid hb0
  have HV1 := Lib.hid V1
  have HV2 := Lib.hid V2
  clear hb0 V1 V2
  go_enter Try.func6, Try.ntmps6
  go_upto_region 1 with (fail)
  obtain ⟨wx, hwx⟩ : ∃ wx : World, wx = (w.alloc (.cells (vecA a) 23)).alloc (.cells (vecA b) 23) := ⟨_, rfl⟩
  rw [← hwx] at HB0 HV1 HV2 ⊢
  clear hwx
  have V1 := HV1.out
  have HRa := Lib.hid (fun W => right_any a W)
  have HRb := Lib.hid (fun W => right_any b W)
  have HTa := Lib.hid (fun W => total_any a W)
  have HTb := Lib.hid (fun W => total_any b W)
  rw [hra] at HRa
  rw [hrb] at HRb
  rw [total_bad hrb] at HTb
  clear hra hrb
  go_wp2_with (first | (refine wpList_load_vec vtR rfl _ rfl _ rfl _ (by assumption) ?_) | (refine wpList_store_new vtP rfl _ _ rfl rfl (a) rfl ?_; intro wn hvn hbn; have hb1 := HB0.out.trans (hbn.mono HB0.out.size); have X0 := hvn; have V2 := HV2.out.kept hbn; clear V1) | (refine wpList_store_new vtP rfl _ _ rfl rfl (b) rfl ?_; intro wn hvn hbn; have HBZ := Lib.hid (hb1.trans (hbn.mono hb1.size)); have Y1 := hvn; have X1 := X0.kept hbn; clear V2 hb1 X0) | (refine wpList_load_vec vtP rfl _ rfl _ rfl _ (by assumption) ?_) | (refine wpList_load_vecG vtP (by kernel_rfl) _ rfl _ rfl _ (by assumption) ?_))
  refine (HRa.out _).mono ?_
  rintro e w3 ⟨rfl, hbc⟩
  have HX := Lib.hid (X1.kept hbc)
  have HY := Lib.hid (Y1.kept hbc)
  have HBZ := Lib.hid (HBZ.out.trans (hbc.mono HBZ.out.size))
  clear hbc X1 Y1
  have X1 := HX.out
  have Y1 := HY.out
  go_wp2_with (refine wpList_load_vecG vtP (by kernel_rfl) _ rfl _ rfl _ (by assumption) ?_)
  refine (HRb.out _).mono ?_
  rintro e wz ⟨rfl, hbc⟩
  have HX := Lib.hid (X1.kept hbc)
  have HY := Lib.hid (Y1.kept hbc)
  have HBZ := Lib.hid (HBZ.out.trans (hbc.mono HBZ.out.size))
  clear hbc X1 Y1
  go_wp2
  refine wp_region_held_drew (S := Bel wz) (by kernel_rfl) (Bel.start wz) (fun hS => ?_)
  refine wpAnyH_take (i := 0) (v := .agg (vecA _)) rfl (by kernel_rfl) (by kernel_rfl) (by kernel_rfl) (fun _ _ _ h => h) (Or.inl ⟨by kernel_rfl, fun W hSW => exec_load_vec vtP rfl rfl (HX.out.bel hSW)⟩) hS ?_
  refine wpAnyH_take (i := 2) (v := .agg (vecA _)) rfl (by kernel_rfl) (by kernel_rfl) (by kernel_rfl) (fun _ _ _ h => h) (Or.inl ⟨by kernel_rfl, fun W hSW => exec_load_vec vtP rfl rfl (HY.out.bel hSW)⟩) hS ?_
  refine wpAnyH_ready (rs := [1]) (by kernel_rfl) (by simp) ?_
  refine AllReadyH.cons rfl (fun K hK => ?_) AllReadyH.nil
  go_simp
  go_wp2_with ((go_at_call 29; refine ((HTa.out _)).mono ?_; rintro e wn ⟨rfl, hbn⟩))
  refine hK.out _ _ (hS.trans hbn) (fun hS => ?_)
  clear hK K
  refine wpAnyH_ready (rs := [3]) (by kernel_rfl) (by simp) ?_
  refine AllReadyH.cons rfl (fun K hK => ?_) AllReadyH.nil
  go_simp
  go_wp2_with ((go_at_call 29; refine ((HTb.out _)).mono ?_; rintro e wn ⟨rfl, hbn⟩))
  refine hK.out _ _ (hS.trans hbn) (fun hS => ?_)
  clear hK K
  refine wpAnyH_take (i := 4) (v := ?_) rfl (by kernel_rfl) (by kernel_rfl) (by kernel_rfl) (fun _ _ _ h => h) (Or.inl ⟨by kernel_rfl, ?_⟩) hS ?_
  rotate_left
  · intro W hSW
    go_simp
    all_goals with_reducible rfl
  refine wpAnyH_take (i := 5) (v := ?_) rfl (by kernel_rfl) (by kernel_rfl) (by kernel_rfl) (fun _ _ _ h => h) (Or.inl ⟨by kernel_rfl, ?_⟩) hS ?_
  rotate_left
  · intro W hSW
    go_simp
    all_goals with_reducible rfl
  refine wpAnyH_take (i := 6) (v := ?_) rfl (by kernel_rfl) (by kernel_rfl) (by kernel_rfl) (fun _ _ _ h => h) (Or.inl ⟨by kernel_rfl, ?_⟩) hS ?_
  rotate_left
  · intro W hSW
    go_simp
    all_goals with_reducible rfl
  refine wpAnyH_ready (rs := [7]) (by kernel_rfl) (by simp) ?_
  refine AllReadyH.cons rfl (fun K hK => ?_) AllReadyH.nil
  go_simp
  go_wp2_with ((go_at_call 31; refine (vknows_any _).mono ?_; rintro e wn ⟨rfl, hbn⟩))
  refine hK.out _ _ (hS.trans hbn) (fun hS => ?_)
  clear hK K
  refine wpAnyH_take (i := 8) (v := ?_) rfl (by kernel_rfl) (by kernel_rfl) (by kernel_rfl) (fun _ _ _ h => h) (Or.inl ⟨by kernel_rfl, ?_⟩) hS ?_
  rotate_left
  · intro W hSW
    go_simp
    all_goals with_reducible rfl
  refine wpAnyH_take (i := 9) (v := ?_) rfl (by kernel_rfl) (by kernel_rfl) (by kernel_rfl) (fun _ _ _ h => h) (Or.inl ⟨by kernel_rfl, ?_⟩) hS ?_
  rotate_left
  · intro W hSW
    go_simp
    all_goals with_reducible rfl
  refine wpAnyH_done (by kernel_rfl) ?_ _
  have HE := Lib.hid (HBZ.out.trans (Below.mono hS HBZ.out.size))
  go_wp2
  go_ret
  exact ⟨rfl, HE.out⟩

end Go.Proofs.Ytpfofoopekfemaa
