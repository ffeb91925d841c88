/-
  Compare and Total, of both sides.
  No conditions.
-/
import Derived.Test.YtcmjjkkbocekbaaVe3
namespace Go.Proofs.Ytcmjjkkbocekbaa
open Go.RowKit

set_option maxRecDepth 100000 in
set_option maxHeartbeats 2000000 in
theorem compare_any (a b : Nat → Int) (w : World) : Calls Try.prog 25 #[.agg (vecA a), .agg (vecA b)] w fun e w' => e = .returned (.int .i64 (cmpF a b)) ∧ Below w.heap.size w w' := by
  obtain ⟨V1, V2, hb0⟩ := two_rows w a b 25 25 _ rfl
  have HB0 := Lib.hid hb0
  have hEq := fun (W : World) => vtP.eq W a b
  clear hb0
  by_cases h0 : eqv a b = true
  · have HR := Lib.hid (show cmpF a b = 0 from by unfold cmpF; rw [if_pos h0])
    go_enter Try.func25, Try.ntmps25
    go_wp2_with (refine wpList_load_vec vtP rfl _ rfl _ rfl _ (by assumption) ?_)
    go_ret
    exact ⟨ret_int HR.out.symm, HB0.out⟩
  · have h0' : eqv a b = false := by simpa using h0
    have HC1 := Lib.hid (fun W => covers_any a b W)
    by_cases h1 : coversB a b = true
    · have HR := Lib.hid (show cmpF a b = 1 from by unfold cmpF; rw [if_neg h0, if_pos h1])
      rw [h1] at HC1
      clear h0 h1
      go_enter Try.func25, Try.ntmps25
      go_wp2_with (refine wpList_load_vec vtP rfl _ rfl _ rfl _ (by assumption) ?_)
      refine (HC1.out _).mono ?_
      rintro e w1 ⟨rfl, hb1⟩
      have HB1 := Lib.hid (HB0.out.trans (hb1.mono HB0.out.size))
      clear hb1 V1 V2
      go_wp2
      go_ret
      exact ⟨ret_int HR.out.symm, HB1.out⟩
    · have h1' : coversB a b = false := by simpa using h1
      have HC2 := Lib.hid (fun W => covers_any b a W)
      rw [h1'] at HC1
      by_cases h2 : coversB b a = true
      · have HR := Lib.hid (show cmpF a b = -1 from by unfold cmpF; rw [if_neg h0, if_neg h1, if_pos h2])
        rw [h2] at HC2
        clear h0 h1 h1' h2
        go_enter Try.func25, Try.ntmps25
        go_wp2_with (refine wpList_load_vec vtP rfl _ rfl _ rfl _ (by assumption) ?_)
        refine (HC1.out _).mono ?_
        rintro e w1 ⟨rfl, hb1⟩
        have HB1 := Lib.hid (HB0.out.trans (hb1.mono HB0.out.size))
        have V1' := V1.kept hb1
        have V2' := V2.kept hb1
        clear hb1 V1 V2
        go_wp2_with (refine wpList_load_vec vtP rfl _ rfl _ rfl _ (by assumption) ?_)
        refine (HC2.out _).mono ?_
        rintro e w2 ⟨rfl, hb2⟩
        have HB2 := Lib.hid (HB1.out.trans (hb2.mono HB1.out.size))
        clear hb2 V1' V2'
        go_wp2
        go_ret
        exact ⟨ret_int HR.out.symm, HB2.out⟩
      · have HR := Lib.hid (show cmpF a b = 2 from by unfold cmpF; rw [if_neg h0, if_neg h1, if_neg h2])
        rw [show coversB b a = false by simpa using h2] at HC2
        clear h0 h1 h1' h2
        go_enter Try.func25, Try.ntmps25
        go_wp2_with (refine wpList_load_vec vtP rfl _ rfl _ rfl _ (by assumption) ?_)
        refine (HC1.out _).mono ?_
        rintro e w1 ⟨rfl, hb1⟩
        have HB1 := Lib.hid (HB0.out.trans (hb1.mono HB0.out.size))
        have V1' := V1.kept hb1
        have V2' := V2.kept hb1
        clear hb1 V1 V2
        go_wp2_with (refine wpList_load_vec vtP rfl _ rfl _ rfl _ (by assumption) ?_)
        refine (HC2.out _).mono ?_
        rintro e w2 ⟨rfl, hb2⟩
        have HB2 := Lib.hid (HB1.out.trans (hb2.mono HB1.out.size))
        clear hb2 V1' V2'
        go_wp2
        go_ret
        exact ⟨ret_int HR.out.symm, HB2.out⟩

theorem cmpF_ref (a b : Nat → Int) : cmpF a b = if coversB a b = true then (if coversB b a = true then 0 else 1) else if coversB b a = true then -1 else 2 := by
  unfold cmpF
  rw [eqv_covers]
  cases coversB a b <;> cases coversB b a <;> rfl

set_option maxRecDepth 100000 in
set_option maxHeartbeats 2000000 in
theorem refCompare_any (a b : Nat → Int) (w : World) : Calls Try.prog 26 #[.agg (vecA a), .agg (vecA b)] w fun e w' => e = .returned (.int .i64 (cmpF a b)) ∧ Below w.heap.size w w' := by
  obtain ⟨V1, V2, hb0⟩ := two_rows w a b 23 23 _ rfl
  have HB0 := Lib.hid hb0
  have HC1 := Lib.hid (fun W => refCovers_any a b W)
  have HC2 := Lib.hid (fun W => refCovers_any b a W)
  have HR := Lib.hid (cmpF_ref a b)
  clear hb0
  rcases Bool.eq_false_or_eq_true (coversB a b) with h1 | h1 <;> rcases Bool.eq_false_or_eq_true (coversB b a) with h2 | h2
  all_goals
    rw [h1, h2] at HR
    rw [h1] at HC1
    rw [h2] at HC2
    clear h1 h2
    simp only [Bool.false_eq_true, if_true, if_false] at HR
    go_enter Try.func26, Try.ntmps26
    go_wp2_with (refine wpList_load_vec vtR rfl _ rfl _ rfl _ (by assumption) ?_)
    refine (HC1.out _).mono ?_
    rintro e w1 ⟨rfl, hb1⟩
    have HB1 := Lib.hid (HB0.out.trans (hb1.mono HB0.out.size))
    have V1' := V1.kept hb1
    have V2' := V2.kept hb1
    clear hb1 V1 V2
    go_wp2_with (refine wpList_load_vec vtR rfl _ rfl _ rfl _ (by assumption) ?_)
    refine (HC2.out _).mono ?_
    rintro e w2 ⟨rfl, hb2⟩
    have HB2 := Lib.hid (HB1.out.trans (hb2.mono HB1.out.size))
    clear hb2 V1' V2'
    go_wp2
    go_ret
    exact ⟨ret_int HR.out.symm, HB2.out⟩

set_option maxRecDepth 100000 in
set_option maxHeartbeats 2000000 in
theorem total_any (a : Nat → Int) (w : World) : Calls Try.prog 27 #[.agg (vecA a)] w fun e w' => e = .returned (.int .i64 (totalF a)) ∧ Below w.heap.size w w' := by
  have V := VAt.new w a 25
  have HB0 := Lib.hid ((Below.refl w.heap.size w).alloc (Nat.le_refl _) (.cells (vecA a) 25))
  have HC := Lib.hid (fun W => right_any a W)
  by_cases hr : vRight a = true
  · have HR := Lib.hid hr
    have HT := Lib.hid (show totalF a = sumTo a 16 from by unfold totalF; rw [if_pos hr])
    rw [hr] at HC
    clear hr
    go_enter Try.func27, Try.ntmps27
    go_wp2_with (refine wpList_load_vec vtP rfl _ rfl _ rfl _ (by assumption) ?_)
    refine (HC.out _).mono ?_
    rintro e w1 ⟨rfl, hb1⟩
    have HB1 := Lib.hid (HB0.out.trans (hb1.mono HB0.out.size))
    have V' := V.kept hb1
    clear hb1 V
    go_wp2_with (refine wpList_load_vec vtP rfl _ rfl _ rfl _ (by assumption) ?_)
    clear V'
    go_loop [3, 10] (fun s i => ∃ k : Nat, k ≤ 16 ∧ i = .int .i64 (k : Int) ∧ s = .int .i64 (sumTo a k)) (fun _ i => 16 - (intOf i).toNat)
    case atStart => exact ⟨0, by omega, rfl, rfl⟩
    case round =>
      obtain ⟨k, hk, rfl, rfl⟩ := hrel
      by_cases hlt : k < 16
      · have ix := fun (W : World) => vtP.index W a k hlt
        obtain ⟨h1, h2⟩ := sumTo_bd HR.out k hk
        obtain ⟨h3, h4⟩ := vRight_iff.1 HR.out k hlt
        go_wp2
        go_round
        case rel => exact ⟨k + 1, by omega, by go_num, rfl⟩
        case measure => simp [intOf]; omega
      · obtain rfl : k = 16 := by omega
        go_wp2
        go_ret
        exact ⟨ret_int HT.out.symm, HB1.out⟩
  · have HT := Lib.hid (show totalF a = 0 from by unfold totalF; rw [if_neg hr])
    rw [show vRight a = false by simpa using hr] at HC
    clear hr
    go_enter Try.func27, Try.ntmps27
    go_wp2_with (refine wpList_load_vec vtP rfl _ rfl _ rfl _ (by assumption) ?_)
    refine (HC.out _).mono ?_
    rintro e w1 ⟨rfl, hb1⟩
    have HB1 := Lib.hid (HB0.out.trans (hb1.mono HB0.out.size))
    clear hb1 V
    go_wp2
    go_ret
    exact ⟨ret_int HT.out.symm, HB1.out⟩

set_option maxRecDepth 100000 in
set_option maxHeartbeats 2000000 in
theorem refTotal_any (a : Nat → Int) (w : World) : Calls Try.prog 28 #[.agg (vecA a)] w fun e w' => e = .returned (.int .i64 (totalF a)) ∧ Below w.heap.size w w' := by
  have HV := Lib.hid (VAt.new w a 23)
  have HB0 := Lib.hid ((Below.refl w.heap.size w).alloc (Nat.le_refl _) (.cells (vecA a) 23))
  have HC := Lib.hid (fun W => refRight_any a W)
  by_cases hr : vRight a = true
  · have HR := Lib.hid hr
    have HT := Lib.hid (show totalF a = sumTo a 16 from by unfold totalF; rw [if_pos hr])
    rw [hr] at HC
    clear hr
    go_enter Try.func28, Try.ntmps28
    go_wp2
    go_loopw [3, 4] (fun s i wr => ∃ k : Nat, k ≤ 16 ∧ i = .int .i64 (k : Int) ∧ s = .int .i64 (sumTo a k) ∧ VAt wr w.heap.size a ∧ Below w.heap.size w wr) (fun _ i _ => 16 - (intOf i).toNat)
    case atStart => exact ⟨0, by omega, rfl, rfl, HV.out, HB0.out⟩
    case round =>
      obtain ⟨k, hk, rfl, rfl, V, hb⟩ := hrel
      have HB := Lib.hid hb
      clear hb
      by_cases hlt : k < 16
      · have hd : decide ((k : Int) < 16) = true := decide_eq_true (by omega)
        go_wp2_with (refine wpList_load_vecG vtR (by kernel_rfl) _ rfl _ rfl _ (by assumption) ?_)
        refine (HC.out _).mono ?_
        rintro e w1 ⟨rfl, hb1⟩
        have HB1 := Lib.hid (HB.out.trans (hb1.mono HB.out.size))
        have HV1 := Lib.hid (V.kept hb1)
        have ix := HV1.out.cell k hlt
        obtain ⟨h1, h2⟩ := sumTo_bd HR.out k hk
        obtain ⟨h3, h4⟩ := vRight_iff.1 HR.out k hlt
        clear hb1 V
        go_wp2
        go_roundw
        case rel => exact ⟨k + 1, by omega, by go_num, rfl, HV1.out, HB1.out⟩
        case measure => simp [intOf]; omega
      · obtain rfl : k = 16 := by omega
        clear V
        go_wp2
        go_ret
        exact ⟨ret_int HT.out.symm, HB.out⟩
  · have HT := Lib.hid (show totalF a = 0 from by unfold totalF; rw [if_neg hr])
    rw [show vRight a = false by simpa using hr] at HC
    clear hr
    have V := HV.out
    go_enter Try.func28, Try.ntmps28
    go_wp2
    go_loopw [3, 4] (fun s i wr => i = .int .i64 0 ∧ s = .int .i64 0 ∧ VAt wr w.heap.size a ∧ Below w.heap.size w wr) (fun _ i _ => 16 - (intOf i).toNat)
    case atStart => exact ⟨rfl, rfl, HV.out, HB0.out⟩
    case round =>
      obtain ⟨rfl, rfl, V, hb⟩ := hrel
      have HB := Lib.hid hb
      clear hb
      go_wp2_with (refine wpList_load_vecG vtR (by kernel_rfl) _ rfl _ rfl _ (by assumption) ?_)
      refine (HC.out _).mono ?_
      rintro e w1 ⟨rfl, hb1⟩
      have HB1 := Lib.hid (HB.out.trans (hb1.mono HB.out.size))
      clear hb1 V
      go_wp2
      go_ret
      exact ⟨ret_int HT.out.symm, HB1.out⟩

end Go.Proofs.Ytcmjjkkbocekbaa
