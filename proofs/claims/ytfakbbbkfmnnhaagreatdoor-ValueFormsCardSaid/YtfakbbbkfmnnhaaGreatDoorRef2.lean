/-
  THE DOCUMENT's STAMPS: Compare, digits, Print.
  No conditions.
-/
import Derived.Test.YtfakbbbkfmnnhaaGreatDoorRefClock
import Derived.Test.YtfakbbbkfmnnhaaGreatDoorTextMath
namespace Go.Proofs.YtfakbbbkfmnnhaaGreatDoor
open Go.RowKit Go.Lib

theorem digit_str (d : Nat) (h : d < 10) : (⟨#[48, 49, 50, 51, 52, 53, 54, 55, 56, 57]⟩ : ByteArray).extract d (d + 1) = strB (decDigits d) := by
  match d, h with
  | 0, _ => rw [decDigits_one (by decide)]; rfl
  | 1, _ => rw [decDigits_one (by decide)]; rfl
  | 2, _ => rw [decDigits_one (by decide)]; rfl
  | 3, _ => rw [decDigits_one (by decide)]; rfl
  | 4, _ => rw [decDigits_one (by decide)]; rfl
  | 5, _ => rw [decDigits_one (by decide)]; rfl
  | 6, _ => rw [decDigits_one (by decide)]; rfl
  | 7, _ => rw [decDigits_one (by decide)]; rfl
  | 8, _ => rw [decDigits_one (by decide)]; rfl
  | 9, _ => rw [decDigits_one (by decide)]; rfl

set_option maxRecDepth 100000 in
theorem digits_small (d : Nat) (h : d < 10) (w : World) : Calls Tryz.prog 75 #[.int .i64 d] w fun e w' => e = .returned (.string (strB (decDigits d))) ∧ w = w' := by
  have HD := Lib.hid (digit_str d h)
  have e1 : ((d : Int) + 1).toNat = d + 1 := by omega
  have hw : IntKind.i64.wrap ((d : Int) + 1) = (d : Int) + 1 := by rw [IntKind.wrap_i64]; omega
  go_enter Tryz.func75, Tryz.ntmps75
  go_wp2
  go_ret
  rw [← HD.out]
  exact ⟨rfl, rfl⟩

theorem dec_step (u : Nat) (h : ¬ u < 10) : strB (decDigits (u / 10)) ++ strB (decDigits (u % 10)) = strB (decDigits u) := by
  rw [strB_append, decDigits_one (i := u % 10) (by omega), decDigits.eq_def u, dif_neg h]

set_option maxRecDepth 100000 in
set_option maxHeartbeats 1000000 in
theorem digits_nat (k : Nat) : ∀ (u : Nat) (w : World), u ≤ k → u ≤ 9223372036854775807 → Calls Tryz.prog 75 #[.int .i64 u] w fun e w' => e = .returned (.string (strB (decDigits u))) ∧ w = w' := by
  induction k with
  | zero =>
    intro u w hu _
    exact digits_small u (by omega) w
  | succ k ih =>
    intro u w hu hm
    by_cases h : u < 10
    · exact digits_small u h w
    · have H1 := Lib.hid (fun W => ih (u / 10) W (by omega) (by omega))
      have H2 := Lib.hid (fun W => digits_small (u % 10) (by omega) W)
      have HS := Lib.hid (dec_step u h)
      have l1 : (strB (decDigits (u / 10))).size ≤ 20 := by rw [strB_size, decDigits_length]; exact nDigits_le _ (by omega)
      have l2 : (strB (decDigits (u % 10))).size ≤ 20 := by rw [strB_size, decDigits_length]; exact nDigits_le _ (by omega)
      generalize strB (decDigits (u / 10)) = a at *
      generalize strB (decDigits (u % 10)) = b at *
      clear ih
      go_enter Tryz.func75, Tryz.ntmps75
      go_wp2_with fail
      refine (H1.out _).mono ?_
      rintro e w' ⟨rfl, rfl⟩
      go_wp2_with fail
      refine (H2.out _).mono ?_
      rintro e w' ⟨rfl, rfl⟩
      go_wp2
      go_ret
      rw [← HS.out]
      exact ⟨rfl, rfl⟩

theorem minus_str (l : List UInt8) : (⟨#[45]⟩ : ByteArray) ++ strB l = strB (45 :: l) := by
  have e : (⟨#[45]⟩ : ByteArray) = strB [45] := rfl
  rw [e, strB_append]; rfl

set_option maxRecDepth 100000 in
set_option maxHeartbeats 1000000 in
theorem refDigits_any (n : Int) (w : World) (h0 : -9223372036854775808 ≤ n) (h1 : n ≤ 9223372036854775807) : Calls Tryz.prog 75 #[.int .i64 n] w fun e w' => e = .returned (.string (strB (itoa n))) ∧ w = w' := by
  by_cases hn : 0 ≤ n
  · obtain ⟨u, rfl⟩ : ∃ u : Nat, n = u := ⟨n.toNat, by omega⟩
    rw [itoa_nat]
    exact digits_nat u u w (Nat.le_refl _) (by omega)
  · obtain ⟨u, hu⟩ : ∃ u : Nat, n = -(u : Int) := ⟨n.natAbs, by omega⟩
    have hi : itoa n = 45 :: decDigits u := by unfold itoa; rw [if_pos (by omega), show n.natAbs = u from by omega]
    have d0 : decide (0 ≤ n) = false := decide_eq_false hn
    have d1 : decide (0 < n) = false := decide_eq_false (by omega)
    by_cases hs : -10 < n
    · have HD := Lib.hid (fun W => digits_small u (by omega) W)
      have HE := Lib.hid (show (⟨#[45]⟩ : ByteArray) ++ strB (decDigits u) = strB (itoa n) by rw [hi, minus_str])
      have l1 : (strB (decDigits u)).size ≤ 20 := by rw [strB_size, decDigits_length]; exact nDigits_le _ (by omega)
      have hneg : -n = (u : Int) := by omega
      generalize strB (decDigits u) = a at *
      generalize strB (itoa n) = b at *
      clear hi hu
      have hz : decide (n < 10) = true := decide_eq_true (by omega)
      clear hn
      go_enter Tryz.func75, Tryz.ntmps75
      go_wp2_with fail
      refine (HD.out _).mono ?_
      rintro e w' ⟨rfl, rfl⟩
      go_wp2
      go_ret
      rw [← HE.out]
      exact ⟨rfl, rfl⟩
    · have HD1 := Lib.hid (fun W => digits_nat (u / 10) (u / 10) W (Nat.le_refl _) (by omega))
      have HD2 := Lib.hid (fun W => digits_small (u % 10) (by omega) W)
      have HE := Lib.hid (show (⟨#[45]⟩ : ByteArray) ++ strB (decDigits (u / 10)) ++ strB (decDigits (u % 10)) = strB (itoa n) by rw [hi, minus_str, strB_append, ← strB_toList (decDigits u), ← dec_step u (by omega), strB_append, strB_toList]; rfl)
      have l1 : (strB (decDigits (u / 10))).size ≤ 20 := by rw [strB_size, decDigits_length]; exact nDigits_le _ (by omega)
      have l2 : (strB (decDigits (u % 10))).size ≤ 20 := by rw [strB_size, decDigits_length]; exact nDigits_le _ (by omega)
      have q1 : n.tdiv 10 = -((u / 10 : Nat) : Int) := by rw [hu, Int.neg_tdiv]; rfl
      have q2 : n.tmod 10 = -((u % 10 : Nat) : Int) := by rw [hu, Int.neg_tmod]; rfl
      have b1 : u / 10 ≤ 922337203685477580 := by omega
      have b2 : u % 10 ≤ 9 := by omega
      have d2 : decide (-10 < n) = false := decide_eq_false hs
      generalize strB (decDigits (u / 10)) = a at *
      generalize strB (decDigits (u % 10)) = b at *
      generalize strB (itoa n) = c at *
      generalize u / 10 = x at *
      generalize u % 10 = y at *
      clear hi hu hn
      go_enter Tryz.func75, Tryz.ntmps75
      go_wp2_with fail
      refine (HD1.out _).mono ?_
      rintro e w' ⟨rfl, rfl⟩
      go_wp2_with fail
      refine (HD2.out _).mono ?_
      rintro e w' ⟨rfl, rfl⟩
      go_wp2
      go_ret
      rw [← HE.out]
      exact ⟨rfl, rfl⟩

theorem refDigits_quiet (n : Int) (w : World) (h0 : -9223372036854775808 ≤ n) (h1 : n ≤ 9223372036854775807) : Calls Tryz.prog 75 #[.int .i64 n] w fun e w' => e = .returned (.string (strB (itoa n))) ∧ w' = w := (refDigits_any n w h0 h1).mono fun _ _ h => ⟨h.1, h.2.symm⟩

set_option maxRecDepth 100000 in
set_option maxHeartbeats 1000000 in
theorem refPrint_any (t r : Int) (w : World) (ht0 : -9223372036854775808 ≤ t) (ht1 : t ≤ 9223372036854775807) (hr0 : -9223372036854775808 ≤ r) (hr1 : r ≤ 9223372036854775807) :
    Calls Tryz.prog 61 #[.agg #[.int .i64 t, .int .i64 r]] w fun e w' => e = .returned (.string (strB (printB t r))) ∧ Below w.heap.size w w' := by
  have HB := Lib.hid ((Below.refl w.heap.size w).alloc (Nat.le_refl _) (.cells #[.int .i64 t, .int .i64 r] 79))
  have HE := Lib.hid (printEnd t r)
  have l1 : (strB (itoa t)).size ≤ 21 := by rw [strB_size]; exact itoa_len t ht0 ht1
  have l2 : (strB (itoa r)).size ≤ 21 := by rw [strB_size]; exact itoa_len r hr0 hr1
  go_enter Tryz.func61, Tryz.ntmps61
  go_wp2
  go_quiet ((go_at_call 75; exact Calls.quiet_of_same (refDigits_quiet _ _ (by assumption) (by assumption))))
  go_wp2
  go_ret
  exact ⟨HE.out, below_drewN HB.out _⟩

end Go.Proofs.YtfakbbbkfmnnhaaGreatDoor
