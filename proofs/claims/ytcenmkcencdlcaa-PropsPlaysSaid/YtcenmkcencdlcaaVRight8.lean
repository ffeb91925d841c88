/-
  Right8 of the program and of the document.
  No conditions.
-/
import Derived.Test.YtcenmkcencdlcaaGB
namespace Go.Proofs.Ytcenmkcencdlcaa
open Go.RowKit

/-- the Kind that a property asks for -/
def kindOf (p : Int) : Int := if p = 1 ∨ p = 2 then 4 else if p = 3 then 3 else if p = 4 ∨ p = 5 ∨ p = 6 ∨ p = 7 then 2 else if p = 8 then 1 else -1
def right8V (p k n : Int) (t : List UInt8) : Bool := decide (1 ≤ p ∧ p ≤ 8) && (Vm.rightV k n t && decide (k = kindOf p ∨ k = 0))

set_option maxRecDepth 100000 in
set_option maxHeartbeats 4000000 in
theorem vright8_any (p k n : Int) (t : ByteArray) (w : World) (ht : t.size ≤ 4611686018427387904) : Calls Try.prog 66 #[.int .i64 p, .agg #[.int .i64 k, .int .i64 n, .string t]] w fun e w' => e = .returned (.bool (right8V p k n t.data.toList)) ∧ Below w.heap.size w w' := by
  have hb := (Below.refl w.heap.size w).alloc (Nat.le_refl _) (.cells #[.int .i64 k, .int .i64 n, .string t] 34)
  have HB := Lib.hid hb
  have HT := Lib.hid (ThreeAt.start w k n t)
  clear hb
  by_cases hp : 1 ≤ p ∧ p ≤ 8
  · have HR := Lib.hid (show right8V p k n t.data.toList = (Vm.rightV k n t.data.toList && decide (k = kindOf p ∨ k = 0)) by unfold right8V; rw [decide_eq_true hp]; rfl)
    cases hr : Vm.rightV k n t.data.toList with
    | false =>
      have HRB := Lib.hid hr
      clear hr
      have hc : p = 1 ∨ p = 2 ∨ p = 3 ∨ p = 4 ∨ p = 5 ∨ p = 6 ∨ p = 7 ∨ p = 8 := by omega
      clear hp
      rcases hc with rfl | rfl | rfl | rfl | rfl | rfl | rfl | rfl
      all_goals
        go_enter Try.func66, Try.ntmps66
        go_wp2_with fail
        refine (vright_any k n t _ ht).mono ?_
        rw [HRB.out]
        rintro e w1 ⟨rfl, hb1⟩
        have HB1 := Lib.hid (HB.out.trans (hb1.mono HB.out.size))
        clear hb1
        go_wp2
        go_ret
        rw [HR.out, HRB.out]
        exact ⟨rfl, HB1.out⟩
    | true =>
      have HRB := Lib.hid hr
      clear hr
      by_cases h0 : k = 0
      · have HD := Lib.hid (show decide (k = kindOf p ∨ k = 0) = true from decide_eq_true (Or.inr h0))
        subst h0
        have hc : p = 1 ∨ p = 2 ∨ p = 3 ∨ p = 4 ∨ p = 5 ∨ p = 6 ∨ p = 7 ∨ p = 8 := by omega
        clear hp
        rcases hc with rfl | rfl | rfl | rfl | rfl | rfl | rfl | rfl
        all_goals
          go_enter Try.func66, Try.ntmps66
          go_wp2_with fail
          refine (vright_any _ n t _ ht).mono ?_
          rw [HRB.out]
          rintro e w1 ⟨rfl, hb1⟩
          have HB1 := Lib.hid (HB.out.trans (hb1.mono HB.out.size))
          have x0 := (HT.out.kept hb1).cell0
          clear hb1
          go_wp2
          go_ret
          rw [HR.out, HRB.out, HD.out]
          exact ⟨ret_bool (by simp), HB1.out⟩
      · have e0 : (k == 0) = false := by simpa using h0
        have hc : p = 1 ∨ p = 2 ∨ p = 3 ∨ p = 4 ∨ p = 5 ∨ p = 6 ∨ p = 7 ∨ p = 8 := by omega
        clear hp
        rcases hc with rfl | hc
        · by_cases hk : k = 4
          · have HD := Lib.hid (show decide (k = kindOf 1 ∨ k = 0) = true from decide_eq_true (Or.inl hk))
            subst hk
            clear h0 e0
            go_enter Try.func66, Try.ntmps66
            go_wp2_with fail
            refine (vright_any _ n t _ ht).mono ?_
            rw [HRB.out]
            rintro e w1 ⟨rfl, hb1⟩
            have HB1 := Lib.hid (HB.out.trans (hb1.mono HB.out.size))
            have x0 := (HT.out.kept hb1).cell0
            clear hb1
            go_wp2
            go_ret
            rw [HR.out, HRB.out, HD.out]
            exact ⟨ret_bool (by simp), HB1.out⟩
          · have HD := Lib.hid (show decide (k = kindOf 1 ∨ k = 0) = false from decide_eq_false (by rw [show kindOf 1 = 4 from by decide]; omega))
            have e1 : (k == 4) = false := by simpa using hk
            clear h0 hk
            go_enter Try.func66, Try.ntmps66
            go_wp2_with fail
            refine (vright_any _ n t _ ht).mono ?_
            rw [HRB.out]
            rintro e w1 ⟨rfl, hb1⟩
            have HB1 := Lib.hid (HB.out.trans (hb1.mono HB.out.size))
            have x0 := (HT.out.kept hb1).cell0
            clear hb1
            go_wp2
            go_ret
            rw [HR.out, HRB.out, HD.out]
            exact ⟨ret_bool (by simp), HB1.out⟩
        rcases hc with rfl | hc
        · by_cases hk : k = 4
          · have HD := Lib.hid (show decide (k = kindOf 2 ∨ k = 0) = true from decide_eq_true (Or.inl hk))
            subst hk
            clear h0 e0
            go_enter Try.func66, Try.ntmps66
            go_wp2_with fail
            refine (vright_any _ n t _ ht).mono ?_
            rw [HRB.out]
            rintro e w1 ⟨rfl, hb1⟩
            have HB1 := Lib.hid (HB.out.trans (hb1.mono HB.out.size))
            have x0 := (HT.out.kept hb1).cell0
            clear hb1
            go_wp2
            go_ret
            rw [HR.out, HRB.out, HD.out]
            exact ⟨ret_bool (by simp), HB1.out⟩
          · have HD := Lib.hid (show decide (k = kindOf 2 ∨ k = 0) = false from decide_eq_false (by rw [show kindOf 2 = 4 from by decide]; omega))
            have e1 : (k == 4) = false := by simpa using hk
            clear h0 hk
            go_enter Try.func66, Try.ntmps66
            go_wp2_with fail
            refine (vright_any _ n t _ ht).mono ?_
            rw [HRB.out]
            rintro e w1 ⟨rfl, hb1⟩
            have HB1 := Lib.hid (HB.out.trans (hb1.mono HB.out.size))
            have x0 := (HT.out.kept hb1).cell0
            clear hb1
            go_wp2
            go_ret
            rw [HR.out, HRB.out, HD.out]
            exact ⟨ret_bool (by simp), HB1.out⟩
        rcases hc with rfl | hc
        · by_cases hk : k = 3
          · have HD := Lib.hid (show decide (k = kindOf 3 ∨ k = 0) = true from decide_eq_true (Or.inl hk))
            subst hk
            clear h0 e0
            go_enter Try.func66, Try.ntmps66
            go_wp2_with fail
            refine (vright_any _ n t _ ht).mono ?_
            rw [HRB.out]
            rintro e w1 ⟨rfl, hb1⟩
            have HB1 := Lib.hid (HB.out.trans (hb1.mono HB.out.size))
            have x0 := (HT.out.kept hb1).cell0
            clear hb1
            go_wp2
            go_ret
            rw [HR.out, HRB.out, HD.out]
            exact ⟨ret_bool (by simp), HB1.out⟩
          · have HD := Lib.hid (show decide (k = kindOf 3 ∨ k = 0) = false from decide_eq_false (by rw [show kindOf 3 = 3 from by decide]; omega))
            have e1 : (k == 3) = false := by simpa using hk
            clear h0 hk
            go_enter Try.func66, Try.ntmps66
            go_wp2_with fail
            refine (vright_any _ n t _ ht).mono ?_
            rw [HRB.out]
            rintro e w1 ⟨rfl, hb1⟩
            have HB1 := Lib.hid (HB.out.trans (hb1.mono HB.out.size))
            have x0 := (HT.out.kept hb1).cell0
            clear hb1
            go_wp2
            go_ret
            rw [HR.out, HRB.out, HD.out]
            exact ⟨ret_bool (by simp), HB1.out⟩
        rcases hc with rfl | hc
        · by_cases hk : k = 2
          · have HD := Lib.hid (show decide (k = kindOf 4 ∨ k = 0) = true from decide_eq_true (Or.inl hk))
            subst hk
            clear h0 e0
            go_enter Try.func66, Try.ntmps66
            go_wp2_with fail
            refine (vright_any _ n t _ ht).mono ?_
            rw [HRB.out]
            rintro e w1 ⟨rfl, hb1⟩
            have HB1 := Lib.hid (HB.out.trans (hb1.mono HB.out.size))
            have x0 := (HT.out.kept hb1).cell0
            clear hb1
            go_wp2
            go_ret
            rw [HR.out, HRB.out, HD.out]
            exact ⟨ret_bool (by simp), HB1.out⟩
          · have HD := Lib.hid (show decide (k = kindOf 4 ∨ k = 0) = false from decide_eq_false (by rw [show kindOf 4 = 2 from by decide]; omega))
            have e1 : (k == 2) = false := by simpa using hk
            clear h0 hk
            go_enter Try.func66, Try.ntmps66
            go_wp2_with fail
            refine (vright_any _ n t _ ht).mono ?_
            rw [HRB.out]
            rintro e w1 ⟨rfl, hb1⟩
            have HB1 := Lib.hid (HB.out.trans (hb1.mono HB.out.size))
            have x0 := (HT.out.kept hb1).cell0
            clear hb1
            go_wp2
            go_ret
            rw [HR.out, HRB.out, HD.out]
            exact ⟨ret_bool (by simp), HB1.out⟩
        rcases hc with rfl | hc
        · by_cases hk : k = 2
          · have HD := Lib.hid (show decide (k = kindOf 5 ∨ k = 0) = true from decide_eq_true (Or.inl hk))
            subst hk
            clear h0 e0
            go_enter Try.func66, Try.ntmps66
            go_wp2_with fail
            refine (vright_any _ n t _ ht).mono ?_
            rw [HRB.out]
            rintro e w1 ⟨rfl, hb1⟩
            have HB1 := Lib.hid (HB.out.trans (hb1.mono HB.out.size))
            have x0 := (HT.out.kept hb1).cell0
            clear hb1
            go_wp2
            go_ret
            rw [HR.out, HRB.out, HD.out]
            exact ⟨ret_bool (by simp), HB1.out⟩
          · have HD := Lib.hid (show decide (k = kindOf 5 ∨ k = 0) = false from decide_eq_false (by rw [show kindOf 5 = 2 from by decide]; omega))
            have e1 : (k == 2) = false := by simpa using hk
            clear h0 hk
            go_enter Try.func66, Try.ntmps66
            go_wp2_with fail
            refine (vright_any _ n t _ ht).mono ?_
            rw [HRB.out]
            rintro e w1 ⟨rfl, hb1⟩
            have HB1 := Lib.hid (HB.out.trans (hb1.mono HB.out.size))
            have x0 := (HT.out.kept hb1).cell0
            clear hb1
            go_wp2
            go_ret
            rw [HR.out, HRB.out, HD.out]
            exact ⟨ret_bool (by simp), HB1.out⟩
        rcases hc with rfl | hc
        · by_cases hk : k = 2
          · have HD := Lib.hid (show decide (k = kindOf 6 ∨ k = 0) = true from decide_eq_true (Or.inl hk))
            subst hk
            clear h0 e0
            go_enter Try.func66, Try.ntmps66
            go_wp2_with fail
            refine (vright_any _ n t _ ht).mono ?_
            rw [HRB.out]
            rintro e w1 ⟨rfl, hb1⟩
            have HB1 := Lib.hid (HB.out.trans (hb1.mono HB.out.size))
            have x0 := (HT.out.kept hb1).cell0
            clear hb1
            go_wp2
            go_ret
            rw [HR.out, HRB.out, HD.out]
            exact ⟨ret_bool (by simp), HB1.out⟩
          · have HD := Lib.hid (show decide (k = kindOf 6 ∨ k = 0) = false from decide_eq_false (by rw [show kindOf 6 = 2 from by decide]; omega))
            have e1 : (k == 2) = false := by simpa using hk
            clear h0 hk
            go_enter Try.func66, Try.ntmps66
            go_wp2_with fail
            refine (vright_any _ n t _ ht).mono ?_
            rw [HRB.out]
            rintro e w1 ⟨rfl, hb1⟩
            have HB1 := Lib.hid (HB.out.trans (hb1.mono HB.out.size))
            have x0 := (HT.out.kept hb1).cell0
            clear hb1
            go_wp2
            go_ret
            rw [HR.out, HRB.out, HD.out]
            exact ⟨ret_bool (by simp), HB1.out⟩
        rcases hc with rfl | hc
        · by_cases hk : k = 2
          · have HD := Lib.hid (show decide (k = kindOf 7 ∨ k = 0) = true from decide_eq_true (Or.inl hk))
            subst hk
            clear h0 e0
            go_enter Try.func66, Try.ntmps66
            go_wp2_with fail
            refine (vright_any _ n t _ ht).mono ?_
            rw [HRB.out]
            rintro e w1 ⟨rfl, hb1⟩
            have HB1 := Lib.hid (HB.out.trans (hb1.mono HB.out.size))
            have x0 := (HT.out.kept hb1).cell0
            clear hb1
            go_wp2
            go_ret
            rw [HR.out, HRB.out, HD.out]
            exact ⟨ret_bool (by simp), HB1.out⟩
          · have HD := Lib.hid (show decide (k = kindOf 7 ∨ k = 0) = false from decide_eq_false (by rw [show kindOf 7 = 2 from by decide]; omega))
            have e1 : (k == 2) = false := by simpa using hk
            clear h0 hk
            go_enter Try.func66, Try.ntmps66
            go_wp2_with fail
            refine (vright_any _ n t _ ht).mono ?_
            rw [HRB.out]
            rintro e w1 ⟨rfl, hb1⟩
            have HB1 := Lib.hid (HB.out.trans (hb1.mono HB.out.size))
            have x0 := (HT.out.kept hb1).cell0
            clear hb1
            go_wp2
            go_ret
            rw [HR.out, HRB.out, HD.out]
            exact ⟨ret_bool (by simp), HB1.out⟩
        subst hc
        by_cases hk : k = 1
        · have HD := Lib.hid (show decide (k = kindOf 8 ∨ k = 0) = true from decide_eq_true (Or.inl hk))
          subst hk
          clear h0 e0
          go_enter Try.func66, Try.ntmps66
          go_wp2_with fail
          refine (vright_any _ n t _ ht).mono ?_
          rw [HRB.out]
          rintro e w1 ⟨rfl, hb1⟩
          have HB1 := Lib.hid (HB.out.trans (hb1.mono HB.out.size))
          have x0 := (HT.out.kept hb1).cell0
          clear hb1
          go_wp2
          go_ret
          rw [HR.out, HRB.out, HD.out]
          exact ⟨ret_bool (by simp), HB1.out⟩
        · have HD := Lib.hid (show decide (k = kindOf 8 ∨ k = 0) = false from decide_eq_false (by rw [show kindOf 8 = 1 from by decide]; omega))
          have e1 : (k == 1) = false := by simpa using hk
          clear h0 hk
          go_enter Try.func66, Try.ntmps66
          go_wp2_with fail
          refine (vright_any _ n t _ ht).mono ?_
          rw [HRB.out]
          rintro e w1 ⟨rfl, hb1⟩
          have HB1 := Lib.hid (HB.out.trans (hb1.mono HB.out.size))
          have x0 := (HT.out.kept hb1).cell0
          clear hb1
          go_wp2
          go_ret
          rw [HR.out, HRB.out, HD.out]
          exact ⟨ret_bool (by simp), HB1.out⟩
  · have HR := Lib.hid (show right8V p k n t.data.toList = false by unfold right8V; rw [decide_eq_false hp]; rfl)
    have e1 : (p == 1) = false := by rw [beq_eq_false_iff_ne]; omega
    have e2 : (p == 2) = false := by rw [beq_eq_false_iff_ne]; omega
    have e3 : (p == 3) = false := by rw [beq_eq_false_iff_ne]; omega
    have e4 : (p == 4) = false := by rw [beq_eq_false_iff_ne]; omega
    have e5 : (p == 5) = false := by rw [beq_eq_false_iff_ne]; omega
    have e6 : (p == 6) = false := by rw [beq_eq_false_iff_ne]; omega
    have e7 : (p == 7) = false := by rw [beq_eq_false_iff_ne]; omega
    have e8 : (p == 8) = false := by rw [beq_eq_false_iff_ne]; omega
    clear hp
    go_enter Try.func66, Try.ntmps66
    go_wp2
    go_ret
    rw [HR.out]
    exact ⟨rfl, HB.out⟩

set_option maxRecDepth 100000 in
set_option maxHeartbeats 4000000 in
theorem refVright8_any (p k n : Int) (t : ByteArray) (w : World) (ht : t.size ≤ 4611686018427387904) : Calls Try.prog 55 #[.int .i64 p, .agg #[.int .i64 k, .int .i64 n, .string t]] w fun e w' => e = .returned (.bool (right8V p k n t.data.toList)) ∧ Below w.heap.size w w' := by
  have hb := (Below.refl w.heap.size w).alloc (Nat.le_refl _) (.cells #[.int .i64 k, .int .i64 n, .string t] 34)
  have HB := Lib.hid hb
  have HT := Lib.hid (ThreeAt.start w k n t)
  clear hb
  by_cases hp : 1 ≤ p ∧ p ≤ 8
  · have HR := Lib.hid (show right8V p k n t.data.toList = (Vm.rightV k n t.data.toList && decide (k = kindOf p ∨ k = 0)) by unfold right8V; rw [decide_eq_true hp]; rfl)
    cases hr : Vm.rightV k n t.data.toList with
    | false =>
      have HRB := Lib.hid hr
      clear hr
      have hc : p = 1 ∨ p = 2 ∨ p = 3 ∨ p = 4 ∨ p = 5 ∨ p = 6 ∨ p = 7 ∨ p = 8 := by omega
      clear hp
      rcases hc with rfl | rfl | rfl | rfl | rfl | rfl | rfl | rfl
      all_goals
        go_enter Try.func55, Try.ntmps55
        go_wp2_with fail
        refine (refVRight_any k n t _ ht).mono ?_
        rw [HRB.out]
        rintro e w1 ⟨rfl, hb1⟩
        have HB1 := Lib.hid (HB.out.trans (hb1.mono HB.out.size))
        clear hb1
        go_wp2
        go_ret
        rw [HR.out, HRB.out]
        exact ⟨rfl, HB1.out⟩
    | true =>
      have HRB := Lib.hid hr
      clear hr
      by_cases h0 : k = 0
      · have HD := Lib.hid (show decide (k = kindOf p ∨ k = 0) = true from decide_eq_true (Or.inr h0))
        subst h0
        have hc : p = 1 ∨ p = 2 ∨ p = 3 ∨ p = 4 ∨ p = 5 ∨ p = 6 ∨ p = 7 ∨ p = 8 := by omega
        clear hp
        rcases hc with rfl | rfl | rfl | rfl | rfl | rfl | rfl | rfl
        all_goals
          go_enter Try.func55, Try.ntmps55
          go_wp2_with fail
          refine (refVRight_any _ n t _ ht).mono ?_
          rw [HRB.out]
          rintro e w1 ⟨rfl, hb1⟩
          have HB1 := Lib.hid (HB.out.trans (hb1.mono HB.out.size))
          have x0 := (HT.out.kept hb1).cell0
          clear hb1
          go_wp2
          go_ret
          rw [HR.out, HRB.out, HD.out]
          exact ⟨ret_bool (by simp), HB1.out⟩
      · have e0 : (k == 0) = false := by simpa using h0
        have hc : p = 1 ∨ p = 2 ∨ p = 3 ∨ p = 4 ∨ p = 5 ∨ p = 6 ∨ p = 7 ∨ p = 8 := by omega
        clear hp
        rcases hc with rfl | hc
        · by_cases hk : k = 4
          · have HD := Lib.hid (show decide (k = kindOf 1 ∨ k = 0) = true from decide_eq_true (Or.inl hk))
            subst hk
            clear h0 e0
            go_enter Try.func55, Try.ntmps55
            go_wp2_with fail
            refine (refVRight_any _ n t _ ht).mono ?_
            rw [HRB.out]
            rintro e w1 ⟨rfl, hb1⟩
            have HB1 := Lib.hid (HB.out.trans (hb1.mono HB.out.size))
            have x0 := (HT.out.kept hb1).cell0
            clear hb1
            go_wp2
            go_ret
            rw [HR.out, HRB.out, HD.out]
            exact ⟨ret_bool (by simp), HB1.out⟩
          · have HD := Lib.hid (show decide (k = kindOf 1 ∨ k = 0) = false from decide_eq_false (by rw [show kindOf 1 = 4 from by decide]; omega))
            have e1 : (k == 4) = false := by simpa using hk
            clear h0 hk
            go_enter Try.func55, Try.ntmps55
            go_wp2_with fail
            refine (refVRight_any _ n t _ ht).mono ?_
            rw [HRB.out]
            rintro e w1 ⟨rfl, hb1⟩
            have HB1 := Lib.hid (HB.out.trans (hb1.mono HB.out.size))
            have x0 := (HT.out.kept hb1).cell0
            clear hb1
            go_wp2
            go_ret
            rw [HR.out, HRB.out, HD.out]
            exact ⟨ret_bool (by simp), HB1.out⟩
        rcases hc with rfl | hc
        · by_cases hk : k = 4
          · have HD := Lib.hid (show decide (k = kindOf 2 ∨ k = 0) = true from decide_eq_true (Or.inl hk))
            subst hk
            clear h0 e0
            go_enter Try.func55, Try.ntmps55
            go_wp2_with fail
            refine (refVRight_any _ n t _ ht).mono ?_
            rw [HRB.out]
            rintro e w1 ⟨rfl, hb1⟩
            have HB1 := Lib.hid (HB.out.trans (hb1.mono HB.out.size))
            have x0 := (HT.out.kept hb1).cell0
            clear hb1
            go_wp2
            go_ret
            rw [HR.out, HRB.out, HD.out]
            exact ⟨ret_bool (by simp), HB1.out⟩
          · have HD := Lib.hid (show decide (k = kindOf 2 ∨ k = 0) = false from decide_eq_false (by rw [show kindOf 2 = 4 from by decide]; omega))
            have e1 : (k == 4) = false := by simpa using hk
            clear h0 hk
            go_enter Try.func55, Try.ntmps55
            go_wp2_with fail
            refine (refVRight_any _ n t _ ht).mono ?_
            rw [HRB.out]
            rintro e w1 ⟨rfl, hb1⟩
            have HB1 := Lib.hid (HB.out.trans (hb1.mono HB.out.size))
            have x0 := (HT.out.kept hb1).cell0
            clear hb1
            go_wp2
            go_ret
            rw [HR.out, HRB.out, HD.out]
            exact ⟨ret_bool (by simp), HB1.out⟩
        rcases hc with rfl | hc
        · by_cases hk : k = 3
          · have HD := Lib.hid (show decide (k = kindOf 3 ∨ k = 0) = true from decide_eq_true (Or.inl hk))
            subst hk
            clear h0 e0
            go_enter Try.func55, Try.ntmps55
            go_wp2_with fail
            refine (refVRight_any _ n t _ ht).mono ?_
            rw [HRB.out]
            rintro e w1 ⟨rfl, hb1⟩
            have HB1 := Lib.hid (HB.out.trans (hb1.mono HB.out.size))
            have x0 := (HT.out.kept hb1).cell0
            clear hb1
            go_wp2
            go_ret
            rw [HR.out, HRB.out, HD.out]
            exact ⟨ret_bool (by simp), HB1.out⟩
          · have HD := Lib.hid (show decide (k = kindOf 3 ∨ k = 0) = false from decide_eq_false (by rw [show kindOf 3 = 3 from by decide]; omega))
            have e1 : (k == 3) = false := by simpa using hk
            clear h0 hk
            go_enter Try.func55, Try.ntmps55
            go_wp2_with fail
            refine (refVRight_any _ n t _ ht).mono ?_
            rw [HRB.out]
            rintro e w1 ⟨rfl, hb1⟩
            have HB1 := Lib.hid (HB.out.trans (hb1.mono HB.out.size))
            have x0 := (HT.out.kept hb1).cell0
            clear hb1
            go_wp2
            go_ret
            rw [HR.out, HRB.out, HD.out]
            exact ⟨ret_bool (by simp), HB1.out⟩
        rcases hc with rfl | hc
        · by_cases hk : k = 2
          · have HD := Lib.hid (show decide (k = kindOf 4 ∨ k = 0) = true from decide_eq_true (Or.inl hk))
            subst hk
            clear h0 e0
            go_enter Try.func55, Try.ntmps55
            go_wp2_with fail
            refine (refVRight_any _ n t _ ht).mono ?_
            rw [HRB.out]
            rintro e w1 ⟨rfl, hb1⟩
            have HB1 := Lib.hid (HB.out.trans (hb1.mono HB.out.size))
            have x0 := (HT.out.kept hb1).cell0
            clear hb1
            go_wp2
            go_ret
            rw [HR.out, HRB.out, HD.out]
            exact ⟨ret_bool (by simp), HB1.out⟩
          · have HD := Lib.hid (show decide (k = kindOf 4 ∨ k = 0) = false from decide_eq_false (by rw [show kindOf 4 = 2 from by decide]; omega))
            have e1 : (k == 2) = false := by simpa using hk
            clear h0 hk
            go_enter Try.func55, Try.ntmps55
            go_wp2_with fail
            refine (refVRight_any _ n t _ ht).mono ?_
            rw [HRB.out]
            rintro e w1 ⟨rfl, hb1⟩
            have HB1 := Lib.hid (HB.out.trans (hb1.mono HB.out.size))
            have x0 := (HT.out.kept hb1).cell0
            clear hb1
            go_wp2
            go_ret
            rw [HR.out, HRB.out, HD.out]
            exact ⟨ret_bool (by simp), HB1.out⟩
        rcases hc with rfl | hc
        · by_cases hk : k = 2
          · have HD := Lib.hid (show decide (k = kindOf 5 ∨ k = 0) = true from decide_eq_true (Or.inl hk))
            subst hk
            clear h0 e0
            go_enter Try.func55, Try.ntmps55
            go_wp2_with fail
            refine (refVRight_any _ n t _ ht).mono ?_
            rw [HRB.out]
            rintro e w1 ⟨rfl, hb1⟩
            have HB1 := Lib.hid (HB.out.trans (hb1.mono HB.out.size))
            have x0 := (HT.out.kept hb1).cell0
            clear hb1
            go_wp2
            go_ret
            rw [HR.out, HRB.out, HD.out]
            exact ⟨ret_bool (by simp), HB1.out⟩
          · have HD := Lib.hid (show decide (k = kindOf 5 ∨ k = 0) = false from decide_eq_false (by rw [show kindOf 5 = 2 from by decide]; omega))
            have e1 : (k == 2) = false := by simpa using hk
            clear h0 hk
            go_enter Try.func55, Try.ntmps55
            go_wp2_with fail
            refine (refVRight_any _ n t _ ht).mono ?_
            rw [HRB.out]
            rintro e w1 ⟨rfl, hb1⟩
            have HB1 := Lib.hid (HB.out.trans (hb1.mono HB.out.size))
            have x0 := (HT.out.kept hb1).cell0
            clear hb1
            go_wp2
            go_ret
            rw [HR.out, HRB.out, HD.out]
            exact ⟨ret_bool (by simp), HB1.out⟩
        rcases hc with rfl | hc
        · by_cases hk : k = 2
          · have HD := Lib.hid (show decide (k = kindOf 6 ∨ k = 0) = true from decide_eq_true (Or.inl hk))
            subst hk
            clear h0 e0
            go_enter Try.func55, Try.ntmps55
            go_wp2_with fail
            refine (refVRight_any _ n t _ ht).mono ?_
            rw [HRB.out]
            rintro e w1 ⟨rfl, hb1⟩
            have HB1 := Lib.hid (HB.out.trans (hb1.mono HB.out.size))
            have x0 := (HT.out.kept hb1).cell0
            clear hb1
            go_wp2
            go_ret
            rw [HR.out, HRB.out, HD.out]
            exact ⟨ret_bool (by simp), HB1.out⟩
          · have HD := Lib.hid (show decide (k = kindOf 6 ∨ k = 0) = false from decide_eq_false (by rw [show kindOf 6 = 2 from by decide]; omega))
            have e1 : (k == 2) = false := by simpa using hk
            clear h0 hk
            go_enter Try.func55, Try.ntmps55
            go_wp2_with fail
            refine (refVRight_any _ n t _ ht).mono ?_
            rw [HRB.out]
            rintro e w1 ⟨rfl, hb1⟩
            have HB1 := Lib.hid (HB.out.trans (hb1.mono HB.out.size))
            have x0 := (HT.out.kept hb1).cell0
            clear hb1
            go_wp2
            go_ret
            rw [HR.out, HRB.out, HD.out]
            exact ⟨ret_bool (by simp), HB1.out⟩
        rcases hc with rfl | hc
        · by_cases hk : k = 2
          · have HD := Lib.hid (show decide (k = kindOf 7 ∨ k = 0) = true from decide_eq_true (Or.inl hk))
            subst hk
            clear h0 e0
            go_enter Try.func55, Try.ntmps55
            go_wp2_with fail
            refine (refVRight_any _ n t _ ht).mono ?_
            rw [HRB.out]
            rintro e w1 ⟨rfl, hb1⟩
            have HB1 := Lib.hid (HB.out.trans (hb1.mono HB.out.size))
            have x0 := (HT.out.kept hb1).cell0
            clear hb1
            go_wp2
            go_ret
            rw [HR.out, HRB.out, HD.out]
            exact ⟨ret_bool (by simp), HB1.out⟩
          · have HD := Lib.hid (show decide (k = kindOf 7 ∨ k = 0) = false from decide_eq_false (by rw [show kindOf 7 = 2 from by decide]; omega))
            have e1 : (k == 2) = false := by simpa using hk
            clear h0 hk
            go_enter Try.func55, Try.ntmps55
            go_wp2_with fail
            refine (refVRight_any _ n t _ ht).mono ?_
            rw [HRB.out]
            rintro e w1 ⟨rfl, hb1⟩
            have HB1 := Lib.hid (HB.out.trans (hb1.mono HB.out.size))
            have x0 := (HT.out.kept hb1).cell0
            clear hb1
            go_wp2
            go_ret
            rw [HR.out, HRB.out, HD.out]
            exact ⟨ret_bool (by simp), HB1.out⟩
        subst hc
        by_cases hk : k = 1
        · have HD := Lib.hid (show decide (k = kindOf 8 ∨ k = 0) = true from decide_eq_true (Or.inl hk))
          subst hk
          clear h0 e0
          go_enter Try.func55, Try.ntmps55
          go_wp2_with fail
          refine (refVRight_any _ n t _ ht).mono ?_
          rw [HRB.out]
          rintro e w1 ⟨rfl, hb1⟩
          have HB1 := Lib.hid (HB.out.trans (hb1.mono HB.out.size))
          have x0 := (HT.out.kept hb1).cell0
          clear hb1
          go_wp2
          go_ret
          rw [HR.out, HRB.out, HD.out]
          exact ⟨ret_bool (by simp), HB1.out⟩
        · have HD := Lib.hid (show decide (k = kindOf 8 ∨ k = 0) = false from decide_eq_false (by rw [show kindOf 8 = 1 from by decide]; omega))
          have e1 : (k == 1) = false := by simpa using hk
          clear h0 hk
          go_enter Try.func55, Try.ntmps55
          go_wp2_with fail
          refine (refVRight_any _ n t _ ht).mono ?_
          rw [HRB.out]
          rintro e w1 ⟨rfl, hb1⟩
          have HB1 := Lib.hid (HB.out.trans (hb1.mono HB.out.size))
          have x0 := (HT.out.kept hb1).cell0
          clear hb1
          go_wp2
          go_ret
          rw [HR.out, HRB.out, HD.out]
          exact ⟨ret_bool (by simp), HB1.out⟩
  · have HR := Lib.hid (show right8V p k n t.data.toList = false by unfold right8V; rw [decide_eq_false hp]; rfl)
    have e1 : (p == 1) = false := by rw [beq_eq_false_iff_ne]; omega
    have e2 : (p == 2) = false := by rw [beq_eq_false_iff_ne]; omega
    have e3 : (p == 3) = false := by rw [beq_eq_false_iff_ne]; omega
    have e4 : (p == 4) = false := by rw [beq_eq_false_iff_ne]; omega
    have e5 : (p == 5) = false := by rw [beq_eq_false_iff_ne]; omega
    have e6 : (p == 6) = false := by rw [beq_eq_false_iff_ne]; omega
    have e7 : (p == 7) = false := by rw [beq_eq_false_iff_ne]; omega
    have e8 : (p == 8) = false := by rw [beq_eq_false_iff_ne]; omega
    clear hp
    go_enter Try.func55, Try.ntmps55
    go_wp2
    go_ret
    rw [HR.out]
    exact ⟨rfl, HB.out⟩

end Go.Proofs.Ytcenmkcencdlcaa
