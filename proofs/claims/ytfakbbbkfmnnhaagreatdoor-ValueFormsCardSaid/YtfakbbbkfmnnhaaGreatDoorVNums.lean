/-
  NUMBERS and BOTH: can two values be reckoned with each other?
  No conditions.
-/
import Derived.Test.YtfakbbbkfmnnhaaGreatDoorVal
namespace Go.Proofs.YtfakbbbkfmnnhaaGreatDoor
open Go.RowKit

set_option maxRecDepth 100000 in
set_option maxHeartbeats 2000000 in
theorem vnumbers_any (k n : Int) (t : ByteArray) (k' n' : Int) (t' : ByteArray) (w : World) (ht : t.size ≤ 4611686018427387904) (ht' : t'.size ≤ 4611686018427387904) : Calls Tryz.prog 62 #[.agg #[.int .i64 k, .int .i64 n, .string t], .agg #[.int .i64 k', .int .i64 n', .string t']] w fun e w' => e = .returned (.bool (Vm.numsV k n t.data.toList k' n' t'.data.toList)) ∧ Below w.heap.size w w' := by
  have HV := Lib.hid (VTwo.start w k n t k' n' t')
  have HN : Hid (Vm.numsV k n t.data.toList k' n' t'.data.toList = (Vm.rightV k n t.data.toList && Vm.rightV k' n' t'.data.toList && decide (k = k') && decide (k = 1 ∨ k = 2))) := Lib.hid rfl
  cases hA : Vm.rightV k n t.data.toList with
  | false =>
    have HRA := Lib.hid hA
    clear hA
    go_enter Tryz.func62, Tryz.ntmps62
    go_wp2_with fail
    refine (vright_any _ _ t _ ht).mono ?_
    rw [HRA.out]
    rintro e w1 ⟨rfl, hb1⟩
    have HV1 := Lib.hid (HV.out.kept hb1)
    have x0 := HV1.out.1.cell0
    have x1 := HV1.out.2.1.cell0
    have x2 := HV1.out.2.1.cell1
    have x3 := HV1.out.2.1.cell2
    clear hb1
    go_wp2
    go_ret
    rw [HN.out, HRA.out]
    exact ⟨rfl, HV1.out.2.2⟩
  | true =>
    have HRA := Lib.hid hA
    clear hA
    cases hB : Vm.rightV k' n' t'.data.toList with
    | false =>
      have HRB := Lib.hid hB
      clear hB
      go_enter Tryz.func62, Tryz.ntmps62
      go_wp2_with fail
      refine (vright_any _ _ t _ ht).mono ?_
      rw [HRA.out]
      rintro e w1 ⟨rfl, hb1⟩
      have HV1 := Lib.hid (HV.out.kept hb1)
      have x0 := HV1.out.1.cell0
      have x1 := HV1.out.2.1.cell0
      have x2 := HV1.out.2.1.cell1
      have x3 := HV1.out.2.1.cell2
      clear hb1
      go_wp2_with fail
      refine (vright_any _ _ t' _ ht').mono ?_
      rw [HRB.out]
      rintro e w2 ⟨rfl, hb2⟩
      have HV2 := Lib.hid (HV1.out.kept hb2)
      clear hb2 x0 x1 x2 x3
      have x0 := HV2.out.1.cell0
      have x1 := HV2.out.2.1.cell0
      go_wp2
      go_ret
      rw [HN.out, HRA.out, HRB.out]
      exact ⟨rfl, HV2.out.2.2⟩
    | true =>
      have HRB := Lib.hid hB
      clear hB
      by_cases hk : k = k'
      · subst hk
        by_cases h1 : k = 1
        · subst h1
          go_enter Tryz.func62, Tryz.ntmps62
          go_wp2_with fail
          refine (vright_any _ _ t _ ht).mono ?_
          rw [HRA.out]
          rintro e w1 ⟨rfl, hb1⟩
          have HV1 := Lib.hid (HV.out.kept hb1)
          have x0 := HV1.out.1.cell0
          have x1 := HV1.out.2.1.cell0
          have x2 := HV1.out.2.1.cell1
          have x3 := HV1.out.2.1.cell2
          clear hb1
          go_wp2_with fail
          refine (vright_any _ _ t' _ ht').mono ?_
          rw [HRB.out]
          rintro e w2 ⟨rfl, hb2⟩
          have HV2 := Lib.hid (HV1.out.kept hb2)
          clear hb2 x0 x1 x2 x3
          have x0 := HV2.out.1.cell0
          have x1 := HV2.out.2.1.cell0
          go_wp2
          go_ret
          rw [HN.out, HRA.out, HRB.out]
          exact ⟨rfl, HV2.out.2.2⟩
        · have e1 : (k == 1) = false := by simpa using h1
          by_cases h2 : k = 2
          · subst h2
            clear h1
            go_enter Tryz.func62, Tryz.ntmps62
            go_wp2_with fail
            refine (vright_any _ _ t _ ht).mono ?_
            rw [HRA.out]
            rintro e w1 ⟨rfl, hb1⟩
            have HV1 := Lib.hid (HV.out.kept hb1)
            have x0 := HV1.out.1.cell0
            have x1 := HV1.out.2.1.cell0
            have x2 := HV1.out.2.1.cell1
            have x3 := HV1.out.2.1.cell2
            clear hb1
            go_wp2_with fail
            refine (vright_any _ _ t' _ ht').mono ?_
            rw [HRB.out]
            rintro e w2 ⟨rfl, hb2⟩
            have HV2 := Lib.hid (HV1.out.kept hb2)
            clear hb2 x0 x1 x2 x3
            have x0 := HV2.out.1.cell0
            have x1 := HV2.out.2.1.cell0
            go_wp2
            go_ret
            rw [HN.out, HRA.out, HRB.out]
            exact ⟨rfl, HV2.out.2.2⟩
          · have e2 : (k == 2) = false := by simpa using h2
            have HD := Lib.hid (show decide (k = 1 ∨ k = 2) = false from decide_eq_false (by omega))
            clear h1 h2
            go_enter Tryz.func62, Tryz.ntmps62
            go_wp2_with fail
            refine (vright_any _ _ t _ ht).mono ?_
            rw [HRA.out]
            rintro e w1 ⟨rfl, hb1⟩
            have HV1 := Lib.hid (HV.out.kept hb1)
            have x0 := HV1.out.1.cell0
            have x1 := HV1.out.2.1.cell0
            have x2 := HV1.out.2.1.cell1
            have x3 := HV1.out.2.1.cell2
            clear hb1
            go_wp2_with fail
            refine (vright_any _ _ t' _ ht').mono ?_
            rw [HRB.out]
            rintro e w2 ⟨rfl, hb2⟩
            have HV2 := Lib.hid (HV1.out.kept hb2)
            clear hb2 x0 x1 x2 x3
            have x0 := HV2.out.1.cell0
            have x1 := HV2.out.2.1.cell0
            go_wp2
            go_ret
            rw [HN.out, HRA.out, HRB.out, HD.out]
            exact ⟨ret_bool (by simp), HV2.out.2.2⟩
      · have e1 : (k == k') = false := by simpa using hk
        have HD := Lib.hid (show decide (k = k') = false from decide_eq_false hk)
        clear hk
        go_enter Tryz.func62, Tryz.ntmps62
        go_wp2_with fail
        refine (vright_any _ _ t _ ht).mono ?_
        rw [HRA.out]
        rintro e w1 ⟨rfl, hb1⟩
        have HV1 := Lib.hid (HV.out.kept hb1)
        have x0 := HV1.out.1.cell0
        have x1 := HV1.out.2.1.cell0
        have x2 := HV1.out.2.1.cell1
        have x3 := HV1.out.2.1.cell2
        clear hb1
        go_wp2_with fail
        refine (vright_any _ _ t' _ ht').mono ?_
        rw [HRB.out]
        rintro e w2 ⟨rfl, hb2⟩
        have HV2 := Lib.hid (HV1.out.kept hb2)
        clear hb2 x0 x1 x2 x3
        have x0 := HV2.out.1.cell0
        have x1 := HV2.out.2.1.cell0
        go_wp2
        go_ret
        rw [HN.out, HRA.out, HRB.out, HD.out]
        exact ⟨rfl, HV2.out.2.2⟩

end Go.Proofs.YtfakbbbkfmnnhaaGreatDoor
