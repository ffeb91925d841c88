/-
  SUMS: the program's and the document's.
  No conditions.
-/
import Derived.Test.YtfakbbbkfmnnhaaDoorVNums
namespace Go.Proofs.YtfakbbbkfmnnhaaDoor
open Go.RowKit

set_option maxRecDepth 100000 in
set_option maxHeartbeats 2000000 in
theorem vadd_any (k n : Int) (t : ByteArray) (k' n' : Int) (t' : ByteArray) (w : World) (ht : t.size ≤ 4611686018427387904) (ht' : t'.size ≤ 4611686018427387904) : Calls Tryd.prog 8 #[.agg #[.int .i64 k, .int .i64 n, .string t], .agg #[.int .i64 k', .int .i64 n', .string t']] w fun e w' => e = valE (Vm.addV k n t.data.toList k' n' t'.data.toList) ∧ Below w.heap.size w w' := by
  have HV := Lib.hid (VTwo.res w k n t k' n' t')
  have HW := Lib.hid (VTwo.res2 w k n t k' n' t')
  cases hN : Vm.numsV k n t.data.toList k' n' t'.data.toList with
  | false =>
    have HA := Lib.hid (show Vm.addV k n t.data.toList k' n' t'.data.toList = (0, 0, 1) by unfold Vm.addV; rw [hN]; rfl)
    have HN := Lib.hid hN
    clear hN
    go_enter Tryd.func8, Tryd.ntmps8
    go_wp2_with fail
    refine (vnumbers_any k n t k' n' t' _ ht ht').mono ?_
    rw [HN.out]
    rintro e w1 ⟨rfl, hb1⟩
    have HV1 := Lib.hid (HV.out.kept hb1)
    have HW1 := Lib.hid (HW.out.kept hb1)
    clear hb1
    obtain ⟨q0, q1, q2, hE⟩ := HV1.out.read (0) (0) ⟨#[]⟩
    have HE := Lib.hid hE
    have y0 := HV1.out.2.1.free 0
    have y1 := HV1.out.2.1.free 1
    have y2 := HV1.out.2.1.free 2
    have z0 := HV1.out.2.1.cell0
    have z1 := HV1.out.2.1.cell1
    have z2 := HV1.out.2.1.cell2
    clear hE
    go_wp2
    refine bodyPost_ret (v := .tuple #[.agg #[.int .i64 (0), .int .i64 (0), .string ⟨#[]⟩], .int .i64 (1)]) (by simp [results, Tryd.results8, go_sem, q0, q1, q2]) rfl ?_
    rw [HA.out]
    exact ⟨rfl, HE.out⟩
  | true =>
    have HA := Lib.hid (show Vm.addV k n t.data.toList k' n' t'.data.toList = Vm.ansV k (n + n') by unfold Vm.addV; rw [hN]; rfl)
    have HN := Lib.hid hN
    obtain ⟨rfl, -, -, -, n0, n1, n2, n3, -, -⟩ := Vm.numsV_yes hN
    clear hN
    generalize hr : Vm.ansV k' (n + n') = r at *
    have HQ := Lib.hid (fun W => vnumber_any k' (n + n') W)
    rw [hr] at HQ
    clear hr
    obtain ⟨ra, rb, rc⟩ := r
    unfold valE at HQ
    dsimp only at HQ
    go_enter Tryd.func8, Tryd.ntmps8
    go_wp2_with fail
    refine (vnumbers_any k' n t k' n' t' _ ht ht').mono ?_
    rw [HN.out]
    rintro e w1 ⟨rfl, hb1⟩
    have HV1 := Lib.hid (HV.out.kept hb1)
    have HW1 := Lib.hid (HW.out.kept hb1)
    clear hb1
    have x0 := HW1.out.1.cell0
    have x1 := HW1.out.1.cell1
    have x3 := HW1.out.2.1.cell1
    go_wp2_with fail
    refine (HQ.out _).mono ?_
    rintro e w2 ⟨rfl, hb2⟩
    have HV2 := Lib.hid (HV1.out.kept hb2)
    clear hb2 x0 x1 x3
    obtain ⟨q0, q1, q2, hE⟩ := HV2.out.read (ra) (rb) ⟨#[]⟩
    have HE := Lib.hid hE
    have y0 := HV2.out.2.1.free 0
    have y1 := HV2.out.2.1.free 1
    have y2 := HV2.out.2.1.free 2
    have z0 := HV2.out.2.1.cell0
    have z1 := HV2.out.2.1.cell1
    have z2 := HV2.out.2.1.cell2
    clear hE
    go_wp2
    refine bodyPost_ret (v := .tuple #[.agg #[.int .i64 (ra), .int .i64 (rb), .string ⟨#[]⟩], .int .i64 (rc)]) (by simp [results, Tryd.results8, go_sem, q0, q1, q2]) rfl ?_
    rw [HA.out]
    exact ⟨rfl, HE.out⟩

set_option maxRecDepth 100000 in
set_option maxHeartbeats 2000000 in
theorem refVadd_any (k n : Int) (t : ByteArray) (k' n' : Int) (t' : ByteArray) (w : World) (ht : t.size ≤ 4611686018427387904) (ht' : t'.size ≤ 4611686018427387904) : Calls Tryd.prog 9 #[.agg #[.int .i64 k, .int .i64 n, .string t], .agg #[.int .i64 k', .int .i64 n', .string t']] w fun e w' => e = valE (Vm.addV k n t.data.toList k' n' t'.data.toList) ∧ Below w.heap.size w w' := by
  have HV := Lib.hid (VTwo.res w k n t k' n' t')
  have HW := Lib.hid (VTwo.res2 w k n t k' n' t')
  cases hN : Vm.numsV k n t.data.toList k' n' t'.data.toList with
  | false =>
    have HA := Lib.hid (show Vm.addV k n t.data.toList k' n' t'.data.toList = (0, 0, 1) by unfold Vm.addV; rw [hN]; rfl)
    have HN := Lib.hid hN
    clear hN
    go_enter Tryd.func9, Tryd.ntmps9
    go_wp2_with fail
    refine (vboth_any k n t k' n' t' _ ht ht').mono ?_
    rw [HN.out]
    rintro e w1 ⟨rfl, hb1⟩
    have HV1 := Lib.hid (HV.out.kept hb1)
    have HW1 := Lib.hid (HW.out.kept hb1)
    clear hb1
    obtain ⟨q0, q1, q2, hE⟩ := HV1.out.read (0) (0) ⟨#[]⟩
    have HE := Lib.hid hE
    have y0 := HV1.out.2.1.free 0
    have y1 := HV1.out.2.1.free 1
    have y2 := HV1.out.2.1.free 2
    have z0 := HV1.out.2.1.cell0
    have z1 := HV1.out.2.1.cell1
    have z2 := HV1.out.2.1.cell2
    clear hE
    go_wp2
    refine bodyPost_ret (v := .tuple #[.agg #[.int .i64 (0), .int .i64 (0), .string ⟨#[]⟩], .int .i64 (1)]) (by simp [results, Tryd.results9, go_sem, q0, q1, q2]) rfl ?_
    rw [HA.out]
    exact ⟨rfl, HE.out⟩
  | true =>
    have HA := Lib.hid (show Vm.addV k n t.data.toList k' n' t'.data.toList = Vm.ansV k (n + n') by unfold Vm.addV; rw [hN]; rfl)
    have HN := Lib.hid hN
    obtain ⟨rfl, -, -, -, n0, n1, n2, n3, -, -⟩ := Vm.numsV_yes hN
    clear hN
    generalize hr : Vm.ansV k' (n + n') = r at *
    have HQ := Lib.hid (fun W => vanswer_any k' (n + n') W)
    rw [hr] at HQ
    clear hr
    obtain ⟨ra, rb, rc⟩ := r
    unfold valE at HQ
    dsimp only at HQ
    go_enter Tryd.func9, Tryd.ntmps9
    go_wp2_with fail
    refine (vboth_any k' n t k' n' t' _ ht ht').mono ?_
    rw [HN.out]
    rintro e w1 ⟨rfl, hb1⟩
    have HV1 := Lib.hid (HV.out.kept hb1)
    have HW1 := Lib.hid (HW.out.kept hb1)
    clear hb1
    have x0 := HW1.out.1.cell0
    have x1 := HW1.out.1.cell1
    have x3 := HW1.out.2.1.cell1
    go_wp2_with fail
    refine (HQ.out _).mono ?_
    rintro e w2 ⟨rfl, hb2⟩
    have HV2 := Lib.hid (HV1.out.kept hb2)
    clear hb2 x0 x1 x3
    obtain ⟨q0, q1, q2, hE⟩ := HV2.out.read (ra) (rb) ⟨#[]⟩
    have HE := Lib.hid hE
    have y0 := HV2.out.2.1.free 0
    have y1 := HV2.out.2.1.free 1
    have y2 := HV2.out.2.1.free 2
    have z0 := HV2.out.2.1.cell0
    have z1 := HV2.out.2.1.cell1
    have z2 := HV2.out.2.1.cell2
    clear hE
    go_wp2
    refine bodyPost_ret (v := .tuple #[.agg #[.int .i64 (ra), .int .i64 (rb), .string ⟨#[]⟩], .int .i64 (rc)]) (by simp [results, Tryd.results9, go_sem, q0, q1, q2]) rfl ?_
    rw [HA.out]
    exact ⟨rfl, HE.out⟩

end Go.Proofs.YtfakbbbkfmnnhaaDoor
