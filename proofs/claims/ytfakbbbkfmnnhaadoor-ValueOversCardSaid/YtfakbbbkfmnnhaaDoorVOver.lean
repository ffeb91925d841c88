/-
  QUOTIENTS: the program's Over.
  No conditions.
-/
import Derived.Test.YtfakbbbkfmnnhaaDoorVTimes
namespace Go.Proofs.YtfakbbbkfmnnhaaDoor
open Go.RowKit

theorem tdiv_le (n d : Int) (h0 : -1099511627776 ≤ n) (h1 : n ≤ 1099511627776) : -1099511627776 ≤ n.tdiv d ∧ n.tdiv d ≤ 1099511627776 := by
  have h : (n.tdiv d).natAbs ≤ n.natAbs := by rw [Int.natAbs_tdiv]; exact Nat.div_le_self _ _
  omega
theorem quot_le (x y : Nat) (hx : x ≤ 1099511627776) (hy : y ≤ 1099511627776) : Vm.quotV x y ≤ 288230376151711744 := by
  unfold Vm.quotV
  refine Nat.le_trans (Nat.div_le_self _ _) ?_
  omega

set_option maxRecDepth 100000 in
set_option maxHeartbeats 4000000 in
theorem vover_any (k n : Int) (t : ByteArray) (k' n' : Int) (t' : ByteArray) (w : World) (ht : t.size ≤ 4611686018427387904) (ht' : t'.size ≤ 4611686018427387904) : Calls Tryd.prog 14 #[.agg #[.int .i64 k, .int .i64 n, .string t], .agg #[.int .i64 k', .int .i64 n', .string t']] w fun e w' => e = valE (Vm.overV k n t.data.toList k' n' t'.data.toList) ∧ Below w.heap.size w w' := by
  have HV := Lib.hid (VTwo.res w k n t k' n' t')
  have HW := Lib.hid (VTwo.res2 w k n t k' n' t')
  have HO : Hid (Vm.overV k n t.data.toList k' n' t'.data.toList = if Vm.numsV k n t.data.toList k' n' t'.data.toList = true then (if n' = 0 then (0, 0, 31) else if k = 1 then Vm.ansV 1 (n.tdiv n') else Vm.ansV 2 (Vm.sgnV n n' (Vm.quotV n.natAbs n'.natAbs))) else (0, 0, 1)) := Lib.hid rfl
  cases hN : Vm.numsV k n t.data.toList k' n' t'.data.toList with
  | false =>
    have HA := Lib.hid (show Vm.overV k n t.data.toList k' n' t'.data.toList = (0, 0, 1) by rw [HO.out, hN]; rfl)
    have HN := Lib.hid hN
    clear hN
    go_enter Tryd.func14, Tryd.ntmps14
    go_wp2_with fail
    refine (vnumbers_any k n t k' n' t' _ ht ht').mono ?_
    rw [HN.out]
    rintro e w1 ⟨rfl, hb1⟩
    have HV1 := Lib.hid (HV.out.kept hb1)
    have HW1 := Lib.hid (HW.out.kept hb1)
    clear hb1
    obtain ⟨q0, q1, q2, hE⟩ := HV1.out.read (0) (0) ⟨#[]⟩
    have HE := Lib.hid hE
    have y0 := HV1.out.2.1.free 0
    have y1 := HV1.out.2.1.free 1
    have y2 := HV1.out.2.1.free 2
    have z0 := HV1.out.2.1.cell0
    have z1 := HV1.out.2.1.cell1
    have z2 := HV1.out.2.1.cell2
    clear hE
    go_wp2
    refine bodyPost_ret (v := .tuple #[.agg #[.int .i64 (0), .int .i64 (0), .string ⟨#[]⟩], .int .i64 (1)]) (by simp [results, Tryd.results14, go_sem, q0, q1, q2]) rfl ?_
    rw [HA.out]
    exact ⟨rfl, HE.out⟩
  | true =>
    have HN := Lib.hid hN
    obtain ⟨hkk, hk, -, -, n0, n1, n2, n3, -, -⟩ := Vm.numsV_yes hN
    obtain rfl := hkk
    by_cases hz : n' = 0
    · have HA := Lib.hid (show Vm.overV k' n t.data.toList k' n' t'.data.toList = (0, 0, 31) by rw [HO.out, hN, if_pos rfl, if_pos hz])
      subst hz
      clear hN
      go_enter Tryd.func14, Tryd.ntmps14
      go_wp2_with fail
      refine (vnumbers_any k' n t k' 0 t' _ ht ht').mono ?_
      rw [HN.out]
      rintro e w1 ⟨rfl, hb1⟩
      have HV1 := Lib.hid (HV.out.kept hb1)
      have HW1 := Lib.hid (HW.out.kept hb1)
      clear hb1
      have x0 := HW1.out.1.cell0
      have x1 := HW1.out.1.cell1
      have x3 := HW1.out.2.1.cell1
      have HV2 := HV1
      obtain ⟨q0, q1, q2, hE⟩ := HV2.out.read (0) (0) ⟨#[]⟩
      have HE := Lib.hid hE
      have y0 := HV2.out.2.1.free 0
      have y1 := HV2.out.2.1.free 1
      have y2 := HV2.out.2.1.free 2
      have z0 := HV2.out.2.1.cell0
      have z1 := HV2.out.2.1.cell1
      have z2 := HV2.out.2.1.cell2
      clear hE
      go_wp2
      refine bodyPost_ret (v := .tuple #[.agg #[.int .i64 (0), .int .i64 (0), .string ⟨#[]⟩], .int .i64 (31)]) (by simp [results, Tryd.results14, go_sem, q0, q1, q2]) rfl ?_
      rw [HA.out]
      exact ⟨rfl, HE.out⟩
    · have hz0 : (n' == 0) = false := by simpa using hz
      rcases hk with rfl | rfl
      · have HA := Lib.hid (show Vm.overV 1 n t.data.toList 1 n' t'.data.toList = Vm.ansV 1 (n.tdiv n') by rw [HO.out, hN, if_pos rfl, if_neg hz, if_pos rfl])
        have HQ := Lib.hid (fun W => vnumber_any 1 (n.tdiv n') W)
        obtain ⟨td0, td1⟩ := tdiv_le n n' n0 n1
        have hx : IntKind.i64.wrap (n.tdiv n') = n.tdiv n' := by rw [IntKind.wrap_i64]; omega
        generalize Vm.ansV 1 (n.tdiv n') = r at *
        obtain ⟨ra, rb, rc⟩ := r
        unfold valE at HQ
        dsimp only at HQ
        have hzN := Lib.hid hz
        clear hN hz
        go_enter Tryd.func14, Tryd.ntmps14
        go_wp2_with fail
        refine (vnumbers_any 1 n t 1 n' t' _ ht ht').mono ?_
        rw [HN.out]
        rintro e w1 ⟨rfl, hb1⟩
        have HV1 := Lib.hid (HV.out.kept hb1)
        have HW1 := Lib.hid (HW.out.kept hb1)
        clear hb1
        have x0 := HW1.out.1.cell0
        have x1 := HW1.out.1.cell1
        have x3 := HW1.out.2.1.cell1
        go_wp2_with fail
        refine (HQ.out _).mono ?_
        rintro e w2 ⟨rfl, hb2⟩
        have HV2 := Lib.hid (HV1.out.kept hb2)
        clear hb2 x0 x1 x3
        obtain ⟨q0, q1, q2, hE⟩ := HV2.out.read (ra) (rb) ⟨#[]⟩
        have HE := Lib.hid hE
        have y0 := HV2.out.2.1.free 0
        have y1 := HV2.out.2.1.free 1
        have y2 := HV2.out.2.1.free 2
        have z0 := HV2.out.2.1.cell0
        have z1 := HV2.out.2.1.cell1
        have z2 := HV2.out.2.1.cell2
        clear hE
        go_wp2
        refine bodyPost_ret (v := .tuple #[.agg #[.int .i64 (ra), .int .i64 (rb), .string ⟨#[]⟩], .int .i64 (rc)]) (by simp [results, Tryd.results14, go_sem, q0, q1, q2]) rfl ?_
        rw [HA.out]
        exact ⟨rfl, HE.out⟩
      · have HA := Lib.hid (show Vm.overV 2 n t.data.toList 2 n' t'.data.toList = Vm.ansV 2 (Vm.sgnV n n' (Vm.quotV n.natAbs n'.natAbs)) by rw [HO.out, hN, if_pos rfl, if_neg hz, if_neg (by decide)])
        have hy0 : 0 < n'.natAbs := by omega
        have HMA := Lib.hid (fun W => magnitude_any n W n0 n1)
        have HMB := Lib.hid (fun W => magnitude_any n' W n2 n3)
        have hxl := abs_le n n0 n1
        have hyl := abs_le n' n2 n3
        have hql := quot_le n.natAbs n'.natAbs hxl hyl
        have HQD : Hid (Vm.quotV n.natAbs n'.natAbs = (2 * n.natAbs * 65536 + n'.natAbs) / (2 * n'.natAbs)) := Lib.hid rfl
        generalize n.natAbs = x at *
        generalize n'.natAbs = y at *
        have HE := Lib.hid (show (2 * (x : Int) * 65536 + (y : Int)) / (2 * (y : Int)) = ((Vm.quotV x y : Nat) : Int) by rw [HQD.out]; simp)
        generalize Vm.quotV x y = q at *
        have HQ := Lib.hid (fun W => vsigned_any 2 q (!(decide (n < 0) == decide (n' < 0))) W (by omega))
        rw [signV_sgn 2 n n' q (Or.inr rfl)] at HQ
        generalize Vm.ansV 2 (Vm.sgnV n n' q) = r at *
        obtain ⟨ra, rb, rc⟩ := r
        unfold valE at HQ
        dsimp only at HQ
        have hy1 : 1 ≤ (y : Int) := by omega
        have hyn : ((2 * (y : Int)) == 0) = false := by rw [beq_eq_false_iff_ne]; omega
        clear hN hz
        go_enter Tryd.func14, Tryd.ntmps14
        go_wp2_with fail
        refine (vnumbers_any 2 n t 2 n' t' _ ht ht').mono ?_
        rw [HN.out]
        rintro e w1 ⟨rfl, hb1⟩
        have HV1 := Lib.hid (HV.out.kept hb1)
        have HW1 := Lib.hid (HW.out.kept hb1)
        clear hb1
        have x0 := HW1.out.1.cell0
        have x1 := HW1.out.1.cell1
        have x3 := HW1.out.2.1.cell1
        go_wp2_with fail
        refine (HMB.out _).mono ?_
        rintro e w' ⟨rfl, rfl⟩
        go_wp2_with fail
        refine (HMA.out _).mono ?_
        rintro e w' ⟨rfl, rfl⟩
        have hE := HE.out
        go_wp2_with fail
        refine (HQ.out _).mono ?_
        rintro e w2 ⟨rfl, hb2⟩
        have HV2 := Lib.hid (HV1.out.kept hb2)
        clear hb2 x0 x1 x3 hE
        obtain ⟨q0, q1, q2, hE⟩ := HV2.out.read (ra) (rb) ⟨#[]⟩
        have HE := Lib.hid hE
        have y0 := HV2.out.2.1.free 0
        have y1 := HV2.out.2.1.free 1
        have y2 := HV2.out.2.1.free 2
        have z0 := HV2.out.2.1.cell0
        have z1 := HV2.out.2.1.cell1
        have z2 := HV2.out.2.1.cell2
        clear hE
        go_wp2
        refine bodyPost_ret (v := .tuple #[.agg #[.int .i64 (ra), .int .i64 (rb), .string ⟨#[]⟩], .int .i64 (rc)]) (by simp [results, Tryd.results14, go_sem, q0, q1, q2]) rfl ?_
        rw [HA.out]
        exact ⟨rfl, HE.out⟩

end Go.Proofs.YtfakbbbkfmnnhaaDoor
