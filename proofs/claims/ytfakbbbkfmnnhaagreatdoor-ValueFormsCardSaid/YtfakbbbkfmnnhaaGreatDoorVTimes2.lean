/-
  PRODUCTS: the program's Times.
  No conditions.
-/
import Derived.Test.YtfakbbbkfmnnhaaGreatDoorVTimes
namespace Go.Proofs.YtfakbbbkfmnnhaaGreatDoor
open Go.RowKit

set_option maxRecDepth 100000 in
set_option maxHeartbeats 4000000 in
theorem vtimes_any (k n : Int) (t : ByteArray) (k' n' : Int) (t' : ByteArray) (w : World) (ht : t.size ≤ 4611686018427387904) (ht' : t'.size ≤ 4611686018427387904) : Calls Tryz.prog 47 #[.agg #[.int .i64 k, .int .i64 n, .string t], .agg #[.int .i64 k', .int .i64 n', .string t']] w fun e w' => e = valE (Vm.timesV k n t.data.toList k' n' t'.data.toList) ∧ Below w.heap.size w w' := by
  have HV := Lib.hid (VTwo.res w k n t k' n' t')
  have HW := Lib.hid (VTwo.res2 w k n t k' n' t')
  cases hN : Vm.numsV k n t.data.toList k' n' t'.data.toList with
  | false =>
    have HA := Lib.hid (show Vm.timesV k n t.data.toList k' n' t'.data.toList = (0, 0, 1) by unfold Vm.timesV; rw [hN]; rfl)
    have HN := Lib.hid hN
    clear hN
    go_enter Tryz.func47, Tryz.ntmps47
    go_wp2_with fail
    refine (vnumbers_any k n t k' n' t' _ ht ht').mono ?_
    rw [HN.out]
    rintro e w1 ⟨rfl, hb1⟩
    have HV1 := Lib.hid (HV.out.kept hb1)
    have HW1 := Lib.hid (HW.out.kept hb1)
    clear hb1
    obtain ⟨q0, q1, q2, hE⟩ := HV1.out.read (0) (0) ⟨#[]⟩
    have HE := Lib.hid hE
    have y0 := HV1.out.2.1.free 0
    have y1 := HV1.out.2.1.free 1
    have y2 := HV1.out.2.1.free 2
    have z0 := HV1.out.2.1.cell0
    have z1 := HV1.out.2.1.cell1
    have z2 := HV1.out.2.1.cell2
    clear hE
    go_wp2
    refine bodyPost_ret (v := .tuple #[.agg #[.int .i64 (0), .int .i64 (0), .string ⟨#[]⟩], .int .i64 (1)]) (by simp [results, Tryz.results47, go_sem, q0, q1, q2]) rfl ?_
    rw [HA.out]
    exact ⟨rfl, HE.out⟩
  | true =>
    have HN := Lib.hid hN
    obtain ⟨hkk, hk, -, -, n0, n1, n2, n3, -, -⟩ := Vm.numsV_yes hN
    obtain rfl := hkk
    have HA := Lib.hid (show Vm.timesV k' n t.data.toList k' n' t'.data.toList = Vm.ansV k' (Vm.sgnV n n' (Vm.prodV k' n.natAbs n'.natAbs)) by unfold Vm.timesV; rw [hN]; rfl)
    have HM := Lib.hid (fun W => Tryz.bits_Mul64 n.natAbs n'.natAbs (by omega) (by omega) W)
    have HPL := Lib.hid (prod_le n.natAbs n'.natAbs (abs_le n n0 n1) (abs_le n' n2 n3))
    have HPD : Hid (Vm.prodV k' n.natAbs n'.natAbs = if k' = 2 then (n.natAbs * n'.natAbs + 32768) / 65536 else n.natAbs * n'.natAbs) := Lib.hid rfl
    generalize n.natAbs * n'.natAbs = p at *
    generalize Vm.prodV k' n.natAbs n'.natAbs = m at *
    clear hN
    by_cases h64 : p < 18446744073709551616
    · rw [Nat.div_eq_of_lt h64, Nat.mod_eq_of_lt h64] at HM
      rcases hk with rfl | rfl
      · obtain rfl : m = p := by have h := HPD.out; rw [if_neg (by decide)] at h; exact h
        have HS := Lib.hid (signV_sgn 1 n n' m (Or.inl rfl))
        have HQ := Lib.hid (fun W => vsigned_any 1 m (!(decide (n < 0) == decide (n' < 0))) W (by omega))
        rw [HS.out] at HQ
        generalize Vm.ansV 1 (Vm.sgnV n n' m) = r at *
        obtain ⟨ra, rb, rc⟩ := r
        unfold valE at HQ
        dsimp only at HQ
        go_enter Tryz.func47, Tryz.ntmps47
        go_wp2_with fail
        refine (vnumbers_any 1 n t 1 n' t' _ ht ht').mono ?_
        rw [HN.out]
        rintro e w1 ⟨rfl, hb1⟩
        have HV1 := Lib.hid (HV.out.kept hb1)
        have HW1 := Lib.hid (HW.out.kept hb1)
        clear hb1
        have x0 := HW1.out.1.cell0
        have x1 := HW1.out.1.cell1
        have x3 := HW1.out.2.1.cell1
        go_wp2
        go_quiet ((first | (go_at_call 64; exact Calls.quiet_of_same (magnitude_any n _ n0 n1)) | (go_at_call 64; exact Calls.quiet_of_same (magnitude_any n' _ n2 n3)) | (go_at_call 63; exact Calls.quiet_of_same (HM.out _))))
        go_wp2_with fail
        refine (HQ.out _).mono ?_
        rintro e w2 ⟨rfl, hb2⟩
        have HV2 := Lib.hid (HV1.out.kept ((below_drewN (Below.refl _ _) _).trans hb2))
        clear hb2 x0 x1 x3
        obtain ⟨q0, q1, q2, hE⟩ := HV2.out.read (ra) (rb) ⟨#[]⟩
        have HE := Lib.hid hE
        have y0 := HV2.out.2.1.free 0
        have y1 := HV2.out.2.1.free 1
        have y2 := HV2.out.2.1.free 2
        have z0 := HV2.out.2.1.cell0
        have z1 := HV2.out.2.1.cell1
        have z2 := HV2.out.2.1.cell2
        clear hE
        go_wp2
        refine bodyPost_ret (v := .tuple #[.agg #[.int .i64 (ra), .int .i64 (rb), .string ⟨#[]⟩], .int .i64 (rc)]) (by simp [results, Tryz.results47, go_sem, q0, q1, q2]) rfl ?_
        rw [HA.out]
        exact ⟨rfl, HE.out⟩
      · obtain rfl : m = (p + 32768) / 65536 := by have h := HPD.out; rw [if_pos rfl] at h; exact h
        have HS := Lib.hid (signV_sgn 2 n n' ((p + 32768) / 65536) (Or.inr rfl))
        have HQ := Lib.hid (fun W => vsigned_any 2 ((p + 32768) / 65536) (!(decide (n < 0) == decide (n' < 0))) W (by omega))
        rw [HS.out] at HQ
        generalize Vm.ansV 2 (Vm.sgnV n n' ((p + 32768) / 65536)) = r at *
        obtain ⟨ra, rb, rc⟩ := r
        unfold valE at HQ
        dsimp only at HQ
        have hx := round_u64 p h64
        generalize (p + 32768) / 65536 = m at *
        go_enter Tryz.func47, Tryz.ntmps47
        go_wp2_with fail
        refine (vnumbers_any 2 n t 2 n' t' _ ht ht').mono ?_
        rw [HN.out]
        rintro e w1 ⟨rfl, hb1⟩
        have HV1 := Lib.hid (HV.out.kept hb1)
        have HW1 := Lib.hid (HW.out.kept hb1)
        clear hb1
        have x0 := HW1.out.1.cell0
        have x1 := HW1.out.1.cell1
        have x3 := HW1.out.2.1.cell1
        go_wp2
        go_quiet ((first | (go_at_call 64; exact Calls.quiet_of_same (magnitude_any n _ n0 n1)) | (go_at_call 64; exact Calls.quiet_of_same (magnitude_any n' _ n2 n3)) | (go_at_call 63; exact Calls.quiet_of_same (HM.out _))))
        go_wp2_with fail
        refine (HQ.out _).mono ?_
        rintro e w2 ⟨rfl, hb2⟩
        have HV2 := Lib.hid (HV1.out.kept ((below_drewN (Below.refl _ _) _).trans hb2))
        clear hb2 x0 x1 x3
        obtain ⟨q0, q1, q2, hE⟩ := HV2.out.read (ra) (rb) ⟨#[]⟩
        have HE := Lib.hid hE
        have y0 := HV2.out.2.1.free 0
        have y1 := HV2.out.2.1.free 1
        have y2 := HV2.out.2.1.free 2
        have z0 := HV2.out.2.1.cell0
        have z1 := HV2.out.2.1.cell1
        have z2 := HV2.out.2.1.cell2
        clear hE
        go_wp2
        refine bodyPost_ret (v := .tuple #[.agg #[.int .i64 (ra), .int .i64 (rb), .string ⟨#[]⟩], .int .i64 (rc)]) (by simp [results, Tryz.results47, go_sem, q0, q1, q2]) rfl ?_
        rw [HA.out]
        exact ⟨rfl, HE.out⟩
    · have hz : ((p / 18446744073709551616 : Nat) : Int) ≠ 0 := by omega
      have hz1 : (((p / 18446744073709551616 : Nat) : Int) != 0) = true := by rw [bne_iff_ne]; exact hz
      have hm : 1099511627776 < m := by
        have h := HPD.out
        split at h <;> omega
      have HZ := Lib.hid (Vm.ansV_out k' _ hk (sgn_out n n' m hm))
      generalize p / 18446744073709551616 = hi at *
      generalize p % 18446744073709551616 = lo at *
      clear hz h64 hm
      go_enter Tryz.func47, Tryz.ntmps47
      go_wp2_with fail
      refine (vnumbers_any k' n t k' n' t' _ ht ht').mono ?_
      rw [HN.out]
      rintro e w1 ⟨rfl, hb1⟩
      have HV1 := Lib.hid (HV.out.kept hb1)
      have HW1 := Lib.hid (HW.out.kept hb1)
      clear hb1
      have x0 := HW1.out.1.cell0
      have x1 := HW1.out.1.cell1
      have x3 := HW1.out.2.1.cell1
      go_wp2
      go_quiet ((first | (go_at_call 64; exact Calls.quiet_of_same (magnitude_any n _ n0 n1)) | (go_at_call 64; exact Calls.quiet_of_same (magnitude_any n' _ n2 n3)) | (go_at_call 63; exact Calls.quiet_of_same (HM.out _))))
      have HV2 := Lib.hid (HV1.out.kept (below_drewN (Below.refl _ _) nq))
      clear x0 x1 x3
      obtain ⟨q0, q1, q2, hE⟩ := HV2.out.read (0) (0) ⟨#[]⟩
      have HE := Lib.hid hE
      have y0 := HV2.out.2.1.free 0
      have y1 := HV2.out.2.1.free 1
      have y2 := HV2.out.2.1.free 2
      have z0 := HV2.out.2.1.cell0
      have z1 := HV2.out.2.1.cell1
      have z2 := HV2.out.2.1.cell2
      clear hE
      go_wp2
      refine bodyPost_ret (v := .tuple #[.agg #[.int .i64 (0), .int .i64 (0), .string ⟨#[]⟩], .int .i64 (30)]) (by simp [results, Tryz.results47, go_sem, q0, q1, q2]) rfl ?_
      rw [HA.out, HZ.out]
      exact ⟨rfl, HE.out⟩

end Go.Proofs.YtfakbbbkfmnnhaaGreatDoor
