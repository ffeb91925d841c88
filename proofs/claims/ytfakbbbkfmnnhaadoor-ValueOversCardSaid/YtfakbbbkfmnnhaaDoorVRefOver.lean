/-
  QUOTIENTS: the document's Over.
  No conditions.
-/
import Derived.Test.YtfakbbbkfmnnhaaDoorVRefTimes2
import Derived.Test.YtfakbbbkfmnnhaaDoorVOver
namespace Go.Proofs.YtfakbbbkfmnnhaaDoor
open Go.RowKit

theorem tdiv_sgn (n d : Int) : n.tdiv d = Vm.sgnV n d (n.natAbs / d.natAbs) := by
  have key : ∀ a b : Nat, ((a : Int).tdiv b) = ((a / b : Nat) : Int) := fun a b => rfl
  unfold Vm.sgnV
  by_cases a : n < 0 <;> by_cases b : d < 0
  · rw [if_pos (by simp [a, b]), ← key, show ((n.natAbs : Nat) : Int) = -n by omega, show ((d.natAbs : Nat) : Int) = -d by omega, Int.neg_tdiv, Int.tdiv_neg]; omega
  · rw [if_neg (by simp [a]; omega), ← key, show ((n.natAbs : Nat) : Int) = -n by omega, show ((d.natAbs : Nat) : Int) = d by omega, Int.neg_tdiv]; omega
  · rw [if_neg (by simp [b]; omega), ← key, show ((n.natAbs : Nat) : Int) = n by omega, show ((d.natAbs : Nat) : Int) = -d by omega, Int.tdiv_neg]; omega
  · rw [if_pos (by simp [a, b]), ← key, show ((n.natAbs : Nat) : Int) = n by omega, show ((d.natAbs : Nat) : Int) = d by omega]

set_option maxRecDepth 100000 in
set_option maxHeartbeats 4000000 in
theorem refVover_any (k n : Int) (t : ByteArray) (k' n' : Int) (t' : ByteArray) (w : World) (ht : t.size ≤ 4611686018427387904) (ht' : t'.size ≤ 4611686018427387904) : Calls Tryd.prog 15 #[.agg #[.int .i64 k, .int .i64 n, .string t], .agg #[.int .i64 k', .int .i64 n', .string t']] w fun e w' => e = valE (Vm.overV k n t.data.toList k' n' t'.data.toList) ∧ Below w.heap.size w w' := by
  have HV := Lib.hid (VTwo.res w k n t k' n' t')
  have HW := Lib.hid (VTwo.res2 w k n t k' n' t')
  have HO : Hid (Vm.overV k n t.data.toList k' n' t'.data.toList = if Vm.numsV k n t.data.toList k' n' t'.data.toList = true then (if n' = 0 then (0, 0, 31) else if k = 1 then Vm.ansV 1 (n.tdiv n') else Vm.ansV 2 (Vm.sgnV n n' (Vm.quotV n.natAbs n'.natAbs))) else (0, 0, 1)) := Lib.hid rfl
  cases hN : Vm.numsV k n t.data.toList k' n' t'.data.toList with
  | false =>
    have HA := Lib.hid (show Vm.overV k n t.data.toList k' n' t'.data.toList = (0, 0, 1) by rw [HO.out, hN]; rfl)
    have HN := Lib.hid hN
    clear hN
    go_enter Tryd.func15, Tryd.ntmps15
    go_wp2_with fail
    refine (vboth_any k n t k' n' t' _ ht ht').mono ?_
    rw [HN.out]
    rintro e w1 ⟨rfl, hb1⟩
    have HV1 := Lib.hid (HV.out.kept hb1)
    have HW1 := Lib.hid (HW.out.kept hb1)
    clear hb1
    obtain ⟨q0, q1, q2, hE⟩ := HV1.out.read (0) (0) ⟨#[]⟩
    have HE := Lib.hid hE
    have y0 := HV1.out.2.1.free 0
    have y1 := HV1.out.2.1.free 1
    have y2 := HV1.out.2.1.free 2
    have z0 := HV1.out.2.1.cell0
    have z1 := HV1.out.2.1.cell1
    have z2 := HV1.out.2.1.cell2
    clear hE
    go_wp2
    refine bodyPost_ret (v := .tuple #[.agg #[.int .i64 (0), .int .i64 (0), .string ⟨#[]⟩], .int .i64 (1)]) (by simp [results, Tryd.results15, go_sem, q0, q1, q2]) rfl ?_
    rw [HA.out]
    exact ⟨rfl, HE.out⟩
  | true =>
    have HN := Lib.hid hN
    obtain ⟨hkk, hk, -, -, n0, n1, n2, n3, -, -⟩ := Vm.numsV_yes hN
    obtain rfl := hkk
    by_cases hz : n' = 0
    · have HA := Lib.hid (show Vm.overV k' n t.data.toList k' n' t'.data.toList = (0, 0, 31) by rw [HO.out, hN, if_pos rfl, if_pos hz])
      subst hz
      clear hN
      go_enter Tryd.func15, Tryd.ntmps15
      go_wp2_with fail
      refine (vboth_any k' n t k' 0 t' _ ht ht').mono ?_
      rw [HN.out]
      rintro e w1 ⟨rfl, hb1⟩
      have HV1 := Lib.hid (HV.out.kept hb1)
      have HW1 := Lib.hid (HW.out.kept hb1)
      clear hb1
      have x0 := HW1.out.1.cell0
      have x1 := HW1.out.1.cell1
      have x3 := HW1.out.2.1.cell1
      obtain ⟨q0, q1, q2, hE⟩ := HV1.out.read (0) (0) ⟨#[]⟩
      have HE := Lib.hid hE
      have y0 := HV1.out.2.1.free 0
      have y1 := HV1.out.2.1.free 1
      have y2 := HV1.out.2.1.free 2
      have z0 := HV1.out.2.1.cell0
      have z1 := HV1.out.2.1.cell1
      have z2 := HV1.out.2.1.cell2
      clear hE
      go_wp2
      refine bodyPost_ret (v := .tuple #[.agg #[.int .i64 (0), .int .i64 (0), .string ⟨#[]⟩], .int .i64 (31)]) (by simp [results, Tryd.results15, go_sem, q0, q1, q2]) rfl ?_
      rw [HA.out]
      exact ⟨rfl, HE.out⟩
    · have hz0 : (n' == 0) = false := by simpa using hz
      have hy0 : 0 < n'.natAbs := by omega
      have HMA := Lib.hid (fun W => refAbs_any n W n0 n1)
      have HMB := Lib.hid (fun W => refAbs_any n' W n2 n3)
      have hxl := abs_le n n0 n1
      have hyl := abs_le n' n2 n3
      rcases hk with rfl | rfl
      · have HA := Lib.hid (show Vm.overV 1 n t.data.toList 1 n' t'.data.toList = Vm.ansV 1 (n.tdiv n') by rw [HO.out, hN, if_pos rfl, if_neg hz, if_pos rfl])
        rw [tdiv_sgn n n'] at HA
        clear hN hz
        have hql : n.natAbs / n'.natAbs ≤ 1099511627776 := Nat.le_trans (Nat.div_le_self _ _) hxl
        generalize n.natAbs = x at *
        generalize n'.natAbs = y at *
        have HE := Lib.hid (show (x : Int) / (y : Int) = ((x / y : Nat) : Int) by simp)
        generalize x / y = q at *
        have HSG := Lib.hid (fun W => refSigned_any q n n' W (by omega))
        have HQ := Lib.hid (fun W => vanswer_any 1 (Vm.sgnV n n' q) W)
        generalize Vm.ansV 1 (Vm.sgnV n n' q) = r at *
        generalize Vm.sgnV n n' q = g at *
        obtain ⟨ra, rb, rc⟩ := r
        unfold valE at HQ
        dsimp only at HQ
        have hyn : ((y : Int) == 0) = false := by rw [beq_eq_false_iff_ne]; omega
        have hyne : y ≠ 0 := by omega
        have hwq : IntKind.i64.wrap (q : Int) = (q : Int) := by rw [IntKind.wrap_i64]; omega
        have hE := HE.out
        go_enter Tryd.func15, Tryd.ntmps15
        go_wp2_with fail
        refine (vboth_any 1 n t 1 n' t' _ ht ht').mono ?_
        rw [HN.out]
        rintro e w1 ⟨rfl, hb1⟩
        have HV1 := Lib.hid (HV.out.kept hb1)
        have HW1 := Lib.hid (HW.out.kept hb1)
        clear hb1
        have x0 := HW1.out.1.cell0
        have x1 := HW1.out.1.cell1
        have x3 := HW1.out.2.1.cell1
        go_wp2_with fail
        refine (HMA.out _).mono ?_
        rintro e w' ⟨rfl, rfl⟩
        go_wp2_with fail
        refine (HMB.out _).mono ?_
        rintro e w' ⟨rfl, rfl⟩
        go_wp2_with fail
        clear x0 x1 x3
        have HB1 := Lib.hid ((Below.refl w'.heap.size w').drew)
        refine wp_region_held_drew (S := (VTwo w 1 n t 1 n' t')) (by kernel_rfl) (HW1.out.kept HB1.out) (fun hS => ?_)
        refine wpAnyH_take (i := 0) (v := ?_) rfl (by kernel_rfl) (by kernel_rfl) (by kernel_rfl) (fun _ _ _ h => h) (Or.inl ⟨by kernel_rfl, ?_⟩) hS ?_
        rotate_left
        · intro W hSW
          go_simp
          all_goals with_reducible rfl
        refine wpAnyH_take (i := 1) (v := ?_) rfl (by kernel_rfl) (by kernel_rfl) (by kernel_rfl) (fun _ _ _ h => h) (Or.inl ⟨by kernel_rfl, ?_⟩) hS ?_
        rotate_left
        · intro W hSW
          go_simp
          all_goals with_reducible rfl
        refine wpAnyH_take (i := 2) (v := ?_) rfl (by kernel_rfl) (by kernel_rfl) (by kernel_rfl) (fun _ _ _ h => h) (Or.inl ⟨by kernel_rfl, ?_⟩) hS ?_
        rotate_left
        · intro W hSW
          go_simp
          all_goals with_reducible rfl
        refine wpAnyH_take (i := 3) (v := ?_) rfl (by kernel_rfl) (by kernel_rfl) (by kernel_rfl) (fun _ _ _ h => h) (Or.inl ⟨by kernel_rfl, ?_⟩) hS ?_
        rotate_left
        · intro W hSW
          go_simp
          all_goals with_reducible rfl
        refine wpAnyH_take (i := 4) (v := ?_) rfl (by kernel_rfl) (by kernel_rfl) (by kernel_rfl) (fun _ _ _ h => h) (Or.inl ⟨by kernel_rfl, ?_⟩) hS ?_
        rotate_left
        · intro W hSW
          have x0 := hSW.1.cell0
          have x1 := hSW.1.cell1
          have x3 := hSW.2.1.cell1
          go_simp
          all_goals with_reducible rfl
        refine wpAnyH_take (i := 5) (v := ?_) rfl (by kernel_rfl) (by kernel_rfl) (by kernel_rfl) (fun _ _ _ h => h) (Or.inl ⟨by kernel_rfl, ?_⟩) hS ?_
        rotate_left
        · intro W hSW
          go_simp
          all_goals with_reducible rfl
        refine wpAnyH_take (i := 6) (v := ?_) rfl (by kernel_rfl) (by kernel_rfl) (by kernel_rfl) (fun _ _ _ h => h) (Or.inl ⟨by kernel_rfl, ?_⟩) hS ?_
        rotate_left
        · intro W hSW
          have x0 := hSW.1.cell0
          have x1 := hSW.1.cell1
          have x3 := hSW.2.1.cell1
          go_simp
          all_goals with_reducible rfl
        refine wpAnyH_ready (rs := [7]) (by kernel_rfl) (by simp) ?_
        refine AllReadyH.cons rfl (fun K hK => ?_) AllReadyH.nil
        go_simp
        go_wp2_with ((go_at_call 33; refine (HSG.out _).mono ?_; rintro e wn ⟨rfl, rfl⟩))
        refine hK.out _ _ hS (fun hS => ?_)
        clear hK K
        refine wpAnyH_ready (rs := [8]) (by kernel_rfl) (by simp) ?_
        refine AllReadyH.cons rfl (fun K hK => ?_) AllReadyH.nil
        go_simp
        go_wp2_with ((go_at_call 26; refine (HQ.out _).mono ?_; rintro e w2 ⟨rfl, hbn⟩))
        refine hK.out _ _ (hS.kept hbn) (fun hS => ?_)
        clear hK K
        have HV2 := Lib.hid (HV1.out.kept (HB1.out.trans hbn))
        clear hbn
        refine wpAnyH_take (i := 9) (v := ?_) rfl (by kernel_rfl) (by kernel_rfl) (by kernel_rfl) (fun _ _ _ h => h) (Or.inl ⟨by kernel_rfl, ?_⟩) hS ?_
        rotate_left
        · intro W hSW
          go_simp
          all_goals with_reducible rfl
        refine wpAnyH_take (i := 10) (v := ?_) rfl (by kernel_rfl) (by kernel_rfl) (by kernel_rfl) (fun _ _ _ h => h) (Or.inl ⟨by kernel_rfl, ?_⟩) hS ?_
        rotate_left
        · intro W hSW
          go_simp
          all_goals with_reducible rfl
        obtain ⟨q0, q1, q2, hE⟩ := HV2.out.read (ra) (rb) ⟨#[]⟩
        have HE := Lib.hid hE
        have y0 := HV2.out.2.1.free 0
        have y1 := HV2.out.2.1.free 1
        have y2 := HV2.out.2.1.free 2
        have z0 := HV2.out.2.1.cell0
        have z1 := HV2.out.2.1.cell1
        have z2 := HV2.out.2.1.cell2
        clear hE
        refine wpAnyH_ready (rs := [11]) (by kernel_rfl) (by simp) ?_
        refine AllReadyH.cons rfl (fun K hK => ?_) AllReadyH.nil
        go_simp
        refine hK.out _ _ (hS.far _ _ _ _ (by omega)) (fun hS => ?_)
        clear hK K
        refine wpAnyH_take (i := 12) (v := ?_) rfl (by kernel_rfl) (by kernel_rfl) (by kernel_rfl) (fun _ _ _ h => h) (Or.inl ⟨by kernel_rfl, ?_⟩) hS ?_
        rotate_left
        · intro W hSW
          go_simp
          all_goals with_reducible rfl
        refine wpAnyH_done (by kernel_rfl) ?_ _
        clear hS
        go_wp2
        refine bodyPost_ret (v := .tuple #[.agg #[.int .i64 (ra), .int .i64 (rb), .string ⟨#[]⟩], .int .i64 (rc)]) (by simp [results, Tryd.results15, go_sem, q0, q1, q2]) rfl ?_
        rw [HA.out]
        exact ⟨rfl, HE.out⟩
      · have HA := Lib.hid (show Vm.overV 2 n t.data.toList 2 n' t'.data.toList = Vm.ansV 2 (Vm.sgnV n n' (Vm.quotV n.natAbs n'.natAbs)) by rw [HO.out, hN, if_pos rfl, if_neg hz, if_neg (by decide)])
        have HQR := Lib.hid (Vm.quot_round n.natAbs n'.natAbs hy0)
        have hql := quot_le n.natAbs n'.natAbs hxl hyl
        clear hN hz
        generalize n.natAbs = x at *
        generalize n'.natAbs = y at *
        generalize Vm.quotV x y = q at *
        have HE1 := Lib.hid (show (x : Int) * 65536 / (y : Int) = ((x * 65536 / y : Nat) : Int) by simp)
        have HE2 := Lib.hid (show (x : Int) * 65536 % (y : Int) = ((x * 65536 % y : Nat) : Int) by simp)
        have hml := Nat.mod_lt (x * 65536) hy0
        have hdl := Nat.div_le_self (x * 65536) y
        have hdl2 : x * 65536 / y ≤ 288230376151711744 := by omega
        generalize x * 65536 / y = d at *
        generalize x * 65536 % y = m at *
        clear hdl
        have HSG := Lib.hid (fun W => refSigned_any q n n' W (by omega))
        have HQ := Lib.hid (fun W => vanswer_any 2 (Vm.sgnV n n' q) W)
        generalize Vm.ansV 2 (Vm.sgnV n n' q) = r at *
        generalize Vm.sgnV n n' q = g at *
        obtain ⟨ra, rb, rc⟩ := r
        unfold valE at HQ
        dsimp only at HQ
        have hyn : ((y : Int) == 0) = false := by rw [beq_eq_false_iff_ne]; omega
        have hyne : y ≠ 0 := by omega
        have hE1 := HE1.out
        have hE2 := HE2.out
        by_cases hr : y ≤ m * 2
        · have hr' : decide ((y : Int) ≤ (m : Int) * 2) = true := decide_eq_true (by omega)
          have hq := HQR.out
          rw [if_pos hr] at hq
          subst hq
          go_enter Tryd.func15, Tryd.ntmps15
          go_wp2_with fail
          refine (vboth_any 2 n t 2 n' t' _ ht ht').mono ?_
          rw [HN.out]
          rintro e w1 ⟨rfl, hb1⟩
          have HV1 := Lib.hid (HV.out.kept hb1)
          have HW1 := Lib.hid (HW.out.kept hb1)
          clear hb1
          have x0 := HW1.out.1.cell0
          have x1 := HW1.out.1.cell1
          have x3 := HW1.out.2.1.cell1
          go_wp2_with fail
          refine (HMA.out _).mono ?_
          rintro e w' ⟨rfl, rfl⟩
          go_wp2_with fail
          refine (HMB.out _).mono ?_
          rintro e w' ⟨rfl, rfl⟩
          go_wp2_with fail
          have HV2 := HV1
          refine (HSG.out _).mono ?_
          rintro e w' ⟨rfl, rfl⟩
          go_wp2_with fail
          refine (HQ.out _).mono ?_
          rintro e w2 ⟨rfl, hb2⟩
          have HV3 := Lib.hid (HV2.out.kept hb2)
          clear hb2 x0 x1 x3
          obtain ⟨q0, q1, q2, hE⟩ := HV3.out.read (ra) (rb) ⟨#[]⟩
          have HE := Lib.hid hE
          have y0 := HV3.out.2.1.free 0
          have y1 := HV3.out.2.1.free 1
          have y2 := HV3.out.2.1.free 2
          have z0 := HV3.out.2.1.cell0
          have z1 := HV3.out.2.1.cell1
          have z2 := HV3.out.2.1.cell2
          clear hE
          go_wp2
          refine bodyPost_ret (v := .tuple #[.agg #[.int .i64 (ra), .int .i64 (rb), .string ⟨#[]⟩], .int .i64 (rc)]) (by simp [results, Tryd.results15, go_sem, q0, q1, q2]) rfl ?_
          rw [HA.out]
          exact ⟨rfl, HE.out⟩
        · have hr' : decide ((y : Int) ≤ (m : Int) * 2) = false := decide_eq_false (by omega)
          have hq := HQR.out
          rw [if_neg hr, Nat.add_zero] at hq
          subst hq
          go_enter Tryd.func15, Tryd.ntmps15
          go_wp2_with fail
          refine (vboth_any 2 n t 2 n' t' _ ht ht').mono ?_
          rw [HN.out]
          rintro e w1 ⟨rfl, hb1⟩
          have HV1 := Lib.hid (HV.out.kept hb1)
          have HW1 := Lib.hid (HW.out.kept hb1)
          clear hb1
          have x0 := HW1.out.1.cell0
          have x1 := HW1.out.1.cell1
          have x3 := HW1.out.2.1.cell1
          go_wp2_with fail
          refine (HMA.out _).mono ?_
          rintro e w' ⟨rfl, rfl⟩
          go_wp2_with fail
          refine (HMB.out _).mono ?_
          rintro e w' ⟨rfl, rfl⟩
          go_wp2_with fail
          have HV2 := HV1
          refine (HSG.out _).mono ?_
          rintro e w' ⟨rfl, rfl⟩
          go_wp2_with fail
          refine (HQ.out _).mono ?_
          rintro e w2 ⟨rfl, hb2⟩
          have HV3 := Lib.hid (HV2.out.kept hb2)
          clear hb2 x0 x1 x3
          obtain ⟨q0, q1, q2, hE⟩ := HV3.out.read (ra) (rb) ⟨#[]⟩
          have HE := Lib.hid hE
          have y0 := HV3.out.2.1.free 0
          have y1 := HV3.out.2.1.free 1
          have y2 := HV3.out.2.1.free 2
          have z0 := HV3.out.2.1.cell0
          have z1 := HV3.out.2.1.cell1
          have z2 := HV3.out.2.1.cell2
          clear hE
          go_wp2
          refine bodyPost_ret (v := .tuple #[.agg #[.int .i64 (ra), .int .i64 (rb), .string ⟨#[]⟩], .int .i64 (rc)]) (by simp [results, Tryd.results15, go_sem, q0, q1, q2]) rfl ?_
          rw [HA.out]
          exact ⟨rfl, HE.out⟩

end Go.Proofs.YtfakbbbkfmnnhaaDoor
