/-
  BatchStamps: the stamps of a batch rise by one from place to place.
  No conditions.
-/
import Derived.Test.YthpdphlkmleldaaBtKnow
import Derived.Test.YthpdphlkmleldaaGH
namespace Go.Proofs.Ythpdphlkmleldaa
open Go.RowKit

set_option maxRecDepth 100000 in
set_option maxHeartbeats 8000000 in
theorem batchStamps_walk (x : Bat) (p : Option Addr) (c : Nat) (w : World) (h : Bops w x p c) :
    Calls Try.prog 4 #[.agg (btA x p c)] w (Yes w) := by
  have HX := Lib.hid (AgAt.new w (btA x p c) 24)
  have HB := Lib.hid ((Below.refl w.heap.size w).alloc (Nat.le_refl _) (.cells (btA x p c) 24))
  have HBO := Lib.hid (h.kept HB.out)
  have HLI := Lib.hid (fun W (hb : Below w.heap.size w W) => light_any x p c W (h.kept hb))
  have HOW := Lib.hid (fun W (hb : Below w.heap.size w W) (h1 : x.ops.length ≤ 5000) (h2 : ∀ y, y ∈ x.ops → y.path.length ≤ 5000) => bown_any x p c W (h.kept hb) h1 h2)
  have hx := HX.out
  clear h
  cases hl : lightT x with
  | false =>
    rw [hl] at HLI
    go_enter Try.func4, Try.ntmps4
    go_wp2_with (refine wpList_load_ag btR (by kernel_rfl) _ rfl _ rfl (A := btA x p c) rfl (by assumption) ?_)
    refine (HLI.out _ HB.out).mono ?_
    rintro e w1 ⟨rfl, hb1⟩
    replace HB := Lib.hid (HB.out.trans (hb1.mono HB.out.size))
    clear hb1
    go_wp2_with fail
    refine (bknows_any _).mono ?_
    rintro e w2 ⟨rfl, hb2⟩
    replace HB := Lib.hid (HB.out.trans (hb2.mono HB.out.size))
    clear hb2
    go_wp2
    go_ret
    exact ⟨rfl, HB.out⟩
  | true =>
    rw [hl] at HLI
    have HSZ := Lib.hid (light_szs hl)
    have HLN := Lib.hid (light_len hl)
    have HPL := Lib.hid (light_path hl)
    clear hl
    go_enter Try.func4, Try.ntmps4
    go_wp2_with (refine wpList_load_ag btR (by kernel_rfl) _ rfl _ rfl (A := btA x p c) rfl (by assumption) ?_)
    refine (HLI.out _ HB.out).mono ?_
    rintro e w1 ⟨rfl, hb1⟩
    replace HX := Lib.hid (HX.out.kept hb1)
    replace HBO := Lib.hid (HBO.out.kept hb1)
    replace HB := Lib.hid (HB.out.trans (hb1.mono HB.out.size))
    clear hb1 hx
    have hx := HX.out
    go_wp2_with (refine wpList_load_ag btR (by kernel_rfl) _ rfl _ rfl (A := btA x p c) rfl (by assumption) ?_)
    refine (HOW.out _ HB.out (by have := HLN.out; omega) (fun y hy => by have := HPL.out y hy; omega)).mono ?_
    rintro e w2 ⟨p2, c2, rfl, hbo2, hb2⟩
    replace HX := Lib.hid (HX.out.kept hb2)
    replace HB := Lib.hid (HB.out.trans (hb2.mono HB.out.size))
    replace HBO := Lib.hid hbo2.bops
    clear hb2 hx hbo2
    go_wp2_with (first | (refine wpList_store_newag btP rfl _ _ rfl rfl _ rfl rfl rfl (btA_one _ _ _) ?_; intro w3 hv3 hb3; obtain ⟨y0, y1, y2, y3⟩ := BtAt.cells hv3) | (refine wpList_load_ag btP (by kernel_rfl) _ rfl _ rfl (A := btA x p2 c2) rfl (by assumption) ?_))
    clear y0 y1 y2 y3
    replace HX := Lib.hid (HX.out.kept hb3)
    replace HB := Lib.hid (HB.out.trans (hb3.mono HB.out.size))
    replace HBO := Lib.hid (HBO.out.kept hb3)
    have HV := Lib.hid hv3
    clear hb3 hv3
    have HRI := Lib.hid (fun W (hS : Bel w3 W) => bright_any x p2 c2 W HSZ.out (HBO.out.kept hS))
    have HST := Lib.hid (fun i W (hS : Bel w3 W) hi => bstamp_any x p2 c2 i W HSZ.out (HBO.out.kept hS) hi)
    have HEN := Lib.hid (fun W (hS : Bel w3 W) => bend_any x p2 c2 W HSZ.out (HBO.out.kept hS))
    cases hr : rightT x with
    | false =>
      rw [hr] at HRI
      have HZ := Lib.hid (show ∀ i, stampT x i = (0, 0) from fun i => stampT_no (by rw [hr]; simp))
      have HEZ := Lib.hid (show endT x = (0, 0) from HZ.out _)
      clear hr
      refine (HRI.out _ (Below.refl _ _)).mono ?_
      rintro e w4 ⟨rfl, hb4⟩
      have HB4 := Lib.hid hb4
      have hv4 := HV.out.kept hb4
      clear hb4
      go_wp2_with (refine wpList_load_ag btP (by kernel_rfl) _ rfl _ rfl (A := btA x p2 c2) rfl (by assumption) ?_)
      refine (HEN.out _ HB4.out).mono ?_
      rw [HEZ.out]
      rintro e w5 ⟨rfl, hb5⟩
      have HB5 := Lib.hid (HB4.out.trans (hb5.mono HB4.out.size))
      have hv5 := HV.out.kept HB5.out
      clear hb5 hv4
      go_wp2_with (refine wpList_load_ag btP (by kernel_rfl) _ rfl _ rfl (A := btA x p2 c2) rfl (by assumption) ?_)
      refine (HST.out 0 _ HB5.out (by decide)).mono ?_
      rw [HZ.out]
      rintro e w6 ⟨rfl, hb6⟩
      have HB6 := Lib.hid (HB5.out.trans (hb6.mono HB5.out.size))
      clear hb6 hv5
      go_wp2_with fail
      refine (bknows_any _).mono ?_
      rintro e w7 ⟨rfl, hb7⟩
      have HB7 := Lib.hid (HB6.out.trans (hb7.mono HB6.out.size))
      clear hb7
      go_wp2
      go_ret
      exact ⟨rfl, HB.out.trans (HB7.out.mono HB.out.size)⟩
    | true =>
      rw [hr] at HRI
      have HF := Lib.hid (rightT_iff.1 hr)
      have hn64 := HF.out.2.2.1
      have ht1 := HF.out.2.2.2.1
      have HSY := Lib.hid (show ∀ k : Nat, k < x.ops.length → stampT x k = (x.t + k, x.r) from fun k hk => stampT_yes ⟨by omega, by omega, hr⟩)
      have HSN := Lib.hid (show ∀ i : Int, ¬ (0 ≤ i ∧ i < x.ops.length) → stampT x i = (0, 0) from fun i hi => stampT_no (fun hh => hi ⟨hh.1, hh.2.1⟩))
      have HE := Lib.hid (show endT x = stampT x ((x.ops.length : Int) - 1) from rfl)
      clear hr
      refine (HRI.out _ (Below.refl _ _)).mono ?_
      rintro e w4 ⟨rfl, hb4⟩
      have HB4 := Lib.hid (show Bel w3 w4 from hb4)
      clear hb4
      go_wp2
      go_loopw [5] (fun i wr => ∃ k : Nat, k ≤ x.ops.length ∧ i = .int .i64 (k : Int) ∧ Bel w3 wr) (fun i _ => x.ops.length - (intOf i).toNat)
      case atStart => exact ⟨0, Nat.zero_le _, rfl, HB4.out⟩
      case round =>
        obtain ⟨k, hk, rfl, hbw⟩ := hrel
        have HBW := Lib.hid hbw
        clear hbw
        by_cases hlt : k < x.ops.length
        · have hv := HV.out.kept HBW.out
          have d0 : decide ((k : Int) < (x.ops.length : Int)) = true := decide_eq_true (by omega)
          have HS := Lib.hid (HST.out (k : Int) wr HBW.out (by omega))
          rw [HSY.out k hlt] at HS
          go_wp2_with (refine wpList_load_ag btP (by kernel_rfl) _ rfl _ rfl (A := btA x p2 c2) rfl (by assumption) ?_)
          refine HS.out.mono ?_
          rintro e w5 ⟨rfl, hb5⟩
          dsimp only
          have hb6 := (Below.refl w5.heap.size w5).alloc (Nat.le_refl _) (.cells #[.int .i64 (x.t + (k : Int)), .int .i64 x.r] 46)
          have HB6 := Lib.hid (HBW.out.trans (hb5.trans (hb6.mono hb5.size)))
          have HZ := Lib.hid (AgAt.new w5 #[.int .i64 (x.t + (k : Int)), .int .i64 x.r] 46)
          have z0 : (w5.alloc (.cells #[.int .i64 (x.t + (k : Int)), .int .i64 x.r] 46)).cell? ⟨w5.heap.size, 0, none⟩ = some (.int .i64 (x.t + (k : Int))) := by rw [AgAt.cell HZ.out 0]; rfl
          have z1 : (w5.alloc (.cells #[.int .i64 (x.t + (k : Int)), .int .i64 x.r] 46)).cell? ⟨w5.heap.size, 1, none⟩ = some (.int .i64 x.r) := by rw [AgAt.cell HZ.out 1]; rfl
          obtain ⟨x0, x1, x2, x3⟩ := BtAt.cells (HX.out.kept HB6.out)
          have hwr : IntKind.i64.wrap (x.t + (k : Int)) = x.t + (k : Int) := by rw [IntKind.wrap_i64]; omega
          have e1 : decide ((1099511627776 : Int) < x.t + (k : Int)) = false := decide_eq_false (by omega)
          have e2 : decide (x.t + (k : Int) < 1) = false := decide_eq_false (by omega)
          clear hb5 hb6 hv
          go_wp2
          go_roundw
          case rel => exact ⟨k + 1, by omega, by go_num, HB6.out⟩
          case measure => simp [intOf]; omega
        · obtain rfl : k = x.ops.length := by omega
          have d0 : decide ((x.ops.length : Int) < (x.ops.length : Int)) = false := decide_eq_false (by omega)
          have hwr : IntKind.i64.wrap ((x.ops.length : Int) - 1) = (x.ops.length : Int) - 1 := by rw [IntKind.wrap_i64]; omega
          have HEC := Lib.hid (fun W (hS : Bel wr W) => HEN.out W (HBW.out.trans hS))
          rw [HE.out] at HEC
          have HSC := Lib.hid (fun W (hS : Bel wr W) => HST.out ((x.ops.length : Int) - 1) W (HBW.out.trans hS) (by omega))
          have HSD := Lib.hid (fun W (hS : Bel wr W) => HST.out (x.ops.length : Int) W (HBW.out.trans hS) (by omega))
          have HSE := Lib.hid (fun W (hS : Bel wr W) => HST.out (-1) W (HBW.out.trans hS) (by omega))
          rw [HSN.out (x.ops.length : Int) (by omega)] at HSD
          rw [HSN.out (-1) (by omega)] at HSE
          generalize stampT x ((x.ops.length : Int) - 1) = se at *
          obtain ⟨e1, e2⟩ := se
          dsimp only at HEC HSC HSD HSE
          have HV2 := Lib.hid (HV.out.kept HBW.out)
          go_wp2
          refine wp_region_held_drew (S := Bel wr) (by kernel_rfl) (Bel.start wr) (fun hS => ?_)
          refine wpAnyH_take (i := 0) (v := .agg (btA _ _ _)) rfl (by kernel_rfl) (by kernel_rfl) (by kernel_rfl) (fun _ _ _ h => h) (Or.inl ⟨by kernel_rfl, fun W hSW => exec_load_ag btP rfl rfl rfl (AgAt.kept HV2.out hSW)⟩) hS ?_
          refine wpAnyH_take (i := 2) (v := .agg (btA _ _ _)) rfl (by kernel_rfl) (by kernel_rfl) (by kernel_rfl) (fun _ _ _ h => h) (Or.inl ⟨by kernel_rfl, fun W hSW => exec_load_ag btP rfl rfl rfl (AgAt.kept HV2.out hSW)⟩) hS ?_
          refine wpAnyH_take (i := 3) (v := ?_) rfl (by kernel_rfl) (by kernel_rfl) (by kernel_rfl) (fun _ _ _ h => h) (Or.inl ⟨by kernel_rfl, ?_⟩) hS ?_
          rotate_left
          · intro W hSW
            go_simp
            all_goals with_reducible rfl
          refine wpAnyH_take (i := 4) (v := ?_) rfl (by kernel_rfl) (by kernel_rfl) (by kernel_rfl) (fun _ _ _ h => h) (Or.inl ⟨by kernel_rfl, ?_⟩) hS ?_
          rotate_left
          · intro W hSW
            go_simp
            all_goals with_reducible rfl
          go_simp
          refine wpAnyH_ready (rs := [1]) (by kernel_rfl) (by simp) ?_
          refine AllReadyH.cons rfl (fun K hK => ?_) AllReadyH.nil
          go_simp
          go_wp2_with ((go_at_call 18; refine (HEC.out _ hS).mono ?_; rintro e wn ⟨rfl, hbn⟩))
          refine hK.out _ _ (hS.trans hbn) (fun hS => ?_)
          clear hK K
          refine wpAnyH_ready (rs := [5]) (by kernel_rfl) (by simp) ?_
          refine AllReadyH.cons rfl (fun K hK => ?_) AllReadyH.nil
          go_simp
          go_wp2_with ((go_at_call 19; refine (HSC.out _ hS).mono ?_; rintro e wn ⟨rfl, hbn⟩))
          refine hK.out _ _ (hS.trans hbn) (fun hS => ?_)
          clear hK K
          refine wpAnyH_take (i := 6) (v := ?_) rfl (by kernel_rfl) (by kernel_rfl) (by kernel_rfl) (fun _ _ _ h => h) (Or.inl ⟨by kernel_rfl, ?_⟩) hS ?_
          rotate_left
          · intro W hSW
            go_simp
            all_goals with_reducible rfl
          refine wpAnyH_take (i := 7) (v := ?_) rfl (by kernel_rfl) (by kernel_rfl) (by kernel_rfl) (fun _ _ _ h => h) (Or.inl ⟨by kernel_rfl, ?_⟩) hS ?_
          rotate_left
          · intro W hSW
            go_simp
            all_goals with_reducible rfl
          go_simp
          refine wpAnyH_take (i := 8) (v := .agg (btA _ _ _)) rfl (by kernel_rfl) (by kernel_rfl) (by kernel_rfl) (fun _ _ _ h => h) (Or.inl ⟨by kernel_rfl, fun W hSW => exec_load_ag btP rfl rfl rfl (AgAt.kept HV2.out hSW)⟩) hS ?_
          refine wpAnyH_take (i := 9) (v := ?_) rfl (by kernel_rfl) (by kernel_rfl) (by kernel_rfl) (fun _ _ _ h => h) (Or.inl ⟨by kernel_rfl, ?_⟩) hS ?_
          rotate_left
          · intro W hSW
            go_simp
            all_goals with_reducible rfl
          refine wpAnyH_take (i := 11) (v := ?_) rfl (by kernel_rfl) (by kernel_rfl) (by kernel_rfl) (fun _ _ _ h => h) (Or.inl ⟨by kernel_rfl, ?_⟩) hS ?_
          rotate_left
          · intro W hSW
            go_simp
            all_goals with_reducible rfl
          go_simp
          refine wpAnyH_ready (rs := [10]) (by kernel_rfl) (by simp) ?_
          refine AllReadyH.cons rfl (fun K hK => ?_) AllReadyH.nil
          go_simp
          go_wp2_with ((go_at_call 19; refine (HSD.out _ hS).mono ?_; rintro e wn ⟨rfl, hbn⟩))
          refine hK.out _ _ (hS.trans hbn) (fun hS => ?_)
          clear hK K
          refine wpAnyH_take (i := 12) (v := ?_) rfl (by kernel_rfl) (by kernel_rfl) (by kernel_rfl) (fun _ _ _ h => h) (Or.inl ⟨by kernel_rfl, ?_⟩) hS ?_
          rotate_left
          · intro W hSW
            go_simp
            all_goals with_reducible rfl
          refine wpAnyH_take (i := 13) (v := ?_) rfl (by kernel_rfl) (by kernel_rfl) (by kernel_rfl) (fun _ _ _ h => h) (Or.inl ⟨by kernel_rfl, ?_⟩) hS ?_
          rotate_left
          · intro W hSW
            go_simp
            all_goals with_reducible rfl
          refine wpAnyH_take (i := 14) (v := ?_) rfl (by kernel_rfl) (by kernel_rfl) (by kernel_rfl) (fun _ _ _ h => h) (Or.inl ⟨by kernel_rfl, ?_⟩) hS ?_
          rotate_left
          · intro W hSW
            go_simp
            all_goals with_reducible rfl
          go_simp
          refine wpAnyH_take (i := 15) (v := .agg (btA _ _ _)) rfl (by kernel_rfl) (by kernel_rfl) (by kernel_rfl) (fun _ _ _ h => h) (Or.inl ⟨by kernel_rfl, fun W hSW => exec_load_ag btP rfl rfl rfl (AgAt.kept HV2.out hSW)⟩) hS ?_
          refine wpAnyH_take (i := 17) (v := ?_) rfl (by kernel_rfl) (by kernel_rfl) (by kernel_rfl) (fun _ _ _ h => h) (Or.inl ⟨by kernel_rfl, ?_⟩) hS ?_
          rotate_left
          · intro W hSW
            go_simp
            all_goals with_reducible rfl
          refine wpAnyH_ready (rs := [16]) (by kernel_rfl) (by simp) ?_
          refine AllReadyH.cons rfl (fun K hK => ?_) AllReadyH.nil
          go_simp
          go_wp2_with ((go_at_call 19; refine (HSE.out _ hS).mono ?_; rintro e wn ⟨rfl, hbn⟩))
          refine hK.out _ _ (hS.trans hbn) (fun hS => ?_)
          clear hK K
          refine wpAnyH_take (i := 18) (v := ?_) rfl (by kernel_rfl) (by kernel_rfl) (by kernel_rfl) (fun _ _ _ h => h) (Or.inl ⟨by kernel_rfl, ?_⟩) hS ?_
          rotate_left
          · intro W hSW
            go_simp
            all_goals with_reducible rfl
          refine wpAnyH_take (i := 19) (v := ?_) rfl (by kernel_rfl) (by kernel_rfl) (by kernel_rfl) (fun _ _ _ h => h) (Or.inl ⟨by kernel_rfl, ?_⟩) hS ?_
          rotate_left
          · intro W hSW
            go_simp
            all_goals with_reducible rfl
          refine wpAnyH_take (i := 20) (v := ?_) rfl (by kernel_rfl) (by kernel_rfl) (by kernel_rfl) (fun _ _ _ h => h) (Or.inl ⟨by kernel_rfl, ?_⟩) hS ?_
          rotate_left
          · intro W hSW
            go_simp
            all_goals with_reducible rfl
          go_simp
          refine wpAnyH_ready (rs := [21]) (by kernel_rfl) (by simp) ?_
          refine AllReadyH.cons rfl (fun K hK => ?_) AllReadyH.nil
          go_simp
          go_wp2_with ((go_at_call 7; refine (bknows_any _).mono ?_; rintro e wn ⟨rfl, hbn⟩))
          refine hK.out _ _ (hS.trans hbn) (fun hS => ?_)
          clear hK K
          refine wpAnyH_take (i := 22) (v := ?_) rfl (by kernel_rfl) (by kernel_rfl) (by kernel_rfl) (fun _ _ _ h => h) (Or.inl ⟨by kernel_rfl, ?_⟩) hS ?_
          rotate_left
          · intro W hSW
            go_simp
            all_goals with_reducible rfl
          refine wpAnyH_take (i := 23) (v := ?_) rfl (by kernel_rfl) (by kernel_rfl) (by kernel_rfl) (fun _ _ _ h => h) (Or.inl ⟨by kernel_rfl, ?_⟩) hS ?_
          rotate_left
          · intro W hSW
            go_simp
            all_goals with_reducible rfl
          go_simp
          have HS := Lib.hid hS
          refine wpAnyH_done (by kernel_rfl) ?_ _
          go_wp2
          go_ret
          exact ⟨rfl, (HB.out.trans (Below.mono HBW.out HB.out.size)).trans (Below.mono HS.out (Nat.le_trans HB.out.size HBW.out.size))⟩
end Go.Proofs.Ythpdphlkmleldaa
