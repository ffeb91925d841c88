/-
  OpBack: an op that may be is read as it was written.
  No conditions.
-/
import Derived.Test.YtjaojhhcpggcpaaOLawKit
namespace Go.Proofs.Ytjaojhhcpggcpaa
open Go.RowKit

set_option maxRecDepth 100000 in
set_option maxHeartbeats 8000000 in
theorem opBack_walk (x : Opp) (q : Option Addr) (c : Nat) (w : World) (hpa : Pa w x q c) :
    Calls Try.prog 3 #[.agg (opA x q c)] w (Yes w) := by
  have HX := Lib.hid (OpAt.new w x q c 28)
  have HB := Lib.hid ((Below.refl w.heap.size w).alloc (Nat.le_refl _) (.cells (opA x q c) 28))
  have HPA := Lib.hid (hpa.kept ((Below.refl w.heap.size w).alloc (Nat.le_refl _) (.cells (opA x q c) 28)))
  have HLO := Lib.hid (fun W => long_any x q c W)
  have hx := HX.out
  clear hpa
  cases hl : longB x with
  | true =>
    rw [hl] at HLO
    go_enter Try.func3, Try.ntmps3
    go_wp2_with (refine wpList_load_op otR rfl _ rfl _ rfl _ _ _ (by assumption) ?_)
    refine (HLO.out _).mono ?_
    rintro e w1 ⟨rfl, hb1⟩
    replace HB := Lib.hid (HB.out.trans (hb1.mono HB.out.size))
    clear hb1
    go_wp2_with fail
    refine (oknows_any _).mono ?_
    rintro e w2 ⟨rfl, hb2⟩
    replace HB := Lib.hid (HB.out.trans (hb2.mono HB.out.size))
    clear hb2
    go_wp2
    go_ret
    exact ⟨rfl, HB.out⟩
  | false =>
    rw [hl] at HLO
    have HSZ := Lib.hid (long_sz hl)
    have HLN := Lib.hid (long_no hl)
    clear hl
    go_enter Try.func3, Try.ntmps3
    go_wp2_with (refine wpList_load_op otR rfl _ rfl _ rfl _ _ _ (by assumption) ?_)
    refine (HLO.out _).mono ?_
    rintro e w1 ⟨rfl, hb1⟩
    replace HX := Lib.hid (HX.out.kept hb1)
    replace HPA := Lib.hid (HPA.out.kept hb1)
    replace HB := Lib.hid (HB.out.trans (hb1.mono HB.out.size))
    clear hb1 hx
    have hx := HX.out
    go_wp2_with (refine wpList_load_op otR rfl _ rfl _ rfl _ _ _ (by assumption) ?_)
    refine (own_any x q c _ HPA.out (by have := HLN.out.1; omega)).mono ?_
    rintro e w2 ⟨q2, c2, rfl, hp2, hb2⟩
    replace HX := Lib.hid (HX.out.kept hb2)
    replace HPA := Lib.hid (HPA.out.kept hb2)
    replace HB := Lib.hid (HB.out.trans (hb2.mono HB.out.size))
    have HP2 := Lib.hid hp2
    clear hb2 hx hp2
    go_wp2_with fail
    refine (oput_any x q2 c2 _ HSZ.out HP2.out).mono ?_
    cases hr : rightO x with
    | false =>
      rw [putO_err hr]
      rintro e w3 ⟨v3, rfl, hown, hb3⟩
      dsimp only at hown
      obtain ⟨p3, c3, rfl, -⟩ := hown.bs
      replace HX := Lib.hid (HX.out.kept hb3)
      replace HPA := Lib.hid (HPA.out.kept hb3)
      replace HB := Lib.hid (HB.out.trans (hb3.mono HB.out.size))
      have HRR := Lib.hid hr
      clear hown hb3 hr
      go_wp2_with fail
      refine (onum_any _ _).mono ?_
      rintro e w' ⟨rfl, rfl⟩
      have hx := HX.out
      go_wp2_with (refine wpList_load_op otR rfl _ rfl _ rfl _ _ _ (by assumption) ?_)
      refine (own_any x q c _ HPA.out (by have := HLN.out.1; omega)).mono ?_
      rintro e w4 ⟨q4, c4, rfl, hp4, hb4⟩
      replace HB := Lib.hid (HB.out.trans (hb4.mono HB.out.size))
      have HP4 := Lib.hid hp4
      clear hb4 hx hp4
      go_wp2_with fail
      refine (oright_any x q4 c4 _ HSZ.out HP4.out).mono ?_
      rw [HRR.out]
      rintro e w5 ⟨rfl, hb5⟩
      replace HB := Lib.hid (HB.out.trans (hb5.mono HB.out.size))
      clear hb5
      go_wp2_with fail
      refine (oknows_any _).mono ?_
      rintro e w6 ⟨rfl, hb6⟩
      replace HB := Lib.hid (HB.out.trans (hb6.mono HB.out.size))
      clear hb6
      go_wp2
      go_ret
      exact ⟨rfl, HB.out⟩
    | true =>
      rw [putO_ok hr]
      have HTK := Lib.hid (takeO_back hr [])
      rw [List.append_nil] at HTK
      have HRR := Lib.hid hr
      rintro e w3 ⟨v3, rfl, hown, hb3⟩
      dsimp only at hown
      obtain ⟨p3, c3, rfl, hbs, -, -, hpn, -⟩ := hown.bs
      replace HX := Lib.hid (HX.out.kept hb3)
      replace HPA := Lib.hid (HPA.out.kept hb3)
      replace HB := Lib.hid (HB.out.trans (hb3.mono HB.out.size))
      have HBS := Lib.hid hbs
      have hol := opB_len hr
      have HNE := Lib.hid (show opB x ≠ [] from by unfold opB Wm.numB; simp)
      have HPN := Lib.hid hpn
      clear hown hb3 hbs hpn hr
      generalize opB x = bs at *
      go_wp2_with fail
      refine (onum_any _ _).mono ?_
      rintro e w' ⟨rfl, rfl⟩
      go_wp2_with fail
      refine (open_any p3 c3 bs _ HBS.out (by omega) (fun h => ⟨HPN.out h, by obtain ⟨b, o, e, -⟩ := HBS.out (by cases bs with | nil => exact absurd rfl HNE.out | cons => simp); rw [h] at e; cases e⟩)).mono ?_
      rintro e w4 ⟨b, rfl, hr, hb4⟩
      have HR := Lib.hid (show RdS w4 _ b (bs, 0) from hr)
      have hbw : w3.heap.size ≤ b := hr.1
      have HB4 := Lib.hid hb4
      clear hr hb4
      go_wp2_with fail
      refine (otake_any _ b (bs, 0) _ HR.out (by dsimp only; omega)).mono ?_
      rw [HTK.out]
      rintro e w5 ⟨q5, c5, rfl, hp5, hr5, ho⟩
      have hb5 := ho.below HB4.out hbw HB4.out.size
      replace HX := Lib.hid (HX.out.kept hb5)
      replace HPA := Lib.hid (HPA.out.kept hb5)
      replace HB := Lib.hid (HB.out.trans (hb5.mono HB.out.size))
      have HP5 := Lib.hid hp5
      have HR5 := Lib.hid hr5
      clear hp5 hr5 ho hb5 HB4 HR
      go_wp2_with (refine wpList_store_newop otP rfl _ _ rfl rfl _ rfl _ _ _ rfl ?_; intro w6 hv6 hb6)
      replace HX := Lib.hid (HX.out.kept hb6)
      replace HPA := Lib.hid (HPA.out.kept hb6)
      replace HB := Lib.hid (HB.out.trans (hb6.mono HB.out.size))
      replace HP5 := Lib.hid (HP5.out.kept hb6)
      replace HR5 := Lib.hid (HR5.out.kept hb6)
      have HV6 := Lib.hid hv6
      clear hv6 hb6
      go_wp2
      refine wp_region_held_drew (S := Bel w6) (by kernel_rfl) (Bel.start w6) (fun hS => ?_)
      refine wpAnyH_take (i := 0) (v := .agg (opA _ _ _)) rfl (by kernel_rfl) (by kernel_rfl) (by kernel_rfl) (fun _ _ _ h => h) (Or.inl ⟨by kernel_rfl, fun W hSW => exec_load_op otP rfl rfl (HV6.out.bel hSW)⟩) hS ?_
      refine wpAnyH_take (i := 1) (v := .agg (opA _ _ _)) rfl (by kernel_rfl) (by kernel_rfl) (by kernel_rfl) (fun _ _ _ h => h) (Or.inl ⟨by kernel_rfl, fun W hSW => exec_load_op otR rfl rfl (HX.out.bel hSW)⟩) hS ?_
      refine wpAnyH_ready (rs := [2]) (by kernel_rfl) (by simp) ?_
      refine AllReadyH.cons rfl (fun K hK => ?_) AllReadyH.nil
      go_simp
      go_wp2_with ((go_at_call 9; refine (own_any x q c _ (HPA.out.bel hS) (by have := HLN.out.1; omega)).mono ?_; rintro e wn ⟨q7, c7, rfl, hp7, hbn⟩))
      refine hK.out _ _ (hS.trans hbn) (fun hS => ?_)
      clear hK K
      refine wpAnyH_ready (rs := [3]) (by kernel_rfl) (by simp) ?_
      refine AllReadyH.cons rfl (fun K hK => ?_) AllReadyH.nil
      go_simp
      go_wp2_with ((go_at_call 14; refine (same_any x x _ _ _ _ _ HSZ.out (HP5.out.bel hS) hp7).mono ?_; rintro e wn ⟨rfl, hbn⟩))
      refine hK.out _ _ (hS.trans hbn) (fun hS => ?_)
      clear hK K
      rw [sameO_refl]
      refine wpAnyH_take (i := 4) (v := ?_) rfl (by kernel_rfl) (by kernel_rfl) (by kernel_rfl) (fun _ _ _ h => h) (Or.inl ⟨by kernel_rfl, ?_⟩) hS ?_
      rotate_left
      · intro W hSW
        go_simp
        all_goals with_reducible rfl
      refine wpAnyH_take (i := 5) (v := ?_) rfl (by kernel_rfl) (by kernel_rfl) (by kernel_rfl) (fun _ _ _ h => h) (Or.inl ⟨by kernel_rfl, ?_⟩) hS ?_
      rotate_left
      · intro W hSW
        go_simp
        all_goals with_reducible rfl
      refine wpAnyH_ready (rs := [6]) (by kernel_rfl) (by simp) ?_
      refine AllReadyH.cons rfl (fun K hK => ?_) AllReadyH.nil
      go_simp
      go_wp2_with ((go_at_call 15; refine (dones_any _ b ([], 0) _ (HR5.out.bel hS)).mono ?_; rintro e wn ⟨rfl, hbn⟩))
      refine hK.out _ _ (hS.trans hbn) (fun hS => ?_)
      clear hK K
      refine wpAnyH_ready (rs := [7]) (by kernel_rfl) (by simp) ?_
      refine AllReadyH.cons rfl (fun K hK => ?_) AllReadyH.nil
      go_simp
      go_wp2_with ((go_at_call 10; refine (onumb_any _ _).mono ?_; rintro e wn ⟨rfl, hbn⟩))
      refine hK.out _ _ (hS.trans hbn) (fun hS => ?_)
      clear hK K
      refine wpAnyH_take (i := 8) (v := ?_) rfl (by kernel_rfl) (by kernel_rfl) (by kernel_rfl) (fun _ _ _ h => h) (Or.inl ⟨by kernel_rfl, ?_⟩) hS ?_
      rotate_left
      · intro W hSW
        go_simp
        all_goals with_reducible rfl
      refine wpAnyH_take (i := 9) (v := ?_) rfl (by kernel_rfl) (by kernel_rfl) (by kernel_rfl) (fun _ _ _ h => h) (Or.inl ⟨by kernel_rfl, ?_⟩) hS ?_
      rotate_left
      · intro W hSW
        go_simp
        all_goals with_reducible rfl
      refine wpAnyH_take (i := 10) (v := ?_) rfl (by kernel_rfl) (by kernel_rfl) (by kernel_rfl) (fun _ _ _ h => h) (Or.inl ⟨by kernel_rfl, ?_⟩) hS ?_
      rotate_left
      · intro W hSW
        go_simp
        all_goals with_reducible rfl
      refine wpAnyH_take (i := 11) (v := .agg (opA _ _ _)) rfl (by kernel_rfl) (by kernel_rfl) (by kernel_rfl) (fun _ _ _ h => h) (Or.inl ⟨by kernel_rfl, fun W hSW => exec_load_op otP rfl rfl (HV6.out.bel hSW)⟩) hS ?_
      refine wpAnyH_ready (rs := [12]) (by kernel_rfl) (by simp) ?_
      refine AllReadyH.cons rfl (fun K hK => ?_) AllReadyH.nil
      go_simp
      go_wp2_with ((go_at_call 11; refine (oright_any x _ _ _ HSZ.out (HP5.out.bel hS)).mono ?_; rintro e wn ⟨rfl, hbn⟩))
      refine hK.out _ _ (hS.trans hbn) (fun hS => ?_)
      clear hK K
      rw [HRR.out]
      refine wpAnyH_take (i := 13) (v := ?_) rfl (by kernel_rfl) (by kernel_rfl) (by kernel_rfl) (fun _ _ _ h => h) (Or.inl ⟨by kernel_rfl, ?_⟩) hS ?_
      rotate_left
      · intro W hSW
        go_simp
        all_goals with_reducible rfl
      refine wpAnyH_take (i := 14) (v := ?_) rfl (by kernel_rfl) (by kernel_rfl) (by kernel_rfl) (fun _ _ _ h => h) (Or.inl ⟨by kernel_rfl, ?_⟩) hS ?_
      rotate_left
      · intro W hSW
        go_simp
        all_goals with_reducible rfl
      refine wpAnyH_ready (rs := [15]) (by kernel_rfl) (by simp) ?_
      refine AllReadyH.cons rfl (fun K hK => ?_) AllReadyH.nil
      go_simp
      go_wp2_with ((go_at_call 7; refine (oknows_any _).mono ?_; rintro e wn ⟨rfl, hbn⟩))
      refine hK.out _ _ (hS.trans hbn) (fun hS => ?_)
      clear hK K
      refine wpAnyH_take (i := 16) (v := ?_) rfl (by kernel_rfl) (by kernel_rfl) (by kernel_rfl) (fun _ _ _ h => h) (Or.inl ⟨by kernel_rfl, ?_⟩) hS ?_
      rotate_left
      · intro W hSW
        go_simp
        all_goals with_reducible rfl
      refine wpAnyH_take (i := 17) (v := ?_) rfl (by kernel_rfl) (by kernel_rfl) (by kernel_rfl) (fun _ _ _ h => h) (Or.inl ⟨by kernel_rfl, ?_⟩) hS ?_
      rotate_left
      · intro W hSW
        go_simp
        all_goals with_reducible rfl
      have HS := Lib.hid hS
      refine wpAnyH_done (by kernel_rfl) ?_ _
      go_simp
      go_wp2
      go_ret
      exact ⟨rfl, HB.out.trans (Below.mono HS.out HB.out.size)⟩
end Go.Proofs.Ytjaojhhcpggcpaa
