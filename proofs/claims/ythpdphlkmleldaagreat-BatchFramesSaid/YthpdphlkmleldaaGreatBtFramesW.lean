/-
  BatchFrames: any batch as a frame, any bytes as one.
  No conditions but sizes.
-/
import Derived.Test.YthpdphlkmleldaaGreatBtKnow
import Derived.Test.YthpdphlkmleldaaGreatGH
import Derived.Test.YthpdphlkmleldaaGreatR8Put
import Derived.Test.YthpdphlkmleldaaGreatGM
import Derived.Test.YthpdphlkmleldaaGreatGN
import Derived.Test.YthpdphlkmleldaaGreatLent
namespace Go.Proofs.YthpdphlkmleldaaGreat
open Go.RowKit

theorem right_path {x : Opp} (h : rightO x = true) : x.path.length ≤ 8 := by
  obtain ⟨k1, k6⟩ := rightO_kind h
  have hc : x.k = 1 ∨ x.k = 2 ∨ x.k = 3 ∨ x.k = 4 ∨ x.k = 5 ∨ x.k = 6 := by omega
  rcases hc with hk | hk | hk | hk | hk | hk
  · obtain ⟨-, -, e3⟩ := right1 h hk
    rw [e3]; exact Nat.zero_le _
  · obtain ⟨-, -, -, e3⟩ := right2 h hk
    rw [e3]; exact Nat.zero_le _
  · obtain ⟨-, -, e3⟩ := right3 h hk
    rw [e3]; exact Nat.zero_le _
  · obtain ⟨-, e3⟩ := right4 h hk
    rw [e3]; exact Nat.zero_le _
  · obtain ⟨-, -, e3⟩ := right5 h hk
    rw [e3]; exact Nat.zero_le _
  · obtain ⟨-, e1, -, -⟩ := right6 h hk
    exact (okPath_small e1).2.1
theorem takeT_right (s : RS) : rightT (takeT s).1 = true ∨ (takeT s).1 = Bat.zero := by
  unfold takeT endB
  split
  · exact Or.inr rfl
  · split
    · next h => exact Or.inl h
    · exact Or.inr rfl
theorem unframeT_right (l : List UInt8) : rightT (unframeT l).1 = true ∨ (unframeT l).1 = Bat.zero := by
  unfold unframeT
  split
  · exact Or.inr rfl
  · split
    · exact Or.inr rfl
    · exact takeT_right _
theorem bat_small {y : Bat} (h : rightT y = true ∨ y = Bat.zero) : Szs y.ops ∧ y.ops.length ≤ 64 ∧ ∀ z, z ∈ y.ops → z.path.length ≤ 8 := by
  rcases h with h | rfl
  · obtain ⟨-, -, h3, -, h5⟩ := rightT_iff.1 h
    exact ⟨⟨fun z hz => right_szB (h5 z hz), by omega⟩, h3.2, fun z hz => right_path (h5 z hz)⟩
  · exact ⟨⟨fun z hz => (by cases hz), Nat.zero_le _⟩, Nat.zero_le _, fun z hz => (by cases hz)⟩

set_option maxRecDepth 100000 in
set_option maxHeartbeats 8000000 in
theorem batchFrames_walk (x : Bat) (p : Option Addr) (c : Nat) (pi : Option Addr) (ci : Nat) (l : List UInt8) (w : World) (h : Bops w x p c) (hi : Bs w pi l) (hlc : l.length ≤ ci) (hin : pi = none → ci = 0) (_ : l.length ≤ 140737488351232) :
    Calls Tryz.prog 3 #[.agg (btA x p c), .slice pi l.length ci] w (Yes w) := by
  have HX := Lib.hid (AgAt.new w (btA x p c) 24)
  have HB := Lib.hid ((Below.refl w.heap.size w).alloc (Nat.le_refl _) (.cells (btA x p c) 24))
  have HI := Lib.hid (fun W (hb : Below w.heap.size w W) => hi.kept hb)
  have HIN := Lib.hid hin
  have HLC := Lib.hid hlc
  have HBW := Lib.hid (fun W (hb : Below w.heap.size w W) => h.kept hb)
  have HLI := Lib.hid (fun W (hb : Below w.heap.size w W) => light_any x p c W (h.kept hb))
  have HOW := Lib.hid (fun W (hb : Below w.heap.size w W) (h1 : x.ops.length ≤ 5000) (h2 : ∀ y, y ∈ x.ops → y.path.length ≤ 5000) => bown_any x p c W (h.kept hb) h1 h2)
  have hx := HX.out
  clear h hi hin hlc
  cases hl : lightT x with
  | false =>
    rw [hl] at HLI
    go_enter Tryz.func3, Tryz.ntmps3
    go_wp2_with (refine wpList_load_ag btR (by kernel_rfl) _ rfl _ rfl (A := btA x p c) rfl (by assumption) ?_)
    refine (HLI.out _ HB.out).mono ?_
    rintro e w1 ⟨rfl, hb⟩
    replace HB := Lib.hid (HB.out.trans (hb.mono HB.out.size))
    clear hb
    go_wp2_with fail
    refine (bknows_any _).mono ?_
    rintro e w2 ⟨rfl, hb⟩
    replace HB := Lib.hid (HB.out.trans (hb.mono HB.out.size))
    clear hb
    go_wp2
    go_ret
    exact ⟨rfl, HB.out⟩
  | true =>
    rw [hl] at HLI
    have HSX := Lib.hid (light_szs hl)
    have HLN := Lib.hid (light_len hl)
    have HPL := Lib.hid (light_path hl)
    clear hl
    by_cases h9 : 9000 < l.length
    · have d9 : decide ((9000 : Int) < (l.length : Int)) = true := decide_eq_true (by omega)
      generalize l.length = n at *
      go_enter Tryz.func3, Tryz.ntmps3
      go_wp2_with (refine wpList_load_ag btR (by kernel_rfl) _ rfl _ rfl (A := btA x p c) rfl (by assumption) ?_)
      refine (HLI.out _ HB.out).mono ?_
      rintro e w1 ⟨rfl, hb⟩
      replace HB := Lib.hid (HB.out.trans (hb.mono HB.out.size))
      clear hb
      go_wp2_with fail
      refine (bknows_any _).mono ?_
      rintro e w2 ⟨rfl, hb⟩
      replace HB := Lib.hid (HB.out.trans (hb.mono HB.out.size))
      clear hb
      go_wp2
      go_ret
      exact ⟨rfl, HB.out⟩
    · have d9 : decide ((9000 : Int) < (l.length : Int)) = false := decide_eq_false (by omega)
      go_enter Tryz.func3, Tryz.ntmps3
      go_wp2_with (refine wpList_load_ag btR (by kernel_rfl) _ rfl _ rfl (A := btA x p c) rfl (by assumption) ?_)
      refine (HLI.out _ HB.out).mono ?_
      rintro e w1 ⟨rfl, hb⟩
      replace HB := Lib.hid (HB.out.trans (hb.mono HB.out.size))
      replace HX := Lib.hid (HX.out.kept hb)
      clear hb
      clear hx
      go_wp2_with fail
      refine (lent_any pi ci l _ (HI.out _ HB.out) (by omega) HIN.out).mono ?_
      rintro e w2 ⟨g, cap, rfl, hown, hb, hcap⟩
      replace HX := Lib.hid (HX.out.kept hb)
      replace HB := Lib.hid (HB.out.trans (hb.mono HB.out.size))
      have HOL := Lib.hid hown
      have HCAP := Lib.hid hcap
      clear hown hb hcap
      have hx := HX.out
      go_wp2_with (refine wpList_load_ag btR (by kernel_rfl) _ rfl _ rfl (A := btA x p c) rfl (by assumption) ?_)
      refine (HOW.out _ HB.out (by have := HLN.out; omega) (fun y hy => by have := HPL.out y hy; omega)).mono ?_
      rintro e w3 ⟨p3, c3, rfl, hbo3, hb⟩
      replace HX := Lib.hid (HX.out.kept hb)
      replace HB := Lib.hid (HB.out.trans (hb.mono HB.out.size))
      replace HOL := Lib.hid (Own.below HOL.out hb)
      have HFP := Lib.hid (bframe_any x p3 c3 w3 HSX.out hbo3.bops)
      have HRF := Lib.hid (fun W (hb : Below w.heap.size w W) => r8frame_any x p c W HSX.out (HBW.out W hb))
      have HRR := Lib.hid (fun W (hb : Below w.heap.size w W) => r8right_any x p c W HSX.out (HBW.out W hb))
      have HEN := Lib.hid (show (((frameT x).2 : Int) == 0) = rightT x from by
        cases hr : rightT x
        · rw [frameT_err hr]; rfl
        · rw [frameT_ok hr]; rfl)
      generalize rightT x = rx at *
      generalize frameT x = fr at *
      obtain ⟨f, en⟩ := fr
      dsimp only at HEN HRF
      clear hb hx hbo3
      go_wp2_with fail
      refine HFP.out.mono ?_
      rintro e w4 ⟨v4, rfl, hown, hb⟩
      dsimp only at hown
      obtain ⟨p4, c4, rfl, hbs4, -⟩ := hown.bs
      replace HX := Lib.hid (HX.out.kept hb)
      replace HB := Lib.hid (HB.out.trans (hb.mono HB.out.size))
      replace HOL := Lib.hid (Own.below HOL.out hb)
      have HBF := Lib.hid hbs4
      clear hown hb hbs4 HFP
      have hlb : Bs w4 (some ⟨g, 0, none⟩) l := fun h0 => ⟨g, 0, rfl, fun i hi => by
        rw [Nat.zero_add, HOL.out.cell i (by simp; omega), by8_app_l _ _ _ hi]⟩
      have HSM := Lib.hid (bat_small (unframeT_right l))
      have HU := Lib.hid (bunframe_any (some ⟨g, 0, none⟩) l.length cap l w4 rfl hlb (by omega) (by have := HCAP.out; omega))
      have HUR := Lib.hid (fun W (hb : Below w.heap.size w W) => r8unframe_any pi l.length ci l W rfl (HI.out W hb) (by omega) HLC.out)
      generalize unframeT l = u at *
      obtain ⟨y, n, er⟩ := u
      dsimp only at HSM
      clear hlb
      go_wp2_with fail
      refine HU.out.mono ?_
      rintro e w5 ⟨py, cy, rfl, hboy, hb⟩
      replace HX := Lib.hid (HX.out.kept hb)
      replace HB := Lib.hid (HB.out.trans (hb.mono HB.out.size))
      replace HOL := Lib.hid (Own.below HOL.out hb)
      replace HBF := Lib.hid (HBF.out.kept hb)
      have HBY := Lib.hid hboy.bops
      clear hb hboy HU
      go_wp2_with (refine wpList_store_newag btP rfl _ _ rfl rfl _ rfl rfl rfl (btA_one _ _ _) ?_; intro w6 hv6 hb)
      replace HX := Lib.hid (HX.out.kept hb)
      replace HB := Lib.hid (HB.out.trans (hb.mono HB.out.size))
      replace HOL := Lib.hid (Own.below HOL.out hb)
      replace HBF := Lib.hid (HBF.out.kept hb)
      replace HBY := Lib.hid (HBY.out.kept hb)
      have HY := Lib.hid hv6
      clear hb hv6
      refine (HUR.out _ HB.out).mono ?_
      rintro e w6b ⟨pz, cz, rfl, hboz, hb⟩
      replace HX := Lib.hid (HX.out.kept hb)
      replace HB := Lib.hid (HB.out.trans (hb.mono HB.out.size))
      replace HOL := Lib.hid (Own.below HOL.out hb)
      replace HBF := Lib.hid (HBF.out.kept hb)
      replace HBY := Lib.hid (HBY.out.kept hb)
      replace HY := Lib.hid (AgAt.kept HY.out hb)
      have HBZ := Lib.hid hboz
      clear hb hboz HUR
      go_wp2_with (refine wpList_store_newag btR rfl _ _ rfl rfl _ rfl rfl rfl (btA_one _ _ _) ?_; intro w7 hv7 hb)
      replace HX := Lib.hid (HX.out.kept hb)
      replace HB := Lib.hid (HB.out.trans (hb.mono HB.out.size))
      replace HOL := Lib.hid (Own.below HOL.out hb)
      replace HBF := Lib.hid (HBF.out.kept hb)
      replace HBY := Lib.hid (HBY.out.kept hb)
      replace HY := Lib.hid (AgAt.kept HY.out hb)
      replace HBZ := Lib.hid (HBZ.out.kept hb)
      have HZ := Lib.hid hv7
      clear hb hv7
      replace HRF := Lib.hid (fun W (hS : Bel w7 W) => HRF.out W (HB.out.trans (Below.mono hS HB.out.size)))
      replace HRR := Lib.hid (fun W (hS : Bel w7 W) => HRR.out W (HB.out.trans (Below.mono hS HB.out.size)))
      have HSZ := Lib.hid HSM.out.1
      have HRE := Lib.hid (fun W (hS : Bel w7 W) => bref_any y py cy W (HBY.out.kept hS) (by have := HSM.out.2.1; omega) (fun z hz => by have := HSM.out.2.2 z hz; omega))
      have HSTY := Lib.hid (fun W (hS : Bel w7 W) => (stays_any w1.heap.size g cap pi ci l W (Own.below HOL.out hS) HCAP.out (HI.out W (HB.out.trans (Below.mono hS HB.out.size))) (by omega)).mono (R' := fun e w' => e = .returned (.bool true) ∧ Below W.heap.size W w') (fun e w' h => ⟨h.1, by obtain ⟨q, hq⟩ := h.2; rw [hq]; exact below_drewN (Below.refl _ _) q⟩))
      have hen := HEN.out
      clear HEN
      refine wp_region_held_drew (S := Bel w7) (by kernel_rfl) (Bel.start w7) (fun hS => ?_)
      refine wpAnyH_take (i := 0) (v := ?_) rfl (by kernel_rfl) (by kernel_rfl) (by kernel_rfl) (fun _ _ _ h => h) (Or.inl ⟨by kernel_rfl, ?_⟩) hS ?_
      rotate_left
      · intro W hSW
        go_simp
        all_goals with_reducible rfl
      refine wpAnyH_take (i := 1) (v := ?_) rfl (by kernel_rfl) (by kernel_rfl) (by kernel_rfl) (fun _ _ _ h => h) (Or.inl ⟨by kernel_rfl, ?_⟩) hS ?_
      rotate_left
      · intro W hSW
        have k1 := (HBF.out.kept hSW).conv (P := Tryz.prog) c4 25 5 9 Tryz.underlying25 Tryz.underlying5 Tryz.underlying9
        go_simp
        all_goals with_reducible rfl
      refine wpAnyH_take (i := 2) (v := .agg (btA _ _ _)) rfl (by kernel_rfl) (by kernel_rfl) (by kernel_rfl) (fun _ _ _ h => h) (Or.inl ⟨by kernel_rfl, fun W hSW => exec_load_ag btR rfl rfl rfl (AgAt.kept HX.out hSW)⟩) hS ?_
      go_simp
      refine wpAnyH_ready (rs := [3]) (by kernel_rfl) (by simp) ?_
      refine AllReadyH.cons rfl (fun K hK => ?_) AllReadyH.nil
      go_simp
      go_wp2_with ((go_at_call 11; refine (HRF.out _ hS).mono ?_; rintro e wn ⟨v8, rfl, hown, hbn⟩))
      obtain ⟨p8, c8, rfl, hbs8, -⟩ := hown.bs
      have HB8 := Lib.hid hbs8
      clear hown hbs8
      have hS8 := hS.trans hbn
      have HS8 := Lib.hid hS8
      refine hK.out _ _ hS8 (fun hS => ?_)
      clear hK K hS8 hbn
      refine wpAnyH_ready (rs := [4]) (by kernel_rfl) (by simp) ?_
      refine AllReadyH.cons rfl (fun K hK => ?_) AllReadyH.nil
      have k8 := HB8.out.conv (P := Tryz.prog) c8 25 5 9 Tryz.underlying25 Tryz.underlying5 Tryz.underlying9
      go_simp
      refine hK.out _ _ hS (fun hS => ?_)
      clear hK K k8
      refine wpAnyH_take (i := 5) (v := ?_) rfl (by kernel_rfl) (by kernel_rfl) (by kernel_rfl) (fun _ _ _ h => h) (Or.inl ⟨by kernel_rfl, ?_⟩) hS ?_
      rotate_left
      · intro W hSW
        go_simp
        all_goals with_reducible rfl
      refine wpAnyH_take (i := 6) (v := ?_) rfl (by kernel_rfl) (by kernel_rfl) (by kernel_rfl) (fun _ _ _ h => h) (Or.inl ⟨by kernel_rfl, ?_⟩) hS ?_
      rotate_left
      · intro W hSW
        go_simp
        all_goals with_reducible rfl
      go_simp
      refine wpAnyH_take (i := 7) (v := ?_) rfl (by kernel_rfl) (by kernel_rfl) (by kernel_rfl) (fun _ _ _ h => h) (Or.inl ⟨by kernel_rfl, ?_⟩) hS ?_
      rotate_left
      · intro W hSW
        go_simp
        all_goals with_reducible rfl
      refine wpAnyH_take (i := 10) (v := .agg (btA _ _ _)) rfl (by kernel_rfl) (by kernel_rfl) (by kernel_rfl) (fun _ _ _ h => h) (Or.inl ⟨by kernel_rfl, fun W hSW => exec_load_ag btR rfl rfl rfl (AgAt.kept HX.out hSW)⟩) hS ?_
      refine wpAnyH_ready (rs := [8]) (by kernel_rfl) (by simp) ?_
      refine AllReadyH.cons rfl (fun K hK => ?_) AllReadyH.nil
      go_simp
      go_wp2_with ((go_at_call 12; refine (bnum_any _ _).mono ?_; rintro e wn ⟨rfl, hbn⟩))
      refine hK.out _ _ (hS.trans hbn) (fun hS => ?_)
      clear hK K
      refine wpAnyH_take (i := 9) (v := ?_) rfl (by kernel_rfl) (by kernel_rfl) (by kernel_rfl) (fun _ _ _ h => h) (Or.inl ⟨by kernel_rfl, ?_⟩) hS ?_
      rotate_left
      · intro W hSW
        go_simp
        all_goals with_reducible rfl
      go_simp
      refine wpAnyH_ready (rs := [11]) (by kernel_rfl) (by simp) ?_
      refine AllReadyH.cons rfl (fun K hK => ?_) AllReadyH.nil
      go_simp
      go_wp2_with ((go_at_call 13; refine (HRR.out _ hS).mono ?_; rintro e wn ⟨rfl, hbn⟩))
      refine hK.out _ _ (hS.trans hbn) (fun hS => ?_)
      clear hK K
      refine wpAnyH_take (i := 12) (v := ?_) rfl (by kernel_rfl) (by kernel_rfl) (by kernel_rfl) (fun _ _ _ h => h) (Or.inl ⟨by kernel_rfl, ?_⟩) hS ?_
      rotate_left
      · intro W hSW
        go_simp
        all_goals with_reducible rfl
      refine wpAnyH_take (i := 13) (v := ?_) rfl (by kernel_rfl) (by kernel_rfl) (by kernel_rfl) (fun _ _ _ h => h) (Or.inl ⟨by kernel_rfl, ?_⟩) hS ?_
      rotate_left
      · intro W hSW
        go_simp
        all_goals with_reducible rfl
      refine wpAnyH_take (i := 14) (v := ?_) rfl (by kernel_rfl) (by kernel_rfl) (by kernel_rfl) (fun _ _ _ h => h) (Or.inl ⟨by kernel_rfl, ?_⟩) hS ?_
      rotate_left
      · intro W hSW
        go_simp
        all_goals with_reducible rfl
      go_simp
      refine wpAnyH_take (i := 15) (v := .agg (btA _ _ _)) rfl (by kernel_rfl) (by kernel_rfl) (by kernel_rfl) (fun _ _ _ h => h) (Or.inl ⟨by kernel_rfl, fun W hSW => exec_load_ag btP rfl rfl rfl (AgAt.kept HY.out hSW)⟩) hS ?_
      refine wpAnyH_take (i := 17) (v := .agg (btA _ _ _)) rfl (by kernel_rfl) (by kernel_rfl) (by kernel_rfl) (fun _ _ _ h => h) (Or.inl ⟨by kernel_rfl, fun W hSW => exec_load_ag btR rfl rfl rfl (AgAt.kept HZ.out hSW)⟩) hS ?_
      refine wpAnyH_ready (rs := [16]) (by kernel_rfl) (by simp) ?_
      refine AllReadyH.cons rfl (fun K hK => ?_) AllReadyH.nil
      go_simp
      go_wp2_with ((go_at_call 15; refine (HRE.out _ hS).mono ?_; rintro e wn ⟨p9, c9, rfl, hbo9, hbn⟩))
      have HB9 := Lib.hid hbo9.bops
      have HSA := Lib.hid (r8same_any y y p9 pz c9 cz wn HSZ.out hbo9.bops (HBZ.out.kept (hS.trans hbn)))
      rw [sameT_refl] at HSA
      refine hK.out _ _ (hS.trans hbn) (fun hS => ?_)
      clear hK K hbo9 hbn
      refine wpAnyH_ready (rs := [18]) (by kernel_rfl) (by simp) ?_
      refine AllReadyH.cons rfl (fun K hK => ?_) AllReadyH.nil
      go_simp
      go_wp2_with ((go_at_call 14; refine HSA.out.mono ?_; rintro e wn2 ⟨rfl, hbn⟩))
      refine hK.out _ _ (hS.trans hbn) (fun hS => ?_)
      clear hK K HSA HB9
      refine wpAnyH_take (i := 19) (v := ?_) rfl (by kernel_rfl) (by kernel_rfl) (by kernel_rfl) (fun _ _ _ h => h) (Or.inl ⟨by kernel_rfl, ?_⟩) hS ?_
      rotate_left
      · intro W hSW
        go_simp
        all_goals with_reducible rfl
      refine wpAnyH_take (i := 20) (v := ?_) rfl (by kernel_rfl) (by kernel_rfl) (by kernel_rfl) (fun _ _ _ h => h) (Or.inl ⟨by kernel_rfl, ?_⟩) hS ?_
      rotate_left
      · intro W hSW
        go_simp
        all_goals with_reducible rfl
      go_simp
      refine wpAnyH_take (i := 21) (v := ?_) rfl (by kernel_rfl) (by kernel_rfl) (by kernel_rfl) (fun _ _ _ h => h) (Or.inl ⟨by kernel_rfl, ?_⟩) hS ?_
      rotate_left
      · intro W hSW
        go_simp
        all_goals with_reducible rfl
      refine wpAnyH_take (i := 22) (v := ?_) rfl (by kernel_rfl) (by kernel_rfl) (by kernel_rfl) (fun _ _ _ h => h) (Or.inl ⟨by kernel_rfl, ?_⟩) hS ?_
      rotate_left
      · intro W hSW
        go_simp
        all_goals with_reducible rfl
      refine wpAnyH_take (i := 23) (v := ?_) rfl (by kernel_rfl) (by kernel_rfl) (by kernel_rfl) (fun _ _ _ h => h) (Or.inl ⟨by kernel_rfl, ?_⟩) hS ?_
      rotate_left
      · intro W hSW
        go_simp
        all_goals with_reducible rfl
      refine wpAnyH_take (i := 24) (v := ?_) rfl (by kernel_rfl) (by kernel_rfl) (by kernel_rfl) (fun _ _ _ h => h) (Or.inl ⟨by kernel_rfl, ?_⟩) hS ?_
      rotate_left
      · intro W hSW
        go_simp
        all_goals with_reducible rfl
      go_simp
      refine wpAnyH_take (i := 25) (v := ?_) rfl (by kernel_rfl) (by kernel_rfl) (by kernel_rfl) (fun _ _ _ h => h) (Or.inl ⟨by kernel_rfl, ?_⟩) hS ?_
      rotate_left
      · intro W hSW
        go_simp
        all_goals with_reducible rfl
      refine wpAnyH_take (i := 26) (v := ?_) rfl (by kernel_rfl) (by kernel_rfl) (by kernel_rfl) (fun _ _ _ h => h) (Or.inl ⟨by kernel_rfl, ?_⟩) hS ?_
      rotate_left
      · intro W hSW
        go_simp
        all_goals with_reducible rfl
      refine wpAnyH_take (i := 28) (v := ?_) rfl (by kernel_rfl) (by kernel_rfl) (by kernel_rfl) (fun _ _ _ h => h) (Or.inl ⟨by kernel_rfl, ?_⟩) hS ?_
      rotate_left
      · intro W hSW
        go_simp
        all_goals with_reducible rfl
      go_simp
      refine wpAnyH_ready (rs := [27]) (by kernel_rfl) (by simp) ?_
      refine AllReadyH.cons rfl (fun K hK => ?_) AllReadyH.nil
      go_simp
      go_wp2_with ((go_at_call 12; refine (bnum_any _ _).mono ?_; rintro e wn ⟨rfl, hbn⟩))
      refine hK.out _ _ (hS.trans hbn) (fun hS => ?_)
      clear hK K
      refine wpAnyH_take (i := 29) (v := ?_) rfl (by kernel_rfl) (by kernel_rfl) (by kernel_rfl) (fun _ _ _ h => h) (Or.inl ⟨by kernel_rfl, ?_⟩) hS ?_
      rotate_left
      · intro W hSW
        go_simp
        all_goals with_reducible rfl
      refine wpAnyH_take (i := 30) (v := ?_) rfl (by kernel_rfl) (by kernel_rfl) (by kernel_rfl) (fun _ _ _ h => h) (Or.inl ⟨by kernel_rfl, ?_⟩) hS ?_
      rotate_left
      · intro W hSW
        go_simp
        all_goals with_reducible rfl
      refine wpAnyH_take (i := 31) (v := ?_) rfl (by kernel_rfl) (by kernel_rfl) (by kernel_rfl) (fun _ _ _ h => h) (Or.inl ⟨by kernel_rfl, ?_⟩) hS ?_
      rotate_left
      · intro W hSW
        go_simp
        all_goals with_reducible rfl
      go_simp
      refine wpAnyH_take (i := 32) (v := ?_) rfl (by kernel_rfl) (by kernel_rfl) (by kernel_rfl) (fun _ _ _ h => h) (Or.inl ⟨by kernel_rfl, ?_⟩) hS ?_
      rotate_left
      · intro W hSW
        go_simp
        all_goals with_reducible rfl
      refine wpAnyH_take (i := 33) (v := ?_) rfl (by kernel_rfl) (by kernel_rfl) (by kernel_rfl) (fun _ _ _ h => h) (Or.inl ⟨by kernel_rfl, ?_⟩) hS ?_
      rotate_left
      · intro W hSW
        go_simp
        all_goals with_reducible rfl
      go_simp
      refine wpAnyH_ready (rs := [34]) (by kernel_rfl) (by simp) ?_
      refine AllReadyH.cons rfl (fun K hK => ?_) AllReadyH.nil
      go_simp
      go_wp2_with ((go_at_call 16; refine (HSTY.out _ hS).mono ?_; rintro e wn ⟨rfl, hbn⟩))
      refine hK.out _ _ (hS.trans hbn) (fun hS => ?_)
      clear hK K
      refine wpAnyH_take (i := 35) (v := ?_) rfl (by kernel_rfl) (by kernel_rfl) (by kernel_rfl) (fun _ _ _ h => h) (Or.inl ⟨by kernel_rfl, ?_⟩) hS ?_
      rotate_left
      · intro W hSW
        go_simp
        all_goals with_reducible rfl
      refine wpAnyH_take (i := 36) (v := ?_) rfl (by kernel_rfl) (by kernel_rfl) (by kernel_rfl) (fun _ _ _ h => h) (Or.inl ⟨by kernel_rfl, ?_⟩) hS ?_
      rotate_left
      · intro W hSW
        go_simp
        all_goals with_reducible rfl
      go_simp
      refine wpAnyH_ready (rs := [37]) (by kernel_rfl) (by simp) ?_
      refine AllReadyH.cons rfl (fun K hK => ?_) AllReadyH.nil
      go_simp
      go_wp2_with ((go_at_call 5; refine (bknows_any _).mono ?_; rintro e wn ⟨rfl, hbn⟩))
      refine hK.out _ _ (hS.trans hbn) (fun hS => ?_)
      clear hK K
      refine wpAnyH_take (i := 38) (v := ?_) rfl (by kernel_rfl) (by kernel_rfl) (by kernel_rfl) (fun _ _ _ h => h) (Or.inl ⟨by kernel_rfl, ?_⟩) hS ?_
      rotate_left
      · intro W hSW
        go_simp
        all_goals with_reducible rfl
      refine wpAnyH_take (i := 39) (v := ?_) rfl (by kernel_rfl) (by kernel_rfl) (by kernel_rfl) (fun _ _ _ h => h) (Or.inl ⟨by kernel_rfl, ?_⟩) hS ?_
      rotate_left
      · intro W hSW
        go_simp
        all_goals with_reducible rfl
      go_simp
      have HS := Lib.hid hS
      refine wpAnyH_done (by kernel_rfl) ?_ _
      go_wp2
      go_ret
      exact ⟨rfl, HB.out.trans (Below.mono HS.out HB.out.size)⟩
end Go.Proofs.YthpdphlkmleldaaGreat
