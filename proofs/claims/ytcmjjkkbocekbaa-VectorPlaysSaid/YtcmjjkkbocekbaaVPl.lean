/-
  The law VectorPlays, walked.
  No conditions.
-/
import Derived.Test.YtcmjjkkbocekbaaVRTk
import Derived.Test.YtcmjjkkbocekbaaVe6
import Derived.Test.YtcmjjkkbocekbaaLent
import Derived.Test.YtcmjjkkbocekbaaVYes
import Derived.Deep.DeepCutAuto
namespace Go.Proofs.Ytcmjjkkbocekbaa
open Go.RowKit

theorem Own.apart {E : TypeId} {w w' : World} {B g n c k : Nat} {l : List UInt8} (h : Own E w B (.slice (some ⟨g, 0, none⟩) n c) l) (ho : Only k w w') (hne : g ≠ k) : Own E w' B (.slice (some ⟨g, 0, none⟩) n c) l :=
  World.ownsRow.kept (row := some k) h ho (Or.inr fun e => hne (by simpa [Value.ownBlock] using e))
theorem Own.at_lt {E : TypeId} {w : World} {B g n c : Nat} {l : List UInt8} (h : Own E w B (.slice (some ⟨g, 0, none⟩) n c) l) : g < w.heap.size := by
  obtain ⟨p, c', e, -, -, -, -, hb⟩ := h.bs
  have e1 : some (⟨g, 0, none⟩ : Addr) = p := by injection e
  exact (hb _ e1.symm).2

set_option maxRecDepth 100000 in
set_option maxHeartbeats 8000000 in
theorem plays_good (a b : Nat → Int) (p : Option Addr) (c : Nat) (l : List UInt8) (w : World) (h : Bs w p l) (hc : l.length ≤ c) (hpn : p = none → c = 0) (hl : l.length ≤ 140737488351232) (hr : vRight a = true) :
    Calls Try.prog 3 #[.agg (vecA a), .agg (vecA b), .slice p l.length c] w (Yes w) := by
  obtain ⟨V1, V2, hb0⟩ := two_rows w a b 23 23 _ rfl
  have HB0 := Lib.hid hb0
  have HV1 := Lib.hid V1
  have HV2 := Lib.hid V2
  have HIN := Lib.hid h
  have HL := Lib.hid (show l.length ≤ 140737488355328 from by omega)
  have HPN := Lib.hid hpn
  have HC := Lib.hid hc
  have HRT := Lib.hid (fun W => right_any a W)
  have HRR := Lib.hid (fun W => refRight_any a W)
  have HCV := Lib.hid (fun W => covers_any a b W)
  have HCR := Lib.hid (fun W => refCovers_any a b W)
  have HKV := Lib.hid (fun W => compare_any a b W)
  have HKR := Lib.hid (fun W => refCompare_any a b W)
  have HTV := Lib.hid (fun W => total_any a W)
  have HTR := Lib.hid (fun W => refTotal_any a W)
  have HP := Lib.hid (fun W => put_any a W)
  have HQ := Lib.hid (fun W => refPut_any a W)
  rw [hr] at HRT HRR
  rw [show vPut a = (vBytes a, 0) from by unfold vPut; rw [if_pos hr]] at HP HQ
  clear hb0 V1 V2 h hc hpn hl hr
  generalize coversB a b = cv at *
  generalize cmpF a b = cm at *
  generalize totalF a = tn at *
  generalize vBytes a = y at *
  go_enter Try.func3, Try.ntmps3
  go_upto_region 1 with (fail)
  obtain ⟨wx, hwx⟩ : ∃ wx : World, wx = (w.alloc (.cells (vecA a) 23)).alloc (.cells (vecA b) 23) := ⟨_, rfl⟩
  rw [← hwx] at HB0 HV1 HV2 ⊢
  clear hwx
  have V1 := HV1.out
  go_wp2_with (first | (refine wpList_load_vec vtR rfl _ rfl _ rfl _ (by assumption) ?_) | (refine wpList_store_new vtP rfl _ _ rfl rfl (a) rfl ?_; intro wn hvn hbn; have hb1 := HB0.out.trans (hbn.mono HB0.out.size); have HX0 := Lib.hid hvn; have HA0 := Lib.hid (HV1.out.kept hbn); have V2 := HV2.out.kept hbn; clear V1) | (refine wpList_store_new vtP rfl _ _ rfl rfl (b) rfl ?_; intro wn hvn hbn; have HBZ := Lib.hid (hb1.trans (hbn.mono hb1.size)); have HY := Lib.hid hvn; have HX := Lib.hid (HX0.out.kept hbn); have X1 := HX.out; have HA := Lib.hid (HA0.out.kept hbn); have HB := Lib.hid (V2.kept hbn); clear V2 hb1) | (refine wpList_load_vec vtP rfl _ rfl _ rfl _ (by assumption) ?_))
  refine (HP.out _).mono ?_
  rintro e w2 ⟨v2, rfl, hown, hb2⟩
  try dsimp only at hown
  try clear X1
  have HX := Lib.hid (HX.out.kept hb2)
  have HY := Lib.hid (HY.out.kept hb2)
  have HA := Lib.hid (HA.out.kept hb2)
  have HB := Lib.hid (HB.out.kept hb2)
  have HBZ := Lib.hid (HBZ.out.trans (Below.mono hb2 HBZ.out.size))
  obtain ⟨p2, c2, rfl, hbs2, -⟩ := hown.bs
  have HBP0 := Lib.hid hbs2
  clear hown hbs2 hb2
  have A1 := HA.out
  go_wp2_with (refine wpList_load_vec vtR rfl _ rfl _ rfl _ (by assumption) ?_)
  refine (HQ.out _).mono ?_
  rintro e w3 ⟨v3, rfl, hown, hb3⟩
  try dsimp only at hown
  clear A1
  have HX := Lib.hid (HX.out.kept hb3)
  have HY := Lib.hid (HY.out.kept hb3)
  have HA := Lib.hid (HA.out.kept hb3)
  have HB := Lib.hid (HB.out.kept hb3)
  have HBZ := Lib.hid (HBZ.out.trans (Below.mono hb3 HBZ.out.size))
  obtain ⟨p3, c3, rfl, hbs3, -⟩ := hown.bs
  have HBP := Lib.hid (HBP0.out.kept hb3)
  have HBQ := Lib.hid hbs3
  clear hown hbs3 hb3 HBP0
  go_wp2
  refine wp_region_held_drew (S := Bel _) (by kernel_rfl) (Bel.start _) (fun hS => ?_)
  refine wpAnyH_take (i := 0) (v := ?_) rfl (by kernel_rfl) (by kernel_rfl) (by kernel_rfl) (fun _ _ _ h => h) (Or.inl ⟨by kernel_rfl, ?_⟩) hS ?_
  rotate_left
  · intro W hSW
    go_simp
    all_goals with_reducible rfl
  refine wpAnyH_take (i := 1) (v := ?_) rfl (by kernel_rfl) (by kernel_rfl) (by kernel_rfl) (fun _ _ _ h => h) (Or.inl ⟨by kernel_rfl, ?_⟩) hS ?_
  rotate_left
  · intro W hSW
    have hcv := (HBP.out.kept hSW).conv (P := Try.prog) c2 24 5 9 Try.underlying24 Try.underlying5 Try.underlying9
    go_simp
    all_goals with_reducible rfl
  refine wpAnyH_take (i := 2) (v := ?_) rfl (by kernel_rfl) (by kernel_rfl) (by kernel_rfl) (fun _ _ _ h => h) (Or.inl ⟨by kernel_rfl, ?_⟩) hS ?_
  rotate_left
  · intro W hSW
    go_simp
    all_goals with_reducible rfl
  refine wpAnyH_take (i := 3) (v := ?_) rfl (by kernel_rfl) (by kernel_rfl) (by kernel_rfl) (fun _ _ _ h => h) (Or.inl ⟨by kernel_rfl, ?_⟩) hS ?_
  rotate_left
  · intro W hSW
    have hcv := (HBQ.out.kept hSW).conv (P := Try.prog) c3 24 5 9 Try.underlying24 Try.underlying5 Try.underlying9
    go_simp
    all_goals with_reducible rfl
  go_simp
  refine wpAnyH_take (i := 4) (v := ?_) rfl (by kernel_rfl) (by kernel_rfl) (by kernel_rfl) (fun _ _ _ h => h) (Or.inl ⟨by kernel_rfl, ?_⟩) hS ?_
  rotate_left
  · intro W hSW
    go_simp
    all_goals with_reducible rfl
  refine wpAnyH_take (i := 5) (v := ?_) rfl (by kernel_rfl) (by kernel_rfl) (by kernel_rfl) (fun _ _ _ h => h) (Or.inl ⟨by kernel_rfl, ?_⟩) hS ?_
  rotate_left
  · intro W hSW
    go_simp
    all_goals with_reducible rfl
  refine wpAnyH_take (i := 6) (v := ?_) rfl (by kernel_rfl) (by kernel_rfl) (by kernel_rfl) (fun _ _ _ h => h) (Or.inl ⟨by kernel_rfl, ?_⟩) hS ?_
  rotate_left
  · intro W hSW
    go_simp
    all_goals with_reducible rfl
  refine wpAnyH_take (i := 9) (v := .agg (vecA _)) rfl (by kernel_rfl) (by kernel_rfl) (by kernel_rfl) (fun _ _ _ h => h) (Or.inl ⟨by kernel_rfl, fun W hSW => exec_load_vec vtR rfl rfl (HA.out.bel hSW)⟩) hS ?_
  refine wpAnyH_ready (rs := [7]) (by kernel_rfl) (by simp) ?_
  refine AllReadyH.cons rfl (fun K hK => ?_) AllReadyH.nil
  go_simp
  go_wp2_with ((go_at_call 7; refine (lawnum_any _ _).mono ?_; rintro e wn ⟨rfl, rfl⟩))
  refine hK.out _ _ hS (fun hS => ?_)
  clear hK K
  refine wpAnyH_take (i := 8) (v := ?_) rfl (by kernel_rfl) (by kernel_rfl) (by kernel_rfl) (fun _ _ _ h => h) (Or.inl ⟨by kernel_rfl, ?_⟩) hS ?_
  rotate_left
  · intro W hSW
    go_simp
    all_goals with_reducible rfl
  refine wpAnyH_ready (rs := [10]) (by kernel_rfl) (by simp) ?_
  refine AllReadyH.cons rfl (fun K hK => ?_) AllReadyH.nil
  go_simp
  go_wp2_with ((go_at_call 8; refine (HRR.out _).mono ?_; rintro e wn ⟨rfl, hbn⟩))
  refine hK.out _ _ (hS.trans hbn) (fun hS => ?_)
  clear hK K
  refine wpAnyH_take (i := 11) (v := ?_) rfl (by kernel_rfl) (by kernel_rfl) (by kernel_rfl) (fun _ _ _ h => h) (Or.inl ⟨by kernel_rfl, ?_⟩) hS ?_
  rotate_left
  · intro W hSW
    go_simp
    all_goals with_reducible rfl
  refine wpAnyH_take (i := 12) (v := ?_) rfl (by kernel_rfl) (by kernel_rfl) (by kernel_rfl) (fun _ _ _ h => h) (Or.inl ⟨by kernel_rfl, ?_⟩) hS ?_
  rotate_left
  · intro W hSW
    go_simp
    all_goals with_reducible rfl
  refine wpAnyH_take (i := 13) (v := ?_) rfl (by kernel_rfl) (by kernel_rfl) (by kernel_rfl) (fun _ _ _ h => h) (Or.inl ⟨by kernel_rfl, ?_⟩) hS ?_
  rotate_left
  · intro W hSW
    go_simp
    all_goals with_reducible rfl
  refine wpAnyH_take (i := 14) (v := .agg (vecA _)) rfl (by kernel_rfl) (by kernel_rfl) (by kernel_rfl) (fun _ _ _ h => h) (Or.inl ⟨by kernel_rfl, fun W hSW => exec_load_vec vtR rfl rfl (HA.out.bel hSW)⟩) hS ?_
  refine wpAnyH_ready (rs := [15]) (by kernel_rfl) (by simp) ?_
  refine AllReadyH.cons rfl (fun K hK => ?_) AllReadyH.nil
  go_simp
  go_wp2_with ((go_at_call 8; refine (HRR.out _).mono ?_; rintro e wn ⟨rfl, hbn⟩))
  refine hK.out _ _ (hS.trans hbn) (fun hS => ?_)
  clear hK K
  refine wpAnyH_take (i := 16) (v := ?_) rfl (by kernel_rfl) (by kernel_rfl) (by kernel_rfl) (fun _ _ _ h => h) (Or.inl ⟨by kernel_rfl, ?_⟩) hS ?_
  rotate_left
  · intro W hSW
    go_simp
    all_goals with_reducible rfl
  refine wpAnyH_take (i := 17) (v := ?_) rfl (by kernel_rfl) (by kernel_rfl) (by kernel_rfl) (fun _ _ _ h => h) (Or.inl ⟨by kernel_rfl, ?_⟩) hS ?_
  rotate_left
  · intro W hSW
    go_simp
    all_goals with_reducible rfl
  go_simp
  refine wpAnyH_take (i := 18) (v := undef) rfl (by kernel_rfl) (by kernel_rfl) (by kernel_rfl) (fun _ _ _ h => h) (Or.inr ⟨by kernel_rfl, rfl⟩) hS ?_
  refine wpAnyH_take (i := 19) (v := undef) rfl (by kernel_rfl) (by kernel_rfl) (by kernel_rfl) (fun _ _ _ h => h) (Or.inr ⟨by kernel_rfl, rfl⟩) hS ?_
  go_simp
  refine wpAnyH_take (i := 20) (v := undef) rfl (by kernel_rfl) (by kernel_rfl) (by kernel_rfl) (fun _ _ _ h => h) (Or.inr ⟨by kernel_rfl, rfl⟩) hS ?_
  refine wpAnyH_take (i := 21) (v := ?_) rfl (by kernel_rfl) (by kernel_rfl) (by kernel_rfl) (fun _ _ _ h => h) (Or.inl ⟨by kernel_rfl, ?_⟩) hS ?_
  rotate_left
  · intro W hSW
    go_simp
    all_goals with_reducible rfl
  refine wpAnyH_take (i := 22) (v := ?_) rfl (by kernel_rfl) (by kernel_rfl) (by kernel_rfl) (fun _ _ _ h => h) (Or.inl ⟨by kernel_rfl, ?_⟩) hS ?_
  rotate_left
  · intro W hSW
    go_simp
    all_goals with_reducible rfl
  go_simp
  refine wpAnyH_done (by kernel_rfl) ?_ _
  have HX := Lib.hid (HX.out.kept hS)
  have HY := Lib.hid (HY.out.kept hS)
  have HA := Lib.hid (HA.out.kept hS)
  have HB := Lib.hid (HB.out.kept hS)
  have HBZ := Lib.hid (HBZ.out.trans (Below.mono hS HBZ.out.size))
  clear hS
  go_wp2_with fail
  refine (lent_any p c l _ (HIN.out.kept HBZ.out) HL.out HPN.out).mono ?_
  rintro e w8 ⟨g, cap, rfl, hown, hb8, hcap⟩
  have HCAP := Lib.hid hcap
  have HOW := Lib.hid hown
  have HX := Lib.hid (HX.out.kept hb8)
  have HY := Lib.hid (HY.out.kept hb8)
  have HA := Lib.hid (HA.out.kept hb8)
  have HB := Lib.hid (HB.out.kept hb8)
  have HBZ := Lib.hid (HBZ.out.trans (Below.mono hb8 HBZ.out.size))
  have HLB := Lib.hid (show Bs w8 (some ⟨g, 0, none⟩) l from fun h0 => ⟨g, 0, rfl, fun i hi => by rw [Nat.zero_add, hown.cell i (by simp; omega), by8_app_l _ _ _ hi]⟩)
  clear hown hb8 hcap
  have HGL := Lib.hid HOW.out.at_lt
  have HW8 := Lib.hid HBZ.out.size
  go_wp2_with fail
  refine (open_any (some ⟨g, 0, none⟩) cap l w8 HLB.out HL.out (fun h => by cases h)).mono ?_
  rintro e w9 ⟨bR, rfl, hrd, hb9⟩
  have HRD0 := Lib.hid hrd
  have HOW := Lib.hid (HOW.out.below hb9)
  have HRB := Lib.hid hrd.1
  have HRL := Lib.hid (show bR < w9.heap.size from cell_lt hrd.2.1)
  have HGR := Lib.hid (show g ≠ bR from by have := hrd.1; have := HGL.out; omega)
  have HX := Lib.hid (HX.out.kept hb9)
  have HY := Lib.hid (HY.out.kept hb9)
  have HA := Lib.hid (HA.out.kept hb9)
  have HB := Lib.hid (HB.out.kept hb9)
  have HBZ := Lib.hid (HBZ.out.trans (Below.mono hb9 HBZ.out.size))
  clear hrd hb9
  go_wp2_with fail
  refine (refOpen_any p c l w9 (HIN.out.kept HBZ.out) HL.out HPN.out).mono ?_
  rintro e w10 ⟨bS, rfl, hsd, hb10⟩
  have HSD := Lib.hid (hsd.kept ((Below.refl _ _).drew))
  have HRD := Lib.hid ((HRD0.out.kept hb10).kept ((Below.refl w10.heap.size w10).drew))
  have HOW := Lib.hid ((HOW.out.below hb10).drew)
  have HSB := Lib.hid hsd.1
  have HRS := Lib.hid HRL.out
  have HSR := Lib.hid (show bS ≠ bR from by have := hsd.1; have := HRL.out; omega)
  have HGS := Lib.hid (show g ≠ bS from by have := hsd.1; have := HRL.out; have := HRB.out; have := HGL.out; omega)
  have HRW := Lib.hid (show w.heap.size ≤ bR from by have := HRB.out; have := HW8.out; omega)
  have HSW := Lib.hid (show w.heap.size ≤ bS from by have := hsd.1; have := HRL.out; have := HRW.out; omega)
  have HX := Lib.hid (HX.out.kept hb10)
  have HY := Lib.hid (HY.out.kept hb10)
  have HA := Lib.hid (HA.out.kept hb10)
  have HB := Lib.hid (HB.out.kept hb10)
  have HBZ := Lib.hid (HBZ.out.trans (Below.mono hb10 HBZ.out.size))
  have HX := Lib.hid (HX.out.kept ((Below.refl w10.heap.size w10).drew))
  have HY := Lib.hid (HY.out.kept ((Below.refl w10.heap.size w10).drew))
  have HA := Lib.hid (HA.out.kept ((Below.refl w10.heap.size w10).drew))
  have HB := Lib.hid (HB.out.kept ((Below.refl w10.heap.size w10).drew))
  have HBZ := Lib.hid (HBZ.out.trans (Below.mono ((Below.refl w10.heap.size w10).drew) HBZ.out.size))
  clear hsd hb10
  go_wp2
  refine wp_region_any (by kernel_rfl) ?_
  try (change wpAny _ _ _ _ _ _ _ (World.drew _))
  refine wpAny_take (i := 0) (v := ?_) rfl (by kernel_rfl) (by kernel_rfl) (by kernel_rfl) (fun _ _ _ h => h) (Or.inl ⟨by kernel_rfl, ?_⟩) ?_
  rotate_left
  · intro w; go_simp
    all_goals with_reducible rfl
  refine wpAny_take (i := 2) (v := ?_) rfl (by kernel_rfl) (by kernel_rfl) (by kernel_rfl) (fun _ _ _ h => h) (Or.inl ⟨by kernel_rfl, ?_⟩) ?_
  rotate_left
  · intro w; go_simp
    all_goals with_reducible rfl
  refine wpAny_ready (rs := [1]) (by kernel_rfl) (by simp) ?_
  refine AllReady.cons rfl (fun K hK => ?_) AllReady.nil
  go_simp
  go_wp2_with ((go_at_call 12; refine (take_any w8.heap.size bR l _ HRD.out).mono ?_; rintro e wt ⟨rfl, hrT, hoT⟩))
  try (refine hK _ _ ?_)
  try (clear hK K)
  have HW := Lib.hid hrT.weak
  have HSD1 := Lib.hid (HSD.out.only hoT HRS.out)
  have HO1 := Lib.hid (HOW.out.apart hoT HGR.out)
  have HX := Lib.hid (HX.out.only hoT (HRD.out.ne HX.out))
  have HY := Lib.hid (HY.out.only hoT (HRD.out.ne HY.out))
  have HA := Lib.hid (HA.out.only hoT (HRD.out.ne HA.out))
  have HB := Lib.hid (HB.out.only hoT (HRD.out.ne HB.out))
  have HBZ := Lib.hid (hoT.below HBZ.out HRW.out HBZ.out.size)
  clear hrT hoT
  refine wpAny_ready (rs := [3]) (by kernel_rfl) (by simp) ?_
  refine AllReady.cons rfl (fun K hK => ?_) AllReady.nil
  go_simp
  go_wp2_with ((go_at_call 13; refine (vrefTake_any w9.heap.size bS l _ HSD1.out).mono ?_; rintro e ws ⟨rfl, hrT, hoT⟩))
  try (refine hK _ _ ?_)
  try (clear hK K)
  have HW2 := Lib.hid (HW.out.only hoT HSR.out)
  have HS2 := Lib.hid hrT
  have HO2 := Lib.hid (HO1.out.apart hoT HGS.out)
  have HX := Lib.hid (HX.out.only hoT (HSD1.out.ne HX.out))
  have HY := Lib.hid (HY.out.only hoT (HSD1.out.ne HY.out))
  have HA := Lib.hid (HA.out.only hoT (HSD1.out.ne HA.out))
  have HB := Lib.hid (HB.out.only hoT (HSD1.out.ne HB.out))
  have HBZ := Lib.hid (hoT.below HBZ.out HSW.out HBZ.out.size)
  clear hrT hoT HW HSD1 HO1
  generalize takeV l = q at *
  obtain ⟨v, m, er⟩ := q
  dsimp only at *
  refine wpAny_of_held (S := Bel ws) _ _ _ _ ?_
  have hS : Bel ws ws := Below.refl _ _
  refine wpAnyH_take (i := 4) (v := ?_) rfl (by kernel_rfl) (by kernel_rfl) (by kernel_rfl) (fun _ _ _ h => h) (Or.inl ⟨by kernel_rfl, ?_⟩) hS ?_
  rotate_left
  · intro W hSW
    have hEq := vtP.eq W v v
    rw [eqv_refl] at hEq
    go_simp
    all_goals with_reducible rfl
  refine wpAnyH_take (i := 5) (v := ?_) rfl (by kernel_rfl) (by kernel_rfl) (by kernel_rfl) (fun _ _ _ h => h) (Or.inl ⟨by kernel_rfl, ?_⟩) hS ?_
  rotate_left
  · intro W hSW
    go_simp
    all_goals with_reducible rfl
  refine wpAnyH_take (i := 6) (v := ?_) rfl (by kernel_rfl) (by kernel_rfl) (by kernel_rfl) (fun _ _ _ h => h) (Or.inl ⟨by kernel_rfl, ?_⟩) hS ?_
  rotate_left
  · intro W hSW
    go_simp
    all_goals with_reducible rfl
  refine wpAnyH_take (i := 8) (v := ?_) rfl (by kernel_rfl) (by kernel_rfl) (by kernel_rfl) (fun _ _ _ h => h) (Or.inl ⟨by kernel_rfl, ?_⟩) hS ?_
  rotate_left
  · intro W hSW
    go_simp
    all_goals with_reducible rfl
  go_simp
  refine wpAnyH_ready (rs := [7]) (by kernel_rfl) (by simp) ?_
  refine AllReadyH.cons rfl (fun K hK => ?_) AllReadyH.nil
  go_simp
  go_wp2_with ((go_at_call 14; refine (left_weak bR m.length er _ (HW2.out.kept hS)).mono ?_; rintro e wn ⟨rfl, rfl⟩))
  refine hK.out _ _ hS (fun hS => ?_)
  clear hK K
  refine wpAnyH_ready (rs := [9]) (by kernel_rfl) (by simp) ?_
  refine AllReadyH.cons rfl (fun K hK => ?_) AllReadyH.nil
  go_simp
  go_wp2_with ((go_at_call 15; refine (refLeft_any w9.heap.size bS m er _ (HS2.out.kept hS)).mono ?_; rintro e wn ⟨rfl, hbn⟩))
  refine hK.out _ _ (hS.trans hbn) (fun hS => ?_)
  clear hK K
  refine wpAnyH_take (i := 10) (v := ?_) rfl (by kernel_rfl) (by kernel_rfl) (by kernel_rfl) (fun _ _ _ h => h) (Or.inl ⟨by kernel_rfl, ?_⟩) hS ?_
  rotate_left
  · intro W hSW
    go_simp
    all_goals with_reducible rfl
  refine wpAnyH_take (i := 11) (v := ?_) rfl (by kernel_rfl) (by kernel_rfl) (by kernel_rfl) (fun _ _ _ h => h) (Or.inl ⟨by kernel_rfl, ?_⟩) hS ?_
  rotate_left
  · intro W hSW
    go_simp
    all_goals with_reducible rfl
  refine wpAnyH_take (i := 12) (v := ?_) rfl (by kernel_rfl) (by kernel_rfl) (by kernel_rfl) (fun _ _ _ h => h) (Or.inl ⟨by kernel_rfl, ?_⟩) hS ?_
  rotate_left
  · intro W hSW
    go_simp
    all_goals with_reducible rfl
  go_simp
  refine wpAnyH_take (i := 13) (v := ?_) rfl (by kernel_rfl) (by kernel_rfl) (by kernel_rfl) (fun _ _ _ h => h) (Or.inl ⟨by kernel_rfl, ?_⟩) hS ?_
  rotate_left
  · intro W hSW
    go_simp
    all_goals with_reducible rfl
  refine wpAnyH_take (i := 16) (v := ?_) rfl (by kernel_rfl) (by kernel_rfl) (by kernel_rfl) (fun _ _ _ h => h) (Or.inl ⟨by kernel_rfl, ?_⟩) hS ?_
  rotate_left
  · intro W hSW
    go_simp
    all_goals with_reducible rfl
  refine wpAnyH_take (i := 17) (v := ?_) rfl (by kernel_rfl) (by kernel_rfl) (by kernel_rfl) (fun _ _ _ h => h) (Or.inl ⟨by kernel_rfl, ?_⟩) hS ?_
  rotate_left
  · intro W hSW
    go_simp
    all_goals with_reducible rfl
  refine wpAnyH_take (i := 18) (v := ?_) rfl (by kernel_rfl) (by kernel_rfl) (by kernel_rfl) (fun _ _ _ h => h) (Or.inl ⟨by kernel_rfl, ?_⟩) hS ?_
  rotate_left
  · intro W hSW
    go_simp
    all_goals with_reducible rfl
  go_simp
  refine wpAnyH_take (i := 19) (v := ?_) rfl (by kernel_rfl) (by kernel_rfl) (by kernel_rfl) (fun _ _ _ h => h) (Or.inl ⟨by kernel_rfl, ?_⟩) hS ?_
  rotate_left
  · intro W hSW
    have x2 := hSW.get HS2.out.2.1
    go_simp
    all_goals with_reducible rfl
  refine wpAnyH_ready (rs := [14]) (by kernel_rfl) (by simp) ?_
  refine AllReadyH.cons rfl (fun K hK => ?_) AllReadyH.nil
  go_simp
  go_wp2_with ((go_at_call 16; refine (err_weak bR m.length er _ (HW2.out.kept hS)).mono ?_; rintro e wn ⟨rfl, rfl⟩))
  refine hK.out _ _ hS (fun hS => ?_)
  clear hK K
  refine wpAnyH_ready (rs := [15]) (by kernel_rfl) (by simp) ?_
  refine AllReadyH.cons rfl (fun K hK => ?_) AllReadyH.nil
  go_simp
  go_wp2_with ((go_at_call 7; refine (lawnum_any _ _).mono ?_; rintro e wn ⟨rfl, rfl⟩))
  refine hK.out _ _ hS (fun hS => ?_)
  clear hK K
  refine wpAnyH_take (i := 20) (v := ?_) rfl (by kernel_rfl) (by kernel_rfl) (by kernel_rfl) (fun _ _ _ h => h) (Or.inl ⟨by kernel_rfl, ?_⟩) hS ?_
  rotate_left
  · intro W hSW
    go_simp
    all_goals with_reducible rfl
  refine wpAnyH_take (i := 21) (v := ?_) rfl (by kernel_rfl) (by kernel_rfl) (by kernel_rfl) (fun _ _ _ h => h) (Or.inl ⟨by kernel_rfl, ?_⟩) hS ?_
  rotate_left
  · intro W hSW
    go_simp
    all_goals with_reducible rfl
  refine wpAnyH_take (i := 22) (v := ?_) rfl (by kernel_rfl) (by kernel_rfl) (by kernel_rfl) (fun _ _ _ h => h) (Or.inl ⟨by kernel_rfl, ?_⟩) hS ?_
  rotate_left
  · intro W hSW
    go_simp
    all_goals with_reducible rfl
  go_simp
  refine wpAnyH_take (i := 23) (v := ?_) rfl (by kernel_rfl) (by kernel_rfl) (by kernel_rfl) (fun _ _ _ h => h) (Or.inl ⟨by kernel_rfl, ?_⟩) hS ?_
  rotate_left
  · intro W hSW
    go_simp
    all_goals with_reducible rfl
  refine wpAnyH_take (i := 24) (v := ?_) rfl (by kernel_rfl) (by kernel_rfl) (by kernel_rfl) (fun _ _ _ h => h) (Or.inl ⟨by kernel_rfl, ?_⟩) hS ?_
  rotate_left
  · intro W hSW
    go_simp
    all_goals with_reducible rfl
  go_simp
  refine wpAnyH_ready (rs := [25]) (by kernel_rfl) (by simp) ?_
  refine AllReadyH.cons rfl (fun K hK => ?_) AllReadyH.nil
  go_simp
  go_wp2_with ((go_at_call 17; refine (stays_any _ g cap p c l _ (HO2.out.below hS) HCAP.out ((HIN.out.kept HBZ.out).kept hS) HL.out).mono ?_; rintro e wn ⟨rfl, q, rfl⟩))
  refine hK.out _ _ (hS.trans (below_drewN (Below.refl _ _) q)) (fun hS => ?_)
  clear hK K
  refine wpAnyH_take (i := 26) (v := ?_) rfl (by kernel_rfl) (by kernel_rfl) (by kernel_rfl) (fun _ _ _ h => h) (Or.inl ⟨by kernel_rfl, ?_⟩) hS ?_
  rotate_left
  · intro W hSW
    go_simp
    all_goals with_reducible rfl
  refine wpAnyH_take (i := 27) (v := ?_) rfl (by kernel_rfl) (by kernel_rfl) (by kernel_rfl) (fun _ _ _ h => h) (Or.inl ⟨by kernel_rfl, ?_⟩) hS ?_
  rotate_left
  · intro W hSW
    go_simp
    all_goals with_reducible rfl
  refine wpAnyH_done (by kernel_rfl) ?_ _
  have HX := Lib.hid (HX.out.kept hS)
  have HY := Lib.hid (HY.out.kept hS)
  have HA := Lib.hid (HA.out.kept hS)
  have HB := Lib.hid (HB.out.kept hS)
  have HBZ := Lib.hid (HBZ.out.trans (Below.mono hS HBZ.out.size))
  clear hS
  go_wp2
  refine wp_region_held_drew (S := Bel _) (by kernel_rfl) (Bel.start _) (fun hS => ?_)
  refine wpAnyH_take (i := 0) (v := .agg (vecA _)) rfl (by kernel_rfl) (by kernel_rfl) (by kernel_rfl) (fun _ _ _ h => h) (Or.inl ⟨by kernel_rfl, fun W hSW => exec_load_vec vtP rfl rfl (HX.out.bel hSW)⟩) hS ?_
  refine wpAnyH_take (i := 2) (v := .agg (vecA _)) rfl (by kernel_rfl) (by kernel_rfl) (by kernel_rfl) (fun _ _ _ h => h) (Or.inl ⟨by kernel_rfl, fun W hSW => exec_load_vec vtR rfl rfl (HA.out.bel hSW)⟩) hS ?_
  refine wpAnyH_ready (rs := [1]) (by kernel_rfl) (by simp) ?_
  refine AllReadyH.cons rfl (fun K hK => ?_) AllReadyH.nil
  go_simp
  go_wp2_with ((go_at_call 18; refine (HRT.out _).mono ?_; rintro e wn ⟨rfl, hbn⟩))
  refine hK.out _ _ (hS.trans hbn) (fun hS => ?_)
  clear hK K
  refine wpAnyH_ready (rs := [3]) (by kernel_rfl) (by simp) ?_
  refine AllReadyH.cons rfl (fun K hK => ?_) AllReadyH.nil
  go_simp
  go_wp2_with ((go_at_call 8; refine (HRR.out _).mono ?_; rintro e wn ⟨rfl, hbn⟩))
  refine hK.out _ _ (hS.trans hbn) (fun hS => ?_)
  clear hK K
  refine wpAnyH_take (i := 4) (v := ?_) rfl (by kernel_rfl) (by kernel_rfl) (by kernel_rfl) (fun _ _ _ h => h) (Or.inl ⟨by kernel_rfl, ?_⟩) hS ?_
  rotate_left
  · intro W hSW
    go_simp
    all_goals with_reducible rfl
  refine wpAnyH_take (i := 5) (v := ?_) rfl (by kernel_rfl) (by kernel_rfl) (by kernel_rfl) (fun _ _ _ h => h) (Or.inl ⟨by kernel_rfl, ?_⟩) hS ?_
  rotate_left
  · intro W hSW
    go_simp
    all_goals with_reducible rfl
  refine wpAnyH_take (i := 6) (v := .agg (vecA _)) rfl (by kernel_rfl) (by kernel_rfl) (by kernel_rfl) (fun _ _ _ h => h) (Or.inl ⟨by kernel_rfl, fun W hSW => exec_load_vec vtP rfl rfl (HX.out.bel hSW)⟩) hS ?_
  refine wpAnyH_take (i := 7) (v := .agg (vecA _)) rfl (by kernel_rfl) (by kernel_rfl) (by kernel_rfl) (fun _ _ _ h => h) (Or.inl ⟨by kernel_rfl, fun W hSW => exec_load_vec vtP rfl rfl (HY.out.bel hSW)⟩) hS ?_
  go_simp
  refine wpAnyH_take (i := 9) (v := .agg (vecA _)) rfl (by kernel_rfl) (by kernel_rfl) (by kernel_rfl) (fun _ _ _ h => h) (Or.inl ⟨by kernel_rfl, fun W hSW => exec_load_vec vtR rfl rfl (HA.out.bel hSW)⟩) hS ?_
  refine wpAnyH_take (i := 10) (v := .agg (vecA _)) rfl (by kernel_rfl) (by kernel_rfl) (by kernel_rfl) (fun _ _ _ h => h) (Or.inl ⟨by kernel_rfl, fun W hSW => exec_load_vec vtR rfl rfl (HB.out.bel hSW)⟩) hS ?_
  refine wpAnyH_ready (rs := [8]) (by kernel_rfl) (by simp) ?_
  refine AllReadyH.cons rfl (fun K hK => ?_) AllReadyH.nil
  go_simp
  go_wp2_with ((go_at_call 19; refine (join_any (a) (b) _).mono ?_; rintro e wn ⟨rfl, hbn⟩))
  refine hK.out _ _ (hS.trans hbn) (fun hS => ?_)
  clear hK K
  refine wpAnyH_ready (rs := [11]) (by kernel_rfl) (by simp) ?_
  refine AllReadyH.cons rfl (fun K hK => ?_) AllReadyH.nil
  go_simp
  go_wp2_with ((go_at_call 20; refine (refJoin_any (a) (b) _).mono ?_; rintro e wn ⟨rfl, hbn⟩))
  refine hK.out _ _ (hS.trans hbn) (fun hS => ?_)
  clear hK K
  refine wpAnyH_take (i := 12) (v := ?_) rfl (by kernel_rfl) (by kernel_rfl) (by kernel_rfl) (fun _ _ _ h => h) (Or.inl ⟨by kernel_rfl, ?_⟩) hS ?_
  rotate_left
  · intro W hSW
    have hEq := vtP.eq W (joinF (a) (b)) (joinF (a) (b))
    rw [eqv_refl] at hEq
    go_simp
    all_goals with_reducible rfl
  refine wpAnyH_take (i := 13) (v := ?_) rfl (by kernel_rfl) (by kernel_rfl) (by kernel_rfl) (fun _ _ _ h => h) (Or.inl ⟨by kernel_rfl, ?_⟩) hS ?_
  rotate_left
  · intro W hSW
    go_simp
    all_goals with_reducible rfl
  refine wpAnyH_take (i := 14) (v := ?_) rfl (by kernel_rfl) (by kernel_rfl) (by kernel_rfl) (fun _ _ _ h => h) (Or.inl ⟨by kernel_rfl, ?_⟩) hS ?_
  rotate_left
  · intro W hSW
    go_simp
    all_goals with_reducible rfl
  refine wpAnyH_take (i := 15) (v := .agg (vecA _)) rfl (by kernel_rfl) (by kernel_rfl) (by kernel_rfl) (fun _ _ _ h => h) (Or.inl ⟨by kernel_rfl, fun W hSW => exec_load_vec vtP rfl rfl (HX.out.bel hSW)⟩) hS ?_
  go_simp
  refine wpAnyH_take (i := 16) (v := .agg (vecA _)) rfl (by kernel_rfl) (by kernel_rfl) (by kernel_rfl) (fun _ _ _ h => h) (Or.inl ⟨by kernel_rfl, fun W hSW => exec_load_vec vtP rfl rfl (HY.out.bel hSW)⟩) hS ?_
  refine wpAnyH_take (i := 18) (v := .agg (vecA _)) rfl (by kernel_rfl) (by kernel_rfl) (by kernel_rfl) (fun _ _ _ h => h) (Or.inl ⟨by kernel_rfl, fun W hSW => exec_load_vec vtR rfl rfl (HA.out.bel hSW)⟩) hS ?_
  refine wpAnyH_take (i := 19) (v := .agg (vecA _)) rfl (by kernel_rfl) (by kernel_rfl) (by kernel_rfl) (fun _ _ _ h => h) (Or.inl ⟨by kernel_rfl, fun W hSW => exec_load_vec vtR rfl rfl (HB.out.bel hSW)⟩) hS ?_
  refine wpAnyH_ready (rs := [17]) (by kernel_rfl) (by simp) ?_
  refine AllReadyH.cons rfl (fun K hK => ?_) AllReadyH.nil
  go_simp
  go_wp2_with ((go_at_call 21; refine (meet_any (a) (b) _).mono ?_; rintro e wn ⟨rfl, hbn⟩))
  refine hK.out _ _ (hS.trans hbn) (fun hS => ?_)
  clear hK K
  refine wpAnyH_ready (rs := [20]) (by kernel_rfl) (by simp) ?_
  refine AllReadyH.cons rfl (fun K hK => ?_) AllReadyH.nil
  go_simp
  go_wp2_with ((go_at_call 22; refine (refMeet_any (a) (b) _).mono ?_; rintro e wn ⟨rfl, hbn⟩))
  refine hK.out _ _ (hS.trans hbn) (fun hS => ?_)
  clear hK K
  refine wpAnyH_take (i := 21) (v := ?_) rfl (by kernel_rfl) (by kernel_rfl) (by kernel_rfl) (fun _ _ _ h => h) (Or.inl ⟨by kernel_rfl, ?_⟩) hS ?_
  rotate_left
  · intro W hSW
    have hEq := vtP.eq W (meetF (a) (b)) (meetF (a) (b))
    rw [eqv_refl] at hEq
    go_simp
    all_goals with_reducible rfl
  refine wpAnyH_take (i := 22) (v := ?_) rfl (by kernel_rfl) (by kernel_rfl) (by kernel_rfl) (fun _ _ _ h => h) (Or.inl ⟨by kernel_rfl, ?_⟩) hS ?_
  rotate_left
  · intro W hSW
    go_simp
    all_goals with_reducible rfl
  refine wpAnyH_take (i := 23) (v := ?_) rfl (by kernel_rfl) (by kernel_rfl) (by kernel_rfl) (fun _ _ _ h => h) (Or.inl ⟨by kernel_rfl, ?_⟩) hS ?_
  rotate_left
  · intro W hSW
    go_simp
    all_goals with_reducible rfl
  refine wpAnyH_take (i := 24) (v := .agg (vecA _)) rfl (by kernel_rfl) (by kernel_rfl) (by kernel_rfl) (fun _ _ _ h => h) (Or.inl ⟨by kernel_rfl, fun W hSW => exec_load_vec vtP rfl rfl (HX.out.bel hSW)⟩) hS ?_
  go_simp
  refine wpAnyH_take (i := 25) (v := .agg (vecA _)) rfl (by kernel_rfl) (by kernel_rfl) (by kernel_rfl) (fun _ _ _ h => h) (Or.inl ⟨by kernel_rfl, fun W hSW => exec_load_vec vtP rfl rfl (HY.out.bel hSW)⟩) hS ?_
  refine wpAnyH_take (i := 27) (v := .agg (vecA _)) rfl (by kernel_rfl) (by kernel_rfl) (by kernel_rfl) (fun _ _ _ h => h) (Or.inl ⟨by kernel_rfl, fun W hSW => exec_load_vec vtR rfl rfl (HA.out.bel hSW)⟩) hS ?_
  refine wpAnyH_take (i := 28) (v := .agg (vecA _)) rfl (by kernel_rfl) (by kernel_rfl) (by kernel_rfl) (fun _ _ _ h => h) (Or.inl ⟨by kernel_rfl, fun W hSW => exec_load_vec vtR rfl rfl (HB.out.bel hSW)⟩) hS ?_
  refine wpAnyH_ready (rs := [26]) (by kernel_rfl) (by simp) ?_
  refine AllReadyH.cons rfl (fun K hK => ?_) AllReadyH.nil
  go_simp
  go_wp2_with ((go_at_call 23; refine (HCV.out _).mono ?_; rintro e wn ⟨rfl, hbn⟩))
  refine hK.out _ _ (hS.trans hbn) (fun hS => ?_)
  clear hK K
  refine wpAnyH_ready (rs := [29]) (by kernel_rfl) (by simp) ?_
  refine AllReadyH.cons rfl (fun K hK => ?_) AllReadyH.nil
  go_simp
  go_wp2_with ((go_at_call 24; refine (HCR.out _).mono ?_; rintro e wn ⟨rfl, hbn⟩))
  refine hK.out _ _ (hS.trans hbn) (fun hS => ?_)
  clear hK K
  refine wpAnyH_take (i := 30) (v := ?_) rfl (by kernel_rfl) (by kernel_rfl) (by kernel_rfl) (fun _ _ _ h => h) (Or.inl ⟨by kernel_rfl, ?_⟩) hS ?_
  rotate_left
  · intro W hSW
    go_simp
    all_goals with_reducible rfl
  refine wpAnyH_take (i := 31) (v := ?_) rfl (by kernel_rfl) (by kernel_rfl) (by kernel_rfl) (fun _ _ _ h => h) (Or.inl ⟨by kernel_rfl, ?_⟩) hS ?_
  rotate_left
  · intro W hSW
    go_simp
    all_goals with_reducible rfl
  refine wpAnyH_take (i := 32) (v := ?_) rfl (by kernel_rfl) (by kernel_rfl) (by kernel_rfl) (fun _ _ _ h => h) (Or.inl ⟨by kernel_rfl, ?_⟩) hS ?_
  rotate_left
  · intro W hSW
    go_simp
    all_goals with_reducible rfl
  refine wpAnyH_take (i := 33) (v := .agg (vecA _)) rfl (by kernel_rfl) (by kernel_rfl) (by kernel_rfl) (fun _ _ _ h => h) (Or.inl ⟨by kernel_rfl, fun W hSW => exec_load_vec vtP rfl rfl (HX.out.bel hSW)⟩) hS ?_
  go_simp
  refine wpAnyH_take (i := 34) (v := .agg (vecA _)) rfl (by kernel_rfl) (by kernel_rfl) (by kernel_rfl) (fun _ _ _ h => h) (Or.inl ⟨by kernel_rfl, fun W hSW => exec_load_vec vtP rfl rfl (HY.out.bel hSW)⟩) hS ?_
  refine wpAnyH_take (i := 36) (v := .agg (vecA _)) rfl (by kernel_rfl) (by kernel_rfl) (by kernel_rfl) (fun _ _ _ h => h) (Or.inl ⟨by kernel_rfl, fun W hSW => exec_load_vec vtR rfl rfl (HA.out.bel hSW)⟩) hS ?_
  refine wpAnyH_take (i := 37) (v := .agg (vecA _)) rfl (by kernel_rfl) (by kernel_rfl) (by kernel_rfl) (fun _ _ _ h => h) (Or.inl ⟨by kernel_rfl, fun W hSW => exec_load_vec vtR rfl rfl (HB.out.bel hSW)⟩) hS ?_
  refine wpAnyH_ready (rs := [35]) (by kernel_rfl) (by simp) ?_
  refine AllReadyH.cons rfl (fun K hK => ?_) AllReadyH.nil
  go_simp
  go_wp2_with ((go_at_call 25; refine (HKV.out _).mono ?_; rintro e wn ⟨rfl, hbn⟩))
  refine hK.out _ _ (hS.trans hbn) (fun hS => ?_)
  clear hK K
  refine wpAnyH_ready (rs := [38]) (by kernel_rfl) (by simp) ?_
  refine AllReadyH.cons rfl (fun K hK => ?_) AllReadyH.nil
  go_simp
  go_wp2_with ((go_at_call 26; refine (HKR.out _).mono ?_; rintro e wn ⟨rfl, hbn⟩))
  refine hK.out _ _ (hS.trans hbn) (fun hS => ?_)
  clear hK K
  refine wpAnyH_take (i := 39) (v := ?_) rfl (by kernel_rfl) (by kernel_rfl) (by kernel_rfl) (fun _ _ _ h => h) (Or.inl ⟨by kernel_rfl, ?_⟩) hS ?_
  rotate_left
  · intro W hSW
    go_simp
    all_goals with_reducible rfl
  refine wpAnyH_take (i := 40) (v := ?_) rfl (by kernel_rfl) (by kernel_rfl) (by kernel_rfl) (fun _ _ _ h => h) (Or.inl ⟨by kernel_rfl, ?_⟩) hS ?_
  rotate_left
  · intro W hSW
    go_simp
    all_goals with_reducible rfl
  refine wpAnyH_take (i := 41) (v := ?_) rfl (by kernel_rfl) (by kernel_rfl) (by kernel_rfl) (fun _ _ _ h => h) (Or.inl ⟨by kernel_rfl, ?_⟩) hS ?_
  rotate_left
  · intro W hSW
    go_simp
    all_goals with_reducible rfl
  refine wpAnyH_take (i := 42) (v := .agg (vecA _)) rfl (by kernel_rfl) (by kernel_rfl) (by kernel_rfl) (fun _ _ _ h => h) (Or.inl ⟨by kernel_rfl, fun W hSW => exec_load_vec vtP rfl rfl (HX.out.bel hSW)⟩) hS ?_
  go_simp
  refine wpAnyH_take (i := 44) (v := .agg (vecA _)) rfl (by kernel_rfl) (by kernel_rfl) (by kernel_rfl) (fun _ _ _ h => h) (Or.inl ⟨by kernel_rfl, fun W hSW => exec_load_vec vtR rfl rfl (HA.out.bel hSW)⟩) hS ?_
  refine wpAnyH_ready (rs := [43]) (by kernel_rfl) (by simp) ?_
  refine AllReadyH.cons rfl (fun K hK => ?_) AllReadyH.nil
  go_simp
  go_wp2_with ((go_at_call 27; refine (HTV.out _).mono ?_; rintro e wn ⟨rfl, hbn⟩))
  refine hK.out _ _ (hS.trans hbn) (fun hS => ?_)
  clear hK K
  refine wpAnyH_ready (rs := [45]) (by kernel_rfl) (by simp) ?_
  refine AllReadyH.cons rfl (fun K hK => ?_) AllReadyH.nil
  go_simp
  go_wp2_with ((go_at_call 28; refine (HTR.out _).mono ?_; rintro e wn ⟨rfl, hbn⟩))
  refine hK.out _ _ (hS.trans hbn) (fun hS => ?_)
  clear hK K
  refine wpAnyH_take (i := 46) (v := ?_) rfl (by kernel_rfl) (by kernel_rfl) (by kernel_rfl) (fun _ _ _ h => h) (Or.inl ⟨by kernel_rfl, ?_⟩) hS ?_
  rotate_left
  · intro W hSW
    go_simp
    all_goals with_reducible rfl
  refine wpAnyH_take (i := 47) (v := ?_) rfl (by kernel_rfl) (by kernel_rfl) (by kernel_rfl) (fun _ _ _ h => h) (Or.inl ⟨by kernel_rfl, ?_⟩) hS ?_
  rotate_left
  · intro W hSW
    go_simp
    all_goals with_reducible rfl
  refine wpAnyH_take (i := 48) (v := ?_) rfl (by kernel_rfl) (by kernel_rfl) (by kernel_rfl) (fun _ _ _ h => h) (Or.inl ⟨by kernel_rfl, ?_⟩) hS ?_
  rotate_left
  · intro W hSW
    go_simp
    all_goals with_reducible rfl
  refine wpAnyH_ready (rs := [49]) (by kernel_rfl) (by simp) ?_
  refine AllReadyH.cons rfl (fun K hK => ?_) AllReadyH.nil
  go_simp
  go_wp2_with ((go_at_call 29; refine (vknows_any _).mono ?_; rintro e wn ⟨rfl, hbn⟩))
  refine hK.out _ _ (hS.trans hbn) (fun hS => ?_)
  clear hK K
  refine wpAnyH_take (i := 50) (v := ?_) rfl (by kernel_rfl) (by kernel_rfl) (by kernel_rfl) (fun _ _ _ h => h) (Or.inl ⟨by kernel_rfl, ?_⟩) hS ?_
  rotate_left
  · intro W hSW
    go_simp
    all_goals with_reducible rfl
  refine wpAnyH_take (i := 51) (v := ?_) rfl (by kernel_rfl) (by kernel_rfl) (by kernel_rfl) (fun _ _ _ h => h) (Or.inl ⟨by kernel_rfl, ?_⟩) hS ?_
  rotate_left
  · intro W hSW
    go_simp
    all_goals with_reducible rfl
  refine wpAnyH_done (by kernel_rfl) ?_ _
  have HE := Lib.hid (HBZ.out.trans (Below.mono hS HBZ.out.size))
  go_wp2
  go_ret
  exact ⟨rfl, HE.out⟩

end Go.Proofs.Ytcmjjkkbocekbaa
