/-
  STAMPFORMS: the walk: any stamps, their order, bytes and text; any bytes and any text as one.
  Conditions: the row's listed variables ('Laid').
-/
import Derived.Test.YtbggbpdkphhhdaaDoorForms
import Derived.Deep.RegionHeld3
import Derived.Deep.DeepCutAuto
namespace Go.Proofs.YtbggbpdkphhhdaaDoor
open Go.RowKit

set_option maxRecDepth 100000 in
set_option maxHeartbeats 40000000 in
theorem stampForms_go (at' ar bt br : Int) (pl : Option Addr) (cl : Nat) (l : List (Int × Int)) (p2 : Option Addr) (c2 : Nat) (l2 : List UInt8) (s : ByteArray) (w : World)
    (hst : Stamps w pl l) (_ : l.length ≤ cl) (hpl : pl = none → cl = 0) (hll : l.length * 16 ≤ 140737488351232)
    (hbs : Bs w p2 l2) (hp2 : p2 = none → c2 = 0) (hl2 : l2.length ≤ 140737488351232) (hss : s.size ≤ 140737488351232) (hL : Laid w)
    (wa0 : -9223372036854775808 ≤ at') (wa1 : at' ≤ 9223372036854775807) (wr0 : -9223372036854775808 ≤ ar) (wr1 : ar ≤ 9223372036854775807) :
    Calls Tryd.prog 3 #[.agg #[.int .i64 at', .int .i64 ar], .agg #[.int .i64 bt, .int .i64 br], .slice pl l.length cl, .slice p2 l2.length c2, .string s] w fun e w' => e = .returned (.bool true) ∧ Below w.heap.size w w' := by
  have F1 := Lib.hid (F0.start w (at', ar) (bt, br))
  have HBS := Lib.hid hbs
  have HST := Lib.hid hst
  have HL := Lib.hid hL
  have HLent := Lib.hid (lent_any p2 c2 l2 _ (hbs.kept F1.out.2.2) (by omega) hp2)
  have HPA := Lib.hid (fun W h => parse_any s W (by omega) h)
  have HRP := Lib.hid (fun W => refParse_any s W (by omega))
  rw [parse_alike] at HPA
  generalize refParseR s.data.toList = q at *
  obtain ⟨qt, qr, qk⟩ := q
  have HPW := Lib.hid (fun W => put_any at' ar W)
  have HRW := Lib.hid (fun W => refPut_any at' ar W)
  have HXL := Lib.hid (show (putW at' ar).1.length ≤ 14 by
    unfold putW
    split
    · have h1 := numB_small at'.toNat
      have h2 := numB_small ar.toNat
      simp; omega
    · simp)
  have HEN := Lib.hid (show (putW at' ar).2 = (if rightB at' ar = true then 0 else 1) by unfold putW; split <;> rfl)
  generalize putW at' ar = pw at *
  obtain ⟨x, en⟩ := pw
  dsimp only at *
  clear hbs hst hL
  go_enter Tryd.func3, Tryd.ntmps3
  go_wp2_with fail
  refine HLent.out.mono ?_
  rintro e w1 ⟨g, cap, rfl, hown1, hb1, hcap⟩
  have HO1 := Lib.hid (hown1.base (show w.heap.size ≤ _ by simp; omega))
  have F2 := Lib.hid (F1.out.kept hb1)
  have hg1 : w.heap.size + 2 ≤ g ∧ g < w1.heap.size := by
    obtain ⟨p, c, e, -, -, -, -, hh⟩ := hown1.bs
    simp only [Value.slice.injEq] at e
    have := hh ⟨g, 0, none⟩ e.1.symm
    simpa using this
  have HC1 := Lib.hid hcap
  have hbg : Bs w1 (some ⟨g, 0, none⟩) l2 := fun h0 => ⟨g, 0, rfl, fun i hi => by
    rw [Nat.zero_add, hown1.cell i (by simp; omega), by8_app_l _ _ _ hi]⟩
  have HOp := Lib.hid (open_any (some ⟨g, 0, none⟩) cap l2 w1 hbg (by omega) (fun h => by cases h))
  clear hown1 hb1 hbg hcap
  go_wp2_with fail
  refine HOp.out.mono ?_
  rintro e w2 ⟨bR, rfl, hr2, hb2⟩
  have hbR : w1.heap.size ≤ bR ∧ bR < w2.heap.size := ⟨hr2.1, hr2.lt⟩
  have HR2 := Lib.hid hr2
  have HO2 := Lib.hid (HO1.out.below hb2)
  have F3 := Lib.hid (F2.out.kept hb2)
  clear hr2 hb2
  have HRO := Lib.hid (refOpen_any p2 c2 l2 w2 (HBS.out.kept F3.out.2.2) (by omega) hp2)
  go_wp2_with fail
  refine HRO.out.mono ?_
  rintro e w3 ⟨bQ, rfl, hq3, hb3⟩
  have hbQ : w2.heap.size ≤ bQ ∧ bQ < w3.heap.size := ⟨hq3.1, hq3.lt⟩
  have HQ3 := Lib.hid hq3
  have HR3 := Lib.hid (HR2.out.kept hb3)
  have HO3 := Lib.hid (HO2.out.below hb3)
  have F4 := Lib.hid (F3.out.kept hb3)
  clear hq3 hb3
  have z0 := F4.out.1.cell0
  have z1 := F4.out.1.cell1
  go_wp2_with fail
  refine (HPW.out _).mono ?_
  rintro e w4 ⟨vx, rfl, hown4, hb4⟩
  dsimp only at hown4
  obtain ⟨px, kx, rfl, hbsx, -⟩ := hown4.bs
  have HX4 := Lib.hid hbsx
  have HQ4 := Lib.hid (HQ3.out.kept hb4)
  have HR4 := Lib.hid (HR3.out.kept hb4)
  have HO4 := Lib.hid (HO3.out.below hb4)
  have F5 := Lib.hid (F4.out.kept hb4)
  clear hown4 hbsx hb4 z0 z1
  have z0 := F5.out.1.cell0
  have z1 := F5.out.1.cell1
  go_wp2_with fail
  refine (HRW.out _).mono ?_
  rintro e w5 ⟨vy, rfl, hown5, hb5⟩
  obtain ⟨py, ky, rfl, hbsy, -⟩ := hown5.bs
  have HY5 := Lib.hid hbsy
  have HX5 := Lib.hid (HX4.out.kept hb5)
  have HQ5 := Lib.hid (HQ4.out.kept hb5)
  have HR5 := Lib.hid (HR4.out.kept hb5)
  have HO5 := Lib.hid (HO4.out.below hb5)
  have F6 := Lib.hid (F5.out.kept hb5)
  clear hown5 hbsy hb5 z0 z1
  go_wp2_with fail
  refine (HPA.out _ (HL.out.kept F6.out.2.2)).mono ?_
  rintro e w6 ⟨rfl, hb6⟩
  have hb6' := hb6.trans (((Below.refl w6.heap.size w6).alloc (Nat.le_refl _) (.cells #[.int .i64 qt, .int .i64 qr] 23)).mono hb6.size)
  have HT6 := Lib.hid (TwoAt.start w6 qt qr)
  have HY6 := Lib.hid (HY5.out.kept hb6')
  have HX6 := Lib.hid (HX5.out.kept hb6')
  have HQ6 := Lib.hid (HQ5.out.kept hb6')
  have HR6 := Lib.hid (HR5.out.kept hb6')
  have HO6 := Lib.hid (HO5.out.below hb6')
  have F7 := Lib.hid (F6.out.kept hb6')
  clear hb6 hb6'
  go_wp2_with fail
  refine (HRP.out _).mono ?_
  rintro e w7 ⟨rfl, hb7⟩
  have hb7' := hb7.trans (((Below.refl w7.heap.size w7).alloc (Nat.le_refl _) (.cells #[.int .i64 qt, .int .i64 qr] 23)).mono hb7.size)
  have S8a := Lib.hid (show S8 w (at', ar) (bt, br) px py x w6.heap.size w7.heap.size (qt, qr) g cap l2 w1.heap.size bR w2.heap.size bQ _ from ⟨F7.out.kept hb7', ⟨HX6.out.kept hb7', HY6.out.kept hb7'⟩, ⟨HT6.out.kept hb7', TwoAt.start w7 qt qr⟩, HO6.out.below hb7', HR6.out.kept hb7', HQ6.out.kept hb7'⟩)
  clear hb7 hb7'
  go_upto_region 8 with fail
  go_cut [76] (fun s76 wx => s76 = .bool false ∧ S8 w (at', ar) (bt, br) px py x w6.heap.size w7.heap.size (qt, qr) g cap l2 w1.heap.size bR w2.heap.size bQ wx)
  case first =>
    cases hRB : rightB at' ar with
    | true =>
      have HRB := Lib.hid hRB
      obtain rfl : en = 0 := by have h := HEN.out; rw [hRB, if_pos rfl] at h; exact h
      clear hRB
      refine wp_region_held_drew (S := (S8 w (at', ar) (bt, br) px py x w6.heap.size w7.heap.size (qt, qr) g cap l2 w1.heap.size bR w2.heap.size bQ)) (by kernel_rfl) (S8a.out.kept ((Below.refl _ _).drew)) (fun hS => ?_)
      refine wpAnyH_take (i := 0) (v := ?_) rfl (by kernel_rfl) (by kernel_rfl) (by kernel_rfl) (fun _ _ _ h => h) (Or.inl ⟨by kernel_rfl, ?_⟩) hS ?_
      rotate_left
      · intro W hSW
        go_simp
        all_goals with_reducible rfl
      refine wpAnyH_take (i := 1) (v := ?_) rfl (by kernel_rfl) (by kernel_rfl) (by kernel_rfl) (fun _ _ _ h => h) (Or.inl ⟨by kernel_rfl, ?_⟩) hS ?_
      rotate_left
      · intro W hSW
        have k1 := hSW.2.1.1.conv (P := Tryd.prog) kx 25 5 9 Tryd.underlying25 Tryd.underlying5 Tryd.underlying9
        go_simp
        all_goals with_reducible rfl
      refine wpAnyH_take (i := 2) (v := ?_) rfl (by kernel_rfl) (by kernel_rfl) (by kernel_rfl) (fun _ _ _ h => h) (Or.inl ⟨by kernel_rfl, ?_⟩) hS ?_
      rotate_left
      · intro W hSW
        go_simp
        all_goals with_reducible rfl
      refine wpAnyH_take (i := 3) (v := ?_) rfl (by kernel_rfl) (by kernel_rfl) (by kernel_rfl) (fun _ _ _ h => h) (Or.inl ⟨by kernel_rfl, ?_⟩) hS ?_
      rotate_left
      · intro W hSW
        have k2 := hSW.2.1.2.conv (P := Tryd.prog) ky 25 5 9 Tryd.underlying25 Tryd.underlying5 Tryd.underlying9
        go_simp
        all_goals with_reducible rfl
      refine wpAnyH_take (i := 4) (v := ?_) rfl (by kernel_rfl) (by kernel_rfl) (by kernel_rfl) (fun _ _ _ h => h) (Or.inl ⟨by kernel_rfl, ?_⟩) hS ?_
      rotate_left
      · intro W hSW
        go_simp
        all_goals with_reducible rfl
      refine wpAnyH_take (i := 5) (v := ?_) rfl (by kernel_rfl) (by kernel_rfl) (by kernel_rfl) (fun _ _ _ h => h) (Or.inl ⟨by kernel_rfl, ?_⟩) hS ?_
      rotate_left
      · intro W hSW
        go_simp
        all_goals with_reducible rfl
      refine wpAnyH_take (i := 6) (v := ?_) rfl (by kernel_rfl) (by kernel_rfl) (by kernel_rfl) (fun _ _ _ h => h) (Or.inl ⟨by kernel_rfl, ?_⟩) hS ?_
      rotate_left
      · intro W hSW
        go_simp
        all_goals with_reducible rfl
      refine wpAnyH_take (i := 9) (v := ?_) rfl (by kernel_rfl) (by kernel_rfl) (by kernel_rfl) (fun _ _ _ h => h) (Or.inl ⟨by kernel_rfl, ?_⟩) hS ?_
      rotate_left
      · intro W hSW
        have z0 := hSW.1.1.cell0
        have z1 := hSW.1.1.cell1
        go_simp
        all_goals with_reducible rfl
      refine wpAnyH_ready (rs := [7]) (by kernel_rfl) (by simp) ?_
      refine AllReadyH.cons rfl (fun K hK => ?_) AllReadyH.nil
      go_simp
      go_wp2_with ((go_at_call 16; refine (lawNum2_any 0 _).mono ?_; rintro e w' ⟨rfl, rfl⟩))
      refine hK.out _ _ hS (fun hS => ?_)
      clear hK K
      refine wpAnyH_take (i := 8) (v := ?_) rfl (by kernel_rfl) (by kernel_rfl) (by kernel_rfl) (fun _ _ _ h => h) (Or.inl ⟨by kernel_rfl, ?_⟩) hS ?_
      rotate_left
      · intro W hSW
        go_simp
        all_goals with_reducible rfl
      refine wpAnyH_ready (rs := [10]) (by kernel_rfl) (by simp) ?_
      refine AllReadyH.cons rfl (fun K hK => ?_) AllReadyH.nil
      go_simp
      go_wp2_with ((go_at_call 17; refine (refRight_any at' ar _).mono ?_; rw [HRB.out]; rintro e wn ⟨rfl, hbn⟩))
      refine hK.out _ _ (hS.kept hbn) (fun hS => ?_)
      clear hK K
      refine wpAnyH_take (i := 11) (v := ?_) rfl (by kernel_rfl) (by kernel_rfl) (by kernel_rfl) (fun _ _ _ h => h) (Or.inl ⟨by kernel_rfl, ?_⟩) hS ?_
      rotate_left
      · intro W hSW
        go_simp
        all_goals with_reducible rfl
      refine wpAnyH_take (i := 12) (v := ?_) rfl (by kernel_rfl) (by kernel_rfl) (by kernel_rfl) (fun _ _ _ h => h) (Or.inl ⟨by kernel_rfl, ?_⟩) hS ?_
      rotate_left
      · intro W hSW
        go_simp
        all_goals with_reducible rfl
      refine wpAnyH_take (i := 13) (v := ?_) rfl (by kernel_rfl) (by kernel_rfl) (by kernel_rfl) (fun _ _ _ h => h) (Or.inl ⟨by kernel_rfl, ?_⟩) hS ?_
      rotate_left
      · intro W hSW
        go_simp
        all_goals with_reducible rfl
      refine wpAnyH_take (i := 14) (v := ?_) rfl (by kernel_rfl) (by kernel_rfl) (by kernel_rfl) (fun _ _ _ h => h) (Or.inl ⟨by kernel_rfl, ?_⟩) hS ?_
      rotate_left
      · intro W hSW
        have z0 := hSW.1.1.cell0
        have z1 := hSW.1.1.cell1
        go_simp
        all_goals with_reducible rfl
      refine wpAnyH_ready (rs := [15]) (by kernel_rfl) (by simp) ?_
      refine AllReadyH.cons rfl (fun K hK => ?_) AllReadyH.nil
      go_simp
      go_wp2_with ((go_at_call 17; refine (refRight_any at' ar _).mono ?_; rw [HRB.out]; rintro e wn ⟨rfl, hbn⟩))
      refine hK.out _ _ (hS.kept hbn) (fun hS => ?_)
      clear hK K
      refine wpAnyH_take (i := 16) (v := ?_) rfl (by kernel_rfl) (by kernel_rfl) (by kernel_rfl) (fun _ _ _ h => h) (Or.inl ⟨by kernel_rfl, ?_⟩) hS ?_
      rotate_left
      · intro W hSW
        go_simp
        all_goals with_reducible rfl
      refine wpAnyH_take (i := 17) (v := ?_) rfl (by kernel_rfl) (by kernel_rfl) (by kernel_rfl) (fun _ _ _ h => h) (Or.inl ⟨by kernel_rfl, ?_⟩) hS ?_
      rotate_left
      · intro W hSW
        go_simp
        all_goals with_reducible rfl
      go_simp
      refine wpAnyH_take (i := 18) (v := undef) rfl (by kernel_rfl) (by kernel_rfl) (by kernel_rfl) (fun _ _ _ h => h) (Or.inr ⟨by kernel_rfl, rfl⟩) hS ?_
      refine wpAnyH_take (i := 19) (v := undef) rfl (by kernel_rfl) (by kernel_rfl) (by kernel_rfl) (fun _ _ _ h => h) (Or.inr ⟨by kernel_rfl, rfl⟩) hS ?_
      go_simp
      refine wpAnyH_take (i := 20) (v := undef) rfl (by kernel_rfl) (by kernel_rfl) (by kernel_rfl) (fun _ _ _ h => h) (Or.inr ⟨by kernel_rfl, rfl⟩) hS ?_
      go_simp
      refine wpAnyH_take (i := 21) (v := ?_) rfl (by kernel_rfl) (by kernel_rfl) (by kernel_rfl) (fun _ _ _ h => h) (Or.inl ⟨by kernel_rfl, ?_⟩) hS ?_
      rotate_left
      · intro W hSW
        go_simp
        all_goals with_reducible rfl
      refine wpAnyH_take (i := 22) (v := ?_) rfl (by kernel_rfl) (by kernel_rfl) (by kernel_rfl) (fun _ _ _ h => h) (Or.inl ⟨by kernel_rfl, ?_⟩) hS ?_
      rotate_left
      · intro W hSW
        go_simp
        all_goals with_reducible rfl
      refine wpAnyH_take (i := 23) (v := ?_) rfl (by kernel_rfl) (by kernel_rfl) (by kernel_rfl) (fun _ _ _ h => h) (Or.inl ⟨by kernel_rfl, ?_⟩) hS ?_
      rotate_left
      · intro W hSW
        go_simp
        all_goals with_reducible rfl
      refine wpAnyH_take (i := 24) (v := ?_) rfl (by kernel_rfl) (by kernel_rfl) (by kernel_rfl) (fun _ _ _ h => h) (Or.inl ⟨by kernel_rfl, ?_⟩) hS ?_
      rotate_left
      · intro W hSW
        have y0 := hSW.2.2.1.1.cell0
        have y1 := hSW.2.2.1.1.cell1
        have u0 := hSW.2.2.1.2.cell0
        have u1 := hSW.2.2.1.2.cell1
        go_simp
        all_goals with_reducible rfl
      refine wpAnyH_take (i := 25) (v := ?_) rfl (by kernel_rfl) (by kernel_rfl) (by kernel_rfl) (fun _ _ _ h => h) (Or.inl ⟨by kernel_rfl, ?_⟩) hS ?_
      rotate_left
      · intro W hSW
        have y0 := hSW.2.2.1.1.cell0
        have y1 := hSW.2.2.1.1.cell1
        have u0 := hSW.2.2.1.2.cell0
        have u1 := hSW.2.2.1.2.cell1
        go_simp
        all_goals with_reducible rfl
      refine wpAnyH_take (i := 26) (v := ?_) rfl (by kernel_rfl) (by kernel_rfl) (by kernel_rfl) (fun _ _ _ h => h) (Or.inl ⟨by kernel_rfl, ?_⟩) hS ?_
      rotate_left
      · intro W hSW
        go_simp
        all_goals with_reducible rfl
      refine wpAnyH_take (i := 27) (v := ?_) rfl (by kernel_rfl) (by kernel_rfl) (by kernel_rfl) (fun _ _ _ h => h) (Or.inl ⟨by kernel_rfl, ?_⟩) hS ?_
      rotate_left
      · intro W hSW
        go_simp
        all_goals with_reducible rfl
      refine wpAnyH_take (i := 28) (v := ?_) rfl (by kernel_rfl) (by kernel_rfl) (by kernel_rfl) (fun _ _ _ h => h) (Or.inl ⟨by kernel_rfl, ?_⟩) hS ?_
      rotate_left
      · intro W hSW
        go_simp
        all_goals with_reducible rfl
      refine wpAnyH_take (i := 29) (v := ?_) rfl (by kernel_rfl) (by kernel_rfl) (by kernel_rfl) (fun _ _ _ h => h) (Or.inl ⟨by kernel_rfl, ?_⟩) hS ?_
      rotate_left
      · intro W hSW
        go_simp
        all_goals with_reducible rfl
      refine wpAnyH_take (i := 30) (v := ?_) rfl (by kernel_rfl) (by kernel_rfl) (by kernel_rfl) (fun _ _ _ h => h) (Or.inl ⟨by kernel_rfl, ?_⟩) hS ?_
      rotate_left
      · intro W hSW
        go_simp
        all_goals with_reducible rfl
      refine wpAnyH_take (i := 31) (v := ?_) rfl (by kernel_rfl) (by kernel_rfl) (by kernel_rfl) (fun _ _ _ h => h) (Or.inl ⟨by kernel_rfl, ?_⟩) hS ?_
      rotate_left
      · intro W hSW
        go_simp
        all_goals with_reducible rfl
      refine wpAnyH_take (i := 32) (v := ?_) rfl (by kernel_rfl) (by kernel_rfl) (by kernel_rfl) (fun _ _ _ h => h) (Or.inl ⟨by kernel_rfl, ?_⟩) hS ?_
      rotate_left
      · intro W hSW
        go_simp
        all_goals with_reducible rfl
      refine wpAnyH_done (by kernel_rfl) ?_ _
      have HS9 := Lib.hid hS
      clear hS
      go_simp
      go_wp2_with fail
      go_meet
      exact ⟨rfl, HS9.out⟩
    | false =>
      have HRB := Lib.hid hRB
      obtain rfl : en = 1 := by have h := HEN.out; rw [hRB, if_neg (by simp)] at h; exact h
      clear hRB
      refine wp_region_held_drew (S := (S8 w (at', ar) (bt, br) px py x w6.heap.size w7.heap.size (qt, qr) g cap l2 w1.heap.size bR w2.heap.size bQ)) (by kernel_rfl) (S8a.out.kept ((Below.refl _ _).drew)) (fun hS => ?_)
      refine wpAnyH_take (i := 0) (v := ?_) rfl (by kernel_rfl) (by kernel_rfl) (by kernel_rfl) (fun _ _ _ h => h) (Or.inl ⟨by kernel_rfl, ?_⟩) hS ?_
      rotate_left
      · intro W hSW
        go_simp
        all_goals with_reducible rfl
      refine wpAnyH_take (i := 1) (v := ?_) rfl (by kernel_rfl) (by kernel_rfl) (by kernel_rfl) (fun _ _ _ h => h) (Or.inl ⟨by kernel_rfl, ?_⟩) hS ?_
      rotate_left
      · intro W hSW
        have k1 := hSW.2.1.1.conv (P := Tryd.prog) kx 25 5 9 Tryd.underlying25 Tryd.underlying5 Tryd.underlying9
        go_simp
        all_goals with_reducible rfl
      refine wpAnyH_take (i := 2) (v := ?_) rfl (by kernel_rfl) (by kernel_rfl) (by kernel_rfl) (fun _ _ _ h => h) (Or.inl ⟨by kernel_rfl, ?_⟩) hS ?_
      rotate_left
      · intro W hSW
        go_simp
        all_goals with_reducible rfl
      refine wpAnyH_take (i := 3) (v := ?_) rfl (by kernel_rfl) (by kernel_rfl) (by kernel_rfl) (fun _ _ _ h => h) (Or.inl ⟨by kernel_rfl, ?_⟩) hS ?_
      rotate_left
      · intro W hSW
        have k2 := hSW.2.1.2.conv (P := Tryd.prog) ky 25 5 9 Tryd.underlying25 Tryd.underlying5 Tryd.underlying9
        go_simp
        all_goals with_reducible rfl
      refine wpAnyH_take (i := 4) (v := ?_) rfl (by kernel_rfl) (by kernel_rfl) (by kernel_rfl) (fun _ _ _ h => h) (Or.inl ⟨by kernel_rfl, ?_⟩) hS ?_
      rotate_left
      · intro W hSW
        go_simp
        all_goals with_reducible rfl
      refine wpAnyH_take (i := 5) (v := ?_) rfl (by kernel_rfl) (by kernel_rfl) (by kernel_rfl) (fun _ _ _ h => h) (Or.inl ⟨by kernel_rfl, ?_⟩) hS ?_
      rotate_left
      · intro W hSW
        go_simp
        all_goals with_reducible rfl
      refine wpAnyH_take (i := 6) (v := ?_) rfl (by kernel_rfl) (by kernel_rfl) (by kernel_rfl) (fun _ _ _ h => h) (Or.inl ⟨by kernel_rfl, ?_⟩) hS ?_
      rotate_left
      · intro W hSW
        go_simp
        all_goals with_reducible rfl
      refine wpAnyH_take (i := 9) (v := ?_) rfl (by kernel_rfl) (by kernel_rfl) (by kernel_rfl) (fun _ _ _ h => h) (Or.inl ⟨by kernel_rfl, ?_⟩) hS ?_
      rotate_left
      · intro W hSW
        have z0 := hSW.1.1.cell0
        have z1 := hSW.1.1.cell1
        go_simp
        all_goals with_reducible rfl
      refine wpAnyH_ready (rs := [7]) (by kernel_rfl) (by simp) ?_
      refine AllReadyH.cons rfl (fun K hK => ?_) AllReadyH.nil
      go_simp
      go_wp2_with ((go_at_call 16; refine (lawNum2_any 1 _).mono ?_; rintro e w' ⟨rfl, rfl⟩))
      refine hK.out _ _ hS (fun hS => ?_)
      clear hK K
      refine wpAnyH_take (i := 8) (v := ?_) rfl (by kernel_rfl) (by kernel_rfl) (by kernel_rfl) (fun _ _ _ h => h) (Or.inl ⟨by kernel_rfl, ?_⟩) hS ?_
      rotate_left
      · intro W hSW
        go_simp
        all_goals with_reducible rfl
      refine wpAnyH_ready (rs := [10]) (by kernel_rfl) (by simp) ?_
      refine AllReadyH.cons rfl (fun K hK => ?_) AllReadyH.nil
      go_simp
      go_wp2_with ((go_at_call 17; refine (refRight_any at' ar _).mono ?_; rw [HRB.out]; rintro e wn ⟨rfl, hbn⟩))
      refine hK.out _ _ (hS.kept hbn) (fun hS => ?_)
      clear hK K
      refine wpAnyH_take (i := 11) (v := ?_) rfl (by kernel_rfl) (by kernel_rfl) (by kernel_rfl) (fun _ _ _ h => h) (Or.inl ⟨by kernel_rfl, ?_⟩) hS ?_
      rotate_left
      · intro W hSW
        go_simp
        all_goals with_reducible rfl
      refine wpAnyH_take (i := 12) (v := ?_) rfl (by kernel_rfl) (by kernel_rfl) (by kernel_rfl) (fun _ _ _ h => h) (Or.inl ⟨by kernel_rfl, ?_⟩) hS ?_
      rotate_left
      · intro W hSW
        go_simp
        all_goals with_reducible rfl
      refine wpAnyH_take (i := 13) (v := ?_) rfl (by kernel_rfl) (by kernel_rfl) (by kernel_rfl) (fun _ _ _ h => h) (Or.inl ⟨by kernel_rfl, ?_⟩) hS ?_
      rotate_left
      · intro W hSW
        go_simp
        all_goals with_reducible rfl
      refine wpAnyH_take (i := 14) (v := ?_) rfl (by kernel_rfl) (by kernel_rfl) (by kernel_rfl) (fun _ _ _ h => h) (Or.inl ⟨by kernel_rfl, ?_⟩) hS ?_
      rotate_left
      · intro W hSW
        have z0 := hSW.1.1.cell0
        have z1 := hSW.1.1.cell1
        go_simp
        all_goals with_reducible rfl
      refine wpAnyH_ready (rs := [15]) (by kernel_rfl) (by simp) ?_
      refine AllReadyH.cons rfl (fun K hK => ?_) AllReadyH.nil
      go_simp
      go_wp2_with ((go_at_call 17; refine (refRight_any at' ar _).mono ?_; rw [HRB.out]; rintro e wn ⟨rfl, hbn⟩))
      refine hK.out _ _ (hS.kept hbn) (fun hS => ?_)
      clear hK K
      refine wpAnyH_take (i := 16) (v := ?_) rfl (by kernel_rfl) (by kernel_rfl) (by kernel_rfl) (fun _ _ _ h => h) (Or.inl ⟨by kernel_rfl, ?_⟩) hS ?_
      rotate_left
      · intro W hSW
        go_simp
        all_goals with_reducible rfl
      refine wpAnyH_take (i := 17) (v := ?_) rfl (by kernel_rfl) (by kernel_rfl) (by kernel_rfl) (fun _ _ _ h => h) (Or.inl ⟨by kernel_rfl, ?_⟩) hS ?_
      rotate_left
      · intro W hSW
        go_simp
        all_goals with_reducible rfl
      refine wpAnyH_take (i := 18) (v := ?_) rfl (by kernel_rfl) (by kernel_rfl) (by kernel_rfl) (fun _ _ _ h => h) (Or.inl ⟨by kernel_rfl, ?_⟩) hS ?_
      rotate_left
      · intro W hSW
        go_simp
        all_goals with_reducible rfl
      refine wpAnyH_ready (rs := [19]) (by kernel_rfl) (by simp) ?_
      refine AllReadyH.cons rfl (fun K hK => ?_) AllReadyH.nil
      go_simp
      go_wp2_with ((go_at_call 16; refine (lawNum2_any 1 _).mono ?_; rintro e w' ⟨rfl, rfl⟩))
      refine hK.out _ _ hS (fun hS => ?_)
      clear hK K
      refine wpAnyH_take (i := 20) (v := ?_) rfl (by kernel_rfl) (by kernel_rfl) (by kernel_rfl) (fun _ _ _ h => h) (Or.inl ⟨by kernel_rfl, ?_⟩) hS ?_
      rotate_left
      · intro W hSW
        go_simp
        all_goals with_reducible rfl
      refine wpAnyH_take (i := 21) (v := ?_) rfl (by kernel_rfl) (by kernel_rfl) (by kernel_rfl) (fun _ _ _ h => h) (Or.inl ⟨by kernel_rfl, ?_⟩) hS ?_
      rotate_left
      · intro W hSW
        go_simp
        all_goals with_reducible rfl
      refine wpAnyH_take (i := 22) (v := ?_) rfl (by kernel_rfl) (by kernel_rfl) (by kernel_rfl) (fun _ _ _ h => h) (Or.inl ⟨by kernel_rfl, ?_⟩) hS ?_
      rotate_left
      · intro W hSW
        go_simp
        all_goals with_reducible rfl
      refine wpAnyH_take (i := 23) (v := ?_) rfl (by kernel_rfl) (by kernel_rfl) (by kernel_rfl) (fun _ _ _ h => h) (Or.inl ⟨by kernel_rfl, ?_⟩) hS ?_
      rotate_left
      · intro W hSW
        go_simp
        all_goals with_reducible rfl
      refine wpAnyH_take (i := 24) (v := ?_) rfl (by kernel_rfl) (by kernel_rfl) (by kernel_rfl) (fun _ _ _ h => h) (Or.inl ⟨by kernel_rfl, ?_⟩) hS ?_
      rotate_left
      · intro W hSW
        have y0 := hSW.2.2.1.1.cell0
        have y1 := hSW.2.2.1.1.cell1
        have u0 := hSW.2.2.1.2.cell0
        have u1 := hSW.2.2.1.2.cell1
        go_simp
        all_goals with_reducible rfl
      refine wpAnyH_take (i := 25) (v := ?_) rfl (by kernel_rfl) (by kernel_rfl) (by kernel_rfl) (fun _ _ _ h => h) (Or.inl ⟨by kernel_rfl, ?_⟩) hS ?_
      rotate_left
      · intro W hSW
        have y0 := hSW.2.2.1.1.cell0
        have y1 := hSW.2.2.1.1.cell1
        have u0 := hSW.2.2.1.2.cell0
        have u1 := hSW.2.2.1.2.cell1
        go_simp
        all_goals with_reducible rfl
      refine wpAnyH_take (i := 26) (v := ?_) rfl (by kernel_rfl) (by kernel_rfl) (by kernel_rfl) (fun _ _ _ h => h) (Or.inl ⟨by kernel_rfl, ?_⟩) hS ?_
      rotate_left
      · intro W hSW
        go_simp
        all_goals with_reducible rfl
      refine wpAnyH_take (i := 27) (v := ?_) rfl (by kernel_rfl) (by kernel_rfl) (by kernel_rfl) (fun _ _ _ h => h) (Or.inl ⟨by kernel_rfl, ?_⟩) hS ?_
      rotate_left
      · intro W hSW
        go_simp
        all_goals with_reducible rfl
      refine wpAnyH_take (i := 28) (v := ?_) rfl (by kernel_rfl) (by kernel_rfl) (by kernel_rfl) (fun _ _ _ h => h) (Or.inl ⟨by kernel_rfl, ?_⟩) hS ?_
      rotate_left
      · intro W hSW
        go_simp
        all_goals with_reducible rfl
      refine wpAnyH_take (i := 29) (v := ?_) rfl (by kernel_rfl) (by kernel_rfl) (by kernel_rfl) (fun _ _ _ h => h) (Or.inl ⟨by kernel_rfl, ?_⟩) hS ?_
      rotate_left
      · intro W hSW
        go_simp
        all_goals with_reducible rfl
      refine wpAnyH_take (i := 30) (v := ?_) rfl (by kernel_rfl) (by kernel_rfl) (by kernel_rfl) (fun _ _ _ h => h) (Or.inl ⟨by kernel_rfl, ?_⟩) hS ?_
      rotate_left
      · intro W hSW
        go_simp
        all_goals with_reducible rfl
      refine wpAnyH_take (i := 31) (v := ?_) rfl (by kernel_rfl) (by kernel_rfl) (by kernel_rfl) (fun _ _ _ h => h) (Or.inl ⟨by kernel_rfl, ?_⟩) hS ?_
      rotate_left
      · intro W hSW
        go_simp
        all_goals with_reducible rfl
      refine wpAnyH_take (i := 32) (v := ?_) rfl (by kernel_rfl) (by kernel_rfl) (by kernel_rfl) (fun _ _ _ h => h) (Or.inl ⟨by kernel_rfl, ?_⟩) hS ?_
      rotate_left
      · intro W hSW
        go_simp
        all_goals with_reducible rfl
      refine wpAnyH_done (by kernel_rfl) ?_ _
      have HS9 := Lib.hid hS
      clear hS
      go_simp
      go_wp2_with fail
      go_meet
      exact ⟨rfl, HS9.out⟩
  case rest =>
    obtain ⟨rfl, hS⟩ := hcut
    have S9 := Lib.hid hS
    clear hS S8a
    have HTR := Lib.hid (take_any w1.heap.size bR l2 wc S9.out.2.2.2.2.1)
    have HRT := Lib.hid (fun W h => refTake_any w2.heap.size bQ l2 W h)
    generalize takeR l2 = tk at *
    obtain ⟨tt, tr, lr, er⟩ := tk
    dsimp only at *
    go_wp2_with fail
    refine HTR.out.mono ?_
    rintro e w9 ⟨rfl, hr9, ho9⟩
    have HW9 := Lib.hid (hr9.weak)
    have HQ9 := Lib.hid (S9.out.2.2.2.2.2.only ho9 (by omega))
    have HO9 := Lib.hid (S9.out.2.2.2.1.only ho9 (by omega))
    have F9 := Lib.hid (S9.out.1.only ho9 (by omega))
    clear hr9 ho9
    go_wp2_with fail
    refine (HRT.out _ HQ9.out).mono ?_
    rintro e w10 ⟨rfl, hq10, ho10⟩
    have HQ10 := Lib.hid hq10
    have HW10 := Lib.hid (HW9.out.only ho10 (by omega))
    have HO10 := Lib.hid (HO9.out.only ho10 (by omega))
    have F10 := Lib.hid (F9.out.only ho10 (by omega))
    clear hq10 ho10
    go_wp2_with fail
    refine (left_weak bR lr.length er _ HW10.out).mono ?_
    rintro e w' ⟨rfl, rfl⟩
    go_wp2_with fail
    refine (refLeft_any _ bQ lr er _ HQ10.out).mono ?_
    rintro e w11 ⟨rfl, hb11⟩
    have HQ11 := Lib.hid (HQ10.out.kept hb11)
    have HW11 := Lib.hid (HW10.out.kept hb11)
    have HO11 := Lib.hid (HO10.out.below hb11)
    have F11 := Lib.hid (F10.out.kept hb11)
    clear hb11
    have HDN : Hid (doneL lr.length er = doneR lr er) := Lib.hid rfl
    go_wp2_with fail
    refine (done_weak bR lr.length er _ HW11.out).mono ?_
    rw [HDN.out]
    rintro e w' ⟨rfl, rfl⟩
    have HRD := Lib.hid (refDone_any _ bQ lr er _ HQ11.out)
    generalize doneR lr er = dn at *
    go_wp2_with fail
    refine (lawNum2_any _ _).mono ?_
    rintro e w' ⟨rfl, rfl⟩
    go_wp2_with fail
    refine HRD.out.mono ?_
    rintro e w12 ⟨rfl, hb12⟩
    have HO12 := Lib.hid (HO11.out.below hb12)
    have F12 := Lib.hid (F11.out.kept hb12)
    clear hb12
    have HSY := Lib.hid (stays_any _ g cap p2 c2 l2 w12 HO12.out HC1.out (HBS.out.kept F12.out.2.2) (by omega))
    go_wp2_with fail
    refine HSY.out.mono ?_
    rintro e w13 ⟨rfl, qn, rfl⟩
    have HF12 := Lib.hid ((F12.out.kept (below_drewN (Below.refl _ _) qn)).kept ((Below.refl _ _).drew))
    have F13 := Lib.hid (F12.out.kept (below_drewN (Below.refl _ _) qn))
    go_upto_region 12 with fail
    refine wp_region_held_drew (S := (F0 w (at', ar) (bt, br))) (by kernel_rfl) HF12.out (fun hS => ?_)
    refine wpAnyH_take (i := 0) (v := ?_) rfl (by kernel_rfl) (by kernel_rfl) (by kernel_rfl) (fun _ _ _ h => h) (Or.inl ⟨by kernel_rfl, ?_⟩) hS ?_
    rotate_left
    · intro W hSW
      have z0 := hSW.1.cell0
      have z1 := hSW.1.cell1
      have z2 := hSW.2.1.cell0
      have z3 := hSW.2.1.cell1
      go_simp
      all_goals with_reducible rfl
    refine wpAnyH_take (i := 2) (v := ?_) rfl (by kernel_rfl) (by kernel_rfl) (by kernel_rfl) (fun _ _ _ h => h) (Or.inl ⟨by kernel_rfl, ?_⟩) hS ?_
    rotate_left
    · intro W hSW
      have z0 := hSW.1.cell0
      have z1 := hSW.1.cell1
      have z2 := hSW.2.1.cell0
      have z3 := hSW.2.1.cell1
      go_simp
      all_goals with_reducible rfl
    refine wpAnyH_ready (rs := [1]) (by kernel_rfl) (by simp) ?_
    refine AllReadyH.cons rfl (fun K hK => ?_) AllReadyH.nil
    go_simp
    go_wp2_with ((go_at_call 25; refine (right_any at' ar _).mono ?_; rintro e wa ⟨rfl, hbn⟩))
    refine hK.out _ _ (hS.kept hbn) (fun hS => ?_)
    clear hK K
    refine wpAnyH_ready (rs := [3]) (by kernel_rfl) (by simp) ?_
    refine AllReadyH.cons rfl (fun K hK => ?_) AllReadyH.nil
    go_simp
    go_wp2_with ((go_at_call 17; refine (refRight_any at' ar _).mono ?_; rintro e wb ⟨rfl, hbn⟩))
    refine hK.out _ _ (hS.kept hbn) (fun hS => ?_)
    clear hK K
    refine wpAnyH_take (i := 4) (v := ?_) rfl (by kernel_rfl) (by kernel_rfl) (by kernel_rfl) (fun _ _ _ h => h) (Or.inl ⟨by kernel_rfl, ?_⟩) hS ?_
    rotate_left
    · intro W hSW
      go_simp
      all_goals with_reducible rfl
    refine wpAnyH_take (i := 5) (v := ?_) rfl (by kernel_rfl) (by kernel_rfl) (by kernel_rfl) (fun _ _ _ h => h) (Or.inl ⟨by kernel_rfl, ?_⟩) hS ?_
    rotate_left
    · intro W hSW
      go_simp
      all_goals with_reducible rfl
    refine wpAnyH_take (i := 6) (v := ?_) rfl (by kernel_rfl) (by kernel_rfl) (by kernel_rfl) (fun _ _ _ h => h) (Or.inl ⟨by kernel_rfl, ?_⟩) hS ?_
    rotate_left
    · intro W hSW
      have z0 := hSW.1.cell0
      have z1 := hSW.1.cell1
      have z2 := hSW.2.1.cell0
      have z3 := hSW.2.1.cell1
      go_simp
      all_goals with_reducible rfl
    refine wpAnyH_take (i := 7) (v := ?_) rfl (by kernel_rfl) (by kernel_rfl) (by kernel_rfl) (fun _ _ _ h => h) (Or.inl ⟨by kernel_rfl, ?_⟩) hS ?_
    rotate_left
    · intro W hSW
      have z0 := hSW.1.cell0
      have z1 := hSW.1.cell1
      have z2 := hSW.2.1.cell0
      have z3 := hSW.2.1.cell1
      go_simp
      all_goals with_reducible rfl
    refine wpAnyH_take (i := 9) (v := ?_) rfl (by kernel_rfl) (by kernel_rfl) (by kernel_rfl) (fun _ _ _ h => h) (Or.inl ⟨by kernel_rfl, ?_⟩) hS ?_
    rotate_left
    · intro W hSW
      have z0 := hSW.1.cell0
      have z1 := hSW.1.cell1
      have z2 := hSW.2.1.cell0
      have z3 := hSW.2.1.cell1
      go_simp
      all_goals with_reducible rfl
    refine wpAnyH_take (i := 10) (v := ?_) rfl (by kernel_rfl) (by kernel_rfl) (by kernel_rfl) (fun _ _ _ h => h) (Or.inl ⟨by kernel_rfl, ?_⟩) hS ?_
    rotate_left
    · intro W hSW
      have z0 := hSW.1.cell0
      have z1 := hSW.1.cell1
      have z2 := hSW.2.1.cell0
      have z3 := hSW.2.1.cell1
      go_simp
      all_goals with_reducible rfl
    refine wpAnyH_ready (rs := [8]) (by kernel_rfl) (by simp) ?_
    refine AllReadyH.cons rfl (fun K hK => ?_) AllReadyH.nil
    go_simp
    go_wp2_with ((go_at_call 26; refine (compare_any at' ar bt br _).mono ?_; rintro e wc3 ⟨rfl, hbn⟩))
    refine hK.out _ _ (hS.kept hbn) (fun hS => ?_)
    clear hK K
    refine wpAnyH_ready (rs := [11]) (by kernel_rfl) (by simp) ?_
    refine AllReadyH.cons rfl (fun K hK => ?_) AllReadyH.nil
    go_simp
    go_wp2_with ((go_at_call 27; refine (refCompare_any at' ar bt br _).mono ?_; rintro e wd ⟨rfl, hbn⟩))
    refine hK.out _ _ (hS.kept hbn) (fun hS => ?_)
    clear hK K
    refine wpAnyH_take (i := 12) (v := ?_) rfl (by kernel_rfl) (by kernel_rfl) (by kernel_rfl) (fun _ _ _ h => h) (Or.inl ⟨by kernel_rfl, ?_⟩) hS ?_
    rotate_left
    · intro W hSW
      go_simp
      all_goals with_reducible rfl
    refine wpAnyH_take (i := 13) (v := ?_) rfl (by kernel_rfl) (by kernel_rfl) (by kernel_rfl) (fun _ _ _ h => h) (Or.inl ⟨by kernel_rfl, ?_⟩) hS ?_
    rotate_left
    · intro W hSW
      go_simp
      all_goals with_reducible rfl
    refine wpAnyH_take (i := 14) (v := ?_) rfl (by kernel_rfl) (by kernel_rfl) (by kernel_rfl) (fun _ _ _ h => h) (Or.inl ⟨by kernel_rfl, ?_⟩) hS ?_
    rotate_left
    · intro W hSW
      go_simp
      all_goals with_reducible rfl
    refine wpAnyH_take (i := 16) (v := ?_) rfl (by kernel_rfl) (by kernel_rfl) (by kernel_rfl) (fun _ _ _ h => h) (Or.inl ⟨by kernel_rfl, ?_⟩) hS ?_
    rotate_left
    · intro W hSW
      go_simp
      all_goals with_reducible rfl
    refine wpAnyH_take (i := 19) (v := ?_) rfl (by kernel_rfl) (by kernel_rfl) (by kernel_rfl) (fun _ _ _ h => h) (Or.inl ⟨by kernel_rfl, ?_⟩) hS ?_
    rotate_left
    · intro W hSW
      go_simp
      all_goals with_reducible rfl
    refine wpAnyH_ready (rs := [15]) (by kernel_rfl) (by simp) ?_
    refine AllReadyH.cons rfl (fun K hK => ?_) AllReadyH.nil
    go_simp
    refine hK.out _ _ (hS.kept ((Below.refl wd.heap.size wd).alloc (Nat.le_refl _) _)) (fun hS => ?_)
    clear hK K
    refine wpAnyH_ready (rs := [17]) (by kernel_rfl) (by simp) ?_
    refine AllReadyH.cons rfl (fun K hK => ?_) AllReadyH.nil
    refine step_append_st (by kernel_rfl) _ _ rfl wd.heap.size rfl pl cl l rfl (HST.out.kept hS.2.2) hpl hll ?_
    intro pm cm wm hstm hbn
    have HSTM := Lib.hid hstm
    clear hstm
    refine hK.out _ _ (hS.kept hbn) (fun hS => ?_)
    clear hK K
    refine wpAnyH_ready (rs := [18]) (by kernel_rfl) (by simp) ?_
    refine AllReadyH.cons rfl (fun K hK => ?_) AllReadyH.nil
    go_simp
    go_wp2_with ((go_at_call 28; refine (max_any pm cm l _ HSTM.out (by omega)).mono ?_; rintro e wx ⟨rfl, hbn⟩))
    refine hK.out _ _ (hS.kept hbn) (fun hS => ?_)
    clear hK K
    refine wpAnyH_ready (rs := [20]) (by kernel_rfl) (by simp) ?_
    refine AllReadyH.cons rfl (fun K hK => ?_) AllReadyH.nil
    go_simp
    go_wp2_with ((go_at_call 29; refine (refMax_any pl cl l _ (HST.out.kept hS.2.2) (by omega)).mono ?_; rintro e wy ⟨rfl, hbn⟩))
    refine hK.out _ _ (hS.kept hbn) (fun hS => ?_)
    clear hK K
    refine wpAnyH_take (i := 21) (v := ?_) rfl (by kernel_rfl) (by kernel_rfl) (by kernel_rfl) (fun _ _ _ h => h) (Or.inl ⟨by kernel_rfl, ?_⟩) hS ?_
    rotate_left
    · intro W hSW
      go_simp
      all_goals with_reducible rfl
    refine wpAnyH_take (i := 22) (v := ?_) rfl (by kernel_rfl) (by kernel_rfl) (by kernel_rfl) (fun _ _ _ h => h) (Or.inl ⟨by kernel_rfl, ?_⟩) hS ?_
    rotate_left
    · intro W hSW
      go_simp
      all_goals with_reducible rfl
    refine wpAnyH_take (i := 23) (v := ?_) rfl (by kernel_rfl) (by kernel_rfl) (by kernel_rfl) (fun _ _ _ h => h) (Or.inl ⟨by kernel_rfl, ?_⟩) hS ?_
    rotate_left
    · intro W hSW
      go_simp
      all_goals with_reducible rfl
    refine wpAnyH_take (i := 24) (v := ?_) rfl (by kernel_rfl) (by kernel_rfl) (by kernel_rfl) (fun _ _ _ h => h) (Or.inl ⟨by kernel_rfl, ?_⟩) hS ?_
    rotate_left
    · intro W hSW
      have z0 := hSW.1.cell0
      have z1 := hSW.1.cell1
      have z2 := hSW.2.1.cell0
      have z3 := hSW.2.1.cell1
      go_simp
      all_goals with_reducible rfl
    refine wpAnyH_take (i := 26) (v := ?_) rfl (by kernel_rfl) (by kernel_rfl) (by kernel_rfl) (fun _ _ _ h => h) (Or.inl ⟨by kernel_rfl, ?_⟩) hS ?_
    rotate_left
    · intro W hSW
      have z0 := hSW.1.cell0
      have z1 := hSW.1.cell1
      have z2 := hSW.2.1.cell0
      have z3 := hSW.2.1.cell1
      go_simp
      all_goals with_reducible rfl
    refine wpAnyH_ready (rs := [25]) (by kernel_rfl) (by simp) ?_
    refine AllReadyH.cons rfl (fun K hK => ?_) AllReadyH.nil
    go_simp
    go_wp2_with ((go_at_call 30; refine (print_any at' ar _ wa0 wa1 wr0 wr1 (HL.out.kept hS.2.2)).mono ?_; rintro e wz ⟨rfl, hbn⟩))
    refine hK.out _ _ (hS.kept hbn) (fun hS => ?_)
    clear hK K
    refine wpAnyH_ready (rs := [27]) (by kernel_rfl) (by simp) ?_
    refine AllReadyH.cons rfl (fun K hK => ?_) AllReadyH.nil
    go_simp
    go_wp2_with ((go_at_call 31; refine (refPrint_any at' ar _ wa0 wa1 wr0 wr1).mono ?_; rintro e wq ⟨rfl, hbn⟩))
    refine hK.out _ _ (hS.kept hbn) (fun hS => ?_)
    clear hK K
    refine wpAnyH_take (i := 28) (v := ?_) rfl (by kernel_rfl) (by kernel_rfl) (by kernel_rfl) (fun _ _ _ h => h) (Or.inl ⟨by kernel_rfl, ?_⟩) hS ?_
    rotate_left
    · intro W hSW
      go_simp
      all_goals with_reducible rfl
    refine wpAnyH_take (i := 29) (v := ?_) rfl (by kernel_rfl) (by kernel_rfl) (by kernel_rfl) (fun _ _ _ h => h) (Or.inl ⟨by kernel_rfl, ?_⟩) hS ?_
    rotate_left
    · intro W hSW
      go_simp
      all_goals with_reducible rfl
    refine wpAnyH_take (i := 30) (v := ?_) rfl (by kernel_rfl) (by kernel_rfl) (by kernel_rfl) (fun _ _ _ h => h) (Or.inl ⟨by kernel_rfl, ?_⟩) hS ?_
    rotate_left
    · intro W hSW
      go_simp
      all_goals with_reducible rfl
    refine wpAnyH_ready (rs := [31]) (by kernel_rfl) (by simp) ?_
    refine AllReadyH.cons rfl (fun K hK => ?_) AllReadyH.nil
    go_simp
    go_wp2_with ((go_at_call 32; refine (knows2_any _).mono ?_; rintro e wk ⟨rfl, hbn⟩))
    refine hK.out _ _ (hS.kept hbn) (fun hS => ?_)
    clear hK K
    refine wpAnyH_take (i := 32) (v := ?_) rfl (by kernel_rfl) (by kernel_rfl) (by kernel_rfl) (fun _ _ _ h => h) (Or.inl ⟨by kernel_rfl, ?_⟩) hS ?_
    rotate_left
    · intro W hSW
      go_simp
      all_goals with_reducible rfl
    refine wpAnyH_take (i := 33) (v := ?_) rfl (by kernel_rfl) (by kernel_rfl) (by kernel_rfl) (fun _ _ _ h => h) (Or.inl ⟨by kernel_rfl, ?_⟩) hS ?_
    rotate_left
    · intro W hSW
      go_simp
      all_goals with_reducible rfl
    refine wpAnyH_done (by kernel_rfl) ?_ _
    have HS13 := Lib.hid hS
    clear hS
    go_simp
    go_wp2
    go_ret
    exact ⟨rfl, HS13.out.2.2⟩

end Go.Proofs.YtbggbpdkphhhdaaDoor
