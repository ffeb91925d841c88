/-
  STAMPBACK: the walk: a stamp that may be is read as it was written, in bytes and in text.
  Conditions: the row's listed variables ('Laid').
-/
import Derived.Test.YtbggbpdkphhhdaaDoorPutTake
import Derived.Test.YtbggbpdkphhhdaaDoorTextMath
import Derived.Deep.DeepCutAuto
import Derived.Deep.RegionWith
import Derived.Test.YtbggbpdkphhhdaaDoorLaid
namespace Go.Proofs.YtbggbpdkphhhdaaDoor
open Go.RowKit

theorem uptoR_back2 (n : Nat) (most : Int) (more : List UInt8) (h : n < 281474976710656) (hm : (n : Int) ≤ most) : uptoR (Wm.numB n ++ more) most = (n, more, 0) := by
  unfold uptoR
  rw [numR_back n 281474976710655 more h (by omega)]
  dsimp only
  rw [if_neg (by simp), if_neg (by omega), List.drop_left' (by rw [Wm.numB_length]; omega)]
theorem take_back (t r : Int) (h : rightB t r = true) : takeR (Wm.numB t.toNat ++ Wm.numB r.toNat) = (t, r, [], 0) := by
  obtain ⟨h0, h1, h2, h3⟩ := rightB_yes h
  unfold takeR
  rw [uptoR_back2 t.toNat _ _ (by omega) (by omega)]
  dsimp only
  have e := uptoR_back2 r.toNat 15 [] (by omega) (by omega)
  rw [List.append_nil] at e
  rw [e]
  dsimp only
  rw [if_neg (by simp), if_neg (by simp)]
  congr 1
  · omega
  · congr 1; omega

set_option maxRecDepth 100000 in
set_option maxHeartbeats 8000000 in
theorem stampBack_yes (t r : Int) (w : World) (hL : Laid w) (hR : rightB t r = true) :
    Calls Tryd.prog 8 #[.agg #[.int .i64 t, .int .i64 r]] w fun e w' => e = .returned (.bool true) ∧ Below w.heap.size w w' := by
  obtain ⟨h0, h1, h2, h3⟩ := rightB_yes hR
  have hb0 := (Below.refl w.heap.size w).alloc (Nat.le_refl _) (.cells #[.int .i64 t, .int .i64 r] 23)
  have HB0 := Lib.hid hb0
  have HL0 := Lib.hid (hL.kept hb0)
  have HT0 := Lib.hid (TwoAt.start w t r)
  have HPU := Lib.hid (show putW t r = (Wm.numB t.toNat ++ Wm.numB r.toNat, 0) by unfold putW; rw [if_pos hR])
  have HPR := Lib.hid (fun W h => print_any t r W (by omega) (by omega) (by omega) (by omega) h)
  have hpl : (printB t r).length ≤ 100 := by
    have a := itoa_len t (by omega) (by omega)
    have b := itoa_len r (by omega) (by omega)
    unfold printB
    simp; omega
  have HPA := Lib.hid (fun W h => parse_any (strB (printB t r)) W (by rw [strB_size]; omega) h)
  rw [strB_toList, parse_print t r hR] at HPA
  have HTKE := Lib.hid (take_back t r hR)
  have s1 := numB_small t.toNat
  have s2 := numB_small r.toNat
  generalize strB (printB t r) = ps at *
  have hx : (Wm.numB t.toNat ++ Wm.numB r.toNat).length ≤ 100 := by simp; omega
  generalize Wm.numB t.toNat ++ Wm.numB r.toNat = x at *
  clear hb0 hL hR hpl s1 s2 h0 h1 h2 h3
  dsimp only at *
  go_enter Tryd.func8, Tryd.ntmps8
  go_wp2_with fail
  refine (put_any t r _).mono ?_
  rw [HPU.out]
  rintro e w1 ⟨v1, rfl, hown1, hb1⟩
  dsimp only at hown1
  obtain ⟨p1, k1, rfl, hbs1, hlk, -, hpn1, -⟩ := hown1.bs
  have HBS1 := Lib.hid hbs1
  have HT1 := Lib.hid (HT0.out.kept hb1)
  have HL1 := Lib.hid (HL0.out.kept hb1)
  have HB1 := Lib.hid (HB0.out.trans (hb1.mono (by simp)))
  clear hown1 hbs1 hb1
  have z0 := HT1.out.cell0
  have z1 := HT1.out.cell1
  go_wp2_with fail
  refine (HPR.out _ HL1.out).mono ?_
  rintro e w2 ⟨rfl, hb2⟩
  have HBS2 := Lib.hid (HBS1.out.kept hb2)
  have HT2 := Lib.hid (HT1.out.kept hb2)
  have HL2 := Lib.hid (HL1.out.kept hb2)
  have HB2 := Lib.hid (HB1.out.trans (hb2.mono HB1.out.size))
  clear hb2 z0 z1
  go_wp2_with fail
  refine (HPA.out _ HL2.out).mono ?_
  rintro e w3 ⟨rfl, hb3⟩
  have hb4 := hb3.trans (((Below.refl w3.heap.size w3).alloc (Nat.le_refl _) (.cells #[.int .i64 t, .int .i64 r] 23)).mono hb3.size)
  have HBS4 := Lib.hid (HBS2.out.kept hb4)
  have HT4 := Lib.hid (HT2.out.kept hb4)
  have HF4 := Lib.hid (TwoAt.start w3 t r)
  have hneq : w.heap.size < w3.heap.size := by have := HT2.out.size; have := hb3.size; omega
  have HB4 := Lib.hid (HB2.out.trans (hb4.mono HB2.out.size))
  have hsz4 : w3.heap.size < (w3.alloc (.cells #[.int .i64 t, .int .i64 r] 23)).heap.size := by simp
  clear hb3 hb4
  go_wp2_with fail
  refine (lawNum2_any 0 _).mono ?_
  rintro e w' ⟨rfl, rfl⟩
  have HOP := Lib.hid (open_any p1 k1 x _ HBS4.out (by omega) (fun h => ⟨hpn1 h, List.eq_nil_of_length_eq_zero (by have := hpn1 h; omega)⟩))
  go_wp2_with fail
  refine HOP.out.mono ?_
  rintro e w5 ⟨bR, rfl, hr5, hb5⟩
  have hge : w3.heap.size + 1 ≤ bR := by have := hr5.1; simpa using this
  have HRD0 := Lib.hid hr5
  have hbd := hb5.trans (((Below.refl w5.heap.size w5).drew).mono hb5.size)
  have x0 := (HT4.out.kept hb5).cell0
  have x1 := (HT4.out.kept hb5).cell1
  have HTW := Lib.hid (HT4.out.kept hbd)
  have HFW := Lib.hid (HF4.out.kept hbd)
  have HBD := Lib.hid (HB4.out.trans (hbd.mono HB4.out.size))
  have hbw : w.heap.size ≤ bR := by omega
  have HTK := Lib.hid (take_any _ bR x _ (hr5.kept ((Below.refl w5.heap.size w5).drew)))
  clear hr5 hb5 hbd
  go_upto_region 6 with fail
  refine wp_region_any (by kernel_rfl) ?_
  try (change wpAny _ _ _ _ _ _ _ (World.drew _))
  refine wpAny_take (i := 0) (v := ?_) rfl (by kernel_rfl) (by kernel_rfl) (by kernel_rfl) (fun _ _ _ h => h) (Or.inl ⟨by kernel_rfl, ?_⟩) ?_
  rotate_left
  · intro w; go_simp
    all_goals with_reducible rfl
  refine wpAny_ready (rs := [1, 2]) (by kernel_rfl) (by simp) ?_
  refine AllReady.cons rfl (fun K hK => ?_) (AllReady.cons rfl (fun K hK => ?_) (AllReady.nil))
  ·
    go_simp
    go_wp2_with (go_at_call 18; refine HTK.out.mono ?_; rw [HTKE.out]; rintro e wt ⟨rfl, hrt, hot⟩; have HRT := Lib.hid hrt; have HT1 := Lib.hid (HTW.out.only hot (by omega)); have HF1 := Lib.hid (HFW.out.only hot (by omega)); have y0 := HT1.out.cell0; have y1 := HT1.out.cell1; have u0 := HF1.out.cell0; have u1 := HF1.out.cell1; have HBT := Lib.hid (hot.below HBD.out hbw HBD.out.size); clear hrt hot)
    try (refine hK _ _ ?_)
    try (clear hK K)
    refine wpAny_ready (rs := [2]) (by kernel_rfl) (by simp) ?_
    refine AllReady.cons rfl (fun K hK => ?_) (AllReady.nil)
    go_simp
    try (refine hK _ _ ?_)
    try (clear hK K)
    refine wpAny_take (i := 3) (v := ?_) rfl (by kernel_rfl) (by kernel_rfl) (by kernel_rfl) (fun _ _ _ h => h) (Or.inl ⟨by kernel_rfl, ?_⟩) ?_
    rotate_left
    · intro w; go_simp
      all_goals with_reducible rfl
    refine wpAny_take (i := 4) (v := ?_) rfl (by kernel_rfl) (by kernel_rfl) (by kernel_rfl) (fun _ _ _ h => h) (Or.inl ⟨by kernel_rfl, ?_⟩) ?_
    rotate_left
    · intro w; go_simp
      all_goals with_reducible rfl
    refine wpAny_take (i := 5) (v := ?_) rfl (by kernel_rfl) (by kernel_rfl) (by kernel_rfl) (fun _ _ _ h => h) (Or.inl ⟨by kernel_rfl, ?_⟩) ?_
    rotate_left
    · intro w; go_simp
      all_goals with_reducible rfl
    refine wpAny_ready (rs := [6]) (by kernel_rfl) (by simp) ?_
    refine AllReady.cons rfl (fun K hK => ?_) (AllReady.nil)
    go_simp
    go_wp2_with (go_at_call 22; refine (done_any _ bR [] 0 _ HRT.out).mono ?_; rintro e w' ⟨rfl, rfl⟩)
    try (refine hK _ _ ?_)
    try (clear hK K)
    refine wpAny_ready (rs := [7]) (by kernel_rfl) (by simp) ?_
    refine AllReady.cons rfl (fun K hK => ?_) (AllReady.nil)
    go_simp
    go_wp2_with (go_at_call 16; refine (lawNum2_any _ _).mono ?_; rintro e w' ⟨rfl, rfl⟩)
    try (refine hK _ _ ?_)
    try (clear hK K)
    refine wpAny_take (i := 8) (v := ?_) rfl (by kernel_rfl) (by kernel_rfl) (by kernel_rfl) (fun _ _ _ h => h) (Or.inl ⟨by kernel_rfl, ?_⟩) ?_
    rotate_left
    · intro w; go_simp
      all_goals with_reducible rfl
    refine wpAny_take (i := 9) (v := ?_) rfl (by kernel_rfl) (by kernel_rfl) (by kernel_rfl) (fun _ _ _ h => h) (Or.inl ⟨by kernel_rfl, ?_⟩) ?_
    rotate_left
    · intro w; go_simp
      all_goals with_reducible rfl
    refine wpAny_take (i := 10) (v := ?_) rfl (by kernel_rfl) (by kernel_rfl) (by kernel_rfl) (fun _ _ _ h => h) (Or.inl ⟨by kernel_rfl, ?_⟩) ?_
    rotate_left
    · intro w; go_simp
      all_goals with_reducible rfl
    refine wpAny_take (i := 11) (v := ?_) rfl (by kernel_rfl) (by kernel_rfl) (by kernel_rfl) (fun _ _ _ h => h) (Or.inl ⟨by kernel_rfl, ?_⟩) ?_
    rotate_left
    · intro w; go_simp
      all_goals with_reducible rfl
    refine wpAny_take (i := 12) (v := ?_) rfl (by kernel_rfl) (by kernel_rfl) (by kernel_rfl) (fun _ _ _ h => h) (Or.inl ⟨by kernel_rfl, ?_⟩) ?_
    rotate_left
    · intro w; go_simp
      all_goals with_reducible rfl
    refine wpAny_take (i := 13) (v := ?_) rfl (by kernel_rfl) (by kernel_rfl) (by kernel_rfl) (fun _ _ _ h => h) (Or.inl ⟨by kernel_rfl, ?_⟩) ?_
    rotate_left
    · intro w; go_simp
      all_goals with_reducible rfl
    refine wpAny_ready (rs := [14, 15]) (by kernel_rfl) (by simp) ?_
    refine AllReady.cons rfl (fun K hK => ?_) (AllReady.cons rfl (fun K hK => ?_) (AllReady.nil))
    ·
      go_simp
      try (refine hK _ _ ?_)
      try (clear hK K)
      refine wpAny_ready (rs := [15]) (by kernel_rfl) (by simp) ?_
      refine AllReady.cons rfl (fun K hK => ?_) (AllReady.nil)
      go_simp
      try (refine hK _ _ ?_)
      try (clear hK K)
      refine wpAny_take (i := 16) (v := ?_) rfl (by kernel_rfl) (by kernel_rfl) (by kernel_rfl) (fun _ _ _ h => h) (Or.inl ⟨by kernel_rfl, ?_⟩) ?_
      rotate_left
      · intro w; go_simp
        all_goals with_reducible rfl
      refine wpAny_take (i := 17) (v := ?_) rfl (by kernel_rfl) (by kernel_rfl) (by kernel_rfl) (fun _ _ _ h => h) (Or.inl ⟨by kernel_rfl, ?_⟩) ?_
      rotate_left
      · intro w; go_simp
        all_goals with_reducible rfl
      refine wpAny_take (i := 18) (v := ?_) rfl (by kernel_rfl) (by kernel_rfl) (by kernel_rfl) (fun _ _ _ h => h) (Or.inl ⟨by kernel_rfl, ?_⟩) ?_
      rotate_left
      · intro w; go_simp
        all_goals with_reducible rfl
      refine wpAny_ready (rs := [19]) (by kernel_rfl) (by simp) ?_
      refine AllReady.cons rfl (fun K hK => ?_) (AllReady.nil)
      go_simp
      go_wp2_with (go_at_call 32; refine (knows2_any _).mono ?_; rintro e wk ⟨rfl, hbk⟩; have HBK := Lib.hid (HBT.out.trans (hbk.mono HBT.out.size)); clear hbk)
      try (refine hK _ _ ?_)
      try (clear hK K)
      refine wpAny_take (i := 20) (v := ?_) rfl (by kernel_rfl) (by kernel_rfl) (by kernel_rfl) (fun _ _ _ h => h) (Or.inl ⟨by kernel_rfl, ?_⟩) ?_
      rotate_left
      · intro w; go_simp
        all_goals with_reducible rfl
      refine wpAny_take (i := 21) (v := ?_) rfl (by kernel_rfl) (by kernel_rfl) (by kernel_rfl) (fun _ _ _ h => h) (Or.inl ⟨by kernel_rfl, ?_⟩) ?_
      rotate_left
      · intro w; go_simp
        all_goals with_reducible rfl
      refine wpAny_done (by kernel_rfl) ?_ _
      go_wp2
      go_ret
      exact ⟨rfl, HBK.out⟩
    ·
      go_simp
      try (refine hK _ _ ?_)
      try (clear hK K)
      refine wpAny_ready (rs := [14]) (by kernel_rfl) (by simp) ?_
      refine AllReady.cons rfl (fun K hK => ?_) (AllReady.nil)
      go_simp
      try (refine hK _ _ ?_)
      try (clear hK K)
      refine wpAny_take (i := 16) (v := ?_) rfl (by kernel_rfl) (by kernel_rfl) (by kernel_rfl) (fun _ _ _ h => h) (Or.inl ⟨by kernel_rfl, ?_⟩) ?_
      rotate_left
      · intro w; go_simp
        all_goals with_reducible rfl
      refine wpAny_take (i := 17) (v := ?_) rfl (by kernel_rfl) (by kernel_rfl) (by kernel_rfl) (fun _ _ _ h => h) (Or.inl ⟨by kernel_rfl, ?_⟩) ?_
      rotate_left
      · intro w; go_simp
        all_goals with_reducible rfl
      refine wpAny_take (i := 18) (v := ?_) rfl (by kernel_rfl) (by kernel_rfl) (by kernel_rfl) (fun _ _ _ h => h) (Or.inl ⟨by kernel_rfl, ?_⟩) ?_
      rotate_left
      · intro w; go_simp
        all_goals with_reducible rfl
      refine wpAny_ready (rs := [19]) (by kernel_rfl) (by simp) ?_
      refine AllReady.cons rfl (fun K hK => ?_) (AllReady.nil)
      go_simp
      go_wp2_with (go_at_call 32; refine (knows2_any _).mono ?_; rintro e wk ⟨rfl, hbk⟩; have HBK := Lib.hid (HBT.out.trans (hbk.mono HBT.out.size)); clear hbk)
      try (refine hK _ _ ?_)
      try (clear hK K)
      refine wpAny_take (i := 20) (v := ?_) rfl (by kernel_rfl) (by kernel_rfl) (by kernel_rfl) (fun _ _ _ h => h) (Or.inl ⟨by kernel_rfl, ?_⟩) ?_
      rotate_left
      · intro w; go_simp
        all_goals with_reducible rfl
      refine wpAny_take (i := 21) (v := ?_) rfl (by kernel_rfl) (by kernel_rfl) (by kernel_rfl) (fun _ _ _ h => h) (Or.inl ⟨by kernel_rfl, ?_⟩) ?_
      rotate_left
      · intro w; go_simp
        all_goals with_reducible rfl
      refine wpAny_done (by kernel_rfl) ?_ _
      go_wp2
      go_ret
      exact ⟨rfl, HBK.out⟩
  ·
    go_simp
    try (refine hK _ _ ?_)
    try (clear hK K)
    refine wpAny_ready (rs := [1]) (by kernel_rfl) (by simp) ?_
    refine AllReady.cons rfl (fun K hK => ?_) (AllReady.nil)
    go_simp
    go_wp2_with (go_at_call 18; refine HTK.out.mono ?_; rw [HTKE.out]; rintro e wt ⟨rfl, hrt, hot⟩; have HRT := Lib.hid hrt; have HT1 := Lib.hid (HTW.out.only hot (by omega)); have HF1 := Lib.hid (HFW.out.only hot (by omega)); have y0 := HT1.out.cell0; have y1 := HT1.out.cell1; have u0 := HF1.out.cell0; have u1 := HF1.out.cell1; have HBT := Lib.hid (hot.below HBD.out hbw HBD.out.size); clear hrt hot)
    try (refine hK _ _ ?_)
    try (clear hK K)
    refine wpAny_take (i := 3) (v := ?_) rfl (by kernel_rfl) (by kernel_rfl) (by kernel_rfl) (fun _ _ _ h => h) (Or.inl ⟨by kernel_rfl, ?_⟩) ?_
    rotate_left
    · intro w; go_simp
      all_goals with_reducible rfl
    refine wpAny_take (i := 4) (v := ?_) rfl (by kernel_rfl) (by kernel_rfl) (by kernel_rfl) (fun _ _ _ h => h) (Or.inl ⟨by kernel_rfl, ?_⟩) ?_
    rotate_left
    · intro w; go_simp
      all_goals with_reducible rfl
    refine wpAny_take (i := 5) (v := ?_) rfl (by kernel_rfl) (by kernel_rfl) (by kernel_rfl) (fun _ _ _ h => h) (Or.inl ⟨by kernel_rfl, ?_⟩) ?_
    rotate_left
    · intro w; go_simp
      all_goals with_reducible rfl
    refine wpAny_ready (rs := [6]) (by kernel_rfl) (by simp) ?_
    refine AllReady.cons rfl (fun K hK => ?_) (AllReady.nil)
    go_simp
    go_wp2_with (go_at_call 22; refine (done_any _ bR [] 0 _ HRT.out).mono ?_; rintro e w' ⟨rfl, rfl⟩)
    try (refine hK _ _ ?_)
    try (clear hK K)
    refine wpAny_ready (rs := [7]) (by kernel_rfl) (by simp) ?_
    refine AllReady.cons rfl (fun K hK => ?_) (AllReady.nil)
    go_simp
    go_wp2_with (go_at_call 16; refine (lawNum2_any _ _).mono ?_; rintro e w' ⟨rfl, rfl⟩)
    try (refine hK _ _ ?_)
    try (clear hK K)
    refine wpAny_take (i := 8) (v := ?_) rfl (by kernel_rfl) (by kernel_rfl) (by kernel_rfl) (fun _ _ _ h => h) (Or.inl ⟨by kernel_rfl, ?_⟩) ?_
    rotate_left
    · intro w; go_simp
      all_goals with_reducible rfl
    refine wpAny_take (i := 9) (v := ?_) rfl (by kernel_rfl) (by kernel_rfl) (by kernel_rfl) (fun _ _ _ h => h) (Or.inl ⟨by kernel_rfl, ?_⟩) ?_
    rotate_left
    · intro w; go_simp
      all_goals with_reducible rfl
    refine wpAny_take (i := 10) (v := ?_) rfl (by kernel_rfl) (by kernel_rfl) (by kernel_rfl) (fun _ _ _ h => h) (Or.inl ⟨by kernel_rfl, ?_⟩) ?_
    rotate_left
    · intro w; go_simp
      all_goals with_reducible rfl
    refine wpAny_take (i := 11) (v := ?_) rfl (by kernel_rfl) (by kernel_rfl) (by kernel_rfl) (fun _ _ _ h => h) (Or.inl ⟨by kernel_rfl, ?_⟩) ?_
    rotate_left
    · intro w; go_simp
      all_goals with_reducible rfl
    refine wpAny_take (i := 12) (v := ?_) rfl (by kernel_rfl) (by kernel_rfl) (by kernel_rfl) (fun _ _ _ h => h) (Or.inl ⟨by kernel_rfl, ?_⟩) ?_
    rotate_left
    · intro w; go_simp
      all_goals with_reducible rfl
    refine wpAny_take (i := 13) (v := ?_) rfl (by kernel_rfl) (by kernel_rfl) (by kernel_rfl) (fun _ _ _ h => h) (Or.inl ⟨by kernel_rfl, ?_⟩) ?_
    rotate_left
    · intro w; go_simp
      all_goals with_reducible rfl
    refine wpAny_ready (rs := [14, 15]) (by kernel_rfl) (by simp) ?_
    refine AllReady.cons rfl (fun K hK => ?_) (AllReady.cons rfl (fun K hK => ?_) (AllReady.nil))
    ·
      go_simp
      try (refine hK _ _ ?_)
      try (clear hK K)
      refine wpAny_ready (rs := [15]) (by kernel_rfl) (by simp) ?_
      refine AllReady.cons rfl (fun K hK => ?_) (AllReady.nil)
      go_simp
      try (refine hK _ _ ?_)
      try (clear hK K)
      refine wpAny_take (i := 16) (v := ?_) rfl (by kernel_rfl) (by kernel_rfl) (by kernel_rfl) (fun _ _ _ h => h) (Or.inl ⟨by kernel_rfl, ?_⟩) ?_
      rotate_left
      · intro w; go_simp
        all_goals with_reducible rfl
      refine wpAny_take (i := 17) (v := ?_) rfl (by kernel_rfl) (by kernel_rfl) (by kernel_rfl) (fun _ _ _ h => h) (Or.inl ⟨by kernel_rfl, ?_⟩) ?_
      rotate_left
      · intro w; go_simp
        all_goals with_reducible rfl
      refine wpAny_take (i := 18) (v := ?_) rfl (by kernel_rfl) (by kernel_rfl) (by kernel_rfl) (fun _ _ _ h => h) (Or.inl ⟨by kernel_rfl, ?_⟩) ?_
      rotate_left
      · intro w; go_simp
        all_goals with_reducible rfl
      refine wpAny_ready (rs := [19]) (by kernel_rfl) (by simp) ?_
      refine AllReady.cons rfl (fun K hK => ?_) (AllReady.nil)
      go_simp
      go_wp2_with (go_at_call 32; refine (knows2_any _).mono ?_; rintro e wk ⟨rfl, hbk⟩; have HBK := Lib.hid (HBT.out.trans (hbk.mono HBT.out.size)); clear hbk)
      try (refine hK _ _ ?_)
      try (clear hK K)
      refine wpAny_take (i := 20) (v := ?_) rfl (by kernel_rfl) (by kernel_rfl) (by kernel_rfl) (fun _ _ _ h => h) (Or.inl ⟨by kernel_rfl, ?_⟩) ?_
      rotate_left
      · intro w; go_simp
        all_goals with_reducible rfl
      refine wpAny_take (i := 21) (v := ?_) rfl (by kernel_rfl) (by kernel_rfl) (by kernel_rfl) (fun _ _ _ h => h) (Or.inl ⟨by kernel_rfl, ?_⟩) ?_
      rotate_left
      · intro w; go_simp
        all_goals with_reducible rfl
      refine wpAny_done (by kernel_rfl) ?_ _
      go_wp2
      go_ret
      exact ⟨rfl, HBK.out⟩
    ·
      go_simp
      try (refine hK _ _ ?_)
      try (clear hK K)
      refine wpAny_ready (rs := [14]) (by kernel_rfl) (by simp) ?_
      refine AllReady.cons rfl (fun K hK => ?_) (AllReady.nil)
      go_simp
      try (refine hK _ _ ?_)
      try (clear hK K)
      refine wpAny_take (i := 16) (v := ?_) rfl (by kernel_rfl) (by kernel_rfl) (by kernel_rfl) (fun _ _ _ h => h) (Or.inl ⟨by kernel_rfl, ?_⟩) ?_
      rotate_left
      · intro w; go_simp
        all_goals with_reducible rfl
      refine wpAny_take (i := 17) (v := ?_) rfl (by kernel_rfl) (by kernel_rfl) (by kernel_rfl) (fun _ _ _ h => h) (Or.inl ⟨by kernel_rfl, ?_⟩) ?_
      rotate_left
      · intro w; go_simp
        all_goals with_reducible rfl
      refine wpAny_take (i := 18) (v := ?_) rfl (by kernel_rfl) (by kernel_rfl) (by kernel_rfl) (fun _ _ _ h => h) (Or.inl ⟨by kernel_rfl, ?_⟩) ?_
      rotate_left
      · intro w; go_simp
        all_goals with_reducible rfl
      refine wpAny_ready (rs := [19]) (by kernel_rfl) (by simp) ?_
      refine AllReady.cons rfl (fun K hK => ?_) (AllReady.nil)
      go_simp
      go_wp2_with (go_at_call 32; refine (knows2_any _).mono ?_; rintro e wk ⟨rfl, hbk⟩; have HBK := Lib.hid (HBT.out.trans (hbk.mono HBT.out.size)); clear hbk)
      try (refine hK _ _ ?_)
      try (clear hK K)
      refine wpAny_take (i := 20) (v := ?_) rfl (by kernel_rfl) (by kernel_rfl) (by kernel_rfl) (fun _ _ _ h => h) (Or.inl ⟨by kernel_rfl, ?_⟩) ?_
      rotate_left
      · intro w; go_simp
        all_goals with_reducible rfl
      refine wpAny_take (i := 21) (v := ?_) rfl (by kernel_rfl) (by kernel_rfl) (by kernel_rfl) (fun _ _ _ h => h) (Or.inl ⟨by kernel_rfl, ?_⟩) ?_
      rotate_left
      · intro w; go_simp
        all_goals with_reducible rfl
      refine wpAny_done (by kernel_rfl) ?_ _
      go_wp2
      go_ret
      exact ⟨rfl, HBK.out⟩

theorem wf_i64 {n : Int} (h : (Lit.int .i64 n).wf = true) : -9223372036854775808 ≤ n ∧ n ≤ 9223372036854775807 := by
  simpa [Lit.wf, IntKind.min, IntKind.max, IntKind.signed, IntKind.bits] using h

set_option maxRecDepth 100000 in
set_option maxHeartbeats 8000000 in
theorem stampBack_no (t r : Int) (w : World) (wt : (Lit.int .i64 t).wf = true) (wr : (Lit.int .i64 r).wf = true) (hL : Laid w) (hR : rightB t r = false) :
    Calls Tryd.prog 8 #[.agg #[.int .i64 t, .int .i64 r]] w fun e w' => e = .returned (.bool true) ∧ Below w.heap.size w w' := by
  obtain ⟨t0, t1⟩ := wf_i64 wt
  obtain ⟨r0, r1⟩ := wf_i64 wr
  have hb0 := (Below.refl w.heap.size w).alloc (Nat.le_refl _) (.cells #[.int .i64 t, .int .i64 r] 23)
  have HB0 := Lib.hid hb0
  have HL0 := Lib.hid (hL.kept hb0)
  have HT0 := Lib.hid (TwoAt.start w t r)
  have HPU := Lib.hid (show putW t r = ([], 1) by unfold putW; rw [if_neg (by simp [hR])])
  have HPR := Lib.hid (fun W h => print_any t r W t0 t1 r0 r1 h)
  have hpl : (printB t r).length ≤ 100 := by
    have a := itoa_len t t0 t1
    have b := itoa_len r r0 r1
    unfold printB
    simp; omega
  have hno := parse_print_no t r (by omega) (by omega) hR
  have HPA := Lib.hid (fun W h => parse_any (strB (printB t r)) W (by rw [strB_size]; omega) h)
  rw [strB_toList] at HPA
  generalize parseR (printB t r) = q at *
  obtain ⟨q1, q2, q3⟩ := q
  dsimp only at hno
  subst hno
  have HRT := Lib.hid (fun W => right_any t r W)
  rw [hR] at HRT
  generalize strB (printB t r) = ps at *
  clear hb0 hL hR hpl wt wr t0 t1 r0 r1
  dsimp only at *
  go_enter Tryd.func8, Tryd.ntmps8
  go_wp2_with fail
  refine (put_any t r _).mono ?_
  rw [HPU.out]
  rintro e w1 ⟨v1, rfl, hown1, hb1⟩
  dsimp only at hown1
  obtain ⟨p1, k1, rfl, -⟩ := hown1.bs
  have HT1 := Lib.hid (HT0.out.kept hb1)
  have HL1 := Lib.hid (HL0.out.kept hb1)
  have HB1 := Lib.hid (HB0.out.trans (hb1.mono (by simp)))
  clear hown1 hb1
  have z0 := HT1.out.cell0
  have z1 := HT1.out.cell1
  go_wp2_with fail
  refine (HPR.out _ HL1.out).mono ?_
  rintro e w2 ⟨rfl, hb2⟩
  have HT2 := Lib.hid (HT1.out.kept hb2)
  have HL2 := Lib.hid (HL1.out.kept hb2)
  have HB2 := Lib.hid (HB1.out.trans (hb2.mono HB1.out.size))
  clear hb2 z0 z1
  go_wp2_with fail
  refine (HPA.out _ HL2.out).mono ?_
  rintro e w3 ⟨rfl, hb3⟩
  have hb4 := hb3.trans (((Below.refl w3.heap.size w3).alloc (Nat.le_refl _) (.cells #[.int .i64 q1, .int .i64 q2] 23)).mono hb3.size)
  have z0 := (HT2.out.kept hb4).cell0
  have z1 := (HT2.out.kept hb4).cell1
  have HB4 := Lib.hid (HB2.out.trans (hb4.mono HB2.out.size))
  have y0 := (HT2.out.kept hb3).cell0
  have y1 := (HT2.out.kept hb3).cell1
  have hlt3 : w.heap.size < w3.heap.size := (HT2.out.kept hb3).size
  clear hb3 hb4
  go_wp2_with fail
  refine (lawNum2_any 1 _).mono ?_
  rintro e w' ⟨rfl, rfl⟩
  go_wp2_with fail
  refine (HRT.out _).mono ?_
  rintro e w5 ⟨rfl, hb5⟩
  have HB5 := Lib.hid (HB4.out.trans (hb5.mono HB4.out.size))
  clear hb5 z0 z1 y0 y1
  go_wp2_with fail
  refine (knows2_any _).mono ?_
  rintro e wk ⟨rfl, hbk⟩
  have HBK := Lib.hid (HB5.out.trans (hbk.mono HB5.out.size))
  clear hbk
  go_wp2
  go_ret
  exact ⟨rfl, HBK.out⟩

/-- what the row's list gives -/
theorem laid_of {W : World} (h : laidMetH Tryd.prog Rows.stampBackRow.laid W) : Laid W := by
  rw [MakeChecks.laidMetH_plain _ _ _ (by kernel_rfl)] at h
  exact laid_of_list h

theorem stampBack_walk (t r : Int) (w : World) (wt : (Lit.int .i64 t).wf = true) (wr : (Lit.int .i64 r).wf = true) (hL : laidMetH Tryd.prog Rows.stampBackRow.laid w) :
    Calls Tryd.prog 8 #[.agg #[.int .i64 t, .int .i64 r]] w fun e w' => e = .returned (.bool true) ∧ Below w.heap.size w w' := by
  cases hR : rightB t r with
  | true => exact stampBack_yes t r w (laid_of hL) hR
  | false => exact stampBack_no t r w wt wr (laid_of hL) hR

end Go.Proofs.YtbggbpdkphhhdaaDoor
