/-
  WIREWRITES' WALK, a slice of at most 5000 bytes (part D).
-/
import Derived.Test.YtdedlghimeomcaaWrites
import Derived.Deep.RegionWith
import Derived.Deep.DeepMust
namespace Go.Proofs.Ytdedlghimeomcaa
open Go.RowKit

set_option maxHeartbeats 2000000 in
theorem writes_s3 (n : Int) (s : ByteArray) (p : Option Addr) (c : Nat) (l : List UInt8) (w : World) (hs : s.size ≤ 140737488351232) (h : Bs w p l) (hpn : p = none → c = 0) (hl : l.length ≤ 140737488351232) (hbig : ¬ 5000 < l.length) (hX : numW n = ([], 30)) (Y : List UInt8) (hY : textW s.data.toList = (Y, 0)) (hY0 : 0 < Y.length) (hY1 : ((Y.length : Int) == 0) = false) (_hY2 : (Y.length == 0) = false) (_hY3 : ¬ Y = []) :
    Calls Try.prog 3 #[.int .i64 n, .string s, .slice p l.length c] w fun e w' => e = .returned (.bool true) ∧ Below w.heap.size w w' := by
  have HL := Lib.hid (lent_any p c l w h (by omega) hpn)
  have H := Lib.hid h
  have HX := Lib.hid hX
  have HY := Lib.hid hY
  clear h hX hY
  go_enter Try.func3, Try.ntmps3
  go_wp2_with fail
  refine HL.out.mono ?_
  rintro e w1 ⟨g, cap, rfl, hown1, hb1, hcap⟩
  have hs1 := hb1.size
  have HO1 := Lib.hid hown1
  clear hown1
  go_wp2_with fail
  refine (num_any n w1).mono ?_
  rw [HX.out]
  rintro e w2 ⟨v2, rfl, hown2, hb2⟩
  dsimp only at hown2
  have hs2 := hb2.size
  obtain ⟨p2, c2, rfl, hbs2, -⟩ := hown2.bs
  have HB2 := Lib.hid hbs2
  clear hown2 hbs2
  go_wp2_with fail
  refine (text_any s w2 (by unfold maxLen; omega)).mono ?_
  rw [HY.out]
  rintro e w3 ⟨v3, rfl, hown3, hb3⟩
  dsimp only at hown3
  have hs3 := hb3.size
  obtain ⟨p3, c3, rfl, hbs3, -⟩ := hown3.bs
  have HB3 := Lib.hid hbs3
  clear hown3 hbs3
  go_wp2_with fail
  refine (refNum_any n w3).mono ?_
  rw [HX.out]
  rintro e w4 ⟨v4, rfl, hown4, hb4⟩
  dsimp only at hown4
  have hs4 := hb4.size
  obtain ⟨p4, c4, rfl, hbs4, -⟩ := hown4.bs
  have HB4 := Lib.hid hbs4
  clear hown4 hbs4
  go_wp2_with fail
  refine (refText_any s w4 (by unfold maxLen; omega)).mono ?_
  rw [HY.out]
  rintro e w5 ⟨v5, rfl, hown5, hb5⟩
  dsimp only at hown5
  have hs5 := hb5.size
  obtain ⟨p5, c5, rfl, hbs5, -⟩ := hown5.bs
  have hb45 := hb5
  have hb35 : Below w3.heap.size w3 w5 := hb4.trans (Below.mono hb45 hs4)
  have hb25 : Below w2.heap.size w2 w5 := hb3.trans (Below.mono hb35 hs3)
  have hb15 : Below w1.heap.size w1 w5 := hb2.trans (Below.mono hb25 hs2)
  have hbw5 : Below w.heap.size w w5 := hb1.trans (Below.mono hb15 hs1)
  have k2 := conv_own (HB2.out.kept hb25) c2
  have k3 := conv_own (HB3.out.kept hb35) c3
  have k4 := conv_own (HB4.out.kept hb45) c4
  have k5 := conv_own hbs5 c5
  try simp only [List.length_nil] at k2 k3 k4 k5
  have HO5 := Lib.hid (HO1.out.below hb15)
  have HB5 := Lib.hid (H.out.kept hbw5)
  clear hown5 hbs5 hb1 hb2 hb3 hb4 hb5 hb45 hb35 hb25 hs1 hs2 hs3 hs4 hs5
  go_wp2_with (go_at_call 13; refine (lawNum_any _ _).mono ?_; rintro e w' ⟨rfl, rfl⟩)
  have HFR := Lib.hid (frame_any (some ⟨g, 0, none⟩) cap l w5 (own_prefix HO5.out) (by unfold maxLen; omega) (by simp))
  have hs5 := hbw5.size
  clear k2 k3 k4 k5
  go_wp2_with fail
  refine HFR.out.mono ?_
  rw [show frameW l = (Wm.frameB l, 0) from by unfold frameW; rw [if_pos (by omega)]]
  rintro e w6 ⟨v6, rfl, hown6, hb6⟩
  dsimp only at hown6
  obtain ⟨pz, cz, rfl, hbsz, -⟩ := hown6.bs
  have HFW := Lib.hid (show (frameW l).1 = Wm.frameB l by unfold frameW; rw [if_pos (by omega)])
  generalize Wm.frameB l = f at *
  have k : ∀ W p c, Bs W p f → (convert 22 9 (.slice p f.length c)).run Try.prog W = .ok (.string (strB f)) W := fun W p c h => conv_own h c
  generalize strB f = z at *
  have hz6 : Bs w6.drew pz f := hbsz.drew
  have HO6 := Lib.hid (HO5.out.below hb6).drew
  have HB6 := Lib.hid (HB5.out.kept hb6).drew
  have hb7 : Below w.heap.size w w6.drew := (hbw5.trans (Below.mono hb6 hs5)).drew
  have hs7 := hb7.size
  have HBL := Lib.hid (own_prefix HO6.out)
  clear hb6 hown6 hb15 hbsz
  go_wp2
  go_region_with (first | (go_at_call 17; go_must (refine (sum_any (some ⟨g, 0, none⟩) cap l _ HBL.out (by unfold maxLen; omega)).mono ?_; rintro e w' ⟨rfl, rfl⟩)) | (go_at_call 18; go_must (refine (refSum_any p c l _ HB6.out (by unfold maxLen; omega)).mono ?_; rintro e w' ⟨rfl, rfl⟩)) | (go_at_call 19; go_must (refine (refFrame_any p c l _ HB6.out (by unfold maxLen; omega) hpn).mono ?_; rintro e w7 ⟨v7, rfl, hown7, hbe7⟩; rw [HFW.out] at hown7; obtain ⟨py, cy, rfl, hy7, -⟩ := hown7.bs; have hz7 := hz6.kept hbe7; have HBE := Lib.hid hbe7; clear hown7 hbe7)) | (go_at_call 13; refine (lawNum_any _ _).mono ?_; rintro e w' ⟨rfl, rfl⟩) | (go_at_call 15; go_must (refine (stays_any w.heap.size g cap p c l _ (HO6.out.below HBE.out) hcap (HB6.out.kept HBE.out) (by omega)).mono ?_; rintro e w8 ⟨rfl, q8, hw8⟩; have HW8 := Lib.hid hw8; clear hw8)) | (go_at_call 16; go_must (refine (knows_any _).mono ?_; rintro e w9 ⟨rfl, hbk⟩)))
  all_goals
    have hb9 : Below w.heap.size w w7 := hb7.trans (Below.mono HBE.out hs7)
    have hb10 : Below w.heap.size w w8 := by rw [HW8.out]; exact below_drewN hb9 _
    have hb11 := hb10.trans (Below.mono hbk hb10.size)
    clear hbk hb10 hb9
    go_wp2
    go_ret
    exact ⟨rfl, hb11⟩

set_option maxHeartbeats 2000000 in
theorem writes_s4 (n : Int) (s : ByteArray) (p : Option Addr) (c : Nat) (l : List UInt8) (w : World) (hs : s.size ≤ 140737488351232) (h : Bs w p l) (hpn : p = none → c = 0) (hl : l.length ≤ 140737488351232) (hbig : ¬ 5000 < l.length) (hX : numW n = ([], 30)) (hY : textW s.data.toList = ([], 6)) :
    Calls Try.prog 3 #[.int .i64 n, .string s, .slice p l.length c] w fun e w' => e = .returned (.bool true) ∧ Below w.heap.size w w' := by
  have HL := Lib.hid (lent_any p c l w h (by omega) hpn)
  have H := Lib.hid h
  have HX := Lib.hid hX
  have HY := Lib.hid hY
  clear h hX hY
  go_enter Try.func3, Try.ntmps3
  go_wp2_with fail
  refine HL.out.mono ?_
  rintro e w1 ⟨g, cap, rfl, hown1, hb1, hcap⟩
  have hs1 := hb1.size
  have HO1 := Lib.hid hown1
  clear hown1
  go_wp2_with fail
  refine (num_any n w1).mono ?_
  rw [HX.out]
  rintro e w2 ⟨v2, rfl, hown2, hb2⟩
  dsimp only at hown2
  have hs2 := hb2.size
  obtain ⟨p2, c2, rfl, hbs2, -⟩ := hown2.bs
  have HB2 := Lib.hid hbs2
  clear hown2 hbs2
  go_wp2_with fail
  refine (text_any s w2 (by unfold maxLen; omega)).mono ?_
  rw [HY.out]
  rintro e w3 ⟨v3, rfl, hown3, hb3⟩
  dsimp only at hown3
  have hs3 := hb3.size
  obtain ⟨p3, c3, rfl, hbs3, -⟩ := hown3.bs
  have HB3 := Lib.hid hbs3
  clear hown3 hbs3
  go_wp2_with fail
  refine (refNum_any n w3).mono ?_
  rw [HX.out]
  rintro e w4 ⟨v4, rfl, hown4, hb4⟩
  dsimp only at hown4
  have hs4 := hb4.size
  obtain ⟨p4, c4, rfl, hbs4, -⟩ := hown4.bs
  have HB4 := Lib.hid hbs4
  clear hown4 hbs4
  go_wp2_with fail
  refine (refText_any s w4 (by unfold maxLen; omega)).mono ?_
  rw [HY.out]
  rintro e w5 ⟨v5, rfl, hown5, hb5⟩
  dsimp only at hown5
  have hs5 := hb5.size
  obtain ⟨p5, c5, rfl, hbs5, -⟩ := hown5.bs
  have hb45 := hb5
  have hb35 : Below w3.heap.size w3 w5 := hb4.trans (Below.mono hb45 hs4)
  have hb25 : Below w2.heap.size w2 w5 := hb3.trans (Below.mono hb35 hs3)
  have hb15 : Below w1.heap.size w1 w5 := hb2.trans (Below.mono hb25 hs2)
  have hbw5 : Below w.heap.size w w5 := hb1.trans (Below.mono hb15 hs1)
  have k2 := conv_own (HB2.out.kept hb25) c2
  have k3 := conv_own (HB3.out.kept hb35) c3
  have k4 := conv_own (HB4.out.kept hb45) c4
  have k5 := conv_own hbs5 c5
  try simp only [List.length_nil] at k2 k3 k4 k5
  have HO5 := Lib.hid (HO1.out.below hb15)
  have HB5 := Lib.hid (H.out.kept hbw5)
  clear hown5 hbs5 hb1 hb2 hb3 hb4 hb5 hb45 hb35 hb25 hs1 hs2 hs3 hs4 hs5
  go_wp2_with (go_at_call 13; refine (lawNum_any _ _).mono ?_; rintro e w' ⟨rfl, rfl⟩)
  have HFR := Lib.hid (frame_any (some ⟨g, 0, none⟩) cap l w5 (own_prefix HO5.out) (by unfold maxLen; omega) (by simp))
  have hs5 := hbw5.size
  clear k2 k3 k4 k5
  go_wp2_with fail
  refine HFR.out.mono ?_
  rw [show frameW l = (Wm.frameB l, 0) from by unfold frameW; rw [if_pos (by omega)]]
  rintro e w6 ⟨v6, rfl, hown6, hb6⟩
  dsimp only at hown6
  obtain ⟨pz, cz, rfl, hbsz, -⟩ := hown6.bs
  have HFW := Lib.hid (show (frameW l).1 = Wm.frameB l by unfold frameW; rw [if_pos (by omega)])
  generalize Wm.frameB l = f at *
  have k : ∀ W p c, Bs W p f → (convert 22 9 (.slice p f.length c)).run Try.prog W = .ok (.string (strB f)) W := fun W p c h => conv_own h c
  generalize strB f = z at *
  have hz6 : Bs w6.drew pz f := hbsz.drew
  have HO6 := Lib.hid (HO5.out.below hb6).drew
  have HB6 := Lib.hid (HB5.out.kept hb6).drew
  have hb7 : Below w.heap.size w w6.drew := (hbw5.trans (Below.mono hb6 hs5)).drew
  have hs7 := hb7.size
  have HBL := Lib.hid (own_prefix HO6.out)
  clear hb6 hown6 hb15 hbsz
  go_wp2
  go_region_with (first | (go_at_call 17; go_must (refine (sum_any (some ⟨g, 0, none⟩) cap l _ HBL.out (by unfold maxLen; omega)).mono ?_; rintro e w' ⟨rfl, rfl⟩)) | (go_at_call 18; go_must (refine (refSum_any p c l _ HB6.out (by unfold maxLen; omega)).mono ?_; rintro e w' ⟨rfl, rfl⟩)) | (go_at_call 19; go_must (refine (refFrame_any p c l _ HB6.out (by unfold maxLen; omega) hpn).mono ?_; rintro e w7 ⟨v7, rfl, hown7, hbe7⟩; rw [HFW.out] at hown7; obtain ⟨py, cy, rfl, hy7, -⟩ := hown7.bs; have hz7 := hz6.kept hbe7; have HBE := Lib.hid hbe7; clear hown7 hbe7)) | (go_at_call 13; refine (lawNum_any _ _).mono ?_; rintro e w' ⟨rfl, rfl⟩) | (go_at_call 15; go_must (refine (stays_any w.heap.size g cap p c l _ (HO6.out.below HBE.out) hcap (HB6.out.kept HBE.out) (by omega)).mono ?_; rintro e w8 ⟨rfl, q8, hw8⟩; have HW8 := Lib.hid hw8; clear hw8)) | (go_at_call 16; go_must (refine (knows_any _).mono ?_; rintro e w9 ⟨rfl, hbk⟩)))
  all_goals
    have hb9 : Below w.heap.size w w7 := hb7.trans (Below.mono HBE.out hs7)
    have hb10 : Below w.heap.size w w8 := by rw [HW8.out]; exact below_drewN hb9 _
    have hb11 := hb10.trans (Below.mono hbk hb10.size)
    clear hbk hb10 hb9
    go_wp2
    go_ret
    exact ⟨rfl, hb11⟩

end Go.Proofs.Ytdedlghimeomcaa
