/-
  WIREWRITES' WALK: for every number, text and slice of bytes: Num, Text, Sum and Frame answer what the document says.
-/
import Derived.Test.YtdedlghimeomcaaCanon
import Derived.Test.YtdedlghimeomcaaKnows
import Derived.Test.YtdedlghimeomcaaNil
import Derived.Test.YtdedlghimeomcaaRef
import Derived.Test.YtdedlghimeomcaaUnf
namespace Go.Proofs.Ytdedlghimeomcaa
open Go.RowKit

theorem len_facts {X : List UInt8} (h : 0 < X.length) : 0 < X.length ∧ ((X.length : Int) == 0) = false ∧ (X.length == 0) = false ∧ ¬ X = [] := by
  refine ⟨h, by rw [beq_eq_false_iff_ne]; omega, by rw [beq_eq_false_iff_ne]; omega, fun e => by rw [e] at h; simp at h⟩

theorem numW_two (n : Int) : ∃ X E, numW n = (X, E) ∧ ((E = 0 ∧ 0 < X.length ∧ ((X.length : Int) == 0) = false ∧ (X.length == 0) = false ∧ ¬ X = []) ∨ (E = 30 ∧ X = [])) := by
  unfold numW
  split
  · exact ⟨_, _, rfl, Or.inl ⟨rfl, len_facts (by rw [Wm.numB_length]; omega)⟩⟩
  · exact ⟨_, _, rfl, Or.inr ⟨rfl, rfl⟩⟩
theorem textW_two (s : List UInt8) : ∃ X E, textW s = (X, E) ∧ X.length ≤ 1048600 ∧ ((E = 0 ∧ 0 < X.length ∧ ((X.length : Int) == 0) = false ∧ (X.length == 0) = false ∧ ¬ X = []) ∨ (E = 6 ∧ X = [])) := by
  unfold textW
  split
  · exact ⟨_, _, rfl, by have := numB_small s.length; simp; omega, Or.inl ⟨rfl, len_facts (by simp [Wm.numB_length]; omega)⟩⟩
  · exact ⟨_, _, rfl, by simp, Or.inr ⟨rfl, rfl⟩⟩

theorem conv_own {w : World} {p : Option Addr} {l : List UInt8} (h : Bs w p l) (c : Nat) : (convert 22 9 (.slice p l.length c)).run Try.prog w = .ok (.string (strB l)) w :=
  h.conv c 22 5 9 Try.underlying22 Try.underlying5 Try.underlying9

theorem own_prefix {E : TypeId} {w : World} {B g cap : Nat} {l : List UInt8} (h : Own E w B (.slice (some ⟨g, 0, none⟩) (l.length + 2) cap) (l ++ [61, 62])) : Bs w (some ⟨g, 0, none⟩) l := fun h0 => ⟨g, 0, rfl, fun i hi => by
  rw [Nat.zero_add, h.cell i (by simp; omega), by8_app_l _ _ _ hi]⟩

set_option maxHeartbeats 2000000 in
theorem writes_large (n : Int) (s : ByteArray) (p : Option Addr) (c : Nat) (l : List UInt8) (w : World) (hs : s.size ≤ 140737488351232) (h : Bs w p l) (hpn : p = none → c = 0) (hl : l.length ≤ 140737488351232) (hbig : 5000 < l.length) :
    Calls Try.prog 3 #[.int .i64 n, .string s, .slice p l.length c] w fun e w' => e = .returned (.bool true) ∧ Below w.heap.size w w' := by
  have HL := Lib.hid (lent_any p c l w h (by omega) hpn)
  have H := Lib.hid h
  clear h
  obtain ⟨X, E, hX, hXE⟩ := numW_two n
  obtain ⟨Y, G, hY, hYl, hYG⟩ := textW_two s.data.toList
  have HX := Lib.hid hX
  have HY := Lib.hid hY
  clear hX hY
  rcases hXE with ⟨rfl, hX0, hX1, hX2, hX3⟩ | ⟨rfl, rfl⟩ <;> rcases hYG with ⟨rfl, hY0, hY1, hY2, hY3⟩ | ⟨rfl, rfl⟩
  all_goals
    go_enter Try.func3, Try.ntmps3
    go_wp2_with fail
    refine HL.out.mono ?_
    rintro e w1 ⟨g, cap, rfl, hown1, hb1, hcap⟩
    have hs1 := hb1.size
    have HO1 := Lib.hid hown1
    clear hown1
    go_wp2_with fail
    refine (num_any n w1).mono ?_
    rw [HX.out]
    rintro e w2 ⟨v2, rfl, hown2, hb2⟩
    dsimp only at hown2
    have hs2 := hb2.size
    obtain ⟨p2, c2, rfl, hbs2, -⟩ := hown2.bs
    have HB2 := Lib.hid hbs2
    clear hown2 hbs2
    go_wp2_with fail
    refine (text_any s w2 (by unfold maxLen; omega)).mono ?_
    rw [HY.out]
    rintro e w3 ⟨v3, rfl, hown3, hb3⟩
    dsimp only at hown3
    have hs3 := hb3.size
    obtain ⟨p3, c3, rfl, hbs3, -⟩ := hown3.bs
    have HB3 := Lib.hid hbs3
    clear hown3 hbs3
    go_wp2_with fail
    refine (refNum_any n w3).mono ?_
    rw [HX.out]
    rintro e w4 ⟨v4, rfl, hown4, hb4⟩
    dsimp only at hown4
    have hs4 := hb4.size
    obtain ⟨p4, c4, rfl, hbs4, -⟩ := hown4.bs
    have HB4 := Lib.hid hbs4
    clear hown4 hbs4
    go_wp2_with fail
    refine (refText_any s w4 (by unfold maxLen; omega)).mono ?_
    rw [HY.out]
    rintro e w5 ⟨v5, rfl, hown5, hb5⟩
    dsimp only at hown5
    have hs5 := hb5.size
    obtain ⟨p5, c5, rfl, hbs5, -⟩ := hown5.bs
    have hb45 := hb5
    have hb35 : Below w3.heap.size w3 w5 := hb4.trans (Below.mono hb45 hs4)
    have hb25 : Below w2.heap.size w2 w5 := hb3.trans (Below.mono hb35 hs3)
    have hb15 : Below w1.heap.size w1 w5 := hb2.trans (Below.mono hb25 hs2)
    have hbw5 : Below w.heap.size w w5 := hb1.trans (Below.mono hb15 hs1)
    have k2 := conv_own (HB2.out.kept hb25) c2
    have k3 := conv_own (HB3.out.kept hb35) c3
    have k4 := conv_own (HB4.out.kept hb45) c4
    have k5 := conv_own hbs5 c5
    try simp only [List.length_nil] at k2 k3 k4 k5
    have HO5 := Lib.hid (HO1.out.below hb15)
    have HB5 := Lib.hid (H.out.kept hbw5)
    clear hown5 hbs5 hb1 hb2 hb3 hb4 hb5 hb45 hb35 hb25 hs1 hs2 hs3 hs4 hs5
    go_wp2_with (go_at_call 13; refine (lawNum_any _ _).mono ?_; rintro e w' ⟨rfl, rfl⟩)
    have HFR := Lib.hid (frame_any (some ⟨g, 0, none⟩) cap l w5 (own_prefix HO5.out) (by unfold maxLen; omega) (by simp))
    have hs5 := hbw5.size
    go_wp2_with fail
    refine HFR.out.mono ?_
    rintro e w6 ⟨v6, rfl, hown6, hb6⟩
    have HO6 := Lib.hid (HO5.out.below hb6)
    have HB6 := Lib.hid (HB5.out.kept hb6)
    have hb7 := hbw5.trans (Below.mono hb6 hs5)
    have hs7 := hb7.size
    have HST := Lib.hid (stays_any w.heap.size g cap p c l w6 HO6.out hcap HB6.out (by omega))
    clear k2 k3 k4 k5 hb6 hown6 hb15
    by_cases hm : l.length ≤ 1048576
    all_goals
      first | rw [show (frameW l).2 = 0 from by unfold frameW; rw [if_pos hm]] | rw [show (frameW l).2 = 6 from by unfold frameW; rw [if_neg hm]]
      go_wp2_with fail
      refine (lawNum_any _ _).mono ?_
      rintro e w' ⟨rfl, rfl⟩
      go_wp2_with fail
      refine HST.out.mono ?_
      rintro e w8 ⟨rfl, q8, hw8⟩
      have hb8 : Below w.heap.size w w8 := by rw [hw8]; exact below_drewN hb7 _
      have hs8 := hb8.size
      clear hw8
      go_wp2_with fail
      refine (knows_any _).mono ?_
      rintro e w' ⟨rfl, hbk⟩
      go_wp2
      go_ret
      refine ⟨?_, hb8.trans (Below.mono hbk hs8)⟩
      first | rfl | (show Ending.returned (.bool (!decide ((l.length : Int) ≤ 1048576))) = .returned (.bool true); rw [decide_eq_false (by omega)]; rfl)

end Go.Proofs.Ytdedlghimeomcaa
