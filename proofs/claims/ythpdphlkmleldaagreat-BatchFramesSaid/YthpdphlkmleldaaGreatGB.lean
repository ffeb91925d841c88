/-
  A NUMBER's FORM: what wire.number and the reference's number answer of any slice of bytes; the world as it was.
  UNFRAME: what wire.Unframe answers of any slice of bytes.
  PLAIN LAWS of numbers' forms and frames: what is read is what is written as the number, and only that; there and back; a frame of which one byte is another one.
  A READER that Open made: what Num, Upto, Text, Fail, Err, Left, Done do to it, of any bytes.
  A READER's Upto, Num and Text, of any bytes; Open.
  ROWS OF NUMBERS AND TEXTS, as bytes and read again: plain laws; how slices of integers and of strings lie.
-/
import Derived.Test.YthpdphlkmleldaaGreatGA
import Derived.Deep.RegionWith
import Derived.Deep.DeepMust
namespace Go.Proofs.YthpdphlkmleldaaGreat
open Go.RowKit

/-- the number that stands at the beginning, how many bytes it has, the error -/
def numR (l : List UInt8) (most : Nat) : Nat × Nat × Nat :=
  if l.length = 0 then (0, 0, 20)
  else if 6 < by8 l 0 then (0, 0, 21)
  else if 0 < by8 l 0 ∧ 1 < l.length ∧ by8 l 1 = 0 then (0, 0, 21)
  else if l.length < by8 l 0 + 1 then (0, 0, 20)
  else if most < Wm.val ((l.drop 1).take (by8 l 0)) then (0, 0, 21)
  else (Wm.val ((l.drop 1).take (by8 l 0)), 1 + by8 l 0, 0)

def NumAns (l : List UInt8) (most : Nat) (w : World) (e : Ending) (w' : World) : Prop :=
  e = .returned (.tuple #[.int .i64 ((numR l most).1 : Nat), .int .i64 ((numR l most).2.1 : Nat), .int .i64 ((numR l most).2.2 : Nat)]) ∧ w = w'

theorem ans_of {l : List UInt8} {most : Nat} {w : World} {a b c : Nat} (h : numR l most = (a, b, c)) : NumAns l most w (.returned (.tuple #[.int .i64 (a : Int), .int .i64 (b : Int), .int .i64 (c : Int)])) w := by
  unfold NumAns
  rw [h]
  exact ⟨rfl, rfl⟩

set_option maxRecDepth 100000 in
set_option maxHeartbeats 400000 in
theorem number_zero (p : Option Addr) (c : Nat) (most : Nat) (w : World) : Calls Tryz.prog 45 #[.slice p 0 c, .int .i64 most] w (NumAns [] most w) := by
  have hf : numR [] most = (0, 0, 20) := rfl
  have HF := ans_of (w := w) hf
  clear hf
  go_enter Tryz.func45, Tryz.ntmps45
  go_wp2
  go_step3
  go_wp2
  rw [Exit.noGoto_ret]
  go_ret3
  exact HF

set_option maxRecDepth 100000 in
set_option maxHeartbeats 400000 in
theorem number_some (b o : Nat) (c : Nat) (l : List UInt8) (most : Nat) (w : World) (h : Bs w (some ⟨b, o, none⟩) l) (hl : l.length ≤ maxLen) (h0 : 0 < l.length) (hc : l.length ≤ c) :
    Calls Tryz.prog 45 #[.slice (some ⟨b, o, none⟩) l.length c, .int .i64 most] w (NumAns l most w) := by
  unfold maxLen at hl
  have hz : (l.length == 0) = false := by rw [beq_eq_false_iff_ne]; omega
  have c0 := h.get 0 h0
  rw [Nat.add_zero] at c0
  have k256 := by8_lt l 0
  by_cases hk : 6 < by8 l 0
  · have HF := ans_of (w := w) (show numR l most = (0, 0, 21) by unfold numR; rw [if_neg (by omega), if_pos hk])
    generalize by8 l 0 = k at *
    go_enter Tryz.func45, Tryz.ntmps45
    go_wp2
    refine wp_scope_fwd 0 rfl ?_
    go_wp2
    go_step3
    refine fwd_goto ?_
    go_wp2
    rw [Exit.noGoto_ret]
    go_ret3
    exact HF
  · by_cases hw : 0 < by8 l 0 ∧ 1 < l.length ∧ by8 l 1 = 0
    · have HF := ans_of (w := w) (show numR l most = (0, 0, 21) by unfold numR; rw [if_neg (by omega), if_neg hk, if_pos hw])
      obtain ⟨hk0, hl1, hb1⟩ := hw
      have c1 := h.get 1 hl1
      have t1 : ((by8 l 1 : Int) == 0) = true := by rw [hb1]; rfl
      clear hb1
      generalize by8 l 0 = k at *
      generalize by8 l 1 = k1 at *
      go_enter Tryz.func45, Tryz.ntmps45
      go_wp2
      refine wp_scope_fwd 0 rfl ?_
      go_wp2
      go_step3
      refine fwd_goto ?_
      go_wp2
      rw [Exit.noGoto_ret]
      go_ret3
      exact HF
    · have hpass : ∀ (R : Ending → World → Prop), (0 < by8 l 0 → 1 < l.length → ((by8 l 1 : Int) == 0) = false) := by
        intro _ a b
        rw [beq_eq_false_iff_ne]
        omega
      by_cases hs : l.length < by8 l 0 + 1
      · have HF := ans_of (w := w) (show numR l most = (0, 0, 20) by unfold numR; rw [if_neg (by omega), if_neg hk, if_neg hw, if_pos hs])
        by_cases hl1 : 1 < l.length
        · have c1 := h.get 1 hl1
          have t1 := hpass (fun _ _ => True) (by omega) hl1
          clear hpass hw
          generalize by8 l 0 = k at *
          generalize by8 l 1 = k1 at *
          go_enter Tryz.func45, Tryz.ntmps45
          go_wp2
          refine wp_scope_fwd 0 rfl ?_
          go_wp2
          rw [fwd_ret]
          go_ret3
          exact HF
        · clear hpass hw
          generalize by8 l 0 = k at *
          go_enter Tryz.func45, Tryz.ntmps45
          go_wp2
          refine wp_scope_fwd 0 rfl ?_
          go_wp2
          rw [fwd_ret]
          go_ret3
          exact HF
      · by_cases hk0 : by8 l 0 = 0
        · have HF := ans_of (w := w) (show numR l most = (0, 1, 0) by unfold numR; rw [if_neg (by omega), if_neg hk, if_neg hw, if_neg hs, hk0, List.take_zero, Wm.val_nil, if_neg (by omega)])
          clear hpass hw
          have c0' : w.cell? ⟨b, o, none⟩ = some (.int .u8 0) := by rw [c0, hk0]; rfl
          clear c0 hk0 hs hk k256
          go_enter Tryz.func45, Tryz.ntmps45
          go_wp2
          refine wp_scope_fwd 0 rfl ?_
          go_wp2
          all_goals
            go_loop [4, 8, 42] (fun n _ i => i = .int .i64 0 ∧ n = .int .i64 0) (fun _ _ _ => 0)
            case atStart => exact ⟨rfl, rfl⟩
            case round =>
              obtain ⟨rfl, rfl⟩ := hrel
              go_wp2
              rw [fwd_ret]
              go_ret3
              exact HF
        · have hl1 : 1 < l.length := by omega
          have c1 := h.get 1 hl1
          have t1 := hpass (fun _ _ => True) (by omega) hl1
          have hc1 : ¬ c = 1 := by omega
          have hk1 : 1 ≤ by8 l 0 := by omega
          have hml : ((l.drop 1).take (by8 l 0)).length = by8 l 0 := by simp; omega
          have hcell : ∀ j, j < by8 l 0 → w.cell? ⟨b, o + 1 + j, none⟩ = some (.int .u8 (by8 ((l.drop 1).take (by8 l 0)) j)) := by
            intro j hj
            have := h.get (1 + j) (by omega)
            rw [← Nat.add_assoc] at this
            rw [this, by8_take_drop _ _ _ _ hj]
          have hans : (most < Wm.val ((l.drop 1).take (by8 l 0)) → numR l most = (0, 0, 21)) ∧ (¬ most < Wm.val ((l.drop 1).take (by8 l 0)) → numR l most = (Wm.val ((l.drop 1).take (by8 l 0)), 1 + by8 l 0, 0)) := by
            unfold numR
            rw [if_neg (by omega), if_neg hk, if_neg hw, if_neg hs]
            exact ⟨fun a => by rw [if_pos a], fun a => by rw [if_neg a]⟩
          clear hpass hw hk0
          generalize hm : (l.drop 1).take (by8 l 0) = m at *
          have HM := Lib.hid hm
          have HML := Lib.hid hml
          clear hm hml
          generalize by8 l 0 = k at *
          generalize by8 l 1 = k1 at *
          have HC := Lib.hid hcell
          have HA := Lib.hid hans
          clear hcell hans
          go_enter Tryz.func45, Tryz.ntmps45
          go_wp2
          refine wp_scope_fwd 0 rfl ?_
          go_wp2
          go_loop [4, 8, 42] (fun n _ i => ∃ j : Nat, j ≤ k ∧ i = .int .i64 j ∧ n = .int .i64 (Wm.val (m.take j))) (fun _ _ i => k - (intOf i).toNat)
          case atStart => exact ⟨0, Nat.zero_le _, rfl, rfl⟩
          case round =>
            obtain ⟨j, hj, rfl, rfl⟩ := hrel
            by_cases hlt : j < k
            · have cj := HC.out j hlt
              have hxl := by8_lt m j
              have hvl := Wm.val_lt (m.take j)
              have hjl : (m.take j).length ≤ 5 := by rw [List.length_take]; omega
              have hv5 : Wm.val (m.take j) < 1099511627776 := Nat.lt_of_lt_of_le hvl (Nat.le_trans (Nat.pow_le_pow_right (by decide) hjl) (show 256 ^ 5 ≤ 1099511627776 by decide))
              have HS : Hid (Wm.val (m.take (j + 1)) = Wm.val (m.take j) * 256 + by8 m j) := by
                have hjm : j < m.length := by rw [HML.out]; exact hlt
                show Wm.val (m.take (j + 1)) = Wm.val (m.take j) * 256 + by8 m j
                rw [take_snoc m j hjm, Wm.val_snoc, by8_get m j hjm]
              clear hvl hjl
              generalize Wm.val (m.take j) = v at *
              generalize by8 m j = x at *
              have hor : bits BinOp.or .i64 ((v : Int) * 256) (x : Int) = ((v * 256 + x : Nat) : Int) := by
                have := i64_or_nat (v * 256) x (by omega) (by omega)
                rw [Go.nat_join 8 (v * 256) x (by omega) (by omega)] at this
                rw [← this]; rfl
              go_wp2
              go_round
              case rel => exact ⟨j + 1, by omega, by go_num, by rw [HS.out]; go_num⟩
              case measure => simp [intOf]; omega
            · obtain rfl : j = k := by omega
              have e : m.take j = m := List.take_of_length_le (by rw [HML.out]; omega)
              rw [e]
              have hvl := Wm.val_lt m
              have hv6 : Wm.val m < 281474976710656 := Nat.lt_of_lt_of_le hvl (Nat.le_trans (Nat.pow_le_pow_right (by decide) (by rw [HML.out]; omega)) (show 256 ^ 6 ≤ 281474976710656 by decide))
              clear hvl
              obtain ⟨a1, a2⟩ := HA.out
              by_cases hmost : most < Wm.val m
              · have HF := ans_of (w := w) (a1 hmost)
                clear a1 a2 e
                go_wp2
                go_step3
                refine fwd_goto ?_
                go_wp2
                rw [Exit.noGoto_ret]
                go_ret3
                exact HF
              · have HF := ans_of (w := w) (a2 hmost)
                clear a1 a2 e
                go_wp2
                rw [fwd_ret]
                go_ret3
                exact HF

set_option maxRecDepth 100000 in
set_option maxHeartbeats 400000 in
theorem refNumber_end (p : Option Addr) (n c a : Nat) (w : World) (l : List UInt8) (hn : n = l.length) (ha : n ≤ a) :
    Calls Tryz.prog 54 #[.slice p n c, .int .i64 a] w (NumAns (l.drop a) 281474976710655 w) := by
  have hf : numR (l.drop a) 281474976710655 = (0, 0, 20) := by rw [List.drop_of_length_le (by omega)]; rfl
  have HF := ans_of (w := w) hf
  clear hf hn
  go_enter Tryz.func54, Tryz.ntmps54
  go_wp2
  go_ret3
  exact HF

set_option maxRecDepth 100000 in
set_option maxHeartbeats 400000 in
theorem refNumber_some (b o : Nat) (c a : Nat) (l : List UInt8) (w : World) (h : Bs w (some ⟨b, o, none⟩) l) (hl : l.length ≤ maxLen) (h0 : a < l.length) :
    Calls Tryz.prog 54 #[.slice (some ⟨b, o, none⟩) l.length c, .int .i64 a] w (NumAns (l.drop a) 281474976710655 w) := by
  unfold maxLen at hl
  have hdl : (l.drop a).length = l.length - a := by simp
  have c0 := h.get a h0
  have k256 := by8_lt l a
  have ek : by8 (l.drop a) 0 = by8 l a := by rw [by8_drop, Nat.add_zero]
  have ek1 : by8 (l.drop a) 1 = by8 l (a + 1) := by rw [by8_drop]
  by_cases hk : 6 < by8 l a
  · have HF := ans_of (w := w) (show numR (l.drop a) 281474976710655 = (0, 0, 21) by unfold numR; rw [if_neg (by omega), ek, if_pos hk])
    clear ek ek1 hdl
    generalize by8 l a = k at *
    go_enter Tryz.func54, Tryz.ntmps54
    go_wp2
    go_ret3
    exact HF
  · by_cases hw : 0 < by8 l a ∧ a + 1 < l.length ∧ by8 l (a + 1) = 0
    · have HF := ans_of (w := w) (show numR (l.drop a) 281474976710655 = (0, 0, 21) by unfold numR; rw [if_neg (by omega), ek, ek1, if_neg hk, if_pos (by omega)])
      obtain ⟨hk0, hl1, hb1⟩ := hw
      have c1 := h.get (a + 1) hl1
      have t1 : ((by8 l (a + 1) : Int) == 0) = true := by rw [hb1]; rfl
      clear hb1 ek ek1 hdl
      generalize by8 l a = k at *
      generalize by8 l (a + 1) = k1 at *
      go_enter Tryz.func54, Tryz.ntmps54
      go_wp2
      go_ret3
      exact HF
    · have hw' : ¬ (0 < by8 l a ∧ 1 < l.length - a ∧ by8 l (a + 1) = 0) := by omega
      have hpass : (0 < by8 l a → a + 1 < l.length → ((by8 l (a + 1) : Int) == 0) = false) := by
        intro a b
        rw [beq_eq_false_iff_ne]
        omega
      by_cases hs : l.length - a < by8 l a + 1
      · have HF := ans_of (w := w) (show numR (l.drop a) 281474976710655 = (0, 0, 20) by unfold numR; rw [if_neg (by omega), ek, ek1, if_neg hk, hdl, if_neg hw', if_pos hs])
        clear ek ek1 hdl
        by_cases hl1 : a + 1 < l.length
        · have c1 := h.get (a + 1) hl1
          have t1 := hpass (by omega) hl1
          clear hpass hw hw'
          generalize by8 l a = k at *
          generalize by8 l (a + 1) = k1 at *
          go_enter Tryz.func54, Tryz.ntmps54
          go_wp2
          go_ret3
          exact HF
        · clear hpass hw hw'
          generalize by8 l a = k at *
          go_enter Tryz.func54, Tryz.ntmps54
          go_wp2
          go_ret3
          exact HF
      · have hml : (((l.drop a).drop 1).take (by8 l a)).length = by8 l a := by simp; omega
        have hcell : ∀ j, j < by8 l a → w.cell? ⟨b, o + (a + (j + 1)), none⟩ = some (.int .u8 (by8 (((l.drop a).drop 1).take (by8 l a)) j)) := by
          intro j hj
          rw [h.get (a + (j + 1)) (by omega), by8_take_drop _ _ _ _ hj, by8_drop, Nat.add_comm j 1]
        have hans : numR (l.drop a) 281474976710655 = (Wm.val (((l.drop a).drop 1).take (by8 l a)), 1 + by8 l a, 0) := by
          have hv : Wm.val (((l.drop a).drop 1).take (by8 l a)) < 281474976710656 := Nat.lt_of_lt_of_le (Wm.val_lt _) (Nat.le_trans (Nat.pow_le_pow_right (by decide) (by rw [hml]; omega)) (show 256 ^ 6 ≤ 281474976710656 by decide))
          unfold numR
          rw [if_neg (by omega), ek, ek1, if_neg hk, hdl, if_neg hw', if_neg hs, if_neg (by omega)]
        rw [Nat.add_comm 1 (by8 l a)] at hans
        have HF := Lib.hid (ans_of (w := w) hans)
        have hg : ∀ (R : Prop), ((by8 l a = 0 ∨ a + 1 < l.length) → R) → R := fun R f => f (by omega)
        clear hans ek ek1 hdl hw hw'
        generalize hm : ((l.drop a).drop 1).take (by8 l a) = m at *
        have HM := Lib.hid hm
        have HML := Lib.hid hml
        clear hm hml
        have HC := Lib.hid hcell
        clear hcell
        clear hg
        by_cases hk0 : by8 l a = 0
        · clear hpass
          rw [hk0] at HF HML
          have c0' : w.cell? ⟨b, o + a, none⟩ = some (.int .u8 0) := by rw [c0, hk0]; rfl
          clear c0 hk0 hs hk k256 HC HM
          obtain rfl : m = [] := List.eq_nil_of_length_eq_zero HML.out
          clear HML
          rw [Wm.val_nil] at HF
          go_enter Tryz.func54, Tryz.ntmps54
          go_wp2
          go_loop [8, 9] (fun n i => i = .int .i64 1 ∧ n = .int .i64 0) (fun _ _ => 0)
          case atStart => exact ⟨rfl, rfl⟩
          case round =>
            obtain ⟨rfl, rfl⟩ := hrel
            go_wp2
            go_ret3
            exact HF.out
        · have hl1 : a + 1 < l.length := by omega
          have c1 := h.get (a + 1) hl1
          have t1 := hpass (by omega) hl1
          have hk1 : 1 ≤ by8 l a := by omega
          clear hpass hk0
          generalize by8 l a = k at *
          generalize by8 l (a + 1) = k1 at *
          go_enter Tryz.func54, Tryz.ntmps54
          go_wp2
          go_loop [8, 9] (fun n i => ∃ j : Nat, j ≤ k ∧ i = .int .i64 (j + 1 : Nat) ∧ n = .int .i64 (Wm.val (m.take j))) (fun _ i => k + 1 - (intOf i).toNat)
          case atStart => exact ⟨0, Nat.zero_le _, rfl, rfl⟩
          case round =>
            obtain ⟨j, hj, rfl, rfl⟩ := hrel
            by_cases hlt : j < k
            · have cj := HC.out j hlt
              have hxl := by8_lt m j
              have hvl := Wm.val_lt (m.take j)
              have hjl : (m.take j).length ≤ 5 := by rw [List.length_take]; omega
              have hv5 : Wm.val (m.take j) < 1099511627776 := Nat.lt_of_lt_of_le hvl (Nat.le_trans (Nat.pow_le_pow_right (by decide) hjl) (show 256 ^ 5 ≤ 1099511627776 by decide))
              have HS : Hid (Wm.val (m.take (j + 1)) = Wm.val (m.take j) * 256 + by8 m j) := by
                have hjm : j < m.length := by rw [HML.out]; exact hlt
                show Wm.val (m.take (j + 1)) = Wm.val (m.take j) * 256 + by8 m j
                rw [take_snoc m j hjm, Wm.val_snoc, by8_get m j hjm]
              clear hvl hjl
              generalize Wm.val (m.take j) = v at *
              generalize by8 m j = x at *
              go_wp2
              go_round
              case rel => exact ⟨j + 1, by omega, by go_num, by rw [HS.out]; go_num⟩
              case measure => simp [intOf]; omega
            · obtain rfl : j = k := by omega
              have e : m.take j = m := List.take_of_length_le (by rw [HML.out]; omega)
              rw [e]
              clear e
              go_wp2
              go_ret3
              exact HF.out

/-- WHAT wire.number ANSWERS. -/
theorem number_any (p : Option Addr) (c : Nat) (l : List UInt8) (most : Nat) (w : World) (h : Bs w p l) (hl : l.length ≤ maxLen) (hc : l.length ≤ c) :
    Calls Tryz.prog 45 #[.slice p l.length c, .int .i64 most] w (NumAns l most w) := by
  rcases Nat.eq_zero_or_pos l.length with h0 | h0
  · obtain rfl : l = [] := List.eq_nil_of_length_eq_zero h0
    exact number_zero p c most w
  · obtain ⟨b, o, rfl, -⟩ := h h0
    exact number_some b o c l most w h hl h0 hc

/-- the same, the length named -/
theorem number_at (p : Option Addr) (n c : Nat) (l : List UInt8) (most : Nat) (w : World) (hn : l.length = n) (h : Bs w p l) (hl : l.length ≤ maxLen) (hc : l.length ≤ c) :
    Calls Tryz.prog 45 #[.slice p n c, .int .i64 most] w (NumAns l most w) := by
  subst hn
  exact number_any p c l most w h hl hc

/-- WHAT THE REFERENCE's number ANSWERS. -/
theorem refNumber_any (p : Option Addr) (c a : Nat) (l : List UInt8) (w : World) (h : Bs w p l) (hl : l.length ≤ maxLen) :
    Calls Tryz.prog 54 #[.slice p l.length c, .int .i64 a] w (NumAns (l.drop a) 281474976710655 w) := by
  rcases Nat.lt_or_ge a l.length with h0 | h0
  · obtain ⟨b, o, rfl, -⟩ := h (by omega)
    exact refNumber_some b o c a l w h hl h0
  · exact refNumber_end p l.length c a w l rfl h0

end Go.Proofs.YthpdphlkmleldaaGreat

namespace Go.Proofs.YthpdphlkmleldaaGreat
open Go.RowKit

/-- what is in the frame at the beginning, how many bytes it has, the error -/
def unfR (l : List UInt8) : List UInt8 × Nat × Nat :=
  if l.length = 0 then ([], 0, 20)
  else if by8 l 0 ≠ 93 then ([], 0, 21)
  else if (numR (l.drop 1) 1048576).2.2 ≠ 0 then ([], 0, (numR (l.drop 1) 1048576).2.2)
  else if l.length < (numR (l.drop 1) 1048576).2.1 + 1 + ((numR (l.drop 1) 1048576).1 + 4) then ([], 0, 20)
  else if ((l.drop ((numR (l.drop 1) 1048576).2.1 + 1 + (numR (l.drop 1) 1048576).1)).take 4 == Wm.be 4 (Wm.crc ((l.drop ((numR (l.drop 1) 1048576).2.1 + 1)).take (numR (l.drop 1) 1048576).1))) = false then ([], 0, 22)
  else ((l.drop ((numR (l.drop 1) 1048576).2.1 + 1)).take (numR (l.drop 1) 1048576).1, (numR (l.drop 1) 1048576).2.1 + 1 + (numR (l.drop 1) 1048576).1 + 4, 0)

/-- bytes, a number, an error: new memory; nothing below it has turned -/
def Unfr (E : TypeId) (w : World) (r : List UInt8 × Nat × Nat) (e : Ending) (w' : World) : Prop :=
  ∃ v, e = .returned (.tuple #[v, .int .i64 (r.2.1 : Int), .int .i64 (r.2.2 : Int)]) ∧ Own E w' w.heap.size v r.1 ∧ Below w.heap.size w w'

theorem unfr_err {E : TypeId} {w : World} {r : List UInt8 × Nat × Nat} {e : Nat} (h : r = ([], 0, e)) : Unfr E w r (.returned (.tuple #[.slice none 0 0, .int .i64 0, .int .i64 (e : Int)])) w := by
  rw [h]
  exact ⟨_, rfl, Own.nil _ _ _, Below.refl _ _⟩

set_option maxRecDepth 100000 in
set_option maxHeartbeats 400000 in
theorem unframe_zero (p : Option Addr) (c : Nat) (w : World) : Calls Tryz.prog 24 #[.slice p 0 c] w (Unfr 5 w (unfR [])) := by
  have HF := unfr_err (E := 5) (w := w) (r := unfR []) (e := 20) rfl
  go_enter Tryz.func24, Tryz.ntmps24
  go_wp2
  refine wp_scope_fwd 0 rfl ?_
  go_wp2
  go_step3
  refine fwd_goto ?_
  go_wp2
  rw [Exit.noGoto_ret]
  go_ret3
  exact HF

theorem numR_small (l : List UInt8) (most : Nat) : (numR l most).2.1 ≤ 7 ∧ ((numR l most).1 ≤ most) ∧ ((numR l most).2.2 = 0 → 1 ≤ (numR l most).2.1 ∧ (numR l most).2.1 ≤ l.length) := by
  unfold numR
  repeat' split
  all_goals dsimp only
  all_goals omega

set_option maxRecDepth 100000 in
set_option maxHeartbeats 400000 in
theorem unframe_some (b o : Nat) (c : Nat) (l : List UInt8) (w : World) (h : Bs w (some ⟨b, o, none⟩) l) (hl : l.length ≤ 4611686018427387904) (h0 : 0 < l.length) (hc : l.length ≤ c) :
    Calls Tryz.prog 24 #[.slice (some ⟨b, o, none⟩) l.length c] w (Unfr 5 w (unfR l)) := by
  have hz : (l.length == 0) = false := by rw [beq_eq_false_iff_ne]; omega
  have c0 := h.get 0 h0
  rw [Nat.add_zero] at c0
  have k256 := by8_lt l 0
  by_cases hm : by8 l 0 = 93
  · have t0 : ((by8 l 0 : Int) != 93) = false := by rw [hm]; rfl
    have hd1 : (l.drop 1).length = l.length - 1 := by simp
    by_cases hl1 : l.length = 1
    · have hd : l.drop 1 = [] := List.drop_of_length_le (by omega)
      have HF := unfr_err (E := 5) (w := w) (r := unfR l) (e := 20) (by unfold unfR; rw [if_neg (by omega), if_neg (by omega), hd]; rfl)
      clear hd hm hd1
      generalize by8 l 0 = k at *
      rw [hl1]
      clear hl1 hz
      go_enter Tryz.func24, Tryz.ntmps24
      go_wp2
      refine wp_scope_fwd 0 rfl ?_
      go_wp2_with fail
      all_goals refine (number_zero _ _ 1048576 _).mono ?_
      all_goals rintro e w' ⟨rfl, rfl⟩
      all_goals go_wp2
      all_goals go_step3
      all_goals refine fwd_goto ?_
      all_goals go_wp2
      all_goals rw [Exit.noGoto_ret]
      all_goals go_ret3
      all_goals exact HF
    · have hcne : ¬ c = 1 := by omega
      have HU : unfR l = (if (numR (l.drop 1) 1048576).2.2 ≠ 0 then ([], 0, (numR (l.drop 1) 1048576).2.2)
        else if l.length < (numR (l.drop 1) 1048576).2.1 + 1 + ((numR (l.drop 1) 1048576).1 + 4) then ([], 0, 20)
        else if ((l.drop ((numR (l.drop 1) 1048576).2.1 + 1 + (numR (l.drop 1) 1048576).1)).take 4 == Wm.be 4 (Wm.crc ((l.drop ((numR (l.drop 1) 1048576).2.1 + 1)).take (numR (l.drop 1) 1048576).1))) = false then ([], 0, 22)
        else ((l.drop ((numR (l.drop 1) 1048576).2.1 + 1)).take (numR (l.drop 1) 1048576).1, (numR (l.drop 1) 1048576).2.1 + 1 + (numR (l.drop 1) 1048576).1 + 4, 0)) := by
        show unfR l = _
        unfold unfR
        rw [if_neg (by omega), if_neg (by omega)]
      have NS := numR_small (l.drop 1) 1048576
      have hbs1 : Bs w (some ⟨b, o + 1, none⟩) (l.drop 1) := fun _ => ⟨b, o + 1, rfl, fun i hi => by
        have := h.get (1 + i) (by omega)
        rw [by8_drop, ← this, Nat.add_assoc]⟩
      have HN := number_at (some ⟨b, o + 1, none⟩) (l.length - 1) (c - 1) (l.drop 1) 1048576 w hd1 hbs1 (by unfold maxLen; omega) (by omega)
      unfold NumAns at HN
      rcases hr : numR (l.drop 1) 1048576 with ⟨n, s, e⟩
      rw [hr] at HU NS HN
      clear hr hm hd1
      dsimp only at HU NS HN
      generalize by8 l 0 = k at *
      by_cases he : e = 0
      · subst he
        obtain ⟨ns7, nsM, nsL⟩ := NS
        obtain ⟨ns1, ns2⟩ := nsL rfl
        rw [if_neg (by simp)] at HU
        have HNh := Lib.hid HN
        have hdl : (l.drop 1).length = l.length - 1 := by simp
        rw [hdl] at ns2
        clear HN hbs1 nsL hdl
        by_cases hsh : l.length < s + 1 + (n + 4)
        · have HF := unfr_err (E := 5) (w := w) (r := unfR l) (e := 20) (by rw [HU, if_pos hsh])
          have tl : ((l.length : Int) - ((s : Int) + 1) < (n : Int) + 4) := by omega
          clear HU
          go_enter Tryz.func24, Tryz.ntmps24
          go_wp2
          refine wp_scope_fwd 0 rfl ?_
          go_wp2_with fail
          refine HNh.out.mono ?_
          rintro e w' ⟨rfl, rfl⟩
          go_wp2
          go_step3
          refine fwd_goto ?_
          go_wp2
          rw [Exit.noGoto_ret]
          go_ret3
          exact HF
        · rw [if_neg hsh] at HU
          have HUh := Lib.hid HU
          clear HU
          have hc2 : ¬ c = s + 1 := by omega
          have hml : ((l.drop (s + 1)).take n).length = n := by simp; omega
          have hbs2 : Bs w (some ⟨b, o + (s + 1), none⟩) ((l.drop (s + 1)).take n) := fun h0 => ⟨b, o + (s + 1), rfl, fun i hi => by
            have := h.get (s + 1 + i) (by omega)
            rw [by8_take_drop _ _ _ _ (by omega), ← this, Nat.add_assoc o]⟩
          have hbs3 : Bs w (some ⟨b, o + (s + 1 + n), none⟩) ((l.drop (s + 1 + n)).take 4) := fun h0 => ⟨b, o + (s + 1 + n), rfl, fun i hi => by
            have hi4 : i < 4 := by simp at hi; omega
            have := h.get (s + 1 + n + i) (by omega)
            rw [by8_take_drop _ _ _ _ hi4, ← this, Nat.add_assoc o]⟩
          have hkl : ((l.drop (s + 1 + n)).take 4).length = 4 := by simp; omega
          generalize (l.drop (s + 1 + n)).take 4 = kk at *
          generalize (l.drop (s + 1)).take n = mm at *
          have HC := clone_any (some ⟨b, o + (s + 1), none⟩) (c - (s + 1)) mm w hbs2 (by omega) (by simp)
          rw [hml] at HC
          have HCh := Lib.hid HC
          have HB3 := Lib.hid hbs3
          have HML := Lib.hid hml
          have HKL := Lib.hid hkl
          clear HC hbs2 hbs3 hml hkl
          go_enter Tryz.func24, Tryz.ntmps24
          go_wp2
          refine wp_scope_fwd 0 rfl ?_
          go_wp2_with fail
          refine HNh.out.mono ?_
          rintro e w' ⟨rfl, rfl⟩
          go_wp2_with fail
          refine HCh.out.mono ?_
          rintro e w1 ⟨v1, rfl, hown1, hb1, -⟩
          obtain ⟨p1, c1, hv1, hbsv, hc1, hc1', hpn1, hblk⟩ := hown1.bs
          rw [HML.out] at hv1
          subst hv1
          have hc3 : ¬ c = s + 1 + n := by omega
          go_wp2
          have HT : ∀ W : World, Bs W p1 mm → Calls Tryz.prog 44 #[.slice p1 n c1] W fun e w' => ∃ p2 c2, e = .returned (.slice p2 4 c2) ∧ Bs w' p2 (Wm.be 4 (Wm.crc mm)) ∧ Below W.heap.size W w' := by
            intro W hW
            have := sumBytes_any p1 c1 mm W hW (by rw [HML.out]; unfold maxLen; omega)
            rw [HML.out] at this
            refine this.mono ?_
            rintro e w' ⟨v, rfl, hown, hb⟩
            obtain ⟨p2, c2, rfl, hbs, -⟩ := hown.bs
            refine ⟨p2, c2, ?_, hbs, hb⟩
            rw [Wm.be_length]
          have HTh := Lib.hid HT
          have HBV := Lib.hid hbsv
          clear HT hbsv
          have g1 : IntKind.i64.wrap ((s : Int) + 1 + (n : Int)) = (s : Int) + 1 + (n : Int) := IntWalk.i64_in _ (by omega)
          have g2 : (0 : Int) ≤ (s : Int) + 1 + (n : Int) := by omega
          have g3 : ((s : Int) + 1 + (n : Int)).toNat = s + 1 + n := by omega
          have g4 : (0 : Int) ≤ (s : Int) + 1 + (n : Int) + 4 := by omega
          have g5 : ((s : Int) + 1 + (n : Int) + 4).toNat = s + 1 + n + 4 := by omega
          have g6 : (s : Int) + 1 + (n : Int) + 4 ≤ (c : Int) := by omega
          have g7 : (s : Int) + 1 + (n : Int) ≤ (s : Int) + 1 + (n : Int) + 4 := by omega
          have g8 : s + 1 + n + 4 - (s + 1 + n) = 4 := by omega
          have hbe : (Wm.be 4 (Wm.crc mm)).length = 4 := Wm.be_length _ _
          have HBE := Lib.hid hbe
          have HO1 := Lib.hid hown1.drew
          clear hbe hown1
          rcases hq : (kk == Wm.be 4 (Wm.crc mm)) with _ | _
          all_goals
            have HQ := Lib.hid hq
            clear hq
            go_region_with (first | (go_at_call 44; go_must (refine (HTh.out _ HBV.out.drew).mono ?_; rintro e w2 ⟨p2, c2, rfl, hbs2, hb2⟩; have HX := Lib.hid (Bs.kept (w := w1.drew) (HB3.out.kept hb1).drew hb2); have HB2 := Lib.hid hbs2; clear hbs2)) | (go_at_call 47; refine (equal_at _ _ 4 4 _ _ kk (Wm.be 4 (Wm.crc mm)) _ _ HKL.out HBE.out HX.out HB2.out HQ.out).mono ?_; rintro e w3 ⟨rfl, rfl⟩))
          · have hbw : Below w.heap.size w w2 := hb1.drew.trans (Below.mono hb2 hb1.size)
            have hu := HUh.out
            rw [if_pos HQ.out] at hu
            have HF : Unfr 5 w (unfR l) (.returned (.tuple #[.slice none 0 0, .int .i64 0, .int .i64 (22 : Int)])) w2 := by
              rw [hu]
              exact ⟨_, rfl, Own.nil _ _ _, hbw⟩
            clear hu
            go_wp2
            go_step3
            refine fwd_goto ?_
            go_wp2
            rw [Exit.noGoto_ret]
            go_ret3
            exact HF
          · have hbw : Below w.heap.size w w2 := hb1.drew.trans (Below.mono hb2 hb1.size)
            have hu := HUh.out
            rw [if_neg (by rw [HQ.out]; decide)] at hu
            have HF : Unfr 5 w (unfR l) (.returned (.tuple #[.slice p1 n c1, .int .i64 ((s : Int) + 1 + (n : Int) + 4), .int .i64 (0 : Int)])) w2 := by
              rw [hu]
              exact ⟨_, rfl, HO1.out.below hb2, hbw⟩
            clear hu
            go_wp2
            rw [fwd_ret]
            go_ret3
            exact HF
      · have HF := unfr_err (E := 5) (w := w) (r := unfR l) (e := e) (by rw [HU, if_pos he])
        have te : ((e : Int) != 0) = true := by rw [bne_iff_ne]; omega
        have HNh := Lib.hid HN
        clear HU NS HN hbs1 he
        go_enter Tryz.func24, Tryz.ntmps24
        go_wp2
        refine wp_scope_fwd 0 rfl ?_
        go_wp2_with fail
        refine HNh.out.mono ?_
        rintro e w' ⟨rfl, rfl⟩
        go_wp2
        go_step3
        refine fwd_goto ?_
        go_wp2
        rw [Exit.noGoto_ret]
        go_ret3
        exact HF
  · have HF := unfr_err (E := 5) (w := w) (r := unfR l) (e := 21) (by unfold unfR; rw [if_neg (by omega), if_pos hm])
    have t0 : ((by8 l 0 : Int) != 93) = true := by rw [bne_iff_ne]; omega
    clear hm
    generalize by8 l 0 = k at *
    go_enter Tryz.func24, Tryz.ntmps24
    go_wp2
    refine wp_scope_fwd 0 rfl ?_
    go_wp2
    go_step3
    refine fwd_goto ?_
    go_wp2
    rw [Exit.noGoto_ret]
    go_ret3
    exact HF

/-- WHAT wire.Unframe ANSWERS. -/
theorem unframe_any (p : Option Addr) (n c : Nat) (l : List UInt8) (w : World) (hn : l.length = n) (h : Bs w p l) (hl : l.length ≤ 4611686018427387904) (hc : l.length ≤ c) :
    Calls Tryz.prog 24 #[.slice p n c] w (Unfr 5 w (unfR l)) := by
  subst hn
  rcases Nat.eq_zero_or_pos l.length with h0 | h0
  · obtain rfl : l = [] := List.eq_nil_of_length_eq_zero h0
    exact unframe_zero p c w
  · obtain ⟨b, o, rfl, -⟩ := h h0
    exact unframe_some b o c l w h hl h0 hc

end Go.Proofs.YthpdphlkmleldaaGreat

namespace Go.Proofs.YthpdphlkmleldaaGreat
open Go.RowKit

theorem nlen_eq (k n : Nat) (hk : k ≤ 6) (h1 : n < 256 ^ k) (h2 : k = 0 ∨ 256 ^ (k - 1) ≤ n) : Wm.nlen n = k := by
  unfold Wm.nlen
  rcases (show k = 0 ∨ k = 1 ∨ k = 2 ∨ k = 3 ∨ k = 4 ∨ k = 5 ∨ k = 6 by omega) with rfl | rfl | rfl | rfl | rfl | rfl | rfl
  all_goals simp at h1 h2
  all_goals repeat' split
  all_goals omega

theorem by8_cons_zero (c : UInt8) (l : List UInt8) : by8 (c :: l) 0 = c.toNat := rfl
theorem by8_cons_succ (c : UInt8) (l : List UInt8) (i : Nat) : by8 (c :: l) (i + 1) = by8 l i := rfl

/-- what is read as a number is what it is written as -/
theorem numR_form (l : List UInt8) (most n s : Nat) (h : numR l most = (n, s, 0)) : l.take s = Wm.numB n ∧ s = 1 + Wm.nlen n ∧ s ≤ l.length ∧ n ≤ most ∧ n < 281474976710656 := by
  unfold numR at h
  split at h
  · simp at h
  next hl =>
  split at h
  · simp at h
  next hk =>
  split at h
  · simp at h
  next hz =>
  split at h
  · simp at h
  next hs =>
  split at h
  · simp at h
  next hm =>
  simp only [Prod.mk.injEq, and_true] at h
  obtain ⟨rfl, rfl⟩ := h
  match l, hl with
  | c :: r, _ =>
    simp only [List.drop_succ_cons, List.drop_zero, by8_cons_zero, List.length_cons] at *
    generalize hkk : c.toNat = k at *
    have hDl : (r.take k).length = k := by simp; omega
    have hv := Wm.val_lt (r.take k)
    rw [hDl] at hv
    have hlow : k = 0 ∨ 256 ^ (k - 1) ≤ Wm.val (r.take k) := by
      rcases Nat.eq_zero_or_pos k with h0 | h0
      · exact Or.inl h0
      · right
        match r, hs, hz, hDl with
        | [], hs, _, _ => simp at hs; omega
        | d :: r', hs, hz, hDl =>
          obtain ⟨j, rfl⟩ : ∃ j, k = j + 1 := ⟨k - 1, by omega⟩
          simp only [List.take_succ_cons, List.length_cons] at *
          rw [Wm.val_cons]
          have hd : d.toNat ≠ 0 := by
            intro e
            apply hz
            refine ⟨h0, by omega, ?_⟩
            rw [show (1 : Nat) = 0 + 1 from rfl, by8_cons_succ, by8_cons_zero]
            exact e
          have hl' : (r'.take j).length = j := by omega
          rw [hl', Nat.add_sub_cancel]
          have : 1 * 256 ^ j ≤ d.toNat * 256 ^ j := Nat.mul_le_mul_right _ (by omega)
          omega
    have hn := nlen_eq k (Wm.val (r.take k)) (by omega) hv hlow
    have h6 : 256 ^ k ≤ 256 ^ 6 := Nat.pow_le_pow_right (by decide) (by omega)
    refine ⟨?_, by omega, by omega, by omega, Nat.lt_of_lt_of_le hv h6⟩
    unfold Wm.numB
    rw [hn, Nat.add_comm 1 k, List.take_succ_cons]
    have e1 : Wm.be k (Wm.val (r.take k)) = r.take k := by
      have := Wm.be_val (r.take k)
      rwa [hDl] at this
    rw [e1]
    have e2 : UInt8.ofNat k = c := by rw [← hkk]; simp
    rw [e2]

/-- a number that is written is read, whatever stands behind it -/
theorem numR_back (n most : Nat) (more : List UInt8) (h : n < 281474976710656) (hm : n ≤ most) : numR (Wm.numB n ++ more) most = (n, 1 + Wm.nlen n, 0) := by
  have hk6 := Wm.nlen_le n
  have hkb : (UInt8.ofNat (Wm.nlen n)).toNat = Wm.nlen n := by simp; omega
  have e : Wm.numB n ++ more = UInt8.ofNat (Wm.nlen n) :: (Wm.be (Wm.nlen n) n ++ more) := rfl
  have ht : (Wm.be (Wm.nlen n) n ++ more).take (Wm.nlen n) = Wm.be (Wm.nlen n) n := List.take_left' (Wm.be_length _ _)
  have hv : Wm.val (Wm.be (Wm.nlen n) n) = n := by rw [Wm.val_be]; exact Nat.mod_eq_of_lt (Wm.nlen_lt n h)
  rw [e]
  unfold numR
  rw [if_neg (by simp), by8_cons_zero, hkb, if_neg (by omega)]
  have hnz : ¬ (0 < Wm.nlen n ∧ 1 < (UInt8.ofNat (Wm.nlen n) :: (Wm.be (Wm.nlen n) n ++ more)).length ∧ by8 (UInt8.ofNat (Wm.nlen n) :: (Wm.be (Wm.nlen n) n ++ more)) 1 = 0) := by
    rintro ⟨h0, -, hb⟩
    rw [show (1 : Nat) = 0 + 1 from rfl, by8_cons_succ] at hb
    obtain ⟨j, hj⟩ : ∃ j, Wm.nlen n = j + 1 := ⟨Wm.nlen n - 1, by omega⟩
    rw [hj] at hb
    have hbe : by8 (Wm.be (j + 1) n ++ more) 0 = n / 256 ^ j % 256 := by
      have a := be_at (j + 1) n 0 (by omega)
      rw [Nat.add_sub_cancel, Nat.sub_zero] at a
      have hl : 0 < (Wm.be (j + 1) n).length := by rw [Wm.be_length]; omega
      rw [by8_get _ _ (by simp; omega), List.getElem_append_left hl, a]
      simp
    rw [hbe] at hb
    have hlt := Wm.nlen_lt n h
    rw [hj, Nat.pow_succ] at hlt
    have h1 : n / 256 ^ j < 256 := by rw [Nat.div_lt_iff_lt_mul (Nat.pow_pos (by decide)), Nat.mul_comm]; exact hlt
    have h2 : n / 256 ^ j = 0 := by rw [Nat.mod_eq_of_lt h1] at hb; exact hb
    have h3 : n < 256 ^ j := by
      rcases Nat.lt_or_ge n (256 ^ j) with q | q
      · exact q
      · have := Nat.div_pos q (Nat.pow_pos (by decide)); omega
    have h4 : Wm.nlen n ≤ j := by
      have hj5 : j ≤ 5 := by omega
      unfold Wm.nlen
      rcases (show j = 0 ∨ j = 1 ∨ j = 2 ∨ j = 3 ∨ j = 4 ∨ j = 5 by omega) with rfl | rfl | rfl | rfl | rfl | rfl
      all_goals simp at h3
      all_goals repeat' split
      all_goals omega
    omega
  rw [if_neg hnz, if_neg (by simp [Wm.be_length])]
  simp only [List.drop_succ_cons, List.drop_zero]
  rw [ht, hv, if_neg (by omega)]

theorem frameB_length (l : List UInt8) : (Wm.frameB l).length = Wm.nlen l.length + l.length + 6 := by
  simp [Wm.frameB, Wm.numB_length, Wm.be_length]; omega

/-- there and back -/
theorem unfR_back (c more : List UInt8) (h : c.length ≤ 1048576) : unfR (Wm.frameB c ++ more) = (c, (Wm.frameB c).length, 0) := by
  have e : Wm.frameB c ++ more = 93 :: (Wm.numB c.length ++ (c ++ (Wm.be 4 (Wm.crc c) ++ more))) := by simp [Wm.frameB]
  have hr := numR_back c.length 1048576 (c ++ (Wm.be 4 (Wm.crc c) ++ more)) (by omega) h
  have hnl := Wm.numB_length c.length
  rw [frameB_length, e]
  unfold unfR
  rw [if_neg (by simp), if_neg (by rw [by8_cons_zero]; decide)]
  simp only [List.drop_succ_cons, List.drop_zero]
  rw [hr]
  dsimp only
  rw [if_neg (by simp), if_neg (by simp [Wm.be_length, hnl]; omega)]
  have d1 : (Wm.numB c.length ++ (c ++ (Wm.be 4 (Wm.crc c) ++ more))).drop (1 + Wm.nlen c.length) = c ++ (Wm.be 4 (Wm.crc c) ++ more) :=
    List.drop_left' (by rw [hnl]; omega)
  have d2 : (93 :: (Wm.numB c.length ++ (c ++ (Wm.be 4 (Wm.crc c) ++ more)))).drop (1 + Wm.nlen c.length + 1 + c.length) = Wm.be 4 (Wm.crc c) ++ more := by
    rw [← List.drop_drop, List.drop_succ_cons, d1, List.drop_left]
  rw [d1, d2, List.take_left, List.take_left' (Wm.be_length _ _), if_neg (by simp)]
  congr 2
  omega

end Go.Proofs.YthpdphlkmleldaaGreat

namespace Go.Proofs.YthpdphlkmleldaaGreat
open Go.RowKit

/-- a reader at block b (from base B on): what is left, the error -/
def Rdr (w : World) (B b : Nat) (l : List UInt8) (err : Nat) : Prop :=
  B ≤ b ∧ w.cell? ⟨b, 0, none⟩ = some (.bool true) ∧ w.cell? ⟨b, 2, none⟩ = some (.int .i64 (err : Int)) ∧ w.frozen? ⟨b, 1, none⟩ = false ∧ w.frozen? ⟨b, 2, none⟩ = false ∧ l.length ≤ 4611686018427387904 ∧
  ∃ p c, w.cell? ⟨b, 1, none⟩ = some (.slice p l.length c) ∧ Bs w p l ∧ l.length ≤ c ∧ (p = none → c = 0) ∧ (∀ a, p = some a → a.block < b ∧ B ≤ a.block)

theorem cell_same {w : World} {a : Addr} {u v : Value} (h : w.cell? a = some u) : (w.setCell a v).cell? a = some v := World.cell?_setCell_same' w a v (by rw [h]; rfl)
theorem cell_other {w : World} {a b : Addr} {v : Value} (h : a ≠ b) : (w.setCell a v).cell? b = w.cell? b := by
  apply World.cell?_setCell_other
  exact h

theorem Rdr.kept {w w' : World} {B b : Nat} {l : List UInt8} {err : Nat} (h : Rdr w B b l err) (hb : Below w.heap.size w w') : Rdr w' B b l err := by
  obtain ⟨h0, h1, h2, h3, h4, h5, p, c, h6, h7, h8, h9, h10⟩ := h
  have hlt := cell_lt h1
  have hlt' : b < w.heap.size := hlt
  exact ⟨h0, by rw [hb.cell (by simpa using hlt')]; exact h1, by rw [hb.cell (by simpa using hlt')]; exact h2, by rw [hb.frozen (by simpa using hlt')]; exact h3, by rw [hb.frozen (by simpa using hlt')]; exact h4, h5, p, c, by rw [hb.cell (by simpa using hlt')]; exact h6, h7.kept hb, h8, h9, h10⟩

theorem Rdr.drewN {w : World} {B b : Nat} {l : List UInt8} {err : Nat} (h : Rdr w B b l err) (q : Nat) : Rdr (w.drewN q) B b l err := h.kept (below_drewN (Below.refl _ _) q)

theorem Bs.other {w : World} {p : Option Addr} {l : List UInt8} (h : Bs w p l) {b : Nat} (hp : ∀ a, p = some a → a.block ≠ b) (o : Nat) (v : Value) : Bs (w.setCell ⟨b, o, none⟩ v) p l := by
  intro h0
  obtain ⟨b', o', rfl, hc⟩ := h h0
  refine ⟨b', o', rfl, fun i hi => ?_⟩
  have hne : (⟨b, o, none⟩ : Addr) ≠ ⟨b', o' + i, none⟩ := by
    intro e
    have := hp _ rfl
    simp only [Addr.mk.injEq] at e
    exact this e.1.symm
  rw [cell_other hne]
  exact hc i hi

/-- what is left is another slice -/
theorem Rdr.pass {w : World} {B b : Nat} {l m : List UInt8} {err : Nat} (h : Rdr w B b l err) (p' : Option Addr) (c' : Nat) (hm : Bs w p' m) (hl : m.length ≤ 4611686018427387904) (hc : m.length ≤ c') (hpn : p' = none → c' = 0) (hp : ∀ a, p' = some a → a.block < b ∧ B ≤ a.block) :
    Rdr (w.setCell ⟨b, 1, none⟩ (.slice p' m.length c')) B b m err := by
  obtain ⟨h0, h1, h2, h3, h4, h5, p, c, h6, h7, h8, h9, h10⟩ := h
  refine ⟨h0, ?_, ?_, by simpa using h3, by simpa using h4, hl, p', c', cell_same h6, hm.other (fun a ha => Nat.ne_of_lt (hp a ha).1) _ _, hc, hpn, hp⟩
  · rw [cell_other (by simp)]; exact h1
  · rw [cell_other (by simp)]; exact h2

/-- another error -/
theorem Rdr.fail {w : World} {B b : Nat} {l : List UInt8} {err : Nat} (h : Rdr w B b l err) (e : Nat) : Rdr (w.setCell ⟨b, 2, none⟩ (.int .i64 (e : Int))) B b l e := by
  obtain ⟨h0, h1, h2, h3, h4, h5, p, c, h6, h7, h8, h9, h10⟩ := h
  refine ⟨h0, ?_, cell_same h2, by simpa using h3, by simpa using h4, h5, p, c, ?_, h7.other (fun a ha => Nat.ne_of_lt (h10 a ha).1) _ _, h8, h9, h10⟩
  · rw [cell_other (by simp)]; exact h1
  · rw [cell_other (by simp)]; exact h6

set_option maxRecDepth 100000 in
theorem err_any (B b : Nat) (l : List UInt8) (err : Nat) (w : World) (h : Rdr w B b l err) : Calls Tryz.prog 51 #[.pointer (some ⟨b, 0, none⟩)] w fun e w' => e = .returned (.int .i64 (err : Int)) ∧ w = w' := by
  obtain ⟨-, h1, h2, -⟩ := h
  go_enter Tryz.func51, Tryz.ntmps51
  go_wp2
  go_ret
  exact ⟨rfl, rfl⟩

set_option maxRecDepth 100000 in
theorem left_any (B b : Nat) (l : List UInt8) (err : Nat) (w : World) (h : Rdr w B b l err) : Calls Tryz.prog 53 #[.pointer (some ⟨b, 0, none⟩)] w fun e w' => e = .returned (.int .i64 (l.length : Int)) ∧ w = w' := by
  obtain ⟨-, h1, h2, -, -, -, p, c, h6, -⟩ := h
  go_enter Tryz.func53, Tryz.ntmps53
  go_wp2
  go_ret
  exact ⟨rfl, rfl⟩

/-- what Done answers -/
def doneR (l : List UInt8) (err : Nat) : Nat := if err ≠ 0 then err else if 0 < l.length then 21 else 0

set_option maxRecDepth 100000 in
theorem done_any (B b : Nat) (l : List UInt8) (err : Nat) (w : World) (h : Rdr w B b l err) : Calls Tryz.prog 27 #[.pointer (some ⟨b, 0, none⟩)] w fun e w' => e = .returned (.int .i64 (doneR l err : Int)) ∧ w = w' := by
  by_cases he : err = 0
  · subst he
    by_cases hl : l.length = 0
    · have hd := Lib.hid (show doneR l 0 = 0 by unfold doneR; rw [if_neg (by simp), if_neg (by omega)])
      go_enter Tryz.func27, Tryz.ntmps27
      go_wp2_with fail
      refine (err_any B b l 0 w h).mono ?_
      rintro e w' ⟨rfl, rfl⟩
      go_wp2_with fail
      refine (left_any B b l 0 _ h).mono ?_
      rintro e w' ⟨rfl, rfl⟩
      rw [hl]
      go_wp2
      go_ret
      rw [hd.out]
      exact ⟨rfl, rfl⟩
    · have hd := Lib.hid (show doneR l 0 = 21 by unfold doneR; rw [if_neg (by simp), if_pos (by omega)])
      have hl2 : 0 < l.length := by omega
      clear hl
      go_enter Tryz.func27, Tryz.ntmps27
      go_wp2_with fail
      refine (err_any B b l 0 w h).mono ?_
      rintro e w' ⟨rfl, rfl⟩
      go_wp2_with fail
      refine (left_any B b l 0 _ h).mono ?_
      rintro e w' ⟨rfl, rfl⟩
      go_wp2
      go_ret
      rw [hd.out]
      exact ⟨rfl, rfl⟩
  · have hd := Lib.hid (show doneR l err = err by unfold doneR; rw [if_pos he])
    have te : ((err : Int) != 0) = true := by rw [bne_iff_ne]; omega
    clear he
    go_enter Tryz.func27, Tryz.ntmps27
    go_wp2_with fail
    refine (err_any B b l err w h).mono ?_
    rintro e w' ⟨rfl, rfl⟩
    go_wp2
    go_ret
    rw [hd.out]
    exact ⟨rfl, rfl⟩

/-- only the reader's own block has turned -/
def Only (b : Nat) (w w' : World) : Prop := w.grownBy w' (some b)
theorem Only.refl (b : Nat) (w : World) : Only b w w := ⟨rfl, rfl, rfl, Nat.le_refl _, fun _ _ _ => rfl⟩
theorem Only.set (b o : Nat) (w : World) (v : Value) : Only b w (w.setCell ⟨b, o, none⟩ v) :=
  ⟨rfl, rfl, rfl, by simp [World.setCell], fun k _ hk => Below.heap_setCell w _ v k (fun e => hk (by rw [e]))⟩
theorem Only.trans {b : Nat} {x y z : World} (h : Only b x y) (k : Only b y z) : Only b x z :=
  ⟨k.os.trans h.os, k.tape.trans h.tape, k.output.trans h.output, Nat.le_trans h.size k.size, fun i hi hn => (k.block i (Nat.lt_of_lt_of_le hi h.size) hn).trans (h.block i hi hn)⟩
theorem Only.below {b B : Nat} {w0 w w' : World} (h : Only b w w') (h0 : Below B w0 w) (hB : B ≤ b) (hs : B ≤ w.heap.size) : Below B w0 w' :=
  h0.grown h hs (fun k hk => by simp only [Option.some.injEq] at hk; omega)

set_option maxRecDepth 100000 in
theorem fail_any (B b : Nat) (l : List UInt8) (err e : Nat) (w : World) (h : Rdr w B b l err) : Calls Tryz.prog 52 #[.pointer (some ⟨b, 0, none⟩), .int .i64 (e : Int)] w fun r w' => r = .returned (.tuple #[]) ∧ Rdr w' B b l (if err = 0 then e else err) ∧ Only b w w' := by
  by_cases he : err = 0
  · subst he
    rw [if_pos rfl]
    have HF := Lib.hid (h.fail e)
    have HO := Lib.hid (Only.set b 2 w (.int .i64 (e : Int)))
    have h' := h
    obtain ⟨-, h1, h2, h3, h4, -⟩ := h'
    go_enter Tryz.func52, Tryz.ntmps52
    go_wp2_with fail
    refine (err_any B b l 0 w h).mono ?_
    rintro e w' ⟨rfl, rfl⟩
    go_wp2
    go_end0
    exact ⟨rfl, HF.out, HO.out⟩
  · rw [if_neg he]
    have te : ((err : Int) == 0) = false := by rw [beq_eq_false_iff_ne]; omega
    have HR := Lib.hid h
    clear he
    go_enter Tryz.func52, Tryz.ntmps52
    go_wp2_with fail
    refine (err_any B b l err w h).mono ?_
    rintro e w' ⟨rfl, rfl⟩
    go_wp2
    go_end0
    exact ⟨rfl, HR.out, Only.refl _ _⟩

set_option maxRecDepth 100000 in
set_option maxRecDepth 100000 in
/-- pass: what is left, but the first n bytes -/
theorem pass_any (B b n : Nat) (l : List UInt8) (err : Nat) (w : World) (h : Rdr w B b l err) (hn : n ≤ l.length) : Calls Tryz.prog 79 #[.pointer (some ⟨b, 0, none⟩), .int .i64 (n : Int)] w fun r w' => r = .returned (.tuple #[]) ∧ Rdr w' B b (l.drop n) err ∧ Only b w w' := by
  have h' := h
  obtain ⟨-, h1, h2, h3, h4, h5, p, c, h6, h7, h8, h9, h10⟩ := h'
  have hdl : (l.drop n).length = l.length - n := by simp
  by_cases hcn : c = n
  · -- nothing is left, no room either: the address stays
    have hnl : n = l.length := by omega
    have HR := Lib.hid (h.pass (m := l.drop n) p 0 (by rw [List.drop_of_length_le (by omega)]; exact Bs.nil _ _) (by omega) (by omega) (fun _ => rfl) h10)
    rw [hdl] at HR
    have HO := Lib.hid (Only.set b 1 w (.slice p (l.length - n) 0))
    subst hcn
    clear h h2 h7 h10 hdl h9 hn h8
    have hzz : l.length - c = 0 := by omega
    rw [hzz] at HR HO
    rw [← hnl] at h6
    have hc62 : c ≤ 4611686018427387904 := by omega
    clear hzz hnl h5
    go_enter Tryz.func79, Tryz.ntmps79
    go_wp2
    go_end0
    exact ⟨rfl, HR.out, HO.out⟩
  · have hp : ∃ a, p = some a := by
      cases p with
      | none => have := h9 rfl; omega
      | some a => exact ⟨a, rfl⟩
    obtain ⟨a, rfl⟩ := hp
    have hbs : Bs w (some (a.add n)) (l.drop n) := by
      intro h0
      obtain ⟨b', o', e, hc⟩ := h7 (by omega)
      simp only [Option.some.injEq] at e
      subst e
      refine ⟨b', o' + n, by rw [Go.WideShapes.add_plain], fun i hi => ?_⟩
      rw [by8_drop, Nat.add_assoc]
      exact hc (n + i) (by omega)
    have hblk : (a.add n).block = a.block := by unfold Addr.add; split <;> rfl
    have HR := Lib.hid (h.pass (m := l.drop n) (some (a.add n)) (c - n) hbs (by omega) (by omega) (by simp) (fun x hx => by simp only [Option.some.injEq] at hx; subst hx; rw [hblk]; exact h10 a rfl))
    rw [hdl] at HR
    have HO := Lib.hid (Only.set b 1 w (.slice (some (a.add n)) (l.length - n) (c - n)))
    clear h h2 h7 h10 hdl h9 hbs hblk
    generalize ha : a.add n = a' at *
    go_enter Tryz.func79, Tryz.ntmps79
    go_wp2
    go_end0
    exact ⟨rfl, HR.out, HO.out⟩

set_option maxRecDepth 100000 in
theorem pass_at (B b n : Nat) (k : Int) (hk : k = (n : Int)) (l : List UInt8) (err : Nat) (w : World) (h : Rdr w B b l err) (hn : n ≤ l.length) : Calls Tryz.prog 79 #[.pointer (some ⟨b, 0, none⟩), .int .i64 k] w fun r w' => r = .returned (.tuple #[]) ∧ Rdr w' B b (l.drop n) err ∧ Only b w w' := by
  subst hk
  exact pass_any B b n l err w h hn

end Go.Proofs.YthpdphlkmleldaaGreat

namespace Go.Proofs.YthpdphlkmleldaaGreat
open Go.RowKit

/-- a number that stands next: it, what is left, the error -/
def uptoR (l : List UInt8) (most : Int) : Nat × List UInt8 × Nat :=
  if (numR l 281474976710655).2.2 ≠ 0 then (0, l, (numR l 281474976710655).2.2)
  else if most < ((numR l 281474976710655).1 : Int) then (0, l, 30)
  else ((numR l 281474976710655).1, l.drop (numR l 281474976710655).2.1, 0)

set_option maxRecDepth 100000 in
theorem upto_bad (B b : Nat) (l : List UInt8) (err : Nat) (most : Int) (w : World) (h : Rdr w B b l err) (he : err ≠ 0) :
    Calls Tryz.prog 48 #[.pointer (some ⟨b, 0, none⟩), .int .i64 most] w fun e w' => e = .returned (.int .i64 0) ∧ w = w' := by
  have te : ((err : Int) != 0) = true := by rw [bne_iff_ne]; omega
  clear he
  go_enter Tryz.func48, Tryz.ntmps48
  go_wp2_with fail
  refine (err_any B b l err w h).mono ?_
  rintro e w' ⟨rfl, rfl⟩
  go_wp2
  go_ret
  exact ⟨rfl, rfl⟩

set_option maxRecDepth 100000 in
set_option maxHeartbeats 1000000 in
theorem upto_any (B b : Nat) (l : List UInt8) (most : Int) (w : World) (h : Rdr w B b l 0) :
    Calls Tryz.prog 48 #[.pointer (some ⟨b, 0, none⟩), .int .i64 most] w fun e w' => e = .returned (.int .i64 ((uptoR l most).1 : Nat)) ∧ Rdr w' B b (uptoR l most).2.1 (uptoR l most).2.2 ∧ Only b w w' := by
  have H := Lib.hid h
  obtain ⟨-, -, -, -, -, h5, p, c, h6, h7, h8, h9, -⟩ := h
  have NS := numR_small l 281474976710655
  have HN := number_any p c l 281474976710655 w h7 (by unfold maxLen; omega) h8
  unfold NumAns at HN
  have HU : uptoR l most = (if (numR l 281474976710655).2.2 ≠ 0 then (0, l, (numR l 281474976710655).2.2) else if most < ((numR l 281474976710655).1 : Int) then (0, l, 30) else ((numR l 281474976710655).1, l.drop (numR l 281474976710655).2.1, 0)) := rfl
  rcases hr : numR l 281474976710655 with ⟨n, s, e⟩
  rw [hr] at HN NS HU
  dsimp only at HN NS HU
  clear hr
  have HNh := Lib.hid HN
  clear HN h5 h7 h8 h9
  by_cases he : e = 0
  · subst he
    obtain ⟨ns7, nsM, nsL⟩ := NS
    obtain ⟨ns1, ns2⟩ := nsL rfl
    rw [if_neg (by simp)] at HU
    clear nsL
    by_cases hm : most < (n : Int)
    · rw [if_pos hm] at HU
      have HUh := Lib.hid HU
      clear HU
      go_enter Tryz.func48, Tryz.ntmps48
      go_wp2_with fail
      refine (err_any B b l 0 w H.out).mono ?_
      rintro e w' ⟨rfl, rfl⟩
      go_wp2_with fail
      refine HNh.out.mono ?_
      rintro e w' ⟨rfl, rfl⟩
      go_wp2_with fail
      refine (fail_any B b l 0 30 _ H.out).mono ?_
      rintro e w' ⟨rfl, hr, ho⟩
      rw [if_pos rfl] at hr
      have HR := Lib.hid hr
      have HO := Lib.hid ho
      clear hr ho
      go_wp2
      go_ret
      rw [HUh.out]
      exact ⟨rfl, HR.out, HO.out⟩
    · rw [if_neg hm] at HU
      have HUh := Lib.hid HU
      clear HU
      go_enter Tryz.func48, Tryz.ntmps48
      go_wp2_with fail
      refine (err_any B b l 0 w H.out).mono ?_
      rintro e w' ⟨rfl, rfl⟩
      go_wp2_with fail
      refine HNh.out.mono ?_
      rintro e w' ⟨rfl, rfl⟩
      go_wp2_with fail
      refine (pass_any B b s l 0 _ H.out ns2).mono ?_
      rintro e w' ⟨rfl, hr, ho⟩
      have HR := Lib.hid hr
      have HO := Lib.hid ho
      clear hr ho
      go_wp2
      go_ret
      rw [HUh.out]
      exact ⟨rfl, HR.out, HO.out⟩
  · rw [if_pos he] at HU
    have HUh := Lib.hid HU
    have te : ((e : Int) != 0) = true := by rw [bne_iff_ne]; omega
    have te2 : ((e : Int) == 0) = false := by rw [beq_eq_false_iff_ne]; omega
    clear HU he NS
    go_enter Tryz.func48, Tryz.ntmps48
    go_wp2_with fail
    refine (err_any B b l 0 w H.out).mono ?_
    rintro e w' ⟨rfl, rfl⟩
    go_wp2_with fail
    refine HNh.out.mono ?_
    rintro e w' ⟨rfl, rfl⟩
    go_wp2_with fail
    refine (fail_any B b l 0 e _ H.out).mono ?_
    rintro e w' ⟨rfl, hr, ho⟩
    rw [if_pos rfl] at hr
    have HR := Lib.hid hr
    have HO := Lib.hid ho
    clear hr ho
    go_wp2
    go_ret
    rw [HUh.out]
    exact ⟨rfl, HR.out, HO.out⟩

set_option maxRecDepth 100000 in
theorem rnum_any (B b : Nat) (l : List UInt8) (w : World) (h : Rdr w B b l 0) :
    Calls Tryz.prog 49 #[.pointer (some ⟨b, 0, none⟩)] w fun e w' => e = .returned (.int .i64 ((uptoR l 281474976710655).1 : Nat)) ∧ Rdr w' B b (uptoR l 281474976710655).2.1 (uptoR l 281474976710655).2.2 ∧ Only b w w' := by
  go_enter Tryz.func49, Tryz.ntmps49
  go_wp2_with fail
  refine (upto_any B b l 281474976710655 w h).mono ?_
  rintro e w' ⟨rfl, hr, ho⟩
  have HR := Lib.hid hr
  have HO := Lib.hid ho
  clear hr ho
  generalize hn : (uptoR l 281474976710655).1 = n at *
  have HN := Lib.hid hn
  clear hn
  go_wp2
  go_ret
  rw [HN.out]
  exact ⟨rfl, HR.out, HO.out⟩

/-- a text that stands next: it, what is left, the error -/
def textR (l : List UInt8) : List UInt8 × List UInt8 × Nat :=
  if (numR l 1048576).2.2 ≠ 0 then ([], l, (numR l 1048576).2.2)
  else if l.length - (numR l 1048576).2.1 < (numR l 1048576).1 then ([], l, 20)
  else ((l.drop (numR l 1048576).2.1).take (numR l 1048576).1, l.drop ((numR l 1048576).2.1 + (numR l 1048576).1), 0)

set_option maxRecDepth 100000 in
theorem text_bad (B b : Nat) (l : List UInt8) (err : Nat) (w : World) (h : Rdr w B b l err) (he : err ≠ 0) :
    Calls Tryz.prog 81 #[.pointer (some ⟨b, 0, none⟩)] w fun e w' => e = .returned (.string ⟨#[]⟩) ∧ w = w' := by
  have te : ((err : Int) != 0) = true := by rw [bne_iff_ne]; omega
  clear he
  go_enter Tryz.func81, Tryz.ntmps81
  go_wp2_with fail
  refine (err_any B b l err w h).mono ?_
  rintro e w' ⟨rfl, rfl⟩
  go_wp2
  go_ret
  exact ⟨rfl, rfl⟩

set_option maxRecDepth 100000 in
set_option maxHeartbeats 1000000 in
theorem rtext_any (B b : Nat) (l : List UInt8) (w : World) (h : Rdr w B b l 0) :
    Calls Tryz.prog 81 #[.pointer (some ⟨b, 0, none⟩)] w fun e w' => e = .returned (.string (strB (textR l).1)) ∧ Rdr w' B b (textR l).2.1 (textR l).2.2 ∧ Only b w w' := by
  have H := Lib.hid h
  obtain ⟨-, h1, h2, -, -, h5, p, c, h6, h7, h8, h9, -⟩ := h
  have NS := numR_small l 1048576
  have HN := number_any p c l 1048576 w h7 (by unfold maxLen; omega) h8
  unfold NumAns at HN
  have HU : textR l = (if (numR l 1048576).2.2 ≠ 0 then ([], l, (numR l 1048576).2.2) else if l.length - (numR l 1048576).2.1 < (numR l 1048576).1 then ([], l, 20) else ((l.drop (numR l 1048576).2.1).take (numR l 1048576).1, l.drop ((numR l 1048576).2.1 + (numR l 1048576).1), 0)) := rfl
  rcases hr : numR l 1048576 with ⟨n, s, e⟩
  rw [hr] at HN NS HU
  dsimp only at HN NS HU
  clear hr
  have HNh := Lib.hid HN
  clear HN
  by_cases he : e = 0
  · subst he
    obtain ⟨ns7, nsM, nsL⟩ := NS
    obtain ⟨ns1, ns2⟩ := nsL rfl
    rw [if_neg (by simp)] at HU
    clear nsL
    by_cases hm : l.length - s < n
    · rw [if_pos hm] at HU
      have HUh := Lib.hid HU
      have tl : (l.length : Int) - (s : Int) < (n : Int) := by omega
      clear HU h7 h8 h9
      go_enter Tryz.func81, Tryz.ntmps81
      go_wp2_with fail
      refine (err_any B b l 0 w H.out).mono ?_
      rintro e w' ⟨rfl, rfl⟩
      go_wp2_with fail
      refine HNh.out.mono ?_
      rintro e w' ⟨rfl, rfl⟩
      go_wp2_with fail
      refine (fail_any B b l 0 20 _ H.out).mono ?_
      rintro e w' ⟨rfl, hr, ho⟩
      rw [if_pos rfl] at hr
      have HR := Lib.hid hr
      have HO := Lib.hid ho
      clear hr ho
      go_wp2
      go_ret
      rw [HUh.out]
      exact ⟨rfl, HR.out, HO.out⟩
    · rw [if_neg hm] at HU
      have HUh := Lib.hid HU
      clear HU
      have hml : ((l.drop s).take n).length = n := by simp; omega
      obtain ⟨a, rfl⟩ : ∃ a, p = some a := by
        obtain ⟨b', o', e, -⟩ := h7 (by omega)
        exact ⟨_, e⟩
      have hbs : Bs w (some (a.add s)) ((l.drop s).take n) := by
        intro h0
        obtain ⟨b', o', e, hc⟩ := h7 (by omega)
        simp only [Option.some.injEq] at e
        subst e
        refine ⟨b', o' + s, by rw [Go.WideShapes.add_plain], fun i hi => ?_⟩
        rw [by8_take_drop _ _ _ _ (by omega), Nat.add_assoc]
        exact hc (s + i) (by omega)
      have k1 := hbs.conv (P := Tryz.prog) (c - s) 25 5 9 Tryz.underlying25 Tryz.underlying5 Tryz.underlying9
      rw [hml] at k1
      by_cases hcs : c = s
      · have hn0 : n = 0 := by omega
        have hs0 : l.length = s := by omega
        subst hn0
        have e0 : (l.drop s).take 0 = [] := List.take_zero
        rw [e0] at HUh
        rw [hs0, hcs] at h6
        have k2 := (Bs.nil w (some a)).conv (P := Tryz.prog) 0 25 5 9 Tryz.underlying25 Tryz.underlying5 Tryz.underlying9
        simp only [List.length_nil] at k2
        have hs62 : s ≤ 4611686018427387904 := by omega
        have hsl : s ≤ l.length := by omega
        rw [hcs, hs0] at HNh
        clear k1 hbs h7 h8 h9 hml e0 hm hcs ns2 h5 hs0
        go_enter Tryz.func81, Tryz.ntmps81
        go_wp2_with fail
        refine (err_any B b l 0 w H.out).mono ?_
        rintro e w' ⟨rfl, rfl⟩
        go_wp2_with fail
        refine HNh.out.mono ?_
        rintro e w' ⟨rfl, rfl⟩
        go_wp2_with fail
        refine (pass_at B b (s + 0) _ (by omega) l 0 _ H.out hsl).mono ?_
        rintro e w' ⟨rfl, hr, ho⟩
        have HR := Lib.hid hr
        have HO := Lib.hid ho
        clear hr ho
        go_wp2
        go_ret
        rw [HUh.out]
        exact ⟨rfl, HR.out, HO.out⟩
      · have hsl : s + n ≤ l.length := by omega
        generalize hmm : (l.drop s).take n = mm at *
        have HMM := Lib.hid hmm
        clear hbs h7 h9 hml hmm
        go_enter Tryz.func81, Tryz.ntmps81
        go_wp2_with fail
        refine (err_any B b l 0 w H.out).mono ?_
        rintro e w' ⟨rfl, rfl⟩
        go_wp2_with fail
        refine HNh.out.mono ?_
        rintro e w' ⟨rfl, rfl⟩
        go_wp2_with fail
        refine (pass_at B b (s + n) _ (by omega) l 0 _ H.out hsl).mono ?_
        rintro e w' ⟨rfl, hr, ho⟩
        have HR := Lib.hid hr
        have HO := Lib.hid ho
        clear hr ho
        go_wp2
        go_ret
        rw [HUh.out]
        exact ⟨rfl, HR.out, HO.out⟩
  · rw [if_pos he] at HU
    have HUh := Lib.hid HU
    have te : ((e : Int) != 0) = true := by rw [bne_iff_ne]; omega
    have te2 : ((e : Int) == 0) = false := by rw [beq_eq_false_iff_ne]; omega
    clear HU he NS h7 h8 h9
    go_enter Tryz.func81, Tryz.ntmps81
    go_wp2_with fail
    refine (err_any B b l 0 w H.out).mono ?_
    rintro e w' ⟨rfl, rfl⟩
    go_wp2_with fail
    refine HNh.out.mono ?_
    rintro e w' ⟨rfl, rfl⟩
    go_wp2_with fail
    refine (fail_any B b l 0 e _ H.out).mono ?_
    rintro e w' ⟨rfl, hr, ho⟩
    rw [if_pos rfl] at hr
    have HR := Lib.hid hr
    have HO := Lib.hid ho
    clear hr ho
    go_wp2
    go_ret
    rw [HUh.out]
    exact ⟨rfl, HR.out, HO.out⟩

set_option maxRecDepth 100000 in
/-- Open: a reader of a copy -/
theorem open_any (p : Option Addr) (c : Nat) (l : List UInt8) (w : World) (h : Bs w p l) (hl : l.length ≤ 140737488355328) (hpn : p = none → c = 0 ∧ l = []) :
    Calls Tryz.prog 25 #[.slice p l.length c] w fun e w' => ∃ b, e = .returned (.pointer (some ⟨b, 0, none⟩)) ∧ Rdr w' w.heap.size b l 0 ∧ Below w.heap.size w w' := by
  have HC := Lib.hid (clone_any p c l w h hl hpn)
  clear h hpn
  go_enter Tryz.func25, Tryz.ntmps25
  go_wp2_with fail
  refine HC.out.mono ?_
  rintro e w1 ⟨v1, rfl, hown1, hb1, -⟩
  obtain ⟨p1, c1, rfl, hbs1, h1, h2, h3, h4⟩ := hown1.bs
  have hs1 := hb1.size
  have hb2 := hb1.alloc hs1 (.cells #[.bool true, .slice p1 l.length c1, .int .i64 0] 88)
  have HBS := Lib.hid (hbs1.kept (Below.alloc (Below.refl w1.heap.size w1) (Nat.le_refl _) (.cells #[.bool true, .slice p1 l.length c1, .int .i64 0] 88)))
  have H4 := Lib.hid h4
  have H3 := Lib.hid h3
  clear hown1 hbs1 hb1 h3 h4
  go_wp2
  go_ret
  refine ⟨w1.heap.size, rfl, ⟨hs1, ?_, ?_, ?_, ?_, by omega, p1, c1, ?_, HBS.out, h1, H3.out, fun a ha => ⟨?_, (H4.out a ha).1⟩⟩, hb2⟩
  · rw [World.cell?_alloc_at _ _ _ _ rfl]; rfl
  · rw [World.cell?_alloc_at _ _ _ _ rfl]; rfl
  · rw [World.frozen?_alloc_at _ _ _ _ rfl]
  · rw [World.frozen?_alloc_at _ _ _ _ rfl]
  · rw [World.cell?_alloc_at _ _ _ _ rfl]; rfl
  · have := (H4.out a ha).2; omega

end Go.Proofs.YthpdphlkmleldaaGreat

namespace Go.Proofs.YthpdphlkmleldaaGreat
open Go.RowKit

/-- the slice reads as these integers -/
def Ints (w : World) (p : Option Addr) (l : List Int) : Prop :=
  0 < l.length → ∃ b o, p = some ⟨b, o, none⟩ ∧ ∀ i, i < l.length → w.cell? ⟨b, o + i, none⟩ = some (.int .i64 (l.getD i 0))
/-- the slice reads as these strings -/
def Strs (w : World) (p : Option Addr) (l : List ByteArray) : Prop :=
  0 < l.length → ∃ b o, p = some ⟨b, o, none⟩ ∧ ∀ i, i < l.length → w.cell? ⟨b, o + i, none⟩ = some (.string (l.getD i ByteArray.empty))

theorem Ints.kept {w w' : World} {p : Option Addr} {l : List Int} (h : Ints w p l) (hb : Below w.heap.size w w') : Ints w' p l := by
  intro h0
  obtain ⟨b, o, rfl, hc⟩ := h h0
  have := cell_lt (hc 0 h0)
  exact ⟨b, o, rfl, fun i hi => by rw [hb.cell (by simpa using this)]; exact hc i hi⟩
theorem Strs.kept {w w' : World} {p : Option Addr} {l : List ByteArray} (h : Strs w p l) (hb : Below w.heap.size w w') : Strs w' p l := by
  intro h0
  obtain ⟨b, o, rfl, hc⟩ := h h0
  have := cell_lt (hc 0 h0)
  exact ⟨b, o, rfl, fun i hi => by rw [hb.cell (by simpa using this)]; exact hc i hi⟩

/-- a number that was written is read -/
theorem uptoR_back (n : Nat) (more : List UInt8) (h : n < 281474976710656) : uptoR (Wm.numB n ++ more) 281474976710655 = (n, more, 0) := by
  unfold uptoR
  rw [numR_back n 281474976710655 more h (by omega)]
  dsimp only
  rw [if_neg (by simp), if_neg (by omega), List.drop_left' (by rw [Wm.numB_length]; omega)]
/-- a text that was written is read -/
theorem textR_back (s more : List UInt8) (h : s.length ≤ 1048576) : textR (Wm.numB s.length ++ s ++ more) = (s, more, 0) := by
  unfold textR
  rw [List.append_assoc, numR_back s.length 1048576 (s ++ more) (by omega) h]
  dsimp only
  have hd : (Wm.numB s.length ++ (s ++ more)).drop (1 + Wm.nlen s.length) = s ++ more := List.drop_left' (by rw [Wm.numB_length]; omega)
  rw [if_neg (by simp), if_neg (by simp [Wm.numB_length]; omega), hd, List.take_left, ← List.drop_drop, hd, List.drop_left]

end Go.Proofs.YthpdphlkmleldaaGreat
