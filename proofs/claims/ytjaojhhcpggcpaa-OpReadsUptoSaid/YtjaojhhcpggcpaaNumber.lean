/-
  A NUMBER's FORM: what wire.number and the reference's number answer of any slice of bytes; the world as it was.
-/
import Derived.Test.YtjaojhhcpggcpaaBase
namespace Go.Proofs.Ytjaojhhcpggcpaa
open Go.RowKit

/-- the number that stands at the beginning, how many bytes it has, the error -/
def numR (l : List UInt8) (most : Nat) : Nat × Nat × Nat :=
  if l.length = 0 then (0, 0, 20)
  else if 6 < by8 l 0 then (0, 0, 21)
  else if 0 < by8 l 0 ∧ 1 < l.length ∧ by8 l 1 = 0 then (0, 0, 21)
  else if l.length < by8 l 0 + 1 then (0, 0, 20)
  else if most < Wm.val ((l.drop 1).take (by8 l 0)) then (0, 0, 21)
  else (Wm.val ((l.drop 1).take (by8 l 0)), 1 + by8 l 0, 0)

def NumAns (l : List UInt8) (most : Nat) (w : World) (e : Ending) (w' : World) : Prop :=
  e = .returned (.tuple #[.int .i64 ((numR l most).1 : Nat), .int .i64 ((numR l most).2.1 : Nat), .int .i64 ((numR l most).2.2 : Nat)]) ∧ w = w'

theorem ans_of {l : List UInt8} {most : Nat} {w : World} {a b c : Nat} (h : numR l most = (a, b, c)) : NumAns l most w (.returned (.tuple #[.int .i64 (a : Int), .int .i64 (b : Int), .int .i64 (c : Int)])) w := by
  unfold NumAns
  rw [h]
  exact ⟨rfl, rfl⟩

set_option maxRecDepth 100000 in
set_option maxHeartbeats 400000 in
theorem number_zero (p : Option Addr) (c : Nat) (most : Nat) (w : World) : Calls Try.prog 46 #[.slice p 0 c, .int .i64 most] w (NumAns [] most w) := by
  have hf : numR [] most = (0, 0, 20) := rfl
  have HF := ans_of (w := w) hf
  clear hf
  go_enter Try.func46, Try.ntmps46
  go_wp2
  go_step3
  go_wp2
  rw [Exit.noGoto_ret]
  go_ret3
  exact HF

set_option maxRecDepth 100000 in
set_option maxHeartbeats 400000 in
theorem number_some (b o : Nat) (c : Nat) (l : List UInt8) (most : Nat) (w : World) (h : Bs w (some ⟨b, o, none⟩) l) (hl : l.length ≤ maxLen) (h0 : 0 < l.length) (hc : l.length ≤ c) :
    Calls Try.prog 46 #[.slice (some ⟨b, o, none⟩) l.length c, .int .i64 most] w (NumAns l most w) := by
  unfold maxLen at hl
  have hz : (l.length == 0) = false := by rw [beq_eq_false_iff_ne]; omega
  have c0 := h.get 0 h0
  rw [Nat.add_zero] at c0
  have k256 := by8_lt l 0
  by_cases hk : 6 < by8 l 0
  · have HF := ans_of (w := w) (show numR l most = (0, 0, 21) by unfold numR; rw [if_neg (by omega), if_pos hk])
    generalize by8 l 0 = k at *
    go_enter Try.func46, Try.ntmps46
    go_wp2
    refine wp_scope_fwd 0 rfl ?_
    go_wp2
    go_step3
    refine fwd_goto ?_
    go_wp2
    rw [Exit.noGoto_ret]
    go_ret3
    exact HF
  · by_cases hw : 0 < by8 l 0 ∧ 1 < l.length ∧ by8 l 1 = 0
    · have HF := ans_of (w := w) (show numR l most = (0, 0, 21) by unfold numR; rw [if_neg (by omega), if_neg hk, if_pos hw])
      obtain ⟨hk0, hl1, hb1⟩ := hw
      have c1 := h.get 1 hl1
      have t1 : ((by8 l 1 : Int) == 0) = true := by rw [hb1]; rfl
      clear hb1
      generalize by8 l 0 = k at *
      generalize by8 l 1 = k1 at *
      go_enter Try.func46, Try.ntmps46
      go_wp2
      refine wp_scope_fwd 0 rfl ?_
      go_wp2
      go_step3
      refine fwd_goto ?_
      go_wp2
      rw [Exit.noGoto_ret]
      go_ret3
      exact HF
    · have hpass : ∀ (R : Ending → World → Prop), (0 < by8 l 0 → 1 < l.length → ((by8 l 1 : Int) == 0) = false) := by
        intro _ a b
        rw [beq_eq_false_iff_ne]
        omega
      by_cases hs : l.length < by8 l 0 + 1
      · have HF := ans_of (w := w) (show numR l most = (0, 0, 20) by unfold numR; rw [if_neg (by omega), if_neg hk, if_neg hw, if_pos hs])
        by_cases hl1 : 1 < l.length
        · have c1 := h.get 1 hl1
          have t1 := hpass (fun _ _ => True) (by omega) hl1
          clear hpass hw
          generalize by8 l 0 = k at *
          generalize by8 l 1 = k1 at *
          go_enter Try.func46, Try.ntmps46
          go_wp2
          refine wp_scope_fwd 0 rfl ?_
          go_wp2
          rw [fwd_ret]
          go_ret3
          exact HF
        · clear hpass hw
          generalize by8 l 0 = k at *
          go_enter Try.func46, Try.ntmps46
          go_wp2
          refine wp_scope_fwd 0 rfl ?_
          go_wp2
          rw [fwd_ret]
          go_ret3
          exact HF
      · by_cases hk0 : by8 l 0 = 0
        · have HF := ans_of (w := w) (show numR l most = (0, 1, 0) by unfold numR; rw [if_neg (by omega), if_neg hk, if_neg hw, if_neg hs, hk0, List.take_zero, Wm.val_nil, if_neg (by omega)])
          clear hpass hw
          have c0' : w.cell? ⟨b, o, none⟩ = some (.int .u8 0) := by rw [c0, hk0]; rfl
          clear c0 hk0 hs hk k256
          go_enter Try.func46, Try.ntmps46
          go_wp2
          refine wp_scope_fwd 0 rfl ?_
          go_wp2
          all_goals
            go_loop [4, 8, 42] (fun n _ i => i = .int .i64 0 ∧ n = .int .i64 0) (fun _ _ _ => 0)
            case atStart => exact ⟨rfl, rfl⟩
            case round =>
              obtain ⟨rfl, rfl⟩ := hrel
              go_wp2
              rw [fwd_ret]
              go_ret3
              exact HF
        · have hl1 : 1 < l.length := by omega
          have c1 := h.get 1 hl1
          have t1 := hpass (fun _ _ => True) (by omega) hl1
          have hc1 : ¬ c = 1 := by omega
          have hk1 : 1 ≤ by8 l 0 := by omega
          have hml : ((l.drop 1).take (by8 l 0)).length = by8 l 0 := by simp; omega
          have hcell : ∀ j, j < by8 l 0 → w.cell? ⟨b, o + 1 + j, none⟩ = some (.int .u8 (by8 ((l.drop 1).take (by8 l 0)) j)) := by
            intro j hj
            have := h.get (1 + j) (by omega)
            rw [← Nat.add_assoc] at this
            rw [this, by8_take_drop _ _ _ _ hj]
          have hans : (most < Wm.val ((l.drop 1).take (by8 l 0)) → numR l most = (0, 0, 21)) ∧ (¬ most < Wm.val ((l.drop 1).take (by8 l 0)) → numR l most = (Wm.val ((l.drop 1).take (by8 l 0)), 1 + by8 l 0, 0)) := by
            unfold numR
            rw [if_neg (by omega), if_neg hk, if_neg hw, if_neg hs]
            exact ⟨fun a => by rw [if_pos a], fun a => by rw [if_neg a]⟩
          clear hpass hw hk0
          generalize hm : (l.drop 1).take (by8 l 0) = m at *
          have HM := Lib.hid hm
          have HML := Lib.hid hml
          clear hm hml
          generalize by8 l 0 = k at *
          generalize by8 l 1 = k1 at *
          have HC := Lib.hid hcell
          have HA := Lib.hid hans
          clear hcell hans
          go_enter Try.func46, Try.ntmps46
          go_wp2
          refine wp_scope_fwd 0 rfl ?_
          go_wp2
          go_loop [4, 8, 42] (fun n _ i => ∃ j : Nat, j ≤ k ∧ i = .int .i64 j ∧ n = .int .i64 (Wm.val (m.take j))) (fun _ _ i => k - (intOf i).toNat)
          case atStart => exact ⟨0, Nat.zero_le _, rfl, rfl⟩
          case round =>
            obtain ⟨j, hj, rfl, rfl⟩ := hrel
            by_cases hlt : j < k
            · have cj := HC.out j hlt
              have hxl := by8_lt m j
              have hvl := Wm.val_lt (m.take j)
              have hjl : (m.take j).length ≤ 5 := by rw [List.length_take]; omega
              have hv5 : Wm.val (m.take j) < 1099511627776 := Nat.lt_of_lt_of_le hvl (Nat.le_trans (Nat.pow_le_pow_right (by decide) hjl) (show 256 ^ 5 ≤ 1099511627776 by decide))
              have HS : Hid (Wm.val (m.take (j + 1)) = Wm.val (m.take j) * 256 + by8 m j) := by
                have hjm : j < m.length := by rw [HML.out]; exact hlt
                show Wm.val (m.take (j + 1)) = Wm.val (m.take j) * 256 + by8 m j
                rw [take_snoc m j hjm, Wm.val_snoc, by8_get m j hjm]
              clear hvl hjl
              generalize Wm.val (m.take j) = v at *
              generalize by8 m j = x at *
              have hor : bits BinOp.or .i64 ((v : Int) * 256) (x : Int) = ((v * 256 + x : Nat) : Int) := by
                have := i64_or_nat (v * 256) x (by omega) (by omega)
                rw [Go.nat_join 8 (v * 256) x (by omega) (by omega)] at this
                rw [← this]; rfl
              go_wp2
              go_round
              case rel => exact ⟨j + 1, by omega, by go_num, by rw [HS.out]; go_num⟩
              case measure => simp [intOf]; omega
            · obtain rfl : j = k := by omega
              have e : m.take j = m := List.take_of_length_le (by rw [HML.out]; omega)
              rw [e]
              have hvl := Wm.val_lt m
              have hv6 : Wm.val m < 281474976710656 := Nat.lt_of_lt_of_le hvl (Nat.le_trans (Nat.pow_le_pow_right (by decide) (by rw [HML.out]; omega)) (show 256 ^ 6 ≤ 281474976710656 by decide))
              clear hvl
              obtain ⟨a1, a2⟩ := HA.out
              by_cases hmost : most < Wm.val m
              · have HF := ans_of (w := w) (a1 hmost)
                clear a1 a2 e
                go_wp2
                go_step3
                refine fwd_goto ?_
                go_wp2
                rw [Exit.noGoto_ret]
                go_ret3
                exact HF
              · have HF := ans_of (w := w) (a2 hmost)
                clear a1 a2 e
                go_wp2
                rw [fwd_ret]
                go_ret3
                exact HF

/-- WHAT wire.number ANSWERS. -/
theorem number_any (p : Option Addr) (c : Nat) (l : List UInt8) (most : Nat) (w : World) (h : Bs w p l) (hl : l.length ≤ maxLen) (hc : l.length ≤ c) :
    Calls Try.prog 46 #[.slice p l.length c, .int .i64 most] w (NumAns l most w) := by
  rcases Nat.eq_zero_or_pos l.length with h0 | h0
  · obtain rfl : l = [] := List.eq_nil_of_length_eq_zero h0
    exact number_zero p c most w
  · obtain ⟨b, o, rfl, -⟩ := h h0
    exact number_some b o c l most w h hl h0 hc

/-- the same, the length named -/
theorem number_at (p : Option Addr) (n c : Nat) (l : List UInt8) (most : Nat) (w : World) (hn : l.length = n) (h : Bs w p l) (hl : l.length ≤ maxLen) (hc : l.length ≤ c) :
    Calls Try.prog 46 #[.slice p n c, .int .i64 most] w (NumAns l most w) := by
  subst hn
  exact number_any p c l most w h hl hc

end Go.Proofs.Ytjaojhhcpggcpaa
