/-
  THE SUM: what wire.Sum and the reference's Sum answer of any slice of bytes: 'Wm.crc'; the world as it was.
-/
import Derived.Test.YtdedlghimeomcaaBase
namespace Go.Proofs.Ytdedlghimeomcaa
open Go.RowKit

theorem half_bits (S : Nat) (h : S < 4294967296) : bits BinOp.xor IntKind.u32 ((S : Int) / 2) (bits BinOp.and IntKind.u32 3988292384 (-bits BinOp.and IntKind.u32 (S : Int) 1 % 4294967296)) = ((Wm.half S : Nat) : Int) := by
  have h1 : bits BinOp.and IntKind.u32 (S : Int) 1 = ((S % 2 : Nat) : Int) := by
    have := Go.u32_and_nat S 1 h (by decide)
    rw [Go.nat_mask1] at this
    exact this
  have h2 : ((S : Int) / 2) = ((S / 2 : Nat) : Int) := by omega
  rw [h1, h2]
  unfold Wm.half
  rcases Nat.mod_two_eq_zero_or_one S with e | e
  · rw [e]
    have h3 : bits BinOp.and IntKind.u32 3988292384 (-((0 : Nat) : Int) % 4294967296) = ((0 : Nat) : Int) := by
      have := Go.u32_and_nat 3988292384 0 (by decide) (by decide)
      simpa using this
    rw [h3, Go.u32_xor_nat _ _ (by omega) (by decide)]
    simp
  · rw [e]
    have h3 : bits BinOp.and IntKind.u32 3988292384 (-((1 : Nat) : Int) % 4294967296) = ((3988292384 : Nat) : Int) := by
      have := Go.u32_and_nat 3988292384 4294967295 (by decide) (by decide)
      have e2 : (3988292384 &&& 4294967295 : Nat) = 3988292384 := by decide
      rw [e2] at this
      exact this
    rw [h3, Go.u32_xor_nat _ _ (by omega) (by decide)]
    simp

theorem not_nat (R : Nat) (h : R < 4294967296) : 4294967295 ^^^ R = 4294967295 - R := by
  apply Nat.eq_of_testBit_eq
  intro i
  have a := Nat.testBit_two_pow_sub_succ (n := 32) (x := R) (by omega) i
  have e : 2 ^ 32 - (R + 1) = 4294967295 - R := by omega
  rw [e] at a
  rw [a, Nat.testBit_xor]
  have b := Nat.testBit_two_pow_sub_one 32 i
  have e2 : (2 ^ 32 - 1 : Nat) = 4294967295 := by decide
  rw [e2] at b
  rw [b]
  by_cases hi : i < 32
  · simp [hi]
  · have : R.testBit i = false := Nat.testBit_lt_two_pow (Nat.lt_of_lt_of_le h (by have := Nat.pow_le_pow_right (n := 2) (by decide) (Nat.le_of_not_lt hi); omega))
    simp [hi, this]

theorem not_bits (R : Nat) (h : R < 4294967296) : wrap64 (bits BinOp.xor IntKind.u32 IntKind.u32.max (R : Int)) = ((4294967295 - R : Nat) : Int) := by
  have := Go.u32_xor_nat 4294967295 R (by decide) h
  rw [not_nat R h] at this
  rw [show (IntKind.u32.max) = ((4294967295 : Nat) : Int) from by decide, this]
  exact IntWalk.wrap64_in _ (by omega)

set_option maxHeartbeats 400000 in
theorem sum_any (p : Option Addr) (c : Nat) (l : List UInt8) (w : World) (h : Bs w p l) (hl : l.length ≤ maxLen) :
    Calls Try.prog 17 #[.slice p l.length c] w fun e w' => e = .returned (.int .i64 (Wm.crc l)) ∧ w = w' := by
  unfold maxLen at hl
  go_enter Try.func17, Try.ntmps17
  go_wp2
  go_loop [3, 5, 8] (fun s _ i => ∃ k : Nat, k ≤ l.length ∧ i = .int .i64 k ∧ s = .int .u32 (Wm.crcR 4294967295 (l.take k))) (fun _ _ i => l.length - (intOf i).toNat)
  case atStart => exact ⟨0, Nat.zero_le _, rfl, rfl⟩
  case round =>
    obtain ⟨k, hk, rfl, rfl⟩ := hrel
    by_cases hlt : k < l.length
    · obtain ⟨b, o, rfl, hc⟩ := h (by omega)
      have hcell := hc k hlt
      clear hc
      have hRl := Wm.crcR_lt (l.take k) 4294967295 (by decide)
      have hxl := by8_lt l k
      have HS : Hid (Wm.crcR 4294967295 (l.take (k + 1)) = Wm.halves 8 (Wm.crcR 4294967295 (l.take k) ^^^ by8 l k)) := by
        rw [take_snoc l k hlt, Wm.crcR_snoc, by8_get l k hlt]; rfl
      generalize Wm.crcR 4294967295 (l.take k) = R at *
      generalize by8 l k = x at *
      have hX := Go.u32_xor_nat R x hRl (by omega)
      go_wp2
      have hXl : R ^^^ x < 4294967296 := Nat.xor_lt_two_pow (n := 32) (by omega) (by omega)
      clear hX
      generalize R ^^^ x = Y at *
      go_loop [3, 16] (fun s j => ∃ m : Nat, m ≤ 8 ∧ j = .int .i64 m ∧ s = .int .u32 (Wm.halves m Y)) (fun _ j => 8 - (intOf j).toNat)
      case atStart => exact ⟨0, Nat.zero_le _, rfl, rfl⟩
      case round =>
        obtain ⟨m, hm, rfl, rfl⟩ := hrel
        have hSl := Wm.halves_lt m Y hXl
        have HT := Lib.hid (Wm.halves_snoc m Y)
        generalize hS : Wm.halves m Y = S at *
        have HE := Lib.hid hS
        clear hS
        by_cases h8 : m < 8
        · go_wp2
          go_round
          case rel => exact ⟨m + 1, by omega, by go_num, by rw [half_bits S hSl, HT.out]⟩
          case measure => simp [intOf]; omega
        · obtain rfl : m = 8 := by omega
          go_wp2
          go_round
          case rel => exact ⟨k + 1, by omega, by go_num, by rw [HS.out, HE.out]⟩
          case measure => simp [intOf]; omega
    · go_wp2
      go_ret
      obtain rfl : k = l.length := by omega
      refine ⟨ret_int ?_, rfl⟩
      rw [List.take_length, not_bits _ (Wm.crcR_lt l _ (by decide))]
      rfl

set_option maxHeartbeats 400000 in
theorem refSum_any (p : Option Addr) (c : Nat) (l : List UInt8) (w : World) (h : Bs w p l) (hl : l.length ≤ maxLen) :
    Calls Try.prog 18 #[.slice p l.length c] w fun e w' => e = .returned (.int .i64 (Wm.crc l)) ∧ w = w' := by
  unfold maxLen at hl
  go_enter Try.func18, Try.ntmps18
  go_wp2
  go_loop [3, 4, 5] (fun s i _ => ∃ k : Nat, k ≤ l.length ∧ i = .int .i64 k ∧ s = .int .i64 (Wm.crcR 4294967295 (l.take k))) (fun _ i _ => l.length - (intOf i).toNat)
  case atStart => exact ⟨0, Nat.zero_le _, rfl, rfl⟩
  case round =>
    obtain ⟨k, hk, rfl, rfl⟩ := hrel
    have hRl := Wm.crcR_lt (l.take k) 4294967295 (by decide)
    by_cases hlt : k < l.length
    · obtain ⟨b, o, rfl, hc⟩ := h (by omega)
      have hcell := hc k hlt
      clear hc
      have hxl := by8_lt l k
      have HS : Hid (Wm.crcR 4294967295 (l.take (k + 1)) = Wm.halves 8 (Wm.crcR 4294967295 (l.take k) ^^^ by8 l k)) := by
        rw [take_snoc l k hlt, Wm.crcR_snoc, by8_get l k hlt]; rfl
      generalize Wm.crcR 4294967295 (l.take k) = R at *
      generalize by8 l k = x at *
      have hX := i64_xor_nat R x (by omega) (by omega)
      go_wp2
      have hXl : R ^^^ x < 4294967296 := Nat.xor_lt_two_pow (n := 32) (by omega) (by omega)
      clear hX
      generalize R ^^^ x = Y at *
      go_loop [3, 5] (fun s j => ∃ m : Nat, m ≤ 8 ∧ j = .int .i64 m ∧ s = .int .i64 (Wm.halves m Y)) (fun _ j => 8 - (intOf j).toNat)
      case atStart => exact ⟨0, Nat.zero_le _, rfl, rfl⟩
      case round =>
        obtain ⟨m, hm, rfl, rfl⟩ := hrel
        have hSl := Wm.halves_lt m Y hXl
        have HT := Lib.hid (Wm.halves_snoc m Y)
        generalize hS : Wm.halves m Y = S at *
        have HE := Lib.hid hS
        clear hS
        by_cases h8 : m < 8
        · rcases Nat.mod_two_eq_zero_or_one S with e | e
          · have HH : Hid (Wm.half S = S / 2) := by show Wm.half S = S / 2; unfold Wm.half; rw [e]; rfl
            have ht : ((S : Int) % 2 == 1) = false := by rw [beq_eq_false_iff_ne]; omega
            clear e
            go_wp2
            go_round
            case rel => exact ⟨m + 1, by omega, by go_num, by rw [HT.out, HH.out]; go_num⟩
            case measure => simp [intOf]; omega
          · have HH : Hid (Wm.half S = (S / 2) ^^^ 3988292384) := by show Wm.half S = (S / 2) ^^^ 3988292384; unfold Wm.half; rw [e]; rfl
            have ht : ((S : Int) % 2 == 1) = true := by rw [beq_iff_eq]; omega
            have hy : bits BinOp.xor .i64 ((S : Int) / 2) 3988292384 = (((S / 2) ^^^ 3988292384 : Nat) : Int) := by
              have := i64_xor_nat (S / 2) 3988292384 (by omega) (by decide)
              rw [← this]; rfl
            clear e
            go_wp2
            go_round
            case rel => exact ⟨m + 1, by omega, by go_num, by rw [HT.out, HH.out]⟩
            case measure => simp [intOf]; omega
        · obtain rfl : m = 8 := by omega
          go_wp2
          go_round
          case rel => exact ⟨k + 1, by omega, by go_num, by rw [HS.out, HE.out]⟩
          case measure => simp [intOf]; omega
    · obtain rfl : k = l.length := by omega
      go_wp2
      go_ret
      refine ⟨ret_int ?_, rfl⟩
      unfold Wm.crc
      have := Wm.crcR_lt l 4294967295 (by decide)
      rw [IntWalk.wrap64_in _ (by omega)]
      omega
end Go.Proofs.Ytdedlghimeomcaa
