/-
  THE SUM: what wire.Sum and the reference's Sum answer of any slice of bytes: 'Wm.crc'; the world as it was.
-/
import Derived.Test.YtjaojhhcpggcpaaBase
namespace Go.Proofs.Ytjaojhhcpggcpaa
open Go.RowKit

theorem half_bits (S : Nat) (h : S < 4294967296) : bits BinOp.xor IntKind.u32 ((S : Int) / 2) (bits BinOp.and IntKind.u32 3988292384 (-bits BinOp.and IntKind.u32 (S : Int) 1 % 4294967296)) = ((Wm.half S : Nat) : Int) := by
  have h1 : bits BinOp.and IntKind.u32 (S : Int) 1 = ((S % 2 : Nat) : Int) := by
    have := Go.u32_and_nat S 1 h (by decide)
    rw [Go.nat_mask1] at this
    exact this
  have h2 : ((S : Int) / 2) = ((S / 2 : Nat) : Int) := by omega
  rw [h1, h2]
  unfold Wm.half
  rcases Nat.mod_two_eq_zero_or_one S with e | e
  · rw [e]
    have h3 : bits BinOp.and IntKind.u32 3988292384 (-((0 : Nat) : Int) % 4294967296) = ((0 : Nat) : Int) := by
      have := Go.u32_and_nat 3988292384 0 (by decide) (by decide)
      simpa using this
    rw [h3, Go.u32_xor_nat _ _ (by omega) (by decide)]
    simp
  · rw [e]
    have h3 : bits BinOp.and IntKind.u32 3988292384 (-((1 : Nat) : Int) % 4294967296) = ((3988292384 : Nat) : Int) := by
      have := Go.u32_and_nat 3988292384 4294967295 (by decide) (by decide)
      have e2 : (3988292384 &&& 4294967295 : Nat) = 3988292384 := by decide
      rw [e2] at this
      exact this
    rw [h3, Go.u32_xor_nat _ _ (by omega) (by decide)]
    simp

theorem not_nat (R : Nat) (h : R < 4294967296) : 4294967295 ^^^ R = 4294967295 - R := by
  apply Nat.eq_of_testBit_eq
  intro i
  have a := Nat.testBit_two_pow_sub_succ (n := 32) (x := R) (by omega) i
  have e : 2 ^ 32 - (R + 1) = 4294967295 - R := by omega
  rw [e] at a
  rw [a, Nat.testBit_xor]
  have b := Nat.testBit_two_pow_sub_one 32 i
  have e2 : (2 ^ 32 - 1 : Nat) = 4294967295 := by decide
  rw [e2] at b
  rw [b]
  by_cases hi : i < 32
  · simp [hi]
  · have : R.testBit i = false := Nat.testBit_lt_two_pow (Nat.lt_of_lt_of_le h (by have := Nat.pow_le_pow_right (n := 2) (by decide) (Nat.le_of_not_lt hi); omega))
    simp [hi, this]

theorem not_bits (R : Nat) (h : R < 4294967296) : wrap64 (bits BinOp.xor IntKind.u32 IntKind.u32.max (R : Int)) = ((4294967295 - R : Nat) : Int) := by
  have := Go.u32_xor_nat 4294967295 R (by decide) h
  rw [not_nat R h] at this
  rw [show (IntKind.u32.max) = ((4294967295 : Nat) : Int) from by decide, this]
  exact IntWalk.wrap64_in _ (by omega)

end Go.Proofs.Ytjaojhhcpggcpaa
