/-
  A STAMP's TEXT: strconv.Itoa and Atoi by the shelf's contracts, strings.Cut at '@', Print and Parse.
  Conditions: the row's listed variables ('Laid').
-/
import Derived.Test.YtfakbbbkfmnnhaaGreatDoorKnows2
import Derived.Test.YtfakbbbkfmnnhaaGreatDoorLaidB
import Derived.Lib.AtoiAllCases
import Derived.Lib.AppendIntMem
import Derived.Lib.SmallJoins
import Derived.Lib.IndexBytes
import Derived.Lib.IndexLaws
import Derived.Deep.DeepCutAuto
namespace Go.Proofs.YtfakbbbkfmnnhaaGreatDoor
open Go.RowKit Go.Lib

/-- a stamp's text -/
def printB (t r : Int) : List UInt8 := Lib.itoa t ++ 64 :: Lib.itoa r
theorem strB_append (a b : List UInt8) : strB a ++ strB b = strB (a ++ b) := by
  unfold strB
  apply ByteArray.ext
  simp [ByteArray.data_append]
theorem nDigits_le (u : Nat) (h : u < 18446744073709551616) : nDigits u ≤ 20 := by
  rcases Nat.lt_or_ge (nDigits u) 21 with k | k
  · omega
  · obtain ⟨j, hj⟩ : ∃ j, nDigits u = j + 1 := ⟨nDigits u - 1, by omega⟩
    exfalso
    have key : ∀ v, 10 ^ (nDigits v - 1) ≤ v ∨ v = 0 := by
      intro v
      induction v using Nat.strongRecOn with
      | _ v ih =>
        by_cases h10 : v < 10
        · rw [nDigits_small h10]; simp; omega
        · rw [nDigits_big h10]
          have h1 := ih (v / 10) (by omega)
          have h2 := nDigits_pos (v / 10)
          obtain ⟨m, hm⟩ : ∃ m, nDigits (v / 10) = m + 1 := ⟨nDigits (v / 10) - 1, by omega⟩
          rw [hm] at h1 ⊢
          simp only [Nat.add_sub_cancel] at h1 ⊢
          rw [Nat.pow_succ]
          left
          rcases h1 with h1 | h1
          · omega
          · omega
    rcases key u with h1 | h1
    · have h2 : 10 ^ 20 ≤ 10 ^ (nDigits u - 1) := Nat.pow_le_pow_right (by decide) (by omega)
      have h3 : (10 : Nat) ^ 20 = 100000000000000000000 := by decide
      omega
    · subst h1
      rw [nDigits_small (by decide)] at k
      omega
theorem itoa_len (n : Int) (h0 : -9223372036854775808 ≤ n) (h1 : n ≤ 9223372036854775807) : (Lib.itoa n).length ≤ 21 := by
  unfold Lib.itoa
  split
  · rw [List.length_cons, decDigits_length]
    have := nDigits_le n.natAbs (by omega)
    omega
  · rw [decDigits_length]
    have := nDigits_le n.toNat (by omega)
    omega
theorem strB_size (l : List UInt8) : (strB l).size = l.length := by simp [strB, ByteArray.size]
theorem printEnd (t r : Int) : Ending.returned (.string (strB (Lib.itoa t) ++ ⟨#[64]⟩ ++ strB (Lib.itoa r))) = Ending.returned (.string (strB (printB t r))) := by
  have e : (⟨#[64]⟩ : ByteArray) = strB [64] := rfl
  rw [e, strB_append, strB_append]
  simp [printB]

end Go.Proofs.YtfakbbbkfmnnhaaGreatDoor
