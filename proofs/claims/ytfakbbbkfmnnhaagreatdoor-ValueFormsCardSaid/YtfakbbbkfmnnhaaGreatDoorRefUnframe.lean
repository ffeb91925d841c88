/-
  THE REFERENCE's Unframe: the same answer as wire.Unframe's, of any slice of bytes.
-/
import Derived.Test.YtfakbbbkfmnnhaaGreatDoorUnframe
import Derived.Test.YtfakbbbkfmnnhaaGreatDoorRef
namespace Go.Proofs.YtfakbbbkfmnnhaaGreatDoor
open Go.RowKit

theorem numR_two (l : List UInt8) : numR l 1048576 = (if (numR l 281474976710655).2.2 ≠ 0 then (0, 0, (numR l 281474976710655).2.2) else if 1048576 < (numR l 281474976710655).1 then (0, 0, 21) else numR l 281474976710655) := by
  have hv : 6 < by8 l 0 ∨ Wm.val ((l.drop 1).take (by8 l 0)) ≤ 281474976710655 := by
    by_cases h : 6 < by8 l 0
    · exact Or.inl h
    · right
      have a := Wm.val_lt ((l.drop 1).take (by8 l 0))
      have b : ((l.drop 1).take (by8 l 0)).length ≤ 6 := by rw [List.length_take]; omega
      have c := Nat.lt_of_lt_of_le a (Nat.le_trans (Nat.pow_le_pow_right (by decide) b) (show 256 ^ 6 ≤ 281474976710656 by decide))
      omega
  unfold numR
  by_cases h1 : l.length = 0
  · simp [h1]
  rw [if_neg h1, if_neg h1]
  by_cases h2 : 6 < by8 l 0
  · simp [h2]
  rw [if_neg h2, if_neg h2]
  by_cases h3 : 0 < by8 l 0 ∧ 1 < l.length ∧ by8 l 1 = 0
  · rw [if_pos h3, if_pos h3]; simp
  rw [if_neg h3, if_neg h3]
  by_cases h4 : l.length < by8 l 0 + 1
  · rw [if_pos h4, if_pos h4]; simp
  rw [if_neg h4, if_neg h4, if_neg (show ¬ 281474976710655 < Wm.val ((l.drop 1).take (by8 l 0)) by omega)]
  simp

theorem val4 (kk : List UInt8) (x : Nat) (h : kk.length = 4) (hx : x < 4294967296) : (kk == Wm.be 4 x) = (Wm.val kk == x) := by
  rw [Bool.eq_iff_iff, beq_iff_eq, beq_iff_eq]
  constructor
  · intro e
    rw [e, Wm.val_be]
    exact Nat.mod_eq_of_lt (by simpa using hx)
  · intro e
    rw [← e, ← h, Wm.be_val]

end Go.Proofs.YtfakbbbkfmnnhaaGreatDoor
