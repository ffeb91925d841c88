/-
  WHAT EACH STATEMENT OF LAYER 2 BEGINS WITH: knows() answers true; nothing below the call's own memory has turned.
  No conditions.
-/
import Derived.Test.YtfakbbbkfmnnhaaGreatDoorClock
import Derived.Test.YtfakbbbkfmnnhaaGreatDoorShelf
namespace Go.Proofs.YtfakbbbkfmnnhaaGreatDoor
open Go.RowKit

theorem itoa_two (w : World) : Calls Tryz.prog 44 #[.int .i64 2] w fun e w' => e = .returned (.string ⟨#[50]⟩) ∧ w' = w := by
  have h := Tryz.strconv_Itoa_small 2 (by decide) w
  rw [Lib.decDigits_one (by decide)] at h
  exact h
theorem itoa_five (w : World) : Calls Tryz.prog 44 #[.int .i64 5] w fun e w' => e = .returned (.string ⟨#[53]⟩) ∧ w' = w := by
  have h := Tryz.strconv_Itoa_small 5 (by decide) w
  rw [Lib.decDigits_one (by decide)] at h
  exact h

theorem cmp_know : cmpS 5 2 5 3 = -1 := by decide
theorem next_know : nextR 2 4 3 = (5, 2, 0, 7) := by decide

end Go.Proofs.YtfakbbbkfmnnhaaGreatDoor
