/-
  STAMPS: Right and Compare, the program's and the document's: what they answer, of any numbers; nothing below the call's own memory turns.
  No conditions.
-/
import Derived.Test.YtfakbbbkfmnnhaaGreatDoorReads
import Derived.Deep.RegionWith
namespace Go.Proofs.YtfakbbbkfmnnhaaGreatDoor
open Go.RowKit

/-- a stamp as a value -/
def stv (t r : Int) : Value := .agg #[.int .i64 t, .int .i64 r]
/-- may it be? -/
def rightB (t r : Int) : Bool := decide (0 ≤ t ∧ t ≤ 1099511627776 ∧ 0 ≤ r ∧ r ≤ 15)
theorem rightB_yes {t r : Int} (h : rightB t r = true) : 0 ≤ t ∧ t ≤ 1099511627776 ∧ 0 ≤ r ∧ r ≤ 15 := of_decide_eq_true h
theorem rightB_no {t r : Int} (h : rightB t r = false) : ¬ (0 ≤ t ∧ t ≤ 1099511627776 ∧ 0 ≤ r ∧ r ≤ 15) := of_decide_eq_false h
/-- how they stand -/
def cmpS (t r t' r' : Int) : Int := if t = t' then (if r = r' then 0 else if r < r' then -1 else 1) else if t < t' then -1 else 1

end Go.Proofs.YtfakbbbkfmnnhaaGreatDoor
