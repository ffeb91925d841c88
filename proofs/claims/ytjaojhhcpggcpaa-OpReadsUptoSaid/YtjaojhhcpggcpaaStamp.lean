/-
  STAMPS: Right and Compare, the program's and the document's: what they answer, of any numbers; nothing below the call's own memory turns.
  No conditions.
-/
import Derived.Test.YtjaojhhcpggcpaaReads
import Derived.Deep.RegionWith
namespace Go.Proofs.Ytjaojhhcpggcpaa
open Go.RowKit

/-- a stamp as a value -/
def stv (t r : Int) : Value := .agg #[.int .i64 t, .int .i64 r]
/-- may it be? -/
def rightB (t r : Int) : Bool := decide (0 ≤ t ∧ t ≤ 1099511627776 ∧ 0 ≤ r ∧ r ≤ 15)
theorem rightB_yes {t r : Int} (h : rightB t r = true) : 0 ≤ t ∧ t ≤ 1099511627776 ∧ 0 ≤ r ∧ r ≤ 15 := of_decide_eq_true h
theorem rightB_no {t r : Int} (h : rightB t r = false) : ¬ (0 ≤ t ∧ t ≤ 1099511627776 ∧ 0 ≤ r ∧ r ≤ 15) := of_decide_eq_false h
/-- how they stand -/
def cmpS (t r t' r' : Int) : Int := if t = t' then (if r = r' then 0 else if r < r' then -1 else 1) else if t < t' then -1 else 1

set_option maxRecDepth 100000 in
set_option maxHeartbeats 1000000 in
theorem right_any (t r : Int) (w : World) :
    Calls Try.prog 38 #[.agg #[.int .i64 t, .int .i64 r]] w fun e w' => e = .returned (.bool (rightB t r)) ∧ Below w.heap.size w w' := by
  have hb := (Below.refl w.heap.size w).alloc (Nat.le_refl _) (.cells #[.int .i64 t, .int .i64 r] 23)
  have HB := Lib.hid hb
  clear hb
  by_cases h0 : 0 ≤ t
  · by_cases h1 : t ≤ 1099511627776
    · by_cases h2 : 0 ≤ r
      · by_cases h3 : r ≤ 15
        · have HR := Lib.hid (show rightB t r = true from decide_eq_true ⟨h0, h1, h2, h3⟩)
          go_enter Try.func38, Try.ntmps38
          go_wp2
          go_ret
          rw [HR.out]
          exact ⟨rfl, HB.out⟩
        · have HR := Lib.hid (show rightB t r = false from decide_eq_false (fun h => h3 h.2.2.2))
          have d3 : decide (r ≤ 15) = false := decide_eq_false h3
          go_enter Try.func38, Try.ntmps38
          go_wp2
          go_ret
          rw [HR.out]
          exact ⟨rfl, HB.out⟩
      · have HR := Lib.hid (show rightB t r = false from decide_eq_false (fun h => h2 h.2.2.1))
        have d3 : decide (0 ≤ r) = false := decide_eq_false h2
        go_enter Try.func38, Try.ntmps38
        go_wp2
        go_ret
        rw [HR.out]
        exact ⟨rfl, HB.out⟩
    · have HR := Lib.hid (show rightB t r = false from decide_eq_false (fun h => h1 h.2.1))
      have d3 : decide (t ≤ 1099511627776) = false := decide_eq_false h1
      go_enter Try.func38, Try.ntmps38
      go_wp2
      go_ret
      rw [HR.out]
      exact ⟨rfl, HB.out⟩
  · have HR := Lib.hid (show rightB t r = false from decide_eq_false (fun h => h0 h.1))
    have d3 : decide (0 ≤ t) = false := decide_eq_false h0
    go_enter Try.func38, Try.ntmps38
    go_wp2
    go_ret
    rw [HR.out]
    exact ⟨rfl, HB.out⟩

end Go.Proofs.Ytjaojhhcpggcpaa
