/-
  THE LAW's HELPERS: long; what must come.
  No conditions.
-/
import Derived.Test.YtcenmkcencdlcaaGL
import Derived.Test.YtcenmkcencdlcaaGR
import Derived.Test.YtcenmkcencdlcaaOTake
import Derived.Test.YtcenmkcencdlcaaOSame
namespace Go.Proofs.Ytcenmkcencdlcaa
open Go.RowKit

/-- is an op long? -/
def longB (x : Opp) : Bool := decide (500 < x.path.length) || decide (5000 < x.key.size) || decide (5000 < x.vt.size)
theorem long_no {x : Opp} (h : longB x = false) : x.path.length ≤ 500 ∧ x.key.size ≤ 5000 ∧ x.vt.size ≤ 5000 := by
  simp only [longB, Bool.or_eq_false_iff, decide_eq_false_iff_not] at h
  omega
theorem long_sz {x : Opp} (h : longB x = false) : Sz x := by
  obtain ⟨h1, h2, h3⟩ := long_no h
  exact ⟨by omega, by omega, by omega⟩
/-- an op into a new block -/
theorem wpList_store_newop {t : TypeId} (V : OT t) {ops : Array Oper} {rest : List Oper} {o : Oper} {a : Act} {w : World} {T : TypeId} {Q : Exit → Act → World → Prop} (hgd : o.guard = none) (x y : Operand) (ho : o.op = .store t x y)
    (hx : a.eval x = .pointer (some ⟨w.heap.size, 0, none⟩)) (A : Array Value) (hA : A.size = 12) (v : Opp) (q : Option Addr) (c : Nat) (hy : a.eval y = .agg (opA v q c))
    (h : ∀ w' : World, OpAt w' w.heap.size v q c → Below w.heap.size w w' → wpList Try.prog ops Q rest (a.put o.dst undef) w') : wpList Try.prog ops Q (o :: rest) a (w.alloc (.cells A T)) :=
  wpList_store_op V hgd x y ho w.heap.size hx T A (heap_alloc_new w _) hA v q c hy fun w' hv _ _ hb => h w' hv (hb _ _ ((Below.refl _ _).alloc (Nat.le_refl _) _) (Nat.le_refl _))

/-- the mark of knows -/
def kM : Opp := { Opp.zero with k := 4, nt := 5, nr := 2, on := true }
theorem kM_right : rightO kM = true := by decide
theorem kM_put : putO kM = ([1, 4, 1, 5, 1, 2, 1, 1], 0) := by decide
theorem kM_take : takeO (([1, 4, 1, 5, 1, 2, 1, 1] : List UInt8), 0) = (kM, ([], 0)) := by
  have h := takeO_back kM_right []
  rw [show opB kM = [1, 4, 1, 5, 1, 2, 1, 1] from by decide] at h
  exact h

end Go.Proofs.Ytcenmkcencdlcaa
