/-
  THE DOCUMENT's Compare.
  No conditions but sizes.
-/
import Derived.Test.YtilkokhapcgolaaKRight
namespace Go.Proofs.Ytilkokhapcgolaa
open Go.RowKit

theorem ret_i64 {a b : Int} (h : a = b) : Ending.returned (.int .i64 a) = .returned (.int .i64 b) := by rw [h]
theorem below_drewN {B : Nat} {a w : World} (h : Below B a w) (n : Nat) : Below B a (w.drewN n) := h.trans ⟨rfl, rfl, rfl, Nat.le_refl _, fun _ _ => rfl⟩
/-- so far the same -/
def Same (a b : List UInt8) (k : Nat) : Prop := ∀ m, m < k → Km.dg a m = Km.dg b m

theorem same_succ {a b : List UInt8} {k : Nat} (h : Same a b k) (hk : Km.dg a k = Km.dg b k) : Same a b (k + 1) := fun m hm => by
  by_cases e : m = k
  · subst e; exact hk
  · exact h m (by omega)

end Go.Proofs.Ytilkokhapcgolaa
