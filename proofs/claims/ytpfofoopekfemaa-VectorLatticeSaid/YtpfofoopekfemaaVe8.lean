/-
  The law VectorLattice: its plain side.
  No conditions.
-/
import Derived.Test.YtpfofoopekfemaaVe7
namespace Go.Proofs.Ytpfofoopekfemaa
open Go.RowKit

theorem lat1 (a b : Nat → Int) : eqv (joinF a b) (joinF b a) = true := eqv_iff.2 fun i _ => by simp only [joinF]; split <;> split <;> omega
theorem lat2 (a b : Nat → Int) : eqv (meetF a b) (meetF b a) = true := eqv_iff.2 fun i _ => by simp only [meetF]; split <;> split <;> omega
theorem joinM (a b : Nat → Int) (i : Nat) : joinF a b i = max (a i) (b i) := by unfold joinF; split <;> omega
theorem meetM (a b : Nat → Int) (i : Nat) : meetF a b i = min (a i) (b i) := by unfold meetF; split <;> omega
theorem lat3 (a b c : Nat → Int) : eqv (joinF a (joinF b c)) (joinF (joinF a b) c) = true := eqv_iff.2 fun i _ => by simp only [joinM]; omega
theorem lat4 (a b c : Nat → Int) : eqv (meetF a (meetF b c)) (meetF (meetF a b) c) = true := eqv_iff.2 fun i _ => by simp only [meetM]; omega
theorem lat5 (a b : Nat → Int) : eqv (joinF a (meetF a b)) a = true := eqv_iff.2 fun i _ => by simp only [joinM, meetM]; omega
theorem lat6 (a b : Nat → Int) : eqv (meetF a (joinF a b)) a = true := eqv_iff.2 fun i _ => by simp only [joinM, meetM]; omega
end Go.Proofs.Ytpfofoopekfemaa
