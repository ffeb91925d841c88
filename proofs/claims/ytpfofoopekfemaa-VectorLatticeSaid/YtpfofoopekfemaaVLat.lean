/-
  The law VectorLattice, walked.
  No conditions.
-/
import Derived.Test.YtpfofoopekfemaaVLat0
import Derived.Test.YtpfofoopekfemaaVLat1
import Derived.Test.YtpfofoopekfemaaVLat2
import Derived.Test.YtpfofoopekfemaaVLat3
namespace Go.Proofs.Ytpfofoopekfemaa
open Go.RowKit

theorem vectorLattice_walk (a b c : Nat → Int) (w : World) : Calls Try.prog 4 #[.agg (vecA a), .agg (vecA b), .agg (vecA c)] w (Yes w) := by
  rcases Bool.eq_false_or_eq_true (coversB a b) with h1 | h1 <;> rcases Bool.eq_false_or_eq_true (coversB b a) with h2 | h2
  · exact lattice_0 a b c w h1 h2
  · exact lattice_1 a b c w h1 h2
  · exact lattice_2 a b c w h1 h2
  · exact lattice_3 a b c w h1 h2
end Go.Proofs.Ytpfofoopekfemaa
