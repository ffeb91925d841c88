/-
  VectorTotals, walked.
  No conditions.
-/
import Derived.Test.YtpfofoopekfemaaVe7C
import Derived.Test.YtpfofoopekfemaaVe7D
namespace Go.Proofs.Ytpfofoopekfemaa
open Go.RowKit

theorem vectorTotals_walk (a b : Nat → Int) (w : World) : Calls Try.prog 6 #[.agg (vecA a), .agg (vecA b)] w (Yes w) := by
  rcases Bool.eq_false_or_eq_true (vRight a) with hra | hra
  · rcases Bool.eq_false_or_eq_true (vRight b) with hrb | hrb
    · by_cases hc : cmpF a b = 1
      · exact totals_C a b w hra hrb hc
      · exact totals_D a b w hra hrb hc
    · exact totals_B a b w hra hrb
  · exact totals_A a b w hra
end Go.Proofs.Ytpfofoopekfemaa
