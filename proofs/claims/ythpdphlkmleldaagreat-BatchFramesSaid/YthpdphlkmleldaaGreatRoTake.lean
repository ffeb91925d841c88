/-
  THE DOCUMENT's TAKE: an op is read.
  No conditions.
-/
import Derived.Test.YthpdphlkmleldaaGreatRoTakeA
import Derived.Test.YthpdphlkmleldaaGreatRoTakeB
import Derived.Test.YthpdphlkmleldaaGreatRoTakeC
namespace Go.Proofs.YthpdphlkmleldaaGreat
open Go.RowKit

theorem rtake_any (B b : Nat) (s : RS) (w : World) (h : RrS w B b s) : Calls Tryz.prog 58 #[.pointer (some ⟨b, 0, none⟩)] w (TookRo w B b (takeRo s)) := by
  by_cases h1 : (numS s).1 = 1
  · exact rtake1_any B b s w h h1
  by_cases h2 : (numS s).1 = 2
  · exact rtake2_any B b s w h h2
  by_cases h3 : (numS s).1 = 3
  · exact rtake3_any B b s w h h3
  by_cases h4 : (numS s).1 = 4
  · exact rtake4_any B b s w h h4
  by_cases h5 : (numS s).1 = 5
  · exact rtake5_any B b s w h h5
  by_cases h6 : (numS s).1 = 6
  · exact rtake6_any B b s w h h6
  exact rtakeN_any B b s w h (by omega)
end Go.Proofs.YthpdphlkmleldaaGreat
