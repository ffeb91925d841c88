/-
  FROM A LAW's WALK TO ITS CARD: arguments that are stamps; a start that meets the list of the row's variables.
-/
import Derived.Test.YtbggbpdkphhhdaaDoorLiftKit
import Derived.Test.YtbggbpdkphhhdaaDoorCards
import Derived.Test.YtbggbpdkphhhdaaDoorTie
import Derived.Deep.DeepHandedRow
import Derived.Deep.DeepWitnessRowRef
import Derived.Lib.LaidTab
import Derived.Lib.SmallJoins
import Derived.LaidMore
import Derived.LaidHandle
import Derived.Stop.LaidErr
namespace Go.Proofs.YtbggbpdkphhhdaaDoor
open Go.ChangeShapes Go.WideShapes Go.ChangeAt Go.RowKit Go.Deep Go.Joins

/-- an argument that is a struct of two integers -/
theorem opened_two {H : Type} {enc : TypeId × Value → H} {P : Program} {w : World} {base b0 : Nat} {spare : Nat → Bool} {held : Bool} {r : Reach} {t i : TypeId} {f0 f1 : Field} {v : Value} {d : DataW H} {p : List MemPlace}
    (hs : P.underlying t = some (.struct #[f0, f1])) (hone : oneCellFields P #[f0, f1] = true) (hC : P.cellsOf t = 2) (ht0 : f0.type = i) (ht1 : f1.type = i) (hi : P.underlying i = some (.int .i64))
    (hv : Value.okWide P w r b0 t v) (h : DataW.Trod enc P w base spare held t v d p) : ∃ x y : Int, v = .agg #[.int .i64 x, .int .i64 y] ∧ (Lit.int .i64 x).wf = true ∧ (Lit.int .i64 y).wf = true := by
  obtain ⟨v0, v1, y0, y1, n, rfl, -, -, h0, h1⟩ := Go.Joins.open_agg2 hs hone hC hv h
  rw [ht0] at h0
  rw [ht1] at h1
  obtain ⟨z0, e0, -, w0⟩ := DataW.trod_int hi h0
  obtain ⟨z1, e1, -, w1⟩ := DataW.trod_int hi h1
  simp only [List.cons.injEq, and_true] at e0 e1
  subst e0 e1
  exact ⟨z0, z1, rfl, w0, w1⟩

end Go.Proofs.YtbggbpdkphhhdaaDoor
