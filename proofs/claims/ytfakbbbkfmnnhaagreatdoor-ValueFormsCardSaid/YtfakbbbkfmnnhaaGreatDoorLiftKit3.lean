/-
  FROM A LAW's WALK TO ITS CARD: arguments that are values (two integers and a text).
-/
import Derived.Test.YtfakbbbkfmnnhaaGreatDoorLiftKit
import Derived.Test.YtfakbbbkfmnnhaaGreatDoorCards
import Derived.Test.YtfakbbbkfmnnhaaGreatDoorTie
import Derived.Deep.DeepHandedRow
import Derived.Deep.DeepWitnessRowRef
import Derived.Lib.LaidTab
import Derived.Lib.SmallJoins
import Derived.LaidMore
import Derived.LaidHandle
import Derived.Stop.LaidErr
import Derived.Deep.Slices
import Derived.Deep.Fields
import Derived.ChangeSame
namespace Go.Proofs.YtfakbbbkfmnnhaaGreatDoor
open Go.ChangeShapes Go.WideShapes Go.ChangeAt Go.RowKit Go.Deep Go.Joins

/-- an argument that is a struct of two integers and a string -/
theorem opened_value {H : Type} {enc : TypeId × Value → H} {P : Program} {w : World} {base b0 : Nat} {spare : Nat → Bool} {held : Bool} {r : Reach} {t i s : TypeId} {f0 f1 f2 : Field} {v : Value} {d : DataW H} {p : List MemPlace}
    (hs : P.underlying t = some (.struct #[f0, f1, f2])) (hone : oneCellFields P #[f0, f1, f2] = true) (hC : P.cellsOf t = 3) (ht0 : f0.type = i) (ht1 : f1.type = i) (ht2 : f2.type = s) (hi : P.underlying i = some (.int .i64)) (hst : P.underlying s = some .string)
    (hv : Value.okWide P w r b0 t v) (h : DataW.Trod enc P w base spare held t v d p) (hz : ∀ n ∈ d.weights P t, n ≤ reachBytes) :
    ∃ (x y : Int) (z : ByteArray), v = .agg #[.int .i64 x, .int .i64 y, .string z] ∧ (Lit.int .i64 x).wf = true ∧ (Lit.int .i64 y).wf = true ∧ z.size ≤ 140737488351232 := by
  obtain ⟨v0, v1, v2, y0, y1, y2, n, rfl, rfl, -, h0, h1, h2⟩ := Go.Joins.open_agg3 hs hone hC hv h
  rw [ht0] at h0
  rw [ht1] at h1
  rw [ht2] at h2
  obtain ⟨z0, e0, -, w0⟩ := DataW.trod_int hi h0
  obtain ⟨z1, e1, -, w1⟩ := DataW.trod_int hi h1
  obtain ⟨z2, e2, x2, -⟩ := DataW.trod_string hst h2
  simp only [List.cons.injEq, and_true] at e0 e1 e2
  subst e0 e1 e2 x2
  refine ⟨z0, z1, z2, rfl, w0, w1, sized_str (hz _ ?_)⟩
  simp only [DataW.weights, hs]
  exact DataW.weights_mem_each (ts := [f0.type, f1.type, f2.type]) (j := 2) (t := f2.type) (d := .lit (.string z2.data.toList)) rfl rfl _ (by simp [DataW.weights])

end Go.Proofs.YtfakbbbkfmnnhaaGreatDoor
