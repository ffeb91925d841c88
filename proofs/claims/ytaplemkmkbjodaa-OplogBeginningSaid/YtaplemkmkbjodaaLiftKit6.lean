/-
  AN ARGUMENT THAT IS A VECTOR, OPENED.
  No conditions.
-/
import Derived.Test.YtaplemkmkbjodaaVKit
import Derived.Test.YtaplemkmkbjodaaGJ
import Derived.Lib.SmallJoins
namespace Go.Proofs.Ytaplemkmkbjodaa
open Go.ChangeShapes Go.WideShapes Go.ChangeAt Go.RowKit

section
variable {H : Type} {enc : TypeId × Value → H} {W : World} {held : Bool}
set_option maxRecDepth 100000 in
/-- an argument that is a vector -/
theorem opened_vec {r : Reach} {b0 : Nat} {v : Value} {d : DataW H} {p : List MemPlace} (hv : Value.okWide Try.prog W r b0 26 v) (h : DataW.Trod enc Try.prog W 0 (fun _ => true) held 26 v d p) :
    ∃ a : Nat → Int, v = .agg (vecA a) := by
  simp only [Value.okWide, vtR.und] at hv
  obtain ⟨cs, rfl, hsz, -⟩ := hv
  have h16 : cs.size = 16 := hsz.trans (by kernel_rfl)
  obtain ⟨fuel, hf⟩ := h
  obtain ⟨xs, m, -, -, -, hxl, hg⟩ := DataW.trod_array vtR.und hf
  refine ⟨fun i => match cs[i]? with | some (.int _ n) => n | _ => 0, ?_⟩
  congr 1
  apply Array.ext_getElem?
  intro i
  by_cases hi : i < 16
  · rw [vecA_get _ i hi]
    have h1 := hg i hi
    rw [show Try.prog.cellsOf 3 = 1 from by kernel_rfl, Nat.mul_one] at h1
    have hx : xs[i]? = some xs[i] := List.getElem?_eq_getElem (by omega)
    rw [hx] at h1
    obtain ⟨n, e, -, -⟩ := DataW.trod_int i_int h1
    have e2 := congrArg (·[0]?) e
    have e3 : cs[i]? = some (.int .i64 n) := by simpa [List.getElem?_take, List.getElem?_drop, Value.cells] using e2
    rw [e3]
  · rw [Array.getElem?_eq_none (by omega), Array.getElem?_eq_none (by rw [vecA_size]; omega)]
end
end Go.Proofs.Ytaplemkmkbjodaa
