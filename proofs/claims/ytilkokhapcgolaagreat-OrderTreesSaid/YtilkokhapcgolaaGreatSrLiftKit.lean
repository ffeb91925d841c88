/-
  FROM A LAW's WALK TO ITS STATEMENT: an argument that is a stamp whose numbers words hold.
  No conditions.
-/
import Derived.Test.YtilkokhapcgolaaGreatTLiftKit
namespace Go.Proofs.YtilkokhapcgolaaGreat
open Go.ChangeShapes Go.WideShapes Go.ChangeAt Go.RowKit Go.Deep Go.Joins

section
variable {H : Type} {enc : TypeId × Value → H} {W : World} {held : Bool}
set_option maxRecDepth 100000 in
theorem opened_stw {r : Reach} {b0 : Nat} {v : Value} {d : DataW H} {p : List MemPlace} (hv : Value.okWide Tryz.prog W r b0 24 v) (h : DataW.Trod enc Tryz.prog W 0 (fun _ => true) held 24 v d p) : ∃ x : Qm.St, v = snV x ∧ StWf x := by
  obtain ⟨cs, rfl, hsz⟩ := okWide_struct Tryz.underlying24 hv
  have h3 : cs.size = 2 := hsz.trans (by kernel_rfl)
  obtain ⟨fuel, hf⟩ := h
  obtain ⟨a, b, hab⟩ : ∃ a b, cs.toList = [a, b] := by
    have h4 : cs.toList.length = 2 := by simpa using h3
    match cs.toList, h4 with
    | [a, b], _ => exact ⟨a, b, rfl⟩
  rw [show (Value.agg cs).cells.toList = cs.toList from rfl, hab] at hf
  obtain ⟨x, h1, h2, h5⟩ := el_stW _ _ _ _ hf
  refine ⟨x, ?_, h5⟩
  have : cs = [a, b].toArray := by rw [← hab]
  rw [this, h1, h2]
end
end Go.Proofs.YtilkokhapcgolaaGreat
