/-
  What a law answers; a vector into a new block.
  No conditions.
-/
import Derived.Test.YtcmjjkkbocekbaaVKit
namespace Go.Proofs.Ytcmjjkkbocekbaa
open Go.RowKit

/-- what a law answers: true; nothing that was there has turned -/
def Yes (w : World) (e : Ending) (w' : World) : Prop := e = .returned (.bool true) ∧ Below w.heap.size w w'
/-- a vector into a new block -/
theorem wpList_store_new {t : TypeId} (V : VT Try.prog t) {ops : Array Oper} {rest : List Oper} {o : Oper} {a : Act} {w : World} {T : TypeId} {Q : Exit → Act → World → Prop} (hgd : o.guard = none) (x y : Operand) (ho : o.op = .store t x y)
    (hx : a.eval x = .pointer (some ⟨w.heap.size, 0, none⟩)) (v : Nat → Int) (hy : a.eval y = .agg (vecA v))
    (h : ∀ w' : World, VAt w' w.heap.size v → Below w.heap.size w w' → wpList Try.prog ops Q rest (a.put o.dst undef) w') : wpList Try.prog ops Q (o :: rest) a (w.alloc (.cells (vecA fun _ => 0) T)) :=
  wpList_store_vec V hgd x y ho w.heap.size hx (fun _ => 0) v (VAt.new w _ T) hy fun w' hv _ _ hb => h w' hv (hb _ _ ((Below.refl _ _).alloc (Nat.le_refl _) _) (Nat.le_refl _))
end Go.Proofs.Ytcmjjkkbocekbaa
