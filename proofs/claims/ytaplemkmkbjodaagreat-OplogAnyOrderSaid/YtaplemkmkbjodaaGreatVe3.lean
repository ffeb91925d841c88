/-
  Covers, Compare and Total, of both sides.
  No conditions.
-/
import Derived.Test.YtaplemkmkbjodaaGreatVe2
import Derived.Deep.RegionHeld
import Derived.Deep.QuietTactic
import Derived.BigQuiet
namespace Go.Proofs.YtaplemkmkbjodaaGreat
open Go.RowKit

/-- nothing of w has turned -/
def VBel (w W : World) : Prop := Below w.heap.size w W
theorem VBel.start (w : World) : VBel w w.drew := (Below.refl _ _).drew
theorem VBel.get {w W : World} (h : VBel w W) {a : Addr} {v : Value} (hc : w.cell? a = some v) : W.cell? a = some v := by rw [Below.cell h (cell_lt hc)]; exact hc
theorem VBel.trans {w W W' : World} (h : VBel w W) (hb : Below W.heap.size W W') : VBel w W' := Below.trans h (hb.mono (Below.size h))
theorem VAt.bel {w W : World} {b : Nat} {a : Nat → Int} (h : VAt w b a) (hb : VBel w W) : VAt W b a := h.kept hb
/-- a vector read, in a region that draws its order -/
theorem exec_load_vec {t : TypeId} (V : VT Tryz.prog t) {c : Act} {w : World} {o : Oper} {x : Operand} (ho : o.op = .load t x) {b : Nat} {v : Nat → Int} (hx : c.eval x = .pointer (some ⟨b, 0, none⟩)) (hv : VAt w b v) :
    (execOp c.eval o).run Tryz.prog w = .ok (.value (.agg (vecA v))) w := by
  unfold execOp
  simp only [ho, hx, Sem.run_bind, V.load hv, Result.andThen_ok, Sem.run_pure]
/-- two new rows -/
theorem two_rows (w : World) (a b : Nat → Int) (T U : TypeId) :
    ∀ W, W = (w.alloc (.cells (vecA a) T)).alloc (.cells (vecA b) U) → VAt W w.heap.size a ∧ VAt W (w.heap.size + 1) b ∧ Below w.heap.size w W := by
  rintro W rfl
  have h1 : ∀ (w : World) (o : Obj), Below w.heap.size w (w.alloc o) := fun w o => (Below.refl _ _).alloc (Nat.le_refl _) _
  have e1 : (w.alloc (.cells (vecA a) T)).heap.size = w.heap.size + 1 := by simp
  refine ⟨(VAt.new w a T).kept (h1 _ _), ?_, (h1 w _).trans ((h1 _ _).mono (by simp))⟩
  have := VAt.new (w.alloc (.cells (vecA a) T)) b U
  rw [e1] at this; exact this

theorem coversTo_step {a b : Nat → Int} {k : Nat} (h : ∀ i, i < k → b i ≤ a i) (hk : ¬ a k < b k) : ∀ i, i < k + 1 → b i ≤ a i := fun i hi => by
  rcases Nat.lt_or_ge i k with e | e
  · exact h i e
  · obtain rfl : i = k := by omega
    omega
theorem covers_no {a b : Nat → Int} {k : Nat} (hk : k < 16) (h : a k < b k) : coversB a b = false := by
  rw [Bool.eq_false_iff]
  intro hc
  have := coversB_iff.1 hc k hk
  omega

end Go.Proofs.YtaplemkmkbjodaaGreat
