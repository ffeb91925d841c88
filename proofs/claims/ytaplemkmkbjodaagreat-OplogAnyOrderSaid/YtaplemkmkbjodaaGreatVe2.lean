/-
  Join and Meet, of both sides.
  No conditions.
-/
import Derived.Test.YtaplemkmkbjodaaGreatVe1
import Derived.Outline
namespace Go.Proofs.YtaplemkmkbjodaaGreat
open Go.RowKit

/-- three new rows -/
theorem three_rows (w : World) (a b z : Nat → Int) (T U V : TypeId) :
    ∀ W, W = ((w.alloc (.cells (vecA a) T)).alloc (.cells (vecA b) U)).alloc (.cells (vecA z) V) →
      VAt W w.heap.size a ∧ VAt W (w.heap.size + 1) b ∧ VAt W (w.heap.size + 2) z ∧ Below w.heap.size w W := by
  rintro W rfl
  have h1 : ∀ (w : World) (o : Obj), Below w.heap.size w (w.alloc o) := fun w o => (Below.refl _ _).alloc (Nat.le_refl _) _
  have e1 : (w.alloc (.cells (vecA a) T)).heap.size = w.heap.size + 1 := by simp
  have e2 : ((w.alloc (.cells (vecA a) T)).alloc (.cells (vecA b) U)).heap.size = w.heap.size + 2 := by simp
  refine ⟨((VAt.new w a T).kept (h1 _ _)).kept (h1 _ _), ?_, ?_, ((h1 w _).trans ((h1 _ _).mono (by simp))).trans ((h1 _ _).mono (by simp only [World.size_alloc]; omega))⟩
  · have := (VAt.new (w.alloc (.cells (vecA a) T)) b U).kept (h1 _ (.cells (vecA z) V))
    rw [e1] at this; exact this
  · have := VAt.new ((w.alloc (.cells (vecA a) T)).alloc (.cells (vecA b) U)) z V
    rw [e2] at this; exact this
theorem upTo_zero (f a : Nat → Int) : upTo 0 f a = a := funext fun i => by simp [upTo]
theorem upTo_step (f a : Nat → Int) (k : Nat) : (fun j => if j = k then f k else upTo k f a j) = upTo (k + 1) f a := funext fun j => by
  unfold upTo
  by_cases e : j = k
  · subst e; simp
  · by_cases e2 : j < k
    · simp [e, e2]; omega
    · have : ¬ j < k + 1 := by omega
      simp [e, e2, this]
theorem upTo_all (f a : Nat → Int) : ∀ i, i < 16 → upTo 16 f a i = f i := fun i hi => by simp [upTo, hi]
theorem upTo_at (f a : Nat → Int) (k : Nat) : upTo k f a k = a k := by simp [upTo]

end Go.Proofs.YtaplemkmkbjodaaGreat
