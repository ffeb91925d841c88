/-
  VALUES in memory; number and answer; numbers and both; sums.
  No conditions.
-/
import Derived.Test.YtaplemkmkbjodaaGreatVRight
import Derived.Deep.DeepCutAuto
import Derived.Lib.SmallJoins
namespace Go.Proofs.YtaplemkmkbjodaaGreat
open Go.RowKit

theorem cellIn {w : World} {a : Addr} {v : Value} (h : w.cell? a = some v) : a.block < w.heap.size := World.block_lt_of_cell? w a h
theorem ThreeAt.size {w : World} {b : Nat} {k n : Int} {t : ByteArray} (h : ThreeAt w b k n t) : b < w.heap.size := (Array.getElem?_eq_some_iff.1 h).1
theorem ThreeAt.cell0 {w : World} {b : Nat} {k n : Int} {t : ByteArray} (h : ThreeAt w b k n t) : w.cell? ⟨b, 0, none⟩ = some (.int .i64 k) := by rw [Go.Joins.cell_of_block h]; rfl
theorem ThreeAt.cell1 {w : World} {b : Nat} {k n : Int} {t : ByteArray} (h : ThreeAt w b k n t) : w.cell? ⟨b, 1, none⟩ = some (.int .i64 n) := by rw [Go.Joins.cell_of_block h]; rfl
theorem ThreeAt.cell2 {w : World} {b : Nat} {k n : Int} {t : ByteArray} (h : ThreeAt w b k n t) : w.cell? ⟨b, 2, none⟩ = some (.string t) := by rw [Go.Joins.cell_of_block h]; rfl
theorem ThreeAt.free {w : World} {b : Nat} {k n : Int} {t : ByteArray} (h : ThreeAt w b k n t) (o : Nat) : w.frozen? ⟨b, o, none⟩ = false := Go.Joins.unfrozen_of_block h o
theorem ThreeAt.start (w : World) (k n : Int) (t : ByteArray) : ThreeAt (w.alloc (.cells #[.int .i64 k, .int .i64 n, .string t] 53)) w.heap.size k n t := by
  unfold ThreeAt
  show (w.heap.push _)[w.heap.size]? = _
  simp
theorem ThreeAt.kept {w w' : World} {b : Nat} {k n : Int} {t : ByteArray} (h : ThreeAt w b k n t) (hb : Below w.heap.size w w') : ThreeAt w' b k n t := (hb.block b h.size).trans h
theorem ThreeAt.set {w : World} {b : Nat} {k n : Int} {t : ByteArray} (h : ThreeAt w b k n t) (k' n' : Int) (t' : ByteArray) : ThreeAt (((w.setCell ⟨b, 0, none⟩ (.int .i64 k')).setCell ⟨b, 1, none⟩ (.int .i64 n')).setCell ⟨b, 2, none⟩ (.string t')) b k' n' t' := by
  have h1 := Go.Joins.block_setCell h (i := 0) (.int .i64 k')
  have h2 := Go.Joins.block_setCell h1 (i := 1) (.int .i64 n')
  have h3 := Go.Joins.block_setCell h2 (i := 2) (.string t')
  exact h3
theorem setSame {w : World} {a : Addr} {u v : Value} (h : w.cell? a = some u) : (w.setCell a v).cell? a = some v := World.cell?_setCell_same' w a v (by rw [h]; rfl)
theorem ThreeAt.read {w : World} {b : Nat} {k n : Int} {t : ByteArray} (h : ThreeAt w b k n t) (k' n' : Int) (t' : ByteArray) :
    (w.setCell ⟨b, 0, none⟩ (.int .i64 k')).cell? ⟨b, 0, none⟩ = some (.int .i64 k') ∧
    ((w.setCell ⟨b, 0, none⟩ (.int .i64 k')).setCell ⟨b, 1, none⟩ (.int .i64 n')).cell? ⟨b, 1, none⟩ = some (.int .i64 n') ∧
    (((w.setCell ⟨b, 0, none⟩ (.int .i64 k')).setCell ⟨b, 1, none⟩ (.int .i64 n')).setCell ⟨b, 2, none⟩ (.string t')).cell? ⟨b, 2, none⟩ = some (.string t') := by
  have h1 := Go.Joins.block_setCell h (i := 0) (.int .i64 k')
  have h2 := Go.Joins.block_setCell h1 (i := 1) (.int .i64 n')
  exact ⟨setSame h.cell0, setSame (by rw [Go.Joins.cell_of_block h1]; rfl), setSame (by rw [Go.Joins.cell_of_block h2]; rfl)⟩

/-- what a call that began in w0 answers in a cell: still zero, at block R -/
def VRes (w0 : World) (R : Nat) (w : World) : Prop := w0.heap.size ≤ R ∧ ThreeAt w R 0 0 ⟨#[]⟩ ∧ Below w0.heap.size w0 w
theorem VRes.kept {w0 w w' : World} {R : Nat} (h : VRes w0 R w) (hb : Below w.heap.size w w') : VRes w0 R w' := ⟨h.1, h.2.1.kept hb, h.2.2.trans (hb.mono h.2.2.size)⟩
theorem VRes.read {w0 w : World} {R : Nat} (h : VRes w0 R w) (k n : Int) (t : ByteArray) :
    (w.setCell ⟨R, 0, none⟩ (.int .i64 k)).cell? ⟨R, 0, none⟩ = some (.int .i64 k) ∧
    ((w.setCell ⟨R, 0, none⟩ (.int .i64 k)).setCell ⟨R, 1, none⟩ (.int .i64 n)).cell? ⟨R, 1, none⟩ = some (.int .i64 n) ∧
    (((w.setCell ⟨R, 0, none⟩ (.int .i64 k)).setCell ⟨R, 1, none⟩ (.int .i64 n)).setCell ⟨R, 2, none⟩ (.string t)).cell? ⟨R, 2, none⟩ = some (.string t) ∧
    Below w0.heap.size w0 (((w.setCell ⟨R, 0, none⟩ (.int .i64 k)).setCell ⟨R, 1, none⟩ (.int .i64 n)).setCell ⟨R, 2, none⟩ (.string t)) := by
  obtain ⟨h1, h2, h3⟩ := h
  obtain ⟨a, b, c⟩ := h2.read k n t
  exact ⟨a, b, c, ((h3.setCell (p := ⟨R, 0, none⟩) h1 _).setCell (p := ⟨R, 1, none⟩) h1 _).setCell (p := ⟨R, 2, none⟩) h1 _⟩

theorem vright_nil (k n : Int) (w : World) : Calls Tryz.prog 116 #[.agg #[.int .i64 k, .int .i64 n, .string ⟨#[]⟩]] w fun e w' => e = .returned (.bool (Vm.rightV k n [])) ∧ Below w.heap.size w w' :=
  vright_any k n ⟨#[]⟩ w (by decide)
theorem refVRight_nil (k n : Int) (w : World) : Calls Tryz.prog 109 #[.agg #[.int .i64 k, .int .i64 n, .string ⟨#[]⟩]] w fun e w' => e = .returned (.bool (Vm.rightV k n [])) ∧ Below w.heap.size w w' :=
  refVRight_any k n ⟨#[]⟩ w (by decide)

/-- a value and an error -/
def valE (r : Int × Int × Int) : Ending := .returned (.tuple #[.agg #[.int .i64 r.1, .int .i64 r.2.1, .string ⟨#[]⟩], .int .i64 r.2.2])

/-- two values that the call has boxed first -/
def VTwo (w0 : World) (k n : Int) (t : ByteArray) (k' n' : Int) (t' : ByteArray) (w : World) : Prop := ThreeAt w w0.heap.size k n t ∧ ThreeAt w (w0.heap.size + 1) k' n' t' ∧ Below w0.heap.size w0 w
theorem VTwo.kept {w0 w w' : World} {k n k' n' : Int} {t t' : ByteArray} (h : VTwo w0 k n t k' n' t' w) (hb : Below w.heap.size w w') : VTwo w0 k n t k' n' t' w' := ⟨h.1.kept hb, h.2.1.kept hb, h.2.2.trans (hb.mono h.2.2.size)⟩
theorem VTwo.start (w0 : World) (k n : Int) (t : ByteArray) (k' n' : Int) (t' : ByteArray) : VTwo w0 k n t k' n' t' ((w0.alloc (.cells #[.int .i64 k, .int .i64 n, .string t] 53)).alloc (.cells #[.int .i64 k', .int .i64 n', .string t'] 53)) := by
  refine ⟨(ThreeAt.start w0 k n t).kept ((Below.refl _ _).alloc (Nat.le_refl _) _), ?_, ((Below.refl _ _).alloc (Nat.le_refl _) _).alloc (by simp) _⟩
  have h := ThreeAt.start (w0.alloc (.cells #[.int .i64 k, .int .i64 n, .string t] 53)) k' n' t'
  simpa using h
theorem VTwo.size {w0 w : World} {k n k' n' : Int} {t t' : ByteArray} (h : VTwo w0 k n t k' n' t' w) : w0.heap.size + 1 < w.heap.size := h.2.1.size
theorem VTwo.res2 (w0 : World) (k n : Int) (t : ByteArray) (k' n' : Int) (t' : ByteArray) : VTwo w0 k n t k' n' t' (((w0.alloc (.cells #[.int .i64 k, .int .i64 n, .string t] 53)).alloc (.cells #[.int .i64 k', .int .i64 n', .string t'] 53)).alloc (.cells #[.int .i64 0, .int .i64 0, .string ⟨#[]⟩] 53)) :=
  (VTwo.start w0 k n t k' n' t').kept ((Below.refl _ _).alloc (Nat.le_refl _) _)
theorem VTwo.res (w0 : World) (k n : Int) (t : ByteArray) (k' n' : Int) (t' : ByteArray) : VRes w0 (w0.heap.size + 2) (((w0.alloc (.cells #[.int .i64 k, .int .i64 n, .string t] 53)).alloc (.cells #[.int .i64 k', .int .i64 n', .string t'] 53)).alloc (.cells #[.int .i64 0, .int .i64 0, .string ⟨#[]⟩] 53)) := by
  refine ⟨by omega, ?_, (VTwo.res2 w0 k n t k' n' t').2.2⟩
  have h := ThreeAt.start ((w0.alloc (.cells #[.int .i64 k, .int .i64 n, .string t] 53)).alloc (.cells #[.int .i64 k', .int .i64 n', .string t'] 53)) 0 0 ⟨#[]⟩
  simpa using h

end Go.Proofs.YtaplemkmkbjodaaGreat
