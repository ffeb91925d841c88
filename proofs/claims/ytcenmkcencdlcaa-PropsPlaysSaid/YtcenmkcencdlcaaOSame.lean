/-
  Same: are two ops the same.
  No conditions but sizes.
-/
import Derived.Test.YtcenmkcencdlcaaOFit
namespace Go.Proofs.Ytcenmkcencdlcaa
open Go.RowKit

theorem same_start (w : World) (x y : Opp) (q r : Option Addr) (c d : Nat) (ha : Pa w x q c) (hb : Pa w y r d) :
    Hid (OpAt ((w.alloc (.cells (opA x q c) 36)).alloc (.cells (opA y r d) 36)) w.heap.size x q c) ∧ Hid (OpAt ((w.alloc (.cells (opA x q c) 36)).alloc (.cells (opA y r d) 36)) (w.heap.size + 1) y r d) ∧
    Hid (Pa ((w.alloc (.cells (opA x q c) 36)).alloc (.cells (opA y r d) 36)) x q c) ∧ Hid (Pa ((w.alloc (.cells (opA x q c) 36)).alloc (.cells (opA y r d) 36)) y r d) ∧ Hid (Below w.heap.size w ((w.alloc (.cells (opA x q c) 36)).alloc (.cells (opA y r d) 36))) := by
  have h1 : ∀ (w : World) (o : Obj), Below w.heap.size w (w.alloc o) := fun w o => (Below.refl _ _).alloc (Nat.le_refl _) _
  have e1 : (w.alloc (.cells (opA x q c) 36)).heap.size = w.heap.size + 1 := by simp
  have k := OpAt.new (w.alloc (.cells (opA x q c) 36)) y r d 36
  rw [e1] at k
  exact ⟨Lib.hid ((OpAt.new w x q c _).kept (h1 _ _)), Lib.hid k, Lib.hid ((ha.kept (h1 _ _)).kept (h1 _ _)), Lib.hid ((hb.kept (h1 _ _)).kept (h1 _ _)), Lib.hid ((h1 _ _).trans ((h1 _ _).mono (by simp)))⟩
theorem bytes_ne {s t : ByteArray} (h : ¬ s = t) : (s.toList == t.toList) = false := by
  rw [ByteArray.toList_eq, ByteArray.toList_eq, beq_eq_false_iff_ne]
  intro e
  apply h
  obtain ⟨⟨l⟩⟩ := s
  obtain ⟨⟨m⟩⟩ := t
  simp at e
  rw [e]

end Go.Proofs.Ytcenmkcencdlcaa
