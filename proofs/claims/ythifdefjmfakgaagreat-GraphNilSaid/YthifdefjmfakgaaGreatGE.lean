/-
  A VALUE's BYTES: folded, unfolded, Put, Take.
  No conditions.
  TAKE.
  No conditions.
  PUT.
  No conditions.
-/
import Derived.Test.YthifdefjmfakgaaGreatGB
import Derived.Test.YthifdefjmfakgaaGreatGD
namespace Go.Proofs.YthifdefjmfakgaaGreat
open Go.RowKit

/-- numbers below 0 laid between the others -/
def foldV (n : Int) : Nat := if n < 0 then (-2 * n - 1).toNat else (2 * n).toNat
def unfoldV (m : Nat) : Int := if m % 2 = 1 then -(((m + 1) / 2 : Nat) : Int) else ((m / 2 : Nat) : Int)
theorem unfold_fold (n : Int) : unfoldV (foldV n) = n := by
  unfold foldV unfoldV
  split <;> split <;> omega
theorem foldV_le (n : Int) (h0 : -1099511627776 ≤ n) (h1 : n ≤ 1099511627776) : foldV n ≤ 2199023255552 := by
  unfold foldV
  split <;> omega
theorem unfoldV_le (m : Nat) (h : m < 281474976710656) : -281474976710656 ≤ unfoldV m ∧ unfoldV m ≤ 281474976710656 := by
  unfold unfoldV
  split <;> omega

/-- what stands behind the Kind -/
def restV (k n : Int) (t : List UInt8) : List UInt8 :=
  if k = 3 then Wm.numB t.length ++ t else if k = 4 then Wm.numB n.toNat else if k = 0 then [] else Wm.numB (foldV n)
/-- a value's bytes, the error -/
def putV (k n : Int) (t : List UInt8) : List UInt8 × Nat := if Vm.rightV k n t = true then (Wm.numB k.toNat ++ restV k n t, 0) else ([], 1)

theorem right_kind {k n : Int} {t : List UInt8} (h : Vm.rightV k n t = true) : k = 0 ∨ k = 1 ∨ k = 2 ∨ k = 3 ∨ k = 4 := Classical.byContradiction fun hh => by
  rw [Vm.rightV_other k n _ (by omega) (by omega) (by omega) (by omega) (by omega)] at h
  cases h
theorem right_num {k n : Int} {t : List UInt8} (h : Vm.rightV k n t = true) (hk : k = 1 ∨ k = 2) : -1099511627776 ≤ n ∧ n ≤ 1099511627776 := by
  rw [Vm.rightV_num _ _ _ hk] at h
  simp only [Bool.and_eq_true, decide_eq_true_eq] at h
  exact h.1
theorem right_text {n : Int} {t : List UInt8} (h : Vm.rightV 3 n t = true) : n = 0 ∧ t.length ≤ 64 := by
  rw [Vm.rightV_text] at h
  simp only [Vm.okT, Bool.and_eq_true, decide_eq_true_eq] at h
  exact ⟨h.1, h.2.1⟩
theorem right_flag {n : Int} {t : List UInt8} (h : Vm.rightV 4 n t = true) : n = 0 ∨ n = 1 := by
  rw [Vm.rightV_flag] at h
  simp only [Bool.and_eq_true, decide_eq_true_eq] at h
  exact h.1
theorem right_empty {k n : Int} {t : List UInt8} (h : Vm.rightV k n t = true) (hk : k ≠ 3) : t = [] := by
  rcases right_kind h with rfl | rfl | rfl | rfl | rfl
  · rw [Vm.rightV_none] at h; simp at h; exact h.2
  · rw [Vm.rightV_num _ _ _ (Or.inl rfl)] at h; simp at h; exact h.2
  · rw [Vm.rightV_num _ _ _ (Or.inr rfl)] at h; simp at h; exact h.2
  · exact absurd rfl hk
  · rw [Vm.rightV_flag] at h; simp at h; exact h.2

theorem OwnX.only {E : TypeId} {w w' : World} {B k g n cap : Nat} {l : List UInt8} (h : Own E w B (.slice (some ⟨g, 0, none⟩) n cap) l) (ho : Only k w w') (hne : g ≠ k) : Own E w' B (.slice (some ⟨g, 0, none⟩) n cap) l :=
  World.ownsRow.kept (row := some k) h ho (by simp [Value.ownBlock, hne])
theorem ThreeAt.set1 {w : World} {b : Nat} {k n : Int} {t : ByteArray} (h : ThreeAt w b k n t) (n' : Int) : ThreeAt (w.setCell ⟨b, 1, none⟩ (.int .i64 n')) b k n' t := Go.Joins.block_setCell h (i := 1) (.int .i64 n')
theorem ThreeAt.set2 {w : World} {b : Nat} {k n : Int} {t : ByteArray} (h : ThreeAt w b k n t) (t' : ByteArray) : ThreeAt (w.setCell ⟨b, 2, none⟩ (.string t')) b k n t' := Go.Joins.block_setCell h (i := 2) (.string t')
theorem ThreeAt.only {w w' : World} {b c : Nat} {k n : Int} {t : ByteArray} (h : ThreeAt w b k n t) (ho : Only c w w') (hne : b ≠ c) : ThreeAt w' b k n t := (ho.block b h.size (by simpa using hne)).trans h

end Go.Proofs.YthifdefjmfakgaaGreat

namespace Go.Proofs.YthifdefjmfakgaaGreat
open Go.RowKit

/-- what Take reads: Kind, N, T; what is left; the error -/
def rawV (l : List UInt8) : Int × Int × List UInt8 × List UInt8 × Nat :=
  if (uptoR l 281474976710655).1 = 1 ∨ (uptoR l 281474976710655).1 = 2 then ((uptoR l 281474976710655).1, unfoldV (uptoR (uptoR l 281474976710655).2.1 281474976710655).1, [], (uptoR (uptoR l 281474976710655).2.1 281474976710655).2.1, (uptoR (uptoR l 281474976710655).2.1 281474976710655).2.2)
  else if (uptoR l 281474976710655).1 = 3 then (3, 0, (textR (uptoR l 281474976710655).2.1).1, (textR (uptoR l 281474976710655).2.1).2.1, (textR (uptoR l 281474976710655).2.1).2.2)
  else if (uptoR l 281474976710655).1 = 4 then (4, (uptoR (uptoR l 281474976710655).2.1 281474976710655).1, [], (uptoR (uptoR l 281474976710655).2.1 281474976710655).2.1, (uptoR (uptoR l 281474976710655).2.1 281474976710655).2.2)
  else ((uptoR l 281474976710655).1, 0, [], (uptoR l 281474976710655).2.1, (uptoR l 281474976710655).2.2)
/-- what Take answers: the value; what is left; the error -/
def takeV (l : List UInt8) : Int × Int × List UInt8 × List UInt8 × Nat :=
  if (rawV l).2.2.2.2 ≠ 0 then (0, 0, [], (rawV l).2.2.2.1, (rawV l).2.2.2.2)
  else if Vm.rightV (rawV l).1 (rawV l).2.1 (rawV l).2.2.1 = true then ((rawV l).1, (rawV l).2.1, (rawV l).2.2.1, (rawV l).2.2.2.1, 0)
  else (0, 0, [], (rawV l).2.2.2.1, 21)

theorem uptoR_lt (l : List UInt8) : (uptoR l 281474976710655).1 < 281474976710656 := by
  unfold uptoR
  split
  · simp
  · split
    · simp
    · next h => simp only; omega
theorem uptoR_err (l : List UInt8) (m : Int) (h : (uptoR l m).2.2 ≠ 0) : (uptoR l m).1 = 0 := by
  unfold uptoR at h ⊢
  split
  · rfl
  · next h1 =>
    rw [if_neg h1] at h
    split
    · rfl
    · next h2 => rw [if_neg h2] at h; exact absurd rfl h
theorem uptoR_len (l : List UInt8) (m : Int) : (uptoR l m).2.1.length ≤ l.length := by
  unfold uptoR
  split
  · simp
  · split
    · simp
    · simp
theorem textR_le (l : List UInt8) : (textR l).1.length ≤ l.length := by
  unfold textR
  split
  · simp
  · split
    · simp
    · simp; omega

theorem Bs.three {w : World} {p : Option Addr} {l : List UInt8} {v : Nat} {k n : Int} {t : ByteArray} (h : Bs w p l) (hk : ThreeAt w v k n t) (o : Nat) (x : Value) : Bs (w.setCell ⟨v, o, none⟩ x) p l := by
  intro h0
  obtain ⟨b', o', rfl, hc⟩ := h h0
  refine ⟨b', o', rfl, fun i hi => ?_⟩
  have hne : b' ≠ v := by
    rintro rfl
    have := hc i hi
    rw [Go.Joins.cell_of_block hk] at this
    match o' + i, this with
    | 0, this => simp at this
    | 1, this => simp at this
    | 2, this => simp at this
    | n + 3, this => simp at this
  rw [cell_other (by intro e; injection e with e1; exact hne e1.symm)]
  exact hc i hi
theorem Rdr.three {w : World} {B b v : Nat} {l : List UInt8} {err : Nat} {k n : Int} {t : ByteArray} (h : Rdr w B b l err) (hk : ThreeAt w v k n t) (hne : v ≠ b) (o : Nat) (x : Value) : Rdr (w.setCell ⟨v, o, none⟩ x) B b l err := by
  obtain ⟨h0, h1, h2, h3, h4, h5, p, c, h6, h7, h8, h9, h10⟩ := h
  refine ⟨h0, ?_, ?_, by simpa using h3, by simpa using h4, h5, p, c, ?_, h7.three hk _ _, h8, h9, h10⟩
  · rw [cell_other (by intro e; injection e with e1; exact hne e1)]; exact h1
  · rw [cell_other (by intro e; injection e with e1; exact hne e1)]; exact h2
  · rw [cell_other (by intro e; injection e with e1; exact hne e1)]; exact h6
theorem Only.far1 {b k : Nat} {w0 w : World} (h : Only b w0 w) (hk : w0.heap.size ≤ k) (o : Nat) (v : Value) : Only b w0 (w.setCell ⟨k, o, none⟩ v) := by
  refine ⟨h.os, h.tape, h.output, by simpa [World.setCell] using h.size, fun i hi hn => ?_⟩
  rw [Below.heap_setCell _ _ _ _ (by simp; omega)]
  exact h.block i hi hn

theorem Only.ofBelow {b : Nat} {w w' : World} (h : Below w.heap.size w w') : Only b w w' := ⟨h.os, h.tape, h.output, h.size, fun i hi _ => h.block i hi⟩
/-- what Take carries: the result's cell, the value's box, the reader -/
def Tk (w0 : World) (B b : Nat) (R V : Nat) (k n : Int) (t : ByteArray) (l : List UInt8) (err : Nat) (w : World) : Prop :=
  (w0.heap.size ≤ R ∧ w0.heap.size ≤ V ∧ R ≠ V ∧ b < w0.heap.size) ∧ ThreeAt w R 0 0 ⟨#[]⟩ ∧ ThreeAt w V k n t ∧ Rdr w B b l err ∧ Only b w0 w
theorem Tk.kept {w0 w w' : World} {B b R V : Nat} {k n : Int} {t : ByteArray} {l : List UInt8} {err : Nat} (h : Tk w0 B b R V k n t l err w) (hb : Below w.heap.size w w') : Tk w0 B b R V k n t l err w' :=
  ⟨h.1, h.2.1.kept hb, h.2.2.1.kept hb, h.2.2.2.1.kept hb, h.2.2.2.2.trans (Only.ofBelow (b := b) hb)⟩
theorem Tk.read {w0 w w' : World} {B b R V : Nat} {k n : Int} {t : ByteArray} {l l' : List UInt8} {err err' : Nat} (h : Tk w0 B b R V k n t l err w) (hr : Rdr w' B b l' err') (ho : Only b w w') : Tk w0 B b R V k n t l' err' w' := by
  obtain ⟨⟨h1, h2, h3, h4⟩, h5, h6, h7, h8⟩ := h
  exact ⟨⟨h1, h2, h3, h4⟩, h5.only ho (by omega), h6.only ho (by omega), hr, h8.trans ho⟩
theorem Tk.set1 {w0 w : World} {B b R V : Nat} {k n : Int} {t : ByteArray} {l : List UInt8} {err : Nat} (h : Tk w0 B b R V k n t l err w) (n' : Int) : Tk w0 B b R V k n' t l err (w.setCell ⟨V, 1, none⟩ (.int .i64 n')) := by
  obtain ⟨⟨h1, h2, h3, h4⟩, h5, h6, h7, h8⟩ := h
  exact ⟨⟨h1, h2, h3, h4⟩, (Below.heap_setCell w ⟨V, 1, none⟩ (.int .i64 n') R h3).trans h5, h6.set1 n', h7.three h6 (by omega) 1 _, h8.far1 h2 1 _⟩
theorem Tk.set2 {w0 w : World} {B b R V : Nat} {k n : Int} {t : ByteArray} {l : List UInt8} {err : Nat} (h : Tk w0 B b R V k n t l err w) (t' : ByteArray) : Tk w0 B b R V k n t' l err (w.setCell ⟨V, 2, none⟩ (.string t')) := by
  obtain ⟨⟨h1, h2, h3, h4⟩, h5, h6, h7, h8⟩ := h
  exact ⟨⟨h1, h2, h3, h4⟩, (Below.heap_setCell w ⟨V, 2, none⟩ (.string t') R h3).trans h5, h6.set2 t', h7.three h6 (by omega) 2 _, h8.far1 h2 2 _⟩
/-- the answer is laid into its cell -/
theorem Tk.answer {w0 w : World} {B b R V : Nat} {k n : Int} {t : ByteArray} {l : List UInt8} {err : Nat} (h : Tk w0 B b R V k n t l err w) (k' n' : Int) (t' : ByteArray) :
    Rdr (((w.setCell ⟨R, 0, none⟩ (.int .i64 k')).setCell ⟨R, 1, none⟩ (.int .i64 n')).setCell ⟨R, 2, none⟩ (.string t')) B b l err ∧
    Only b w0 (((w.setCell ⟨R, 0, none⟩ (.int .i64 k')).setCell ⟨R, 1, none⟩ (.int .i64 n')).setCell ⟨R, 2, none⟩ (.string t')) := by
  obtain ⟨⟨h1, h2, h3, h4⟩, h5, h6, h7, h8⟩ := h
  have a1 : ThreeAt (w.setCell ⟨R, 0, none⟩ (.int .i64 k')) R k' 0 ⟨#[]⟩ := Go.Joins.block_setCell h5 (i := 0) (.int .i64 k')
  have a2 := a1.set1 n'
  exact ⟨((h7.three h5 (by omega) 0 _).three a1 (by omega) 1 _).three a2 (by omega) 2 _, ((h8.far1 h1 0 _).far1 h1 1 _).far1 h1 2 _⟩

end Go.Proofs.YthifdefjmfakgaaGreat

namespace Go.Proofs.YthifdefjmfakgaaGreat
open Go.RowKit

theorem Own.far {E : TypeId} {w w' : World} {B k : Nat} {v : Value} {l : List UInt8} (h : Own E w B v l) (ho : Only k w w') (hk : k < B) : Own E w' B v l :=
  World.ownsRow.kept (row := some k) h ho (Or.inr fun e => by have := (World.ownsRow.lt h k e).1; omega)

end Go.Proofs.YthifdefjmfakgaaGreat
