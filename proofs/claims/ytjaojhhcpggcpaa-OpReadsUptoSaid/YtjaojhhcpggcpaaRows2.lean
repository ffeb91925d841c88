/-
  ROWS OF NUMBERS AND TEXTS, as bytes and read again: plain laws; how slices of integers and of strings lie.
-/
import Derived.Test.YtjaojhhcpggcpaaReads
namespace Go.Proofs.Ytjaojhhcpggcpaa
open Go.RowKit

/-- the slice reads as these integers -/
def Ints (w : World) (p : Option Addr) (l : List Int) : Prop :=
  0 < l.length → ∃ b o, p = some ⟨b, o, none⟩ ∧ ∀ i, i < l.length → w.cell? ⟨b, o + i, none⟩ = some (.int .i64 (l.getD i 0))
/-- the slice reads as these strings -/
def Strs (w : World) (p : Option Addr) (l : List ByteArray) : Prop :=
  0 < l.length → ∃ b o, p = some ⟨b, o, none⟩ ∧ ∀ i, i < l.length → w.cell? ⟨b, o + i, none⟩ = some (.string (l.getD i ByteArray.empty))

theorem Ints.kept {w w' : World} {p : Option Addr} {l : List Int} (h : Ints w p l) (hb : Below w.heap.size w w') : Ints w' p l := by
  intro h0
  obtain ⟨b, o, rfl, hc⟩ := h h0
  have := cell_lt (hc 0 h0)
  exact ⟨b, o, rfl, fun i hi => by rw [hb.cell (by simpa using this)]; exact hc i hi⟩
theorem Strs.kept {w w' : World} {p : Option Addr} {l : List ByteArray} (h : Strs w p l) (hb : Below w.heap.size w w') : Strs w' p l := by
  intro h0
  obtain ⟨b, o, rfl, hc⟩ := h h0
  have := cell_lt (hc 0 h0)
  exact ⟨b, o, rfl, fun i hi => by rw [hb.cell (by simpa using this)]; exact hc i hi⟩

/-- round i of a row -/
def rowB (l : List Int) (s : List ByteArray) (i : Nat) : List UInt8 :=
  (if i < l.length then Wm.numB (l.getD i 0).toNat else []) ++ (if i < s.length then Wm.numB (s.getD i ByteArray.empty).size ++ (s.getD i ByteArray.empty).data.toList else [])
/-- the first j rounds -/
def rowsB (l : List Int) (s : List ByteArray) : Nat → List UInt8
  | 0 => []
  | j + 1 => rowsB l s j ++ rowB l s j
/-- n rounds from k on -/
def restB (l : List Int) (s : List ByteArray) : Nat → Nat → List UInt8
  | 0, _ => []
  | n + 1, k => rowB l s k ++ restB l s n (k + 1)

theorem restB_snoc (l : List Int) (s : List ByteArray) (n k : Nat) : restB l s (n + 1) k = restB l s n k ++ rowB l s (k + n) := by
  induction n generalizing k with
  | zero => simp [restB]
  | succ n ih => rw [restB, ih, restB, List.append_assoc, show k + 1 + n = k + (n + 1) from by omega]
theorem rows_rest (l : List Int) (s : List ByteArray) (n : Nat) : rowsB l s n = restB l s n 0 := by
  induction n with
  | zero => rfl
  | succ n ih => rw [rowsB, ih, restB_snoc, Nat.zero_add]

/-- a number that was written is read -/
theorem uptoR_back (n : Nat) (more : List UInt8) (h : n < 281474976710656) : uptoR (Wm.numB n ++ more) 281474976710655 = (n, more, 0) := by
  unfold uptoR
  rw [numR_back n 281474976710655 more h (by omega)]
  dsimp only
  rw [if_neg (by simp), if_neg (by omega), List.drop_left' (by rw [Wm.numB_length]; omega)]
/-- a text that was written is read -/
theorem textR_back (s more : List UInt8) (h : s.length ≤ 1048576) : textR (Wm.numB s.length ++ s ++ more) = (s, more, 0) := by
  unfold textR
  rw [List.append_assoc, numR_back s.length 1048576 (s ++ more) (by omega) h]
  dsimp only
  have hd : (Wm.numB s.length ++ (s ++ more)).drop (1 + Wm.nlen s.length) = s ++ more := List.drop_left' (by rw [Wm.numB_length]; omega)
  rw [if_neg (by simp), if_neg (by simp [Wm.numB_length]; omega), hd, List.take_left, ← List.drop_drop, hd, List.drop_left]

end Go.Proofs.Ytjaojhhcpggcpaa
