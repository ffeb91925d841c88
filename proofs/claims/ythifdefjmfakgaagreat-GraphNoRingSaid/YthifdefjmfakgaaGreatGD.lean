/-
  PLAIN LAWS of numbers' forms and frames: what is read is what is written as the number, and only that; there and back; a frame of which one byte is another one.
  A READER that Open made: what Num, Upto, Text, Fail, Err, Left, Done do to it, of any bytes.
  A READER's Upto, Num and Text, of any bytes; Open.
  ROWS OF NUMBERS AND TEXTS, as bytes and read again: plain laws; how slices of integers and of strings lie.
-/
import Derived.Test.YthifdefjmfakgaaGreatGC
namespace Go.Proofs.YthifdefjmfakgaaGreat
open Go.RowKit

end Go.Proofs.YthifdefjmfakgaaGreat

namespace Go.Proofs.YthifdefjmfakgaaGreat
open Go.RowKit

/-- a reader at block b (from base B on): what is left, the error -/
def Rdr (w : World) (B b : Nat) (l : List UInt8) (err : Nat) : Prop :=
  B ≤ b ∧ w.cell? ⟨b, 0, none⟩ = some (.bool true) ∧ w.cell? ⟨b, 2, none⟩ = some (.int .i64 (err : Int)) ∧ w.frozen? ⟨b, 1, none⟩ = false ∧ w.frozen? ⟨b, 2, none⟩ = false ∧ l.length ≤ 4611686018427387904 ∧
  ∃ p c, w.cell? ⟨b, 1, none⟩ = some (.slice p l.length c) ∧ Bs w p l ∧ l.length ≤ c ∧ (p = none → c = 0) ∧ (∀ a, p = some a → a.block < b ∧ B ≤ a.block)

theorem cell_same {w : World} {a : Addr} {u v : Value} (h : w.cell? a = some u) : (w.setCell a v).cell? a = some v := World.cell?_setCell_same' w a v (by rw [h]; rfl)
theorem cell_other {w : World} {a b : Addr} {v : Value} (h : a ≠ b) : (w.setCell a v).cell? b = w.cell? b := by
  apply World.cell?_setCell_other
  exact h

theorem Rdr.kept {w w' : World} {B b : Nat} {l : List UInt8} {err : Nat} (h : Rdr w B b l err) (hb : Below w.heap.size w w') : Rdr w' B b l err := by
  obtain ⟨h0, h1, h2, h3, h4, h5, p, c, h6, h7, h8, h9, h10⟩ := h
  have hlt := cell_lt h1
  have hlt' : b < w.heap.size := hlt
  exact ⟨h0, by rw [hb.cell (by simpa using hlt')]; exact h1, by rw [hb.cell (by simpa using hlt')]; exact h2, by rw [hb.frozen (by simpa using hlt')]; exact h3, by rw [hb.frozen (by simpa using hlt')]; exact h4, h5, p, c, by rw [hb.cell (by simpa using hlt')]; exact h6, h7.kept hb, h8, h9, h10⟩

theorem Rdr.drewN {w : World} {B b : Nat} {l : List UInt8} {err : Nat} (h : Rdr w B b l err) (q : Nat) : Rdr (w.drewN q) B b l err := h.kept (below_drewN (Below.refl _ _) q)

theorem Bs.other {w : World} {p : Option Addr} {l : List UInt8} (h : Bs w p l) {b : Nat} (hp : ∀ a, p = some a → a.block ≠ b) (o : Nat) (v : Value) : Bs (w.setCell ⟨b, o, none⟩ v) p l := by
  intro h0
  obtain ⟨b', o', rfl, hc⟩ := h h0
  refine ⟨b', o', rfl, fun i hi => ?_⟩
  have hne : (⟨b, o, none⟩ : Addr) ≠ ⟨b', o' + i, none⟩ := by
    intro e
    have := hp _ rfl
    simp only [Addr.mk.injEq] at e
    exact this e.1.symm
  rw [cell_other hne]
  exact hc i hi

/-- what is left is another slice -/
theorem Rdr.pass {w : World} {B b : Nat} {l m : List UInt8} {err : Nat} (h : Rdr w B b l err) (p' : Option Addr) (c' : Nat) (hm : Bs w p' m) (hl : m.length ≤ 4611686018427387904) (hc : m.length ≤ c') (hpn : p' = none → c' = 0) (hp : ∀ a, p' = some a → a.block < b ∧ B ≤ a.block) :
    Rdr (w.setCell ⟨b, 1, none⟩ (.slice p' m.length c')) B b m err := by
  obtain ⟨h0, h1, h2, h3, h4, h5, p, c, h6, h7, h8, h9, h10⟩ := h
  refine ⟨h0, ?_, ?_, by simpa using h3, by simpa using h4, hl, p', c', cell_same h6, hm.other (fun a ha => Nat.ne_of_lt (hp a ha).1) _ _, hc, hpn, hp⟩
  · rw [cell_other (by simp)]; exact h1
  · rw [cell_other (by simp)]; exact h2

/-- another error -/
theorem Rdr.fail {w : World} {B b : Nat} {l : List UInt8} {err : Nat} (h : Rdr w B b l err) (e : Nat) : Rdr (w.setCell ⟨b, 2, none⟩ (.int .i64 (e : Int))) B b l e := by
  obtain ⟨h0, h1, h2, h3, h4, h5, p, c, h6, h7, h8, h9, h10⟩ := h
  refine ⟨h0, ?_, cell_same h2, by simpa using h3, by simpa using h4, h5, p, c, ?_, h7.other (fun a ha => Nat.ne_of_lt (h10 a ha).1) _ _, h8, h9, h10⟩
  · rw [cell_other (by simp)]; exact h1
  · rw [cell_other (by simp)]; exact h6

/-- only the reader's own block has turned -/
def Only (b : Nat) (w w' : World) : Prop := w.grownBy w' (some b)
theorem Only.refl (b : Nat) (w : World) : Only b w w := ⟨rfl, rfl, rfl, Nat.le_refl _, fun _ _ _ => rfl⟩
theorem Only.set (b o : Nat) (w : World) (v : Value) : Only b w (w.setCell ⟨b, o, none⟩ v) :=
  ⟨rfl, rfl, rfl, by simp [World.setCell], fun k _ hk => Below.heap_setCell w _ v k (fun e => hk (by rw [e]))⟩
theorem Only.trans {b : Nat} {x y z : World} (h : Only b x y) (k : Only b y z) : Only b x z :=
  ⟨k.os.trans h.os, k.tape.trans h.tape, k.output.trans h.output, Nat.le_trans h.size k.size, fun i hi hn => (k.block i (Nat.lt_of_lt_of_le hi h.size) hn).trans (h.block i hi hn)⟩
theorem Only.below {b B : Nat} {w0 w w' : World} (h : Only b w w') (h0 : Below B w0 w) (hB : B ≤ b) (hs : B ≤ w.heap.size) : Below B w0 w' :=
  h0.grown h hs (fun k hk => by simp only [Option.some.injEq] at hk; omega)

end Go.Proofs.YthifdefjmfakgaaGreat

namespace Go.Proofs.YthifdefjmfakgaaGreat
open Go.RowKit

end Go.Proofs.YthifdefjmfakgaaGreat

namespace Go.Proofs.YthifdefjmfakgaaGreat
open Go.RowKit

/-- the slice reads as these integers -/
def Ints (w : World) (p : Option Addr) (l : List Int) : Prop :=
  0 < l.length → ∃ b o, p = some ⟨b, o, none⟩ ∧ ∀ i, i < l.length → w.cell? ⟨b, o + i, none⟩ = some (.int .i64 (l.getD i 0))
/-- the slice reads as these strings -/
def Strs (w : World) (p : Option Addr) (l : List ByteArray) : Prop :=
  0 < l.length → ∃ b o, p = some ⟨b, o, none⟩ ∧ ∀ i, i < l.length → w.cell? ⟨b, o + i, none⟩ = some (.string (l.getD i ByteArray.empty))

theorem Ints.kept {w w' : World} {p : Option Addr} {l : List Int} (h : Ints w p l) (hb : Below w.heap.size w w') : Ints w' p l := by
  intro h0
  obtain ⟨b, o, rfl, hc⟩ := h h0
  have := cell_lt (hc 0 h0)
  exact ⟨b, o, rfl, fun i hi => by rw [hb.cell (by simpa using this)]; exact hc i hi⟩
theorem Strs.kept {w w' : World} {p : Option Addr} {l : List ByteArray} (h : Strs w p l) (hb : Below w.heap.size w w') : Strs w' p l := by
  intro h0
  obtain ⟨b, o, rfl, hc⟩ := h h0
  have := cell_lt (hc 0 h0)
  exact ⟨b, o, rfl, fun i hi => by rw [hb.cell (by simpa using this)]; exact hc i hi⟩

end Go.Proofs.YthifdefjmfakgaaGreat
