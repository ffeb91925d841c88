/-
  STAMPAHEAD: the walk: what Next answers is above all that was seen and answered. Lists of acts in memory.
  No conditions.
-/
import Derived.Test.YtfakbbbkfmnnhaaGreatDoorKnows2
namespace Go.Proofs.YtfakbbbkfmnnhaaGreatDoor
open Go.RowKit

/-- an act: its kind, its number, its stamp -/
structure ActD where
  kind : Int
  n : Int
  t : Int
  r : Int
def actAt (l : List ActD) (i : Nat) : ActD := l.getD i ⟨0, 0, 0, 0⟩
/-- the slice (p, the list's length, whatever capacity) reads as these acts -/
def Acts (w : World) (p : Option Addr) (l : List ActD) : Prop :=
  0 < l.length → ∃ b o, p = some ⟨b, o, none⟩ ∧ ∀ i, i < l.length →
    w.cell? ⟨b, o + i * 4, none⟩ = some (.int .i64 (actAt l i).kind) ∧ w.cell? ⟨b, o + i * 4 + 1, none⟩ = some (.int .i64 (actAt l i).n) ∧
    w.cell? ⟨b, o + i * 4 + 2, none⟩ = some (.int .i64 (actAt l i).t) ∧ w.cell? ⟨b, o + i * 4 + 3, none⟩ = some (.int .i64 (actAt l i).r)
theorem Acts.kept {w w' : World} {p : Option Addr} {l : List ActD} (h : Acts w p l) (hb : Below w.heap.size w w') : Acts w' p l := by
  intro h0
  obtain ⟨b, o, rfl, hc⟩ := h h0
  have hlt : b < w.heap.size := cell_lt (hc 0 h0).1
  refine ⟨b, o, rfl, fun i hi => ?_⟩
  obtain ⟨h1, h2, h3, h4⟩ := hc i hi
  exact ⟨by rw [hb.cell (by simpa using hlt)]; exact h1, by rw [hb.cell (by simpa using hlt)]; exact h2, by rw [hb.cell (by simpa using hlt)]; exact h3, by rw [hb.cell (by simpa using hlt)]; exact h4⟩
theorem Acts.cells {w : World} {b o : Nat} {l : List ActD} (h : Acts w (some ⟨b, o, none⟩) l) (i : Nat) (hi : i < l.length) :
    w.cell? ⟨b, o + i * 4, none⟩ = some (.int .i64 (actAt l i).kind) ∧ w.cell? ⟨b, o + i * 4 + 1, none⟩ = some (.int .i64 (actAt l i).n) ∧
    w.cell? ⟨b, o + i * 4 + 2, none⟩ = some (.int .i64 (actAt l i).t) ∧ w.cell? ⟨b, o + i * 4 + 3, none⟩ = some (.int .i64 (actAt l i).r) := by
  obtain ⟨b', o', e, hc⟩ := h (by omega)
  simp only [Option.some.injEq, Addr.mk.injEq] at e
  obtain ⟨rfl, rfl, -⟩ := e
  exact hc i hi

theorem tmod16 (x : Int) : -15 ≤ x.tmod 16 ∧ x.tmod 16 ≤ 15 := by
  rcases Int.eq_nat_or_neg x with ⟨n, rfl | rfl⟩
  · rw [show ((n : Int).tmod 16) = ((n % 16 : Nat) : Int) from rfl]; omega
  · rw [Int.neg_tmod, show ((n : Int).tmod 16) = ((n % 16 : Nat) : Int) from rfl]; omega

/-- a clock, and all that was there stays -/
def ARel (w0 : World) (b : Nat) (q tm : Int) (wr : World) : Prop := Clk wr b q tm ∧ w0.heap.size ≤ b ∧ Below w0.heap.size w0 wr
theorem ARel.kept {w0 w w' : World} {b : Nat} {q tm : Int} (h : ARel w0 b q tm w) (hb : Below w.heap.size w w') : ARel w0 b q tm w' :=
  ⟨h.1.kept hb, h.2.1, h.2.2.trans (hb.mono h.2.2.size)⟩
theorem ARel.only {w0 w w' : World} {b : Nat} {q tm tm' : Int} (h : ARel w0 b q tm w) (hc : Clk w' b q tm') (hb : Only b w w') : ARel w0 b q tm' w' :=
  ⟨hc, h.2.1, hb.below h.2.2 h.2.1 h.2.2.size⟩

end Go.Proofs.YtfakbbbkfmnnhaaGreatDoor
