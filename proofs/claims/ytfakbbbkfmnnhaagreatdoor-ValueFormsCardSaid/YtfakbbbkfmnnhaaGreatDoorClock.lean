/-
  CLOCKS: New, Next, See, Time of the program's clock: one that New made, and one that is nobody's.
  No conditions.
-/
import Derived.Test.YtfakbbbkfmnnhaaGreatDoorStamp
namespace Go.Proofs.YtfakbbbkfmnnhaaGreatDoor
open Go.RowKit

/-- a clock that New made, at block b: its replica, its time -/
def Clk (w : World) (b : Nat) (rep tm : Int) : Prop :=
  w.cell? ⟨b, 0, none⟩ = some (.bool true) ∧ w.cell? ⟨b, 1, none⟩ = some (.int .i64 rep) ∧ w.cell? ⟨b, 2, none⟩ = some (.int .i64 tm) ∧ w.frozen? ⟨b, 2, none⟩ = false
/-- no clock, or one that nobody made -/
def DeadClk (w : World) (r : Value) : Prop :=
  r = .pointer none ∨ ∃ b, r = .pointer (some ⟨b, 0, none⟩) ∧ w.cell? ⟨b, 0, none⟩ = some (.bool false)

theorem Clk.lt {w : World} {b : Nat} {rep tm : Int} (h : Clk w b rep tm) : b < w.heap.size := cell_lt h.1
theorem Clk.kept {w w' : World} {b : Nat} {rep tm : Int} (h : Clk w b rep tm) (hb : Below w.heap.size w w') : Clk w' b rep tm := by
  have hlt := h.lt
  obtain ⟨h0, h1, h2, h3⟩ := h
  exact ⟨by rw [hb.cell (by simpa using hlt)]; exact h0, by rw [hb.cell (by simpa using hlt)]; exact h1, by rw [hb.cell (by simpa using hlt)]; exact h2, by rw [hb.frozen (by simpa using hlt)]; exact h3⟩
theorem Clk.set {w : World} {b : Nat} {rep tm : Int} (h : Clk w b rep tm) (tm' : Int) : Clk (w.setCell ⟨b, 2, none⟩ (.int .i64 tm')) b rep tm' := by
  obtain ⟨h0, h1, h2, h3⟩ := h
  exact ⟨by rw [cell_other (by simp)]; exact h0, by rw [cell_other (by simp)]; exact h1, cell_same h2, by simpa using h3⟩
theorem DeadClk.kept {w w' : World} {r : Value} (h : DeadClk w r) (hb : Below w.heap.size w w') : DeadClk w' r := by
  rcases h with h | ⟨b, h, h0⟩
  · exact Or.inl h
  · have hlt : b < w.heap.size := cell_lt h0
    exact Or.inr ⟨b, h, by rw [hb.cell (by simpa using hlt)]; exact h0⟩

theorem below_two (w : World) (o o' : Obj) : Below w.heap.size w ((w.alloc o).alloc o').drew := (((Below.refl w.heap.size w).alloc (Nat.le_refl _) o).alloc (by simp) o').drew
/-- what Next answers: the stamp's time and replica, the error, the clock's time behind it -/
def nextR (rep tm c : Int) : Int × Int × Int × Int :=
  if c < 1 then (0, 0, 1, tm) else if 1099511627776 - tm < c then (0, 0, 30, tm) else (tm + 1, rep, 0, tm + c)

theorem Only.of_below {b : Nat} {w w' : World} (hb : Below w.heap.size w w') : Only b w w' := ⟨hb.os, hb.tape, hb.output, hb.size, fun k hk _ => hb.block k hk⟩

/-- what See answers: the error, the clock's time behind it -/
def seeR (tm t r : Int) : Int × Int := if rightB t r = true then (0, max tm t) else (1, tm)

/-- New -/
def MadeClk (rep tm : Int) (w : World) (e : Ending) (w' : World) : Prop := ∃ b, e = .returned (.tuple #[.pointer (some ⟨b, 0, none⟩), .int .i64 0]) ∧ Clk w' b rep tm ∧ w.heap.size ≤ b ∧ Below w.heap.size w w'

end Go.Proofs.YtfakbbbkfmnnhaaGreatDoor
