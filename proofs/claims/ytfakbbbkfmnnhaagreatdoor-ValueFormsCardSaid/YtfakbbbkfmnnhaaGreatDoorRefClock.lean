/-
  THE DOCUMENT's CLOCK (Right, New, Next, See), and one turn on both clocks.
  No conditions.
-/
import Derived.Test.YtfakbbbkfmnnhaaGreatDoorAhead
namespace Go.Proofs.YtfakbbbkfmnnhaaGreatDoor
open Go.RowKit

set_option maxRecDepth 100000 in
set_option maxHeartbeats 1000000 in
theorem refRight_any (t r : Int) (w : World) :
    Calls Tryz.prog 73 #[.agg #[.int .i64 t, .int .i64 r]] w fun e w' => e = .returned (.bool (rightB t r)) ∧ Below w.heap.size w w' := by
  have hb := (Below.refl w.heap.size w).alloc (Nat.le_refl _) (.cells #[.int .i64 t, .int .i64 r] 79)
  have HB := Lib.hid hb
  clear hb
  by_cases h0 : 0 ≤ t
  · by_cases h1 : t ≤ 1099511627776
    · by_cases h2 : 0 ≤ r
      · by_cases h3 : r < 16
        · have HR := Lib.hid (show rightB t r = true from decide_eq_true ⟨h0, h1, h2, by omega⟩)
          go_enter Tryz.func73, Tryz.ntmps73
          go_wp2
          go_ret
          rw [HR.out]
          exact ⟨rfl, HB.out⟩
        · have HR := Lib.hid (show rightB t r = false from decide_eq_false (fun h => h3 (by omega)))
          have d3 : decide (r < 16) = false := decide_eq_false h3
          go_enter Tryz.func73, Tryz.ntmps73
          go_wp2
          go_ret
          rw [HR.out]
          exact ⟨rfl, HB.out⟩
      · have HR := Lib.hid (show rightB t r = false from decide_eq_false (fun h => h2 h.2.2.1))
        have d3 : decide (0 ≤ r) = false := decide_eq_false h2
        go_enter Tryz.func73, Tryz.ntmps73
        go_wp2
        go_ret
        rw [HR.out]
        exact ⟨rfl, HB.out⟩
    · have HR := Lib.hid (show rightB t r = false from decide_eq_false (fun h => h1 h.2.1))
      have d3 : decide (t ≤ 1099511627776) = false := decide_eq_false h1
      go_enter Tryz.func73, Tryz.ntmps73
      go_wp2
      go_ret
      rw [HR.out]
      exact ⟨rfl, HB.out⟩
  · have HR := Lib.hid (show rightB t r = false from decide_eq_false (fun h => h0 h.1))
    have d3 : decide (0 ≤ t) = false := decide_eq_false h0
    go_enter Tryz.func73, Tryz.ntmps73
    go_wp2
    go_ret
    rw [HR.out]
    exact ⟨rfl, HB.out⟩


/-- the document's clock, at block b: its replica, its time -/
def RClk (w : World) (b : Nat) (rep tm : Int) : Prop :=
  w.cell? ⟨b, 0, none⟩ = some (.int .i64 rep) ∧ w.cell? ⟨b, 1, none⟩ = some (.int .i64 tm) ∧ w.frozen? ⟨b, 1, none⟩ = false
theorem RClk.lt {w : World} {b : Nat} {rep tm : Int} (h : RClk w b rep tm) : b < w.heap.size := cell_lt h.1
theorem RClk.kept {w w' : World} {b : Nat} {rep tm : Int} (h : RClk w b rep tm) (hb : Below w.heap.size w w') : RClk w' b rep tm := by
  have hlt := h.lt
  obtain ⟨h0, h1, h3⟩ := h
  exact ⟨by rw [hb.cell (by simpa using hlt)]; exact h0, by rw [hb.cell (by simpa using hlt)]; exact h1, by rw [hb.frozen (by simpa using hlt)]; exact h3⟩
theorem RClk.set {w : World} {b : Nat} {rep tm : Int} (h : RClk w b rep tm) (tm' : Int) : RClk (w.setCell ⟨b, 1, none⟩ (.int .i64 tm')) b rep tm' := by
  obtain ⟨h0, h2, h3⟩ := h
  exact ⟨by rw [cell_other (by simp)]; exact h0, cell_same h2, by simpa using h3⟩
theorem Only.cell {b : Nat} {w w' : World} (h : Only b w w') {k o : Nat} (hk : k < w.heap.size) (hne : k ≠ b) : w'.cell? ⟨k, o, none⟩ = w.cell? ⟨k, o, none⟩ := by
  have := h.block k hk (by simpa using hne)
  simp [World.cell?, this]
theorem Only.frozen {b : Nat} {w w' : World} (h : Only b w w') {k o : Nat} (hk : k < w.heap.size) (hne : k ≠ b) : w'.frozen? ⟨k, o, none⟩ = w.frozen? ⟨k, o, none⟩ := by
  have := h.block k hk (by simpa using hne)
  simp [World.frozen?, this]
theorem RClk.only {w w' : World} {b b' : Nat} {rep tm : Int} (h : RClk w b rep tm) (ho : Only b' w w') (hne : b ≠ b') : RClk w' b rep tm := by
  have hlt := h.lt
  obtain ⟨h0, h1, h3⟩ := h
  exact ⟨by rw [ho.cell hlt hne]; exact h0, by rw [ho.cell hlt hne]; exact h1, by rw [ho.frozen hlt hne]; exact h3⟩
theorem Clk.only {w w' : World} {b b' : Nat} {rep tm : Int} (h : Clk w b rep tm) (ho : Only b' w w') (hne : b ≠ b') : Clk w' b rep tm := by
  have hlt := h.lt
  obtain ⟨h0, h1, h2, h3⟩ := h
  exact ⟨by rw [ho.cell hlt hne]; exact h0, by rw [ho.cell hlt hne]; exact h1, by rw [ho.cell hlt hne]; exact h2, by rw [ho.frozen hlt hne]; exact h3⟩

end Go.Proofs.YtfakbbbkfmnnhaaGreatDoor
