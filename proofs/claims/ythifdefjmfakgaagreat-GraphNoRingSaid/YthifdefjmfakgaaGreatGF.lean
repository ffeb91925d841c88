/-
  STAMPS: Right and Compare, the program's and the document's: what they answer, of any numbers; nothing below the call's own memory turns.
  No conditions.
  PUT and TAKE of stamps (without stage 2's texts of clocks and of reading texts).
  No conditions.
-/
import Derived.Test.YthifdefjmfakgaaGreatGD
import Derived.Deep.RegionWith
import Derived.Lib.SmallJoins
import Derived.Deep.DeepCutAuto
namespace Go.Proofs.YthifdefjmfakgaaGreat
open Go.RowKit

/-- may it be? -/
def rightB (t r : Int) : Bool := decide (0 ≤ t ∧ t ≤ 1099511627776 ∧ 0 ≤ r ∧ r ≤ 15)
theorem rightB_yes {t r : Int} (h : rightB t r = true) : 0 ≤ t ∧ t ≤ 1099511627776 ∧ 0 ≤ r ∧ r ≤ 15 := of_decide_eq_true h
set_option maxRecDepth 100000 in
set_option maxHeartbeats 1000000 in
theorem right_any (t r : Int) (w : World) :
    Calls Tryz.prog 70 #[.agg #[.int .i64 t, .int .i64 r]] w fun e w' => e = .returned (.bool (rightB t r)) ∧ Below w.heap.size w w' := by
  have hb := (Below.refl w.heap.size w).alloc (Nat.le_refl _) (.cells #[.int .i64 t, .int .i64 r] 35)
  have HB := Lib.hid hb
  clear hb
  by_cases h0 : 0 ≤ t
  · by_cases h1 : t ≤ 1099511627776
    · by_cases h2 : 0 ≤ r
      · by_cases h3 : r ≤ 15
        · have HR := Lib.hid (show rightB t r = true from decide_eq_true ⟨h0, h1, h2, h3⟩)
          go_enter Tryz.func70, Tryz.ntmps70
          go_wp2
          go_ret
          rw [HR.out]
          exact ⟨rfl, HB.out⟩
        · have HR := Lib.hid (show rightB t r = false from decide_eq_false (fun h => h3 h.2.2.2))
          have d3 : decide (r ≤ 15) = false := decide_eq_false h3
          go_enter Tryz.func70, Tryz.ntmps70
          go_wp2
          go_ret
          rw [HR.out]
          exact ⟨rfl, HB.out⟩
      · have HR := Lib.hid (show rightB t r = false from decide_eq_false (fun h => h2 h.2.2.1))
        have d3 : decide (0 ≤ r) = false := decide_eq_false h2
        go_enter Tryz.func70, Tryz.ntmps70
        go_wp2
        go_ret
        rw [HR.out]
        exact ⟨rfl, HB.out⟩
    · have HR := Lib.hid (show rightB t r = false from decide_eq_false (fun h => h1 h.2.1))
      have d3 : decide (t ≤ 1099511627776) = false := decide_eq_false h1
      go_enter Tryz.func70, Tryz.ntmps70
      go_wp2
      go_ret
      rw [HR.out]
      exact ⟨rfl, HB.out⟩
  · have HR := Lib.hid (show rightB t r = false from decide_eq_false (fun h => h0 h.1))
    have d3 : decide (0 ≤ t) = false := decide_eq_false h0
    go_enter Tryz.func70, Tryz.ntmps70
    go_wp2
    go_ret
    rw [HR.out]
    exact ⟨rfl, HB.out⟩

end Go.Proofs.YthifdefjmfakgaaGreat

namespace Go.Proofs.YthifdefjmfakgaaGreat
open Go.RowKit

theorem Only.of_below {b : Nat} {w w' : World} (h : Below w.heap.size w w') : Only b w w' := ⟨h.os, h.tape, h.output, h.size, fun i hi _ => h.block i hi⟩

theorem Rdr.lt {w : World} {B b : Nat} {l : List UInt8} {err : Nat} (h : Rdr w B b l err) : b < w.heap.size := by
  obtain ⟨-, h1, -⟩ := h
  exact cell_lt h1
/-- block k holds two integers: no bytes -/
def TwoAt (w : World) (k : Nat) (x y : Int) : Prop := w.heap[k]? = some (.cells #[.int .i64 x, .int .i64 y] 35 (0, 0))
theorem TwoAt.size {w : World} {k : Nat} {x y : Int} (h : TwoAt w k x y) : k < w.heap.size := (Array.getElem?_eq_some_iff.1 h).1
theorem TwoAt.cell0 {w : World} {k : Nat} {x y : Int} (h : TwoAt w k x y) : w.cell? ⟨k, 0, none⟩ = some (.int .i64 x) := by rw [Go.Joins.cell_of_block h]; rfl
theorem TwoAt.cell1 {w : World} {k : Nat} {x y : Int} (h : TwoAt w k x y) : w.cell? ⟨k, 1, none⟩ = some (.int .i64 y) := by rw [Go.Joins.cell_of_block h]; rfl
theorem TwoAt.free {w : World} {k : Nat} {x y : Int} (h : TwoAt w k x y) (o : Nat) : w.frozen? ⟨k, o, none⟩ = false := Go.Joins.unfrozen_of_block h o
theorem TwoAt.start (w : World) (x y : Int) : TwoAt (w.alloc (.cells #[.int .i64 x, .int .i64 y] 35)) w.heap.size x y := by
  unfold TwoAt
  show (w.heap.push _)[w.heap.size]? = _
  simp
theorem TwoAt.only {w w' : World} {k b : Nat} {x y : Int} (h : TwoAt w k x y) (ho : Only b w w') (hne : k ≠ b) : TwoAt w' k x y := (ho.block k h.size (by simpa using hne)).trans h
theorem TwoAt.kept {w w' : World} {k : Nat} {x y : Int} (h : TwoAt w k x y) (hb : Below w.heap.size w w') : TwoAt w' k x y := (hb.block k h.size).trans h
theorem TwoAt.set {w : World} {k : Nat} {x y : Int} (h : TwoAt w k x y) (x' y' : Int) : TwoAt ((w.setCell ⟨k, 0, none⟩ (.int .i64 x')).setCell ⟨k, 1, none⟩ (.int .i64 y')) k x' y' := by
  have h1 := Go.Joins.block_setCell h (i := 0) (.int .i64 x')
  have h2 := Go.Joins.block_setCell h1 (i := 1) (.int .i64 y')
  exact h2
theorem Bs.two {w : World} {p : Option Addr} {l : List UInt8} {k : Nat} {x y : Int} (h : Bs w p l) (hk : TwoAt w k x y) (o : Nat) (v : Value) : Bs (w.setCell ⟨k, o, none⟩ v) p l := by
  intro h0
  obtain ⟨b', o', rfl, hc⟩ := h h0
  refine ⟨b', o', rfl, fun i hi => ?_⟩
  have hne : b' ≠ k := by
    rintro rfl
    have := hc i hi
    rw [Go.Joins.cell_of_block hk] at this
    match o' + i, this with
    | 0, this => simp at this
    | 1, this => simp at this
    | n + 2, this => simp at this
  rw [cell_other (by intro e; injection e with e1; exact hne e1.symm)]
  exact hc i hi
theorem Rdr.two {w : World} {B b k : Nat} {l : List UInt8} {err : Nat} {x y : Int} (h : Rdr w B b l err) (hk : TwoAt w k x y) (hne : k ≠ b) (o : Nat) (v : Value) : Rdr (w.setCell ⟨k, o, none⟩ v) B b l err := by
  obtain ⟨h0, h1, h2, h3, h4, h5, p, c, h6, h7, h8, h9, h10⟩ := h
  refine ⟨h0, ?_, ?_, by simpa using h3, by simpa using h4, h5, p, c, ?_, h7.two hk _ _, h8, h9, h10⟩
  · rw [cell_other (by intro e; injection e with e1; exact hne e1)]; exact h1
  · rw [cell_other (by intro e; injection e with e1; exact hne e1)]; exact h2
  · rw [cell_other (by intro e; injection e with e1; exact hne e1)]; exact h6
end Go.Proofs.YthifdefjmfakgaaGreat
