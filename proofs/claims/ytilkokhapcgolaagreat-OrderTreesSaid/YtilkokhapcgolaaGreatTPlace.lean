/-
  STAMPS THAT MAY BE, nodes and places (the program's calls).
  No conditions.
-/
import Derived.Test.YtilkokhapcgolaaGreatBase
import Derived.Deep.RegionWith
import Derived.Test.YtilkokhapcgolaaGreatAppend
import Derived.Lib.SmallJoins
namespace Go.Proofs.YtilkokhapcgolaaGreat
open Go.RowKit

/-- may it be? -/
def rightB (t r : Int) : Bool := decide (0 ≤ t ∧ t ≤ 1099511627776 ∧ 0 ≤ r ∧ r ≤ 15)
theorem rightB_yes {t r : Int} (h : rightB t r = true) : 0 ≤ t ∧ t ≤ 1099511627776 ∧ 0 ≤ r ∧ r ≤ 15 := of_decide_eq_true h
theorem rightB_no {t r : Int} (h : rightB t r = false) : ¬ (0 ≤ t ∧ t ≤ 1099511627776 ∧ 0 ≤ r ∧ r ≤ 15) := of_decide_eq_false h

set_option maxRecDepth 100000 in
set_option maxHeartbeats 1000000 in
theorem right_any (t r : Int) (w : World) :
    Calls Tryz.prog 42 #[.agg #[.int .i64 t, .int .i64 r]] w fun e w' => e = .returned (.bool (rightB t r)) ∧ Below w.heap.size w w' := by
  have hb := (Below.refl w.heap.size w).alloc (Nat.le_refl _) (.cells #[.int .i64 t, .int .i64 r] 24)
  have HB := Lib.hid hb
  clear hb
  by_cases h0 : 0 ≤ t
  · by_cases h1 : t ≤ 1099511627776
    · by_cases h2 : 0 ≤ r
      · by_cases h3 : r ≤ 15
        · have HR := Lib.hid (show rightB t r = true from decide_eq_true ⟨h0, h1, h2, h3⟩)
          go_enter Tryz.func42, Tryz.ntmps42
          go_wp2
          go_ret
          rw [HR.out]
          exact ⟨rfl, HB.out⟩
        · have HR := Lib.hid (show rightB t r = false from decide_eq_false (fun h => h3 h.2.2.2))
          have d3 : decide (r ≤ 15) = false := decide_eq_false h3
          go_enter Tryz.func42, Tryz.ntmps42
          go_wp2
          go_ret
          rw [HR.out]
          exact ⟨rfl, HB.out⟩
      · have HR := Lib.hid (show rightB t r = false from decide_eq_false (fun h => h2 h.2.2.1))
        have d3 : decide (0 ≤ r) = false := decide_eq_false h2
        go_enter Tryz.func42, Tryz.ntmps42
        go_wp2
        go_ret
        rw [HR.out]
        exact ⟨rfl, HB.out⟩
    · have HR := Lib.hid (show rightB t r = false from decide_eq_false (fun h => h1 h.2.1))
      have d3 : decide (t ≤ 1099511627776) = false := decide_eq_false h1
      go_enter Tryz.func42, Tryz.ntmps42
      go_wp2
      go_ret
      rw [HR.out]
      exact ⟨rfl, HB.out⟩
  · have HR := Lib.hid (show rightB t r = false from decide_eq_false (fun h => h0 h.1))
    have d3 : decide (0 ≤ t) = false := decide_eq_false h0
    go_enter Tryz.func42, Tryz.ntmps42
    go_wp2
    go_ret
    rw [HR.out]
    exact ⟨rfl, HB.out⟩

/-- two cells of a stamp, in a block of their own -/
def TwoAt (w : World) (k : Nat) (x y : Int) : Prop := w.heap[k]? = some (.cells #[.int .i64 x, .int .i64 y] 24 (0, 0))
theorem TwoAt.size {w : World} {k : Nat} {x y : Int} (h : TwoAt w k x y) : k < w.heap.size := (Array.getElem?_eq_some_iff.1 h).1
theorem TwoAt.cell0 {w : World} {k : Nat} {x y : Int} (h : TwoAt w k x y) : w.cell? ⟨k, 0, none⟩ = some (.int .i64 x) := by rw [Go.Joins.cell_of_block h]; rfl
theorem TwoAt.cell1 {w : World} {k : Nat} {x y : Int} (h : TwoAt w k x y) : w.cell? ⟨k, 1, none⟩ = some (.int .i64 y) := by rw [Go.Joins.cell_of_block h]; rfl
theorem TwoAt.free {w : World} {k : Nat} {x y : Int} (h : TwoAt w k x y) (o : Nat) : w.frozen? ⟨k, o, none⟩ = false := Go.Joins.unfrozen_of_block h o
theorem TwoAt.start (w : World) (x y : Int) : TwoAt (w.alloc (.cells #[.int .i64 x, .int .i64 y] 24)) w.heap.size x y := by
  unfold TwoAt
  show (w.heap.push _)[w.heap.size]? = _
  simp
theorem TwoAt.kept {w w' : World} {k : Nat} {x y : Int} (h : TwoAt w k x y) (hb : Below w.heap.size w w') : TwoAt w' k x y := (hb.block k h.size).trans h
def okNode (t r : Int) : Bool := rightB t r && decide (1 ≤ t)
def isZ (t r : Int) : Bool := t == 0 && r == 0
def isT (t r : Int) : Bool := t == 0 && r == 1
def okPlace (t r : Int) : Bool := okNode t r || isZ t r || isT t r
theorem ret_b {a b : Bool} (h : a = b) : Ending.returned (.bool a) = .returned (.bool b) := by rw [h]

set_option maxRecDepth 100000 in
set_option maxHeartbeats 1000000 in
theorem onode_any (t r : Int) (w : World) : Calls Tryz.prog 20 #[.agg #[.int .i64 t, .int .i64 r]] w fun e w' => e = .returned (.bool (okNode t r)) ∧ Below w.heap.size w w' := by
  have HB := Lib.hid ((Below.refl w.heap.size w).alloc (Nat.le_refl _) (.cells #[.int .i64 t, .int .i64 r] 24))
  have HT := Lib.hid (TwoAt.start w t r)
  cases hR : rightB t r with
  | false =>
    have HR := Lib.hid (show okNode t r = false by unfold okNode; rw [hR]; rfl)
    have HRB := Lib.hid hR
    clear hR
    go_enter Tryz.func20, Tryz.ntmps20
    go_wp2_with fail
    refine (right_any t r _).mono ?_
    rw [HRB.out]
    rintro e w1 ⟨rfl, hb1⟩
    have HB1 := Lib.hid (HB.out.trans (hb1.mono (by simp)))
    clear hb1
    go_wp2
    go_ret
    exact ⟨ret_b HR.out.symm, HB1.out⟩
  | true =>
    have HRB := Lib.hid hR
    have HR := Lib.hid (show okNode t r = decide (1 ≤ t) by unfold okNode; rw [hR]; rfl)
    clear hR
    go_enter Tryz.func20, Tryz.ntmps20
    go_wp2_with fail
    refine (right_any t r _).mono ?_
    rw [HRB.out]
    rintro e w1 ⟨rfl, hb1⟩
    have HB1 := Lib.hid (HB.out.trans (hb1.mono (by simp)))
    have c0 := (HT.out.kept hb1).cell0
    clear hb1
    go_wp2
    go_ret
    exact ⟨ret_b HR.out.symm, HB1.out⟩

/-- three stamps, boxed one behind the other -/
theorem three_boxes (w : World) (a b c d e f : Int) : ∀ W, W = ((w.alloc (.cells #[.int .i64 a, .int .i64 b] 24)).alloc (.cells #[.int .i64 c, .int .i64 d] 24)).alloc (.cells #[.int .i64 e, .int .i64 f] 24) →
    TwoAt W w.heap.size a b ∧ TwoAt W (w.heap.size + 1) c d ∧ TwoAt W (w.heap.size + 1 + 1) e f ∧ Below w.heap.size w W := by
  rintro W rfl
  have h1 : ∀ (w : World) (o : Obj), Below w.heap.size w (w.alloc o) := fun w o => (Below.refl _ _).alloc (Nat.le_refl _) _
  have k2 := TwoAt.start (w.alloc (.cells #[.int .i64 a, .int .i64 b] 24)) c d
  have k3 := TwoAt.start ((w.alloc (.cells #[.int .i64 a, .int .i64 b] 24)).alloc (.cells #[.int .i64 c, .int .i64 d] 24)) e f
  have e1 : ∀ (w : World) (o : Obj), (w.alloc o).heap.size = w.heap.size + 1 := fun w o => by simp
  simp only [e1] at k2 k3
  exact ⟨((TwoAt.start w a b).kept (h1 _ _)).kept (h1 _ _), k2.kept (h1 _ _), k3, (h1 _ _).trans (((h1 _ _).mono (by simp)).trans ((h1 _ _).mono (by simp; omega)))⟩
set_option maxRecDepth 100000 in
set_option maxHeartbeats 1000000 in
theorem oplace_any (t r : Int) (w : World) : Calls Tryz.prog 43 #[.agg #[.int .i64 t, .int .i64 r]] w fun e w' => e = .returned (.bool (okPlace t r)) ∧ Below w.heap.size w w' := by
  obtain ⟨T0, T1, T2, hb⟩ := three_boxes w t r 0 0 0 1 _ rfl
  have HB := Lib.hid hb
  have HT0 := Lib.hid T0
  have HT1 := Lib.hid T1
  have HT2 := Lib.hid T2
  clear hb T0 T1 T2
  cases hR : okNode t r with
  | true =>
    have HR := Lib.hid (show okPlace t r = true by unfold okPlace; rw [hR]; rfl)
    have HRB := Lib.hid hR
    clear hR
    go_enter Tryz.func43, Tryz.ntmps43
    go_wp2_with fail
    refine (onode_any t r _).mono ?_
    rw [HRB.out]
    rintro e w1 ⟨rfl, hb1⟩
    have HB1 := Lib.hid (HB.out.trans (hb1.mono (by simp; omega)))
    clear hb1
    go_wp2
    go_ret
    exact ⟨ret_b HR.out.symm, HB1.out⟩
  | false =>
    have HRB := Lib.hid hR
    have HR := Lib.hid (show okPlace t r = (isZ t r || isT t r) by unfold okPlace; rw [hR]; rfl)
    clear hR
    by_cases ht : t = 0
    · subst ht
      by_cases h0 : r = 0
      · subst h0
        have HV := Lib.hid (show (isZ 0 0 || isT 0 0) = true from rfl)
        go_enter Tryz.func43, Tryz.ntmps43
        go_wp2_with fail
        refine (onode_any _ _ _).mono ?_
        rw [HRB.out]
        rintro e w1 ⟨rfl, hb1⟩
        have HB1 := Lib.hid (HB.out.trans (hb1.mono (by simp; omega)))
        have x0 := (HT0.out.kept hb1).cell0
        have x1 := (HT0.out.kept hb1).cell1
        have y0 := (HT1.out.kept hb1).cell0
        have y1 := (HT1.out.kept hb1).cell1
        have z0 := (HT2.out.kept hb1).cell0
        have z1 := (HT2.out.kept hb1).cell1
        clear hb1
        go_wp2
        go_ret
        exact ⟨ret_b (HR.out.trans HV.out).symm, HB1.out⟩
      · have e0 : (r == 0) = false := by simpa using h0
        by_cases h1 : r = 1
        · subst h1
          have HV := Lib.hid (show (isZ 0 1 || isT 0 1) = true from rfl)
          go_enter Tryz.func43, Tryz.ntmps43
          go_wp2_with fail
          refine (onode_any _ _ _).mono ?_
          rw [HRB.out]
          rintro e w1 ⟨rfl, hb1⟩
          have HB1 := Lib.hid (HB.out.trans (hb1.mono (by simp; omega)))
          have x0 := (HT0.out.kept hb1).cell0
          have x1 := (HT0.out.kept hb1).cell1
          have y0 := (HT1.out.kept hb1).cell0
          have y1 := (HT1.out.kept hb1).cell1
          have z0 := (HT2.out.kept hb1).cell0
          have z1 := (HT2.out.kept hb1).cell1
          clear hb1
          go_wp2
          go_ret
          exact ⟨ret_b (HR.out.trans HV.out).symm, HB1.out⟩
        · have e1 : (r == 1) = false := by simpa using h1
          have HV := Lib.hid (show (isZ 0 r || isT 0 r) = false by unfold isZ isT; rw [e0, e1]; rfl)
          go_enter Tryz.func43, Tryz.ntmps43
          go_wp2_with fail
          refine (onode_any _ _ _).mono ?_
          rw [HRB.out]
          rintro e w1 ⟨rfl, hb1⟩
          have HB1 := Lib.hid (HB.out.trans (hb1.mono (by simp; omega)))
          have x0 := (HT0.out.kept hb1).cell0
          have x1 := (HT0.out.kept hb1).cell1
          have y0 := (HT1.out.kept hb1).cell0
          have y1 := (HT1.out.kept hb1).cell1
          have z0 := (HT2.out.kept hb1).cell0
          have z1 := (HT2.out.kept hb1).cell1
          clear hb1
          go_wp2
          go_ret
          exact ⟨ret_b (HR.out.trans HV.out).symm, HB1.out⟩
    · have e0 : (t == 0) = false := by simpa using ht
      have HV := Lib.hid (show (isZ t r || isT t r) = false by unfold isZ isT; rw [e0]; rfl)
      go_enter Tryz.func43, Tryz.ntmps43
      go_wp2_with fail
      refine (onode_any _ _ _).mono ?_
      rw [HRB.out]
      rintro e w1 ⟨rfl, hb1⟩
      have HB1 := Lib.hid (HB.out.trans (hb1.mono (by simp; omega)))
      have x0 := (HT0.out.kept hb1).cell0
      have x1 := (HT0.out.kept hb1).cell1
      have y0 := (HT1.out.kept hb1).cell0
      have y1 := (HT1.out.kept hb1).cell1
      have z0 := (HT2.out.kept hb1).cell0
      have z1 := (HT2.out.kept hb1).cell1
      clear hb1
      go_wp2
      go_ret
      exact ⟨ret_b (HR.out.trans HV.out).symm, HB1.out⟩
end Go.Proofs.YtilkokhapcgolaaGreat
