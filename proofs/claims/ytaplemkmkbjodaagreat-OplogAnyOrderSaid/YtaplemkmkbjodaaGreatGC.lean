/-
  STAMPS: Right and Compare, the program's and the document's: what they answer, of any numbers; nothing below the call's own memory turns.
  No conditions.
  PUT and TAKE of stamps (without stage 2's texts of clocks and of reading texts).
  No conditions.
  PLAIN MATHEMATICS of layer 4 (poskey): keys as fractions, the key between two, rows of keys: lists of bytes alone; no program, no world.
  No conditions.
  MAY A KEY BE (the program's Right).
  No conditions but sizes.
  PLAIN MATHEMATICS of layer 5 (queue): the order of items, heaps in lists, rising rows: lists of integers alone; no program, no world.
  No conditions.
  MEMORY of layer 5: what a call turns ('Turns F': blocks of F, and new ones), rows of stamps and of items, the row under a heap.
  No conditions but sizes.
-/
import Derived.Test.YtaplemkmkbjodaaGreatGB
import Derived.Deep.RegionWith
import Derived.Lib.SmallJoins
import Derived.Deep.DeepCutAuto
import Derived.Lib.Bytes
import Derived.Lib.Bytealg
import Derived.Lib.Small
import Derived.Test.YtaplemkmkbjodaaGreatGA
import Init
import Derived.Laws.OwnMore
namespace Go.Proofs.YtaplemkmkbjodaaGreat
open Go.RowKit

/-- a stamp as a value -/
def stv (t r : Int) : Value := .agg #[.int .i64 t, .int .i64 r]
/-- may it be? -/
def rightB (t r : Int) : Bool := decide (0 ≤ t ∧ t ≤ 1099511627776 ∧ 0 ≤ r ∧ r ≤ 15)
theorem rightB_yes {t r : Int} (h : rightB t r = true) : 0 ≤ t ∧ t ≤ 1099511627776 ∧ 0 ≤ r ∧ r ≤ 15 := of_decide_eq_true h
theorem rightB_no {t r : Int} (h : rightB t r = false) : ¬ (0 ≤ t ∧ t ≤ 1099511627776 ∧ 0 ≤ r ∧ r ≤ 15) := of_decide_eq_false h
/-- how they stand -/
def cmpS (t r t' r' : Int) : Int := if t = t' then (if r = r' then 0 else if r < r' then -1 else 1) else if t < t' then -1 else 1

set_option maxRecDepth 100000 in
set_option maxHeartbeats 1000000 in
theorem right_any (t r : Int) (w : World) :
    Calls Tryz.prog 115 #[.agg #[.int .i64 t, .int .i64 r]] w fun e w' => e = .returned (.bool (rightB t r)) ∧ Below w.heap.size w w' := by
  have hb := (Below.refl w.heap.size w).alloc (Nat.le_refl _) (.cells #[.int .i64 t, .int .i64 r] 50)
  have HB := Lib.hid hb
  clear hb
  by_cases h0 : 0 ≤ t
  · by_cases h1 : t ≤ 1099511627776
    · by_cases h2 : 0 ≤ r
      · by_cases h3 : r ≤ 15
        · have HR := Lib.hid (show rightB t r = true from decide_eq_true ⟨h0, h1, h2, h3⟩)
          go_enter Tryz.func115, Tryz.ntmps115
          go_wp2
          go_ret
          rw [HR.out]
          exact ⟨rfl, HB.out⟩
        · have HR := Lib.hid (show rightB t r = false from decide_eq_false (fun h => h3 h.2.2.2))
          have d3 : decide (r ≤ 15) = false := decide_eq_false h3
          go_enter Tryz.func115, Tryz.ntmps115
          go_wp2
          go_ret
          rw [HR.out]
          exact ⟨rfl, HB.out⟩
      · have HR := Lib.hid (show rightB t r = false from decide_eq_false (fun h => h2 h.2.2.1))
        have d3 : decide (0 ≤ r) = false := decide_eq_false h2
        go_enter Tryz.func115, Tryz.ntmps115
        go_wp2
        go_ret
        rw [HR.out]
        exact ⟨rfl, HB.out⟩
    · have HR := Lib.hid (show rightB t r = false from decide_eq_false (fun h => h1 h.2.1))
      have d3 : decide (t ≤ 1099511627776) = false := decide_eq_false h1
      go_enter Tryz.func115, Tryz.ntmps115
      go_wp2
      go_ret
      rw [HR.out]
      exact ⟨rfl, HB.out⟩
  · have HR := Lib.hid (show rightB t r = false from decide_eq_false (fun h => h0 h.1))
    have d3 : decide (0 ≤ t) = false := decide_eq_false h0
    go_enter Tryz.func115, Tryz.ntmps115
    go_wp2
    go_ret
    rw [HR.out]
    exact ⟨rfl, HB.out⟩

set_option maxRecDepth 100000 in
set_option maxHeartbeats 1000000 in
theorem compare_any (t r t' r' : Int) (w : World) :
    Calls Tryz.prog 76 #[.agg #[.int .i64 t, .int .i64 r], .agg #[.int .i64 t', .int .i64 r']] w fun e w' => e = .returned (.int .i64 (cmpS t r t' r')) ∧ Below w.heap.size w w' := by
  have hb := ((Below.refl w.heap.size w).alloc (Nat.le_refl _) (.cells #[.int .i64 t, .int .i64 r] 50)).alloc (by simp) (.cells #[.int .i64 t', .int .i64 r'] 50)
  have HB := Lib.hid hb
  clear hb
  by_cases h0 : t = t'
  · subst h0
    by_cases h1 : r = r'
    · subst h1
      have HR := Lib.hid (show cmpS t r t r = 0 from by simp [cmpS])
      go_enter Tryz.func76, Tryz.ntmps76
      go_wp2
      go_ret
      rw [HR.out]
      exact ⟨rfl, HB.out⟩
    · have e1 : ((r == r') : Bool) = false := by simpa using h1
      by_cases h2 : r < r'
      · have HR := Lib.hid (show cmpS t r t r' = -1 from by simp [cmpS, h1, h2])
        go_enter Tryz.func76, Tryz.ntmps76
        go_wp2
        go_ret
        rw [HR.out]
        exact ⟨rfl, HB.out⟩
      · have d2 : decide (r < r') = false := decide_eq_false h2
        have HR := Lib.hid (show cmpS t r t r' = 1 from by simp [cmpS, h1, h2])
        go_enter Tryz.func76, Tryz.ntmps76
        go_wp2
        go_ret
        rw [HR.out]
        exact ⟨rfl, HB.out⟩
  · have e1 : ((t == t') : Bool) = false := by simpa using h0
    by_cases h2 : t < t'
    · have HR := Lib.hid (show cmpS t r t' r' = -1 from by simp [cmpS, h0, h2])
      go_enter Tryz.func76, Tryz.ntmps76
      go_wp2
      go_ret
      rw [HR.out]
      exact ⟨rfl, HB.out⟩
    · have d2 : decide (t < t') = false := decide_eq_false h2
      have HR := Lib.hid (show cmpS t r t' r' = 1 from by simp [cmpS, h0, h2])
      go_enter Tryz.func76, Tryz.ntmps76
      go_wp2
      go_ret
      rw [HR.out]
      exact ⟨rfl, HB.out⟩

end Go.Proofs.YtaplemkmkbjodaaGreat

namespace Go.Proofs.YtaplemkmkbjodaaGreat
open Go.RowKit

theorem Only.of_below {b : Nat} {w w' : World} (h : Below w.heap.size w w') : Only b w w' := ⟨h.os, h.tape, h.output, h.size, fun i hi _ => h.block i hi⟩

/-- a stamp's bytes, the error -/
def putW (t r : Int) : List UInt8 × Nat := if rightB t r = true then (Wm.numB t.toNat ++ Wm.numB r.toNat, 0) else ([], 1)

set_option maxRecDepth 100000 in
set_option maxHeartbeats 1000000 in
theorem put_any (t r : Int) (w : World) : Calls Tryz.prog 97 #[.agg #[.int .i64 t, .int .i64 r]] w (Wrote 5 w (putW t r)) := by
  obtain ⟨i0, hi, hz0, hz1, hz2⟩ := info_parts info_u8
  have hb := (Below.refl w.heap.size w).alloc (Nat.le_refl _) (.cells #[.int .i64 t, .int .i64 r] 50)
  have HB := Lib.hid hb
  cases hR : rightB t r with
  | false =>
    have HR := Lib.hid (show putW t r = ([], 1) by unfold putW; rw [if_neg (by simp [hR])])
    have HRB := Lib.hid hR
    clear hR hb
    go_enter Tryz.func97, Tryz.ntmps97
    go_wp2_with fail
    refine (right_any t r _).mono ?_
    rw [HRB.out]
    rintro e w1 ⟨rfl, hb1⟩
    have HB1 := Lib.hid (HB.out.trans (hb1.mono (by simp)))
    clear hb1
    go_wp2
    go_ret2
    rw [HR.out]
    exact ⟨_, rfl, Own.nil _ _ _, HB1.out⟩
  | true =>
    obtain ⟨h0, h1, h2, h3⟩ := rightB_yes hR
    have HR := Lib.hid (show putW t r = (Wm.numB t.toNat ++ Wm.numB r.toNat, 0) by unfold putW; rw [if_pos hR])
    have HRB := Lib.hid hR
    have HN1 := Lib.hid (show numW t = (Wm.numB t.toNat, 0) by unfold numW; rw [if_pos (by omega)])
    have HN2 := Lib.hid (show numW r = (Wm.numB r.toNat, 0) by unfold numW; rw [if_pos (by omega)])
    have s1 := numB_small t.toNat
    have s2 := numB_small r.toNat
    generalize Wm.numB t.toNat = x at *
    generalize Wm.numB r.toNat = y at *
    clear hR hb h0 h1 h2 h3
    go_enter Tryz.func97, Tryz.ntmps97
    go_wp2_with fail
    refine (right_any t r _).mono ?_
    rw [HRB.out]
    rintro e w1 ⟨rfl, hb1⟩
    have c0 := hb1.cell (p := ⟨w.heap.size, 0, none⟩) (by simp)
    have c1 := hb1.cell (p := ⟨w.heap.size, 1, none⟩) (by simp)
    rw [World.cell?_alloc_at _ _ _ _ rfl] at c0 c1
    have c0' : w1.cell? ⟨w.heap.size, 0, none⟩ = some (.int .i64 t) := c0
    have c1' : w1.cell? ⟨w.heap.size, 1, none⟩ = some (.int .i64 r) := c1
    have HB1 := Lib.hid (HB.out.trans (hb1.mono (by simp)))
    have hl1 : w.heap.size < w1.heap.size := cell_lt c0'
    clear hb1 c0 c1
    go_wp2_with fail
    refine (num_any t _).mono ?_
    rw [HN1.out]
    rintro e w2 ⟨v2, rfl, hown2, hb2⟩
    dsimp only at hown2
    have c1 := (hb2.cell (p := ⟨w.heap.size, 1, none⟩) hl1).trans c1'
    have HO2 := Lib.hid (hown2.base (Nat.le_of_lt hl1))
    have HB2 := Lib.hid (HB1.out.trans (hb2.mono (Nat.le_of_lt hl1)))
    obtain ⟨p2, k2, rfl, -⟩ := hown2.bs
    have hs2 := hb2.size
    clear hown2 hb2 c0' c1'
    go_wp2_with fail
    refine (num_any r _).mono ?_
    rw [HN2.out]
    rintro e w3 ⟨v3, rfl, hown3, hb3⟩
    dsimp only at hown3
    obtain ⟨p3, k3, rfl, hbs3, -, -, hpn3, -⟩ := hown3.bs
    have HO3 := Lib.hid (HO2.out.below hb3)
    have HBS := Lib.hid hbs3
    have HB3 := Lib.hid (HB2.out.trans (hb3.mono (by omega)))
    have hs3 : w.heap.size ≤ w3.heap.size := HB3.out.size
    clear hown3 hbs3 hb3
    go_wp2_with (at_builtin; refine wpList_append_bs rfl _ _ 103 rfl w.heap.size 5 i0 Tryz.underlying103 hi hz0 hz1 hz2 _ x rfl HO3.out p3 k3 y rfl HBS.out hpn3 ?b0 ?b1 ?_)
    case b0 => omega
    case b1 => exact hs3
    intro v4 w4 hown4 hbel4 hgrow4 hnil4
    clear hgrow4 hnil4
    have HO4 := Lib.hid (show Own 5 w4 w.heap.size v4 (x ++ y) from hown4)
    have HB4 := Lib.hid (HB3.out.trans hbel4)
    clear hown4 hbel4
    go_wp2
    go_ret2
    rw [HR.out]
    exact ⟨_, rfl, HO4.out, HB4.out⟩

/-- what Take answers: the stamp, what is left, the error -/
def takeR (l : List UInt8) : Int × Int × List UInt8 × Nat :=
  if (uptoR l 1099511627776).2.2 ≠ 0 then (0, 0, (uptoR l 1099511627776).2.1, (uptoR l 1099511627776).2.2)
  else if (uptoR (uptoR l 1099511627776).2.1 15).2.2 ≠ 0 then (0, 0, (uptoR (uptoR l 1099511627776).2.1 15).2.1, (uptoR (uptoR l 1099511627776).2.1 15).2.2)
  else ((uptoR l 1099511627776).1, (uptoR (uptoR l 1099511627776).2.1 15).1, (uptoR (uptoR l 1099511627776).2.1 15).2.1, 0)

theorem Rdr.lt {w : World} {B b : Nat} {l : List UInt8} {err : Nat} (h : Rdr w B b l err) : b < w.heap.size := by
  obtain ⟨-, h1, -⟩ := h
  exact cell_lt h1
/-- block k holds two integers: no bytes -/
def TwoAt (w : World) (k : Nat) (x y : Int) : Prop := w.heap[k]? = some (.cells #[.int .i64 x, .int .i64 y] 50 (0, 0))
theorem TwoAt.size {w : World} {k : Nat} {x y : Int} (h : TwoAt w k x y) : k < w.heap.size := (Array.getElem?_eq_some_iff.1 h).1
theorem TwoAt.cell0 {w : World} {k : Nat} {x y : Int} (h : TwoAt w k x y) : w.cell? ⟨k, 0, none⟩ = some (.int .i64 x) := by rw [Go.Joins.cell_of_block h]; rfl
theorem TwoAt.cell1 {w : World} {k : Nat} {x y : Int} (h : TwoAt w k x y) : w.cell? ⟨k, 1, none⟩ = some (.int .i64 y) := by rw [Go.Joins.cell_of_block h]; rfl
theorem TwoAt.free {w : World} {k : Nat} {x y : Int} (h : TwoAt w k x y) (o : Nat) : w.frozen? ⟨k, o, none⟩ = false := Go.Joins.unfrozen_of_block h o
theorem TwoAt.start (w : World) (x y : Int) : TwoAt (w.alloc (.cells #[.int .i64 x, .int .i64 y] 50)) w.heap.size x y := by
  unfold TwoAt
  show (w.heap.push _)[w.heap.size]? = _
  simp
theorem TwoAt.only {w w' : World} {k b : Nat} {x y : Int} (h : TwoAt w k x y) (ho : Only b w w') (hne : k ≠ b) : TwoAt w' k x y := (ho.block k h.size (by simpa using hne)).trans h
theorem TwoAt.kept {w w' : World} {k : Nat} {x y : Int} (h : TwoAt w k x y) (hb : Below w.heap.size w w') : TwoAt w' k x y := (hb.block k h.size).trans h
theorem TwoAt.set {w : World} {k : Nat} {x y : Int} (h : TwoAt w k x y) (x' y' : Int) : TwoAt ((w.setCell ⟨k, 0, none⟩ (.int .i64 x')).setCell ⟨k, 1, none⟩ (.int .i64 y')) k x' y' := by
  have h1 := Go.Joins.block_setCell h (i := 0) (.int .i64 x')
  have h2 := Go.Joins.block_setCell h1 (i := 1) (.int .i64 y')
  exact h2
theorem Bs.two {w : World} {p : Option Addr} {l : List UInt8} {k : Nat} {x y : Int} (h : Bs w p l) (hk : TwoAt w k x y) (o : Nat) (v : Value) : Bs (w.setCell ⟨k, o, none⟩ v) p l := by
  intro h0
  obtain ⟨b', o', rfl, hc⟩ := h h0
  refine ⟨b', o', rfl, fun i hi => ?_⟩
  have hne : b' ≠ k := by
    rintro rfl
    have := hc i hi
    rw [Go.Joins.cell_of_block hk] at this
    match o' + i, this with
    | 0, this => simp at this
    | 1, this => simp at this
    | n + 2, this => simp at this
  rw [cell_other (by intro e; injection e with e1; exact hne e1.symm)]
  exact hc i hi
theorem Rdr.two {w : World} {B b k : Nat} {l : List UInt8} {err : Nat} {x y : Int} (h : Rdr w B b l err) (hk : TwoAt w k x y) (hne : k ≠ b) (o : Nat) (v : Value) : Rdr (w.setCell ⟨k, o, none⟩ v) B b l err := by
  obtain ⟨h0, h1, h2, h3, h4, h5, p, c, h6, h7, h8, h9, h10⟩ := h
  refine ⟨h0, ?_, ?_, by simpa using h3, by simpa using h4, h5, p, c, ?_, h7.two hk _ _, h8, h9, h10⟩
  · rw [cell_other (by intro e; injection e with e1; exact hne e1)]; exact h1
  · rw [cell_other (by intro e; injection e with e1; exact hne e1)]; exact h2
  · rw [cell_other (by intro e; injection e with e1; exact hne e1)]; exact h6
theorem Rdr.setTwo {w : World} {B b k : Nat} {l : List UInt8} {err : Nat} {x y : Int} (h : Rdr w B b l err) (hk : TwoAt w k x y) (hne : k ≠ b) (x' y' : Int) : Rdr ((w.setCell ⟨k, 0, none⟩ (.int .i64 x')).setCell ⟨k, 1, none⟩ (.int .i64 y')) B b l err := by
  have hk2 : TwoAt (w.setCell ⟨k, 0, none⟩ (.int .i64 x')) k x' y := Go.Joins.block_setCell hk (i := 0) (.int .i64 x')
  exact (h.two hk hne 0 _).two hk2 hne 1 _

theorem TwoAt.read {w : World} {k : Nat} {x y : Int} (h : TwoAt w k x y) (x' y' : Int) : (w.setCell ⟨k, 0, none⟩ (.int .i64 x')).cell? ⟨k, 0, none⟩ = some (.int .i64 x') ∧ ((w.setCell ⟨k, 0, none⟩ (.int .i64 x')).setCell ⟨k, 1, none⟩ (.int .i64 y')).cell? ⟨k, 1, none⟩ = some (.int .i64 y') :=
  ⟨cell_same h.cell0, (h.set x' y').cell1⟩
theorem Only.setFar {b k : Nat} {w0 w : World} (h : Only b w0 w) (hk : w0.heap.size ≤ k) (o o' : Nat) (v v' : Value) : Only b w0 ((w.setCell ⟨k, o, none⟩ v).setCell ⟨k, o', none⟩ v') := by
  have h1 := h.trans (Only.refl b w)
  refine ⟨h.os, h.tape, h.output, by simpa [World.setCell] using h.size, fun i hi hn => ?_⟩
  rw [Below.heap_setCell _ _ _ _ (by simp; omega), Below.heap_setCell _ _ _ _ (by simp; omega)]
  exact h.block i hi hn

end Go.Proofs.YtaplemkmkbjodaaGreat

namespace Go.Proofs.YtaplemkmkbjodaaGreat.Km

/-- byte i of a list, as a number; 0 behind its end -/
def dg (l : List UInt8) (i : Nat) : Nat := (l.getD i 0).toNat
theorem dg_lt (l : List UInt8) (i : Nat) : dg l i < 256 := (l.getD i 0).toNat_lt
theorem dg_get (l : List UInt8) (i : Nat) (h : i < l.length) : dg l i = l[i].toNat := by simp [dg, List.getD, List.getElem?_eq_getElem h]
theorem dg_end (l : List UInt8) (i : Nat) (h : l.length ≤ i) : dg l i = 0 := by simp [dg, List.getD, List.getElem?_eq_none h]
theorem dg_zero (c : UInt8) (l : List UInt8) : dg (c :: l) 0 = c.toNat := by simp [dg]
theorem dg_succ (c : UInt8) (l : List UInt8) (i : Nat) : dg (c :: l) (i + 1) = dg l i := by simp [dg]
theorem dg_nil (i : Nat) : dg [] i = 0 := by simp [dg]
theorem dg_drop (l : List UInt8) (n i : Nat) : dg (l.drop n) i = dg l (n + i) := by simp [dg, List.getD]
theorem dg_pos {l : List UInt8} {i : Nat} (h : 0 < dg l i) : i < l.length := by
  apply Classical.byContradiction
  intro hn
  rw [dg_end l i (by omega)] at h
  omega

/-- the order of fractions, digit by digit -/
def fracLt (f g : Nat → Nat) : Prop := ∃ i, (∀ k, k < i → f k = g k) ∧ f i < g i

theorem first_of {p : Nat → Prop} (i : Nat) (h : p i) : ∃ j, j ≤ i ∧ p j ∧ ∀ k, k < j → ¬ p k := by
  induction i using Nat.strongRecOn with
  | _ i ih =>
    by_cases hk : ∃ k, k < i ∧ p k
    · obtain ⟨k, hk, hp⟩ := hk
      obtain ⟨j, hj, h1, h2⟩ := ih k hk hp
      exact ⟨j, by omega, h1, h2⟩
    · exact ⟨i, Nat.le_refl _, h, fun k hk' hp => hk ⟨k, hk', hp⟩⟩

theorem fracLt_of_first {f g : Nat → Nat} (i : Nat) (hi : f i ≠ g i) (h : ∀ k, k ≤ i → (∀ m, m < k → f m = g m) → f k ≠ g k → f k < g k) : fracLt f g := by
  obtain ⟨j, hj, h1, h2⟩ := first_of (p := fun k => f k ≠ g k) i hi
  have h3 : ∀ m, m < j → f m = g m := fun m hm => Classical.byContradiction fun hn => h2 m hm hn
  exact ⟨j, h3, h j hj h3 h1⟩

theorem fracLt_le {f f' g : Nat → Nat} (hl : ∀ k, f' k ≤ f k) (h : fracLt f g) : fracLt f' g := by
  obtain ⟨i, he, hi⟩ := h
  have h0 := hl i
  refine fracLt_of_first i (by omega) fun k hk hm hne => ?_
  have h1 := hl k
  by_cases hki : k = i
  · subst hki; omega
  · have := he k (by omega); omega

theorem fracLt_asymm {f g : Nat → Nat} (h : fracLt f g) (h' : fracLt g f) : False := by
  obtain ⟨i, he, hi⟩ := h
  obtain ⟨j, he', hj⟩ := h'
  rcases Nat.lt_trichotomy i j with hl | rfl | hl
  · have := he' i hl; omega
  · omega
  · have := he j hl; omega
theorem fracLt_trans {f g h : Nat → Nat} (a : fracLt f g) (b : fracLt g h) : fracLt f h := by
  obtain ⟨i, he, hi⟩ := a
  obtain ⟨j, he', hj⟩ := b
  refine ⟨min i j, fun k hk => ?_, ?_⟩
  · have h1 := he k (by omega); have h2 := he' k (by omega); omega
  · rcases Nat.lt_trichotomy i j with hl | rfl | hl
    · rw [Nat.min_eq_left (by omega)]; have := he' i hl; omega
    · rw [Nat.min_self]; omega
    · rw [Nat.min_eq_right (by omega)]; have := he j hl; omega

/-- the order of texts -/
theorem less_iff : ∀ (a b : List UInt8), Op.bytesLess a b = true ↔ ∃ i, i < b.length ∧ i ≤ a.length ∧ (∀ k, k < i → dg a k = dg b k) ∧ (i = a.length ∨ dg a i < dg b i)
  | a, [] => by simp [Op.bytesLess]
  | [], c :: b => by
    simp only [Op.bytesLess, true_iff]
    exact ⟨0, by simp, by simp, fun k hk => absurd hk (Nat.not_lt_zero _), Or.inl rfl⟩
  | d :: a, c :: b => by
    have ih := less_iff a b
    simp only [Op.bytesLess, Bool.or_eq_true, decide_eq_true_eq, Bool.and_eq_true, beq_iff_eq]
    constructor
    · rintro (h | ⟨rfl, h⟩)
      · refine ⟨0, by simp, by simp, fun k hk => absurd hk (Nat.not_lt_zero _), Or.inr ?_⟩
        rw [dg_zero, dg_zero]; exact h
      · obtain ⟨i, h1, h2, h3, h4⟩ := ih.1 h
        refine ⟨i + 1, by simpa using h1, by simpa using h2, fun k hk => ?_, ?_⟩
        · cases k with
          | zero => rw [dg_zero, dg_zero]
          | succ k => rw [dg_succ, dg_succ]; exact h3 k (by omega)
        · rw [dg_succ, dg_succ]; simpa using h4
    · rintro ⟨i, h1, h2, h3, h4⟩
      cases i with
      | zero =>
        rw [dg_zero, dg_zero] at h4
        rcases h4 with h4 | h4
        · simp at h4
        · exact Or.inl h4
      | succ i =>
        have e := h3 0 (by omega)
        rw [dg_zero, dg_zero] at e
        refine Or.inr ⟨UInt8.toNat_inj.1 e, ih.2 ⟨i, by simpa using h1, by simpa using h2, fun k hk => ?_, ?_⟩⟩
        · have := h3 (k + 1) (by omega)
          rwa [dg_succ, dg_succ] at this
        · rw [dg_succ, dg_succ] at h4; simpa using h4

/-- what is ahead as a fraction is ahead as a text -/
theorem less_of_frac {a b : List UInt8} (h : fracLt (dg a) (dg b)) : Op.bytesLess a b = true := by
  obtain ⟨i, he, hi⟩ := h
  have hb : i < b.length := dg_pos (by omega)
  rw [less_iff]
  by_cases ha : i ≤ a.length
  · exact ⟨i, hb, ha, he, Or.inr hi⟩
  · exact ⟨a.length, by omega, Nat.le_refl _, fun k hk => he k (by omega), Or.inl rfl⟩
/-- and the other way round, where the greater one does not end in 0 -/
theorem frac_of_less {a b : List UInt8} (h : Op.bytesLess a b = true) (hb : 0 < dg b (b.length - 1)) : fracLt (dg a) (dg b) := by
  obtain ⟨i, h1, h2, h3, h4⟩ := (less_iff a b).1 h
  rcases h4 with h4 | h4
  · subst h4
    refine fracLt_of_first (b.length - 1) (by rw [dg_end a _ (by omega)]; omega) fun k hk hm hne => ?_
    have : a.length ≤ k := Classical.byContradiction fun hn => hne (h3 k (by omega))
    rw [dg_end a k this] at hne ⊢
    omega
  · exact ⟨i, h3, h4⟩

theorem dg_ext : ∀ (a b : List UInt8), a.length = b.length → (∀ k, k < a.length → dg a k = dg b k) → a = b
  | [], [], _, _ => rfl
  | [], _ :: _, h, _ => by simp at h
  | _ :: _, [], h, _ => by simp at h
  | c :: a, d :: b, h, hk => by
    have h0 := hk 0 (by simp)
    rw [dg_zero, dg_zero] at h0
    rw [UInt8.toNat_inj.1 h0, dg_ext a b (by simpa using h) fun k hk' => by
      have := hk (k + 1) (by simpa using hk')
      rwa [dg_succ, dg_succ] at this]

/-- what strings.Compare answers -/
theorem compare_less : ∀ (a b : List UInt8), Lib.compareBytes a b = if a = b then 0 else if Op.bytesLess a b = true then -1 else 1
  | [], [] => by simp [Lib.compareBytes]
  | [], c :: b => by simp [Lib.compareBytes, Op.bytesLess]
  | c :: a, [] => by simp [Lib.compareBytes, Op.bytesLess]
  | c :: a, d :: b => by
    have ih := compare_less a b
    simp only [Lib.compareBytes, Op.bytesLess]
    by_cases h1 : c < d
    · rw [if_pos h1]
      have : ¬ c = d := by rintro rfl; exact absurd h1 (UInt8.lt_irrefl c)
      simp [h1, this]
    · rw [if_neg h1]
      by_cases h2 : d < c
      · rw [if_pos h2]
        have : ¬ c = d := by rintro rfl; exact absurd h2 (UInt8.lt_irrefl c)
        simp [h1, this]
      · rw [if_neg h2]
        have : c = d := UInt8.le_antisymm (UInt8.not_lt.1 h2) (UInt8.not_lt.1 h1)
        subst this
        rw [ih]
        simp [h1]
theorem less_irrefl : ∀ a : List UInt8, Op.bytesLess a a = false
  | [] => rfl
  | c :: a => by simp [Op.bytesLess, less_irrefl a, UInt8.lt_irrefl]
theorem less_total : ∀ a b : List UInt8, a ≠ b → Op.bytesLess a b = false → Op.bytesLess b a = true
  | [], [], h, _ => absurd rfl h
  | [], _ :: _, _, h => by simp [Op.bytesLess] at h
  | _ :: _, [], _, _ => by simp [Op.bytesLess]
  | c :: a, d :: b, hne, h => by
    simp only [Op.bytesLess, Bool.or_eq_false_iff, decide_eq_false_iff_not, Bool.and_eq_false_iff, beq_eq_false_iff_ne] at h
    simp only [Op.bytesLess, Bool.or_eq_true, decide_eq_true_eq, Bool.and_eq_true, beq_iff_eq]
    obtain ⟨h1, h2⟩ := h
    by_cases e : c = d
    · subst e
      refine Or.inr ⟨rfl, less_total a b (fun e => hne (by rw [e])) ?_⟩
      rcases h2 with h2 | h2
      · exact absurd rfl h2
      · exact h2
    · exact Or.inl (Classical.byContradiction fun h3 => e (UInt8.le_antisymm (UInt8.not_lt.1 h3) (UInt8.not_lt.1 h1)))
theorem less_trans : ∀ a b c : List UInt8, Op.bytesLess a b = true → Op.bytesLess b c = true → Op.bytesLess a c = true
  | _, [], _, h, _ => by simp [Op.bytesLess] at h
  | _, _ :: _, [], _, h => by simp [Op.bytesLess] at h
  | [], _ :: _, _ :: _, _, _ => by simp [Op.bytesLess]
  | x :: a, y :: b, z :: c, h, k => by
    have ih := less_trans a b c
    simp only [Op.bytesLess, Bool.or_eq_true, decide_eq_true_eq, Bool.and_eq_true, beq_iff_eq] at *
    rcases h with h | ⟨rfl, h⟩ <;> rcases k with k | ⟨rfl, k⟩
    · exact Or.inl (UInt8.lt_trans h k)
    · exact Or.inl h
    · exact Or.inl k
    · exact Or.inr ⟨rfl, ih h k⟩
theorem less_asymm (a b : List UInt8) (h : Op.bytesLess a b = true) : Op.bytesLess b a = false := by
  cases k : Op.bytesLess b a
  · rfl
  · have := less_trans a b a h k
    rw [less_irrefl] at this; cases this

/-- the order of two texts, place by place -/
theorem cmp_lt {a b : List UInt8} {k : Nat} (h2 : k < b.length) (he : ∀ m, m < k → dg a m = dg b m) (h1 : k ≤ a.length) (hl : k = a.length ∨ dg a k < dg b k) : Lib.compareBytes a b = -1 := by
  have h : Op.bytesLess a b = true := (less_iff a b).2 ⟨k, h2, h1, he, hl⟩
  rw [compare_less, if_neg (by rintro rfl; rw [less_irrefl] at h; cases h), if_pos h]
theorem cmp_gt {a b : List UInt8} {k : Nat} (h2 : k < a.length) (he : ∀ m, m < k → dg a m = dg b m) (h1 : k ≤ b.length) (hl : k = b.length ∨ dg b k < dg a k) : Lib.compareBytes a b = 1 := by
  have h : Op.bytesLess b a = true := (less_iff b a).2 ⟨k, h2, h1, fun m hm => (he m hm).symm, hl⟩
  rw [compare_less, if_neg (by rintro rfl; rw [less_irrefl] at h; cases h), if_neg (by rw [less_asymm b a h]; simp)]
theorem cmp_eq {a b : List UInt8} (hl : a.length = b.length) (he : ∀ m, m < a.length → dg a m = dg b m) : Lib.compareBytes a b = 0 := by
  rw [compare_less, if_pos (dg_ext a b hl he)]
theorem cmp_neg (a b : List UInt8) : Lib.compareBytes b a = - Lib.compareBytes a b := by
  rw [compare_less, compare_less]
  by_cases h : a = b
  · subst h; simp
  · rw [if_neg h, if_neg (fun e => h e.symm)]
    cases k : Op.bytesLess a b
    · rw [if_pos (less_total a b h k)]; simp
    · rw [less_asymm a b k]; simp
theorem cmp_less (a b : List UInt8) : Lib.compareBytes a b < 0 ↔ Op.bytesLess a b = true := by
  rw [compare_less]
  by_cases h : a = b
  · subst h; simp [less_irrefl]
  · rw [if_neg h]
    cases k : Op.bytesLess a b <;> simp
theorem cmp_zero (a b : List UInt8) : Lib.compareBytes a b = 0 ↔ a = b := by
  rw [compare_less]
  by_cases h : a = b
  · subst h; simp
  · rw [if_neg h]
    cases k : Op.bytesLess a b <;> simp [h]

/-- may a key be? -/
def rightB (k : List UInt8) : Bool := @decide (1 ≤ k.length ∧ k.length ≤ 24 ∧ 0 < dg k (k.length - 1)) inferInstance
theorem rightB_iff (k : List UInt8) : rightB k = true ↔ 1 ≤ k.length ∧ k.length ≤ 24 ∧ 0 < dg k (k.length - 1) := by simp [rightB]
/-- may there be keys between two ends? -/
def endsB (a b : List UInt8) : Bool := @decide ((a = [] ∨ rightB a = true) ∧ (b = [] ∨ rightB b = true) ∧ (a = [] ∨ b = [] ∨ Op.bytesLess a b = true)) inferInstance
theorem endsB_iff (a b : List UInt8) : endsB a b = true ↔ (a = [] ∨ rightB a = true) ∧ (b = [] ∨ rightB b = true) ∧ (a = [] ∨ b = [] ∨ Op.bytesLess a b = true) := by simp [endsB]

theorem ends_frac {a b : List UInt8} (h : endsB a b = true) (hb : b ≠ []) : 0 < dg b (b.length - 1) ∧ b.length ≤ 24 ∧ fracLt (dg a) (dg b) := by
  obtain ⟨-, h2, h3⟩ := (endsB_iff a b).1 h
  have h4 : rightB b = true := h2.elim (fun h => absurd h hb) id
  obtain ⟨k1, k2, k3⟩ := (rightB_iff b).1 h4
  refine ⟨k3, k2, ?_⟩
  rcases h3 with h3 | h3 | h3
  · subst h3
    exact frac_of_less (by cases b with | nil => exact absurd rfl hb | cons c b => rfl) k3
  · exact absurd h3 hb
  · exact frac_of_less h3 k3
theorem ends_len {a b : List UInt8} (h : endsB a b = true) : a.length ≤ 24 ∧ b.length ≤ 24 := by
  obtain ⟨h1, h2, -⟩ := (endsB_iff a b).1 h
  constructor
  · rcases h1 with rfl | h1
    · simp
    · exact ((rightB_iff a).1 h1).2.1
  · rcases h2 with rfl | h2
    · simp
    · exact ((rightB_iff b).1 h2).2.1

/-- a key's first bytes, zeros behind it -/
def low (a : List UInt8) : List UInt8 := a ++ List.replicate (24 - a.length) 0
theorem low_length (a : List UInt8) (h : a.length ≤ 24) : (low a).length = 24 := by simp [low]; omega
theorem dg_low (a : List UInt8) (i : Nat) : dg (low a) i = dg a i := by
  unfold low dg
  congr 1
  simp only [List.getD]
  by_cases h : i < a.length
  · rw [List.getElem?_append_left h]
  · rw [List.getElem?_append_right (by omega), List.getElem?_eq_none (by omega : a.length ≤ i)]
    by_cases h' : i - a.length < 24 - a.length
    · rw [List.getElem?_eq_getElem (by simpa using h')]; simp
    · rw [List.getElem?_eq_none (by simp; omega)]
theorem dg_take (l : List UInt8) (n i : Nat) (h : i < n) : dg (l.take n) i = dg l i := by simp [dg, List.getD, h]
theorem dg_app_l (l m : List UInt8) (i : Nat) (h : i < l.length) : dg (l ++ m) i = dg l i := by simp [dg, List.getD, List.getElem?_append_left h]
theorem dg_app_r (l m : List UInt8) (i : Nat) (h : l.length ≤ i) : dg (l ++ m) i = dg m (i - l.length) := by simp [dg, List.getD, List.getElem?_append_right h]

/-- is what stands ahead of place n the beginning of b? -/
def headB (a b : List UInt8) (n : Nat) : Bool := Lib.hasPrefix b ((low a).take n)
theorem headB_iff (a b : List UInt8) (n : Nat) (ha : a.length ≤ 24) (hn : n ≤ 24) : headB a b n = true ↔ n ≤ b.length ∧ ∀ k, k < n → dg a k = dg b k := by
  have hl : ((low a).take n).length = n := by rw [List.length_take, low_length a ha]; omega
  unfold headB Lib.hasPrefix
  constructor
  · intro h
    have h : (low a).take n <+: b := by simpa using h
    obtain ⟨t, rfl⟩ := h
    refine ⟨by rw [List.length_append, hl]; omega, fun k hk => ?_⟩
    rw [dg_app_l _ _ _ (by omega), dg_take _ _ _ hk, dg_low]
  · rintro ⟨h1, h2⟩
    have : (low a).take n = b.take n := dg_ext _ _ (by rw [hl, List.length_take]; omega) fun k hk => by
      rw [hl] at hk
      rw [dg_take _ _ _ hk, dg_take _ _ _ hk, dg_low]; exact h2 k hk
    rw [this]
    simpa using List.take_prefix n b

/-- the greatest last byte at place n -/
def mo (a b : List UInt8) (n : Nat) : Nat := if b = [] ∨ headB a b n = false then 255 else if n + 1 < b.length then dg b n else dg b n - 1
theorem mo_le (a b : List UInt8) (n : Nat) : mo a b n ≤ 255 := by
  have := dg_lt b n
  unfold mo
  repeat' split
  all_goals omega
/-- is there a key with n + 1 bytes? -/
def okB (a b : List UInt8) (n : Nat) : Bool := @decide (dg a n + 1 ≤ mo a b n) inferInstance
theorem okB_iff (a b : List UInt8) (n : Nat) : okB a b n = true ↔ dg a n + 1 ≤ mo a b n := by simp [okB]
/-- the key with n + 1 bytes -/
def keyAt (a b : List UInt8) (n : Nat) : List UInt8 := (low a).take n ++ [UInt8.ofNat ((dg a n + 1 + mo a b n) / 2)]
/-- the key between, and the error's number: for ends that may be -/
def betwIn (a b : List UInt8) : List UInt8 × Int := match (List.range 24).find? (okB a b) with
  | some n => (keyAt a b n, 0)
  | none => ([], 32)
/-- the key between any two, and the error's number -/
def betw (a b : List UInt8) : List UInt8 × Int := if endsB a b = true then betwIn a b else ([], 1)

theorem betwIn_some {a b : List UInt8} {n : Nat} (hn : n < 24) (h : okB a b n = true) (h' : ∀ m, m < n → okB a b m = false) : betwIn a b = (keyAt a b n, 0) := by
  have : (List.range 24).find? (okB a b) = some n := by
    rw [List.find?_range_eq_some]
    exact ⟨h, by simpa using hn, fun j hj => by rw [h' j hj]; rfl⟩
  unfold betwIn
  rw [this]
theorem betwIn_none {a b : List UInt8} (h' : ∀ m, m < 24 → okB a b m = false) : betwIn a b = ([], 32) := by
  have : (List.range 24).find? (okB a b) = none := by
    rw [List.find?_range_eq_none]
    exact fun j hj => by rw [h' j hj]; rfl
  unfold betwIn
  rw [this]
theorem betwIn_cases (a b : List UInt8) : (∃ n, n < 24 ∧ okB a b n = true ∧ (∀ m, m < n → okB a b m = false) ∧ betwIn a b = (keyAt a b n, 0)) ∨ ((∀ m, m < 24 → okB a b m = false) ∧ betwIn a b = ([], 32)) := by
  by_cases h : ∃ n, n < 24 ∧ okB a b n = true
  · obtain ⟨n, hn, hk⟩ := h
    obtain ⟨j, hj, h1, h2⟩ := first_of (p := fun k => okB a b k = true) n hk
    have h3 : ∀ m, m < j → okB a b m = false := fun m hm => by simpa using h2 m hm
    exact Or.inl ⟨j, by omega, h1, h3, betwIn_some (by omega) h1 h3⟩
  · have h3 : ∀ m, m < 24 → okB a b m = false := fun m hm => by
      cases e : okB a b m
      · rfl
      · exact absurd ⟨m, hm, e⟩ h
    exact Or.inr ⟨h3, betwIn_none h3⟩

/-- the digits of what has n bytes as a has, then c -/
def fD (a : List UInt8) (n c : Nat) (k : Nat) : Nat := if k < n then dg a k else if k = n then c else 0

/-- THE STEP: with c as the last byte it is below b just if c is at most the greatest -/
theorem step_iff {a b : List UInt8} (he : endsB a b = true) (n c : Nat) (hn : n < 24) (hc : dg a n + 1 ≤ c) (hc2 : c ≤ 255) : (b = [] ∨ fracLt (fD a n c) (dg b)) ↔ c ≤ mo a b n := by
  by_cases hb : b = []
  · subst hb
    simp [mo]; omega
  · obtain ⟨g1, g2, g3⟩ := ends_frac he hb
    obtain ⟨la, -⟩ := ends_len he
    have hh := headB_iff a b n la (by omega)
    simp only [hb, false_or]
    unfold mo
    simp only [hb, false_or]
    by_cases hp : headB a b n = true
    · obtain ⟨p1, p2⟩ := hh.1 hp
      rw [if_neg (by simp [hp])]
      have hnb : n < b.length := by
        obtain ⟨i, e1, e2⟩ := g3
        have : n ≤ i := Classical.byContradiction fun hni => by have := p2 i (by omega); omega
        have := dg_pos (l := b) (i := i) (by omega)
        omega
      have feq : ∀ k, k < n → fD a n c k = dg b k := fun k hk => by unfold fD; rw [if_pos hk]; exact p2 k hk
      have fn : fD a n c n = c := by unfold fD; simp
      have fz : ∀ k, n < k → fD a n c k = 0 := fun k hk => by unfold fD; rw [if_neg (by omega), if_neg (by omega)]
      constructor
      · rintro ⟨i, e1, e2⟩
        rcases Nat.lt_trichotomy i n with hl | rfl | hl
        · have := feq i hl; omega
        · rw [fn] at e2
          split <;> omega
        · have := e1 n hl
          rw [fn] at this
          rw [fz i hl] at e2
          have := dg_pos e2
          rw [if_pos (by omega)]
          omega
      · intro hle
        by_cases hcn : c < dg b n
        · exact ⟨n, feq, by rw [fn]; exact hcn⟩
        · have hlen : n + 1 < b.length := Classical.byContradiction fun hni => by
            rw [if_neg hni] at hle
            omega
          rw [if_pos hlen] at hle
          have hcn' : c = dg b n := by omega
          refine fracLt_of_first (b.length - 1) (by rw [fz _ (by omega)]; omega) fun k hk hm hne => ?_
          rcases Nat.lt_trichotomy k n with hl | rfl | hl
          · exact absurd (feq k hl) hne
          · rw [fn] at hne; exact absurd hcn' hne
          · rw [fz k hl] at hne ⊢; omega
    · have hp' : headB a b n = false := by simpa using hp
      rw [if_pos hp']
      refine iff_of_true ?_ hc2
      obtain ⟨i, e1, e2⟩ := g3
      have hin : i < n := Classical.byContradiction fun hni => by
        have hbl := dg_pos (l := b) (i := i) (by omega)
        exact hp (hh.2 ⟨by omega, fun k hk => e1 k (by omega)⟩)
      exact ⟨i, fun k hk => by unfold fD; rw [if_pos (by omega)]; exact e1 k hk, by unfold fD; rw [if_pos hin]; exact e2⟩

/-- what has been carried over at an earlier place is not below b, if nothing fits there -/
theorem carried {a b : List UInt8} (he : endsB a b = true) (j : Nat) (hj : j < 24) (h : okB a b j = false) (h2 : dg a j < 255) (f : Nat → Nat) (hf : ∀ k, fD a j (dg a j + 1) k ≤ f k) : ¬ (b = [] ∨ fracLt f (dg b)) := by
  have h1 := step_iff he j (dg a j + 1) hj (Nat.le_refl _) (by omega)
  have h3 : ¬ (dg a j + 1 ≤ mo a b j) := by
    intro h4
    rw [(okB_iff a b j).2 h4] at h; cases h
  rintro (h4 | h4)
  · exact h3 (h1.1 (Or.inl h4))
  · exact h3 (h1.1 (Or.inr (fracLt_le hf h4)))

theorem dg_keyAt (a b : List UInt8) (n : Nat) (ha : a.length ≤ 24) (hn : n < 24) (k : Nat) : dg (keyAt a b n) k = fD a n ((dg a n + 1 + mo a b n) / 2) k := by
  have hl : ((low a).take n).length = n := by rw [List.length_take, low_length a ha]; omega
  have := mo_le a b n
  have := dg_lt a n
  unfold keyAt fD
  by_cases h : k < n
  · rw [if_pos h, dg_app_l _ _ _ (by omega), dg_take _ _ _ h, dg_low]
  · rw [if_neg h, dg_app_r _ _ _ (by omega), hl]
    by_cases h2 : k = n
    · subst h2
      rw [if_pos rfl, Nat.sub_self, dg_zero]
      simp; omega
    · rw [if_neg h2, show k - n = (k - n - 1) + 1 from by omega, dg_succ, dg_nil]
theorem keyAt_length (a b : List UInt8) (n : Nat) (ha : a.length ≤ 24) (hn : n < 24) : (keyAt a b n).length = n + 1 := by
  unfold keyAt
  rw [List.length_append, List.length_take, low_length a ha]
  simp; omega

/-- A KEY BETWEEN STANDS BETWEEN, AND MAY BE -/
theorem lies {a b : List UInt8} (he : endsB a b = true) (n : Nat) (hn : n < 24) (hok : okB a b n = true) : rightB (keyAt a b n) = true ∧ fracLt (dg a) (dg (keyAt a b n)) ∧ (b = [] ∨ fracLt (dg (keyAt a b n)) (dg b)) := by
  obtain ⟨la, -⟩ := ends_len he
  have hd := dg_keyAt a b n la hn
  have hl := keyAt_length a b n la hn
  have h1 := (okB_iff a b n).1 hok
  have h2 := mo_le a b n
  have hs := (step_iff he n ((dg a n + 1 + mo a b n) / 2) hn (by omega) (by omega)).2 (by omega)
  have hn' : dg (keyAt a b n) n = (dg a n + 1 + mo a b n) / 2 := by rw [hd]; simp [fD]
  refine ⟨?_, ⟨n, fun k hk => ?_, ?_⟩, ?_⟩
  · rw [rightB_iff, hl]
    refine ⟨by omega, by omega, ?_⟩
    rw [Nat.add_sub_cancel, hn']; omega
  · rw [hd, fD, if_pos hk]
  · rw [hn']; omega
  · rcases hs with hs | hs
    · exact Or.inl hs
    · refine Or.inr ?_
      rw [show dg (keyAt a b n) = fD a n ((dg a n + 1 + mo a b n) / 2) from funext hd]; exact hs
/-- WITH ROOM THERE IS ONE -/
theorem roomy {a b : List UInt8} (he : endsB a b = true) (n : Nat) (hn : n < 24) (h1 : a.length ≤ n) (h2 : b.length ≤ n) : okB a b n = true := by
  obtain ⟨la, -⟩ := ends_len he
  rw [okB_iff, dg_end a n h1]
  have : mo a b n = 255 := by
    unfold mo
    by_cases hb : b = []
    · rw [if_pos (Or.inl hb)]
    · refine if_pos (Or.inr ?_)
      cases hp : headB a b n
      · rfl
      · obtain ⟨p1, p2⟩ := (headB_iff a b n la (by omega)).1 hp
        obtain ⟨-, -, i, e1, e2⟩ := ends_frac he hb
        have := dg_pos (l := b) (i := i) (by omega)
        have := p2 i (by omega)
        omega
  omega

/-- all that is asked of a key between -/
theorem betw_lies {a b : List UInt8} (he : endsB a b = true) (h0 : (betwIn a b).2 = 0) : rightB (betwIn a b).1 = true ∧ Op.bytesLess a (betwIn a b).1 = true ∧ (b = [] ∨ Op.bytesLess (betwIn a b).1 b = true) ∧ (betwIn a b).1.length ≤ 24 := by
  rcases betwIn_cases a b with ⟨n, hn, hok, -, e⟩ | ⟨-, e⟩
  · rw [e]
    obtain ⟨l1, l2, l3⟩ := lies he n hn hok
    refine ⟨l1, less_of_frac l2, ?_, by rw [keyAt_length a b n (ends_len he).1 hn]; omega⟩
    rcases l3 with l3 | l3
    · exact Or.inl l3
    · exact Or.inr (less_of_frac l3)
  · rw [e] at h0; simp at h0
theorem betw_room {a b : List UInt8} (he : endsB a b = true) (h : max a.length b.length ≤ 23) : (betwIn a b).2 = 0 ∧ (betwIn a b).1.length ≤ max a.length b.length + 1 := by
  have hr := roomy he (max a.length b.length) (by omega) (by omega) (by omega)
  rcases betwIn_cases a b with ⟨n, hn, hok, hm, e⟩ | ⟨hm, e⟩
  · rw [e]
    refine ⟨rfl, ?_⟩
    rw [keyAt_length a b n (ends_len he).1 hn]
    have : n ≤ max a.length b.length := Classical.byContradiction fun hni => by
      rw [hm _ (by omega)] at hr; cases hr
    omega
  · rw [hm _ (by omega)] at hr; cases hr
theorem betw_err (a b : List UInt8) : (betwIn a b).2 = 0 ∨ betwIn a b = ([], 32) := by
  rcases betwIn_cases a b with ⟨n, hn, hok, hm, e⟩ | ⟨hm, e⟩
  · rw [e]; exact Or.inl rfl
  · exact Or.inr e
/-- the ends on either side of a key between may be ends -/
theorem ends_left {a b k : List UInt8} (he : endsB a b = true) (h1 : rightB k = true) (h2 : Op.bytesLess a k = true) : endsB a k = true := by
  obtain ⟨e1, -, -⟩ := (endsB_iff a b).1 he
  exact (endsB_iff a k).2 ⟨e1, Or.inr h1, Or.inr (Or.inr h2)⟩
theorem ends_right {a b k : List UInt8} (he : endsB a b = true) (h1 : rightB k = true) (h2 : b = [] ∨ Op.bytesLess k b = true) : endsB k b = true := by
  obtain ⟨-, e2, -⟩ := (endsB_iff a b).1 he
  exact (endsB_iff k b).2 ⟨Or.inr h1, e2, Or.inr h2⟩

end Go.Proofs.YtaplemkmkbjodaaGreat.Km

namespace Go.Proofs.YtaplemkmkbjodaaGreat
open Go.RowKit

theorem size_list (k : ByteArray) : k.data.toList.length = k.size := by rw [Array.length_toList]; rfl
theorem dg_at (k : ByteArray) (i : Nat) (h : i < k.size) : Km.dg k.data.toList i = k[i].toNat := by
  rw [Km.dg_get _ _ (by rw [size_list]; exact h)]
  rfl
theorem right_size {k : ByteArray} : Km.rightB k.data.toList = true ↔ 1 ≤ k.size ∧ k.size ≤ 24 ∧ 0 < Km.dg k.data.toList (k.size - 1) := by
  rw [Km.rightB_iff, size_list]
theorem right_no {k : ByteArray} (h : ¬ (1 ≤ k.size ∧ k.size ≤ 24 ∧ 0 < Km.dg k.data.toList (k.size - 1))) : Km.rightB k.data.toList = false := by
  cases e : Km.rightB k.data.toList
  · rfl
  · exact absurd (right_size.1 e) h

theorem right_last {k : ByteArray} (h0 : 0 < k.size) (h1 : k.size ≤ 24) : Km.rightB k.data.toList = (((k[k.size - 1]'(by omega)).toNat : Int) != 0) := by
  have hd := dg_at k (k.size - 1) (by omega)
  by_cases h2 : 0 < Km.dg k.data.toList (k.size - 1)
  · rw [right_size.2 ⟨by omega, h1, h2⟩]
    rw [hd] at h2
    symm
    rw [bne_iff_ne]
    omega
  · rw [right_no (by omega)]
    rw [hd] at h2
    symm
    rw [bne_eq_false_iff_eq]
    omega
theorem ret_bool {a b : Bool} (h : a = b) : Ending.returned (.bool a) = .returned (.bool b) := by rw [h]

set_option maxHeartbeats 400000 in
theorem kright_any (k : ByteArray) (w : World) (_ : k.size ≤ 140737488355328) : Calls Tryz.prog 121 #[.string k] w fun e w' => e = .returned (.bool (Km.rightB k.data.toList)) ∧ w = w' := by
  by_cases h0 : k.size = 0
  · have HR := Lib.hid (right_no (k := k) (by omega))
    go_enter Tryz.func121, Tryz.ntmps121
    go_wp2
    go_ret
    exact ⟨ret_bool HR.out.symm, rfl⟩
  · by_cases h1 : k.size ≤ 24
    · have HR := Lib.hid (right_last (k := k) (by omega) h1)
      go_enter Tryz.func121, Tryz.ntmps121
      go_wp2
      go_ret
      exact ⟨ret_bool HR.out.symm, rfl⟩
    · have HR := Lib.hid (right_no (k := k) (by omega))
      go_enter Tryz.func121, Tryz.ntmps121
      go_wp2
      go_ret
      exact ⟨ret_bool HR.out.symm, rfl⟩

end Go.Proofs.YtaplemkmkbjodaaGreat

namespace Go.Proofs.YtaplemkmkbjodaaGreat.Qm

abbrev St := Int × Int
abbrev It := (Int × Int) × Int

/-- how two stamps stand -/
def ltS (a b : St) : Prop := a.1 < b.1 ∨ (a.1 = b.1 ∧ a.2 < b.2)
instance (a b : St) : Decidable (ltS a b) := by unfold ltS; exact inferInstance
/-- does item a stand ahead of b? -/
def ltI (a b : It) : Prop := ltS a.1 b.1 ∨ (a.1 = b.1 ∧ a.2 < b.2)
instance (a b : It) : Decidable (ltI a b) := by unfold ltI; exact inferInstance

theorem ltS_irrefl (a : St) : ¬ ltS a a := by unfold ltS; omega
theorem ltS_trans {a b c : St} (h : ltS a b) (k : ltS b c) : ltS a c := by unfold ltS at *; omega
theorem ltS_tri (a b : St) : ltS a b ∨ a = b ∨ ltS b a := by
  obtain ⟨x, y⟩ := a
  obtain ⟨z, u⟩ := b
  simp only [ltS, Prod.mk.injEq]
  omega
theorem ltS_le {a b c : St} (h : ¬ ltS b a) (k : ¬ ltS c b) : ¬ ltS c a := by unfold ltS at *; omega
theorem ltS_asymm {a b : St} (h : ltS a b) : ¬ ltS b a := by unfold ltS at *; omega
theorem eq_of_ltS {a b : St} (h : ¬ ltS a b) (k : ¬ ltS b a) : a = b := by
  rcases ltS_tri a b with h1 | h1 | h1
  · exact absurd h1 h
  · exact h1
  · exact absurd h1 k

theorem ltI_irrefl (a : It) : ¬ ltI a a := by
  unfold ltI
  rintro (h | ⟨_, h⟩)
  · exact ltS_irrefl _ h
  · omega
theorem ltI_tri (a b : It) : ltI a b ∨ a = b ∨ ltI b a := by
  obtain ⟨a, x⟩ := a
  obtain ⟨b, y⟩ := b
  simp only [ltI, Prod.mk.injEq]
  rcases ltS_tri a b with h | h | h
  · exact Or.inl (Or.inl h)
  · subst h
    have : x < y ∨ x = y ∨ y < x := by omega
    rcases this with h | h | h
    · exact Or.inl (Or.inr ⟨rfl, h⟩)
    · exact Or.inr (Or.inl ⟨rfl, h⟩)
    · exact Or.inr (Or.inr (Or.inr ⟨rfl, h⟩))
  · exact Or.inr (Or.inr (Or.inl h))
theorem ltI_trans {a b c : It} (h : ltI a b) (k : ltI b c) : ltI a c := by
  unfold ltI at *
  rcases h with h | ⟨h1, h2⟩ <;> rcases k with k | ⟨k1, k2⟩
  · exact Or.inl (ltS_trans h k)
  · exact Or.inl (k1 ▸ h)
  · exact Or.inl (h1 ▸ k)
  · exact Or.inr ⟨h1.trans k1, by omega⟩
theorem ltI_asymm {a b : It} (h : ltI a b) : ¬ ltI b a := fun k => ltI_irrefl _ (ltI_trans h k)
theorem eq_of_ltI {a b : It} (h : ¬ ltI a b) (k : ¬ ltI b a) : a = b := by
  rcases ltI_tri a b with h1 | h1 | h1
  · exact absurd h1 h
  · exact h1
  · exact absurd h1 k
/-- at most -/
theorem leI_trans {a b c : It} (h : ¬ ltI b a) (k : ¬ ltI c b) : ¬ ltI c a := by
  intro hc
  rcases ltI_tri a b with h1 | rfl | h1
  · rcases ltI_tri b c with h2 | rfl | h2
    · exact ltI_irrefl _ (ltI_trans hc (ltI_trans h1 h2))
    · exact ltI_asymm h1 hc
    · exact k h2
  · exact k hc
  · exact h h1

/-- item k of a list -/
def itAt (d : List It) (k : Nat) : It := d.getD k ((0, 0), 0)
theorem itAt_set {d : List It} {i : Nat} (x : It) (h : i < d.length) (k : Nat) : itAt (d.set i x) k = if k = i then x else itAt d k := by
  unfold itAt
  by_cases hk : k = i
  · subst hk; simp [List.getD, h]
  · simp [List.getD, hk, Ne.symm hk]
theorem itAt_mem {d : List It} {k : Nat} (h : k < d.length) : itAt d k ∈ d := by simp [itAt, List.getD, h]
theorem mem_itAt {d : List It} {x : It} (h : x ∈ d) : ∃ k, k < d.length ∧ itAt d k = x := by
  obtain ⟨k, hk, e⟩ := List.getElem_of_mem h
  exact ⟨k, hk, by simp [itAt, List.getD, hk, e]⟩
theorem itAt_append {d e : List It} {k : Nat} (h : k < d.length) : itAt (d ++ e) k = itAt d k := by
  simp [itAt, List.getD, List.getElem?_append_left h]
theorem itAt_append_right (d : List It) (x : It) : itAt (d ++ [x]) d.length = x := by simp [itAt, List.getD]
theorem itAt_take {d : List It} {n k : Nat} (h : k < n) : itAt (d.take n) k = itAt d k := by
  simp [itAt, List.getD, h]

/-- two change places -/
def sw (d : List It) (i j : Nat) : List It := (d.set i (itAt d j)).set j (itAt d i)
theorem sw_length (d : List It) (i j : Nat) : (sw d i j).length = d.length := by simp [sw]
theorem sw_at {d : List It} {i j : Nat} (hi : i < d.length) (hj : j < d.length) (k : Nat) : itAt (sw d i j) k = if k = j then itAt d i else if k = i then itAt d j else itAt d k := by
  unfold sw
  rw [itAt_set _ (by simpa using hj), itAt_set _ hi]
theorem sw_perm {d : List It} {i j : Nat} (hi : i < d.length) (hj : j < d.length) : (sw d i j).Perm d := by
  have h := Array.swap_perm (xs := d.toArray) (i := i) (j := j) (by simpa using hi) (by simpa using hj)
  have h2 := Array.perm_iff_toList_perm.1 h
  have e : (d.toArray.swap i j (by simpa using hi) (by simpa using hj)).toList = sw d i j := by
    simp [Array.swap, sw, itAt, List.getD, hi, hj]
  rw [e] at h2
  exact h2

/-- the first n are a heap from lo on: who has a parent at or behind lo does not stand ahead of it -/
def HeapF (d : List It) (n lo : Nat) : Prop := ∀ k, 0 < k → k < n → lo ≤ (k - 1) / 2 → ¬ ltI (itAt d k) (itAt d ((k - 1) / 2))
/-- .. but for those below i -/
def DownI (d : List It) (n lo i : Nat) : Prop :=
  (∀ k, 0 < k → k < n → lo ≤ (k - 1) / 2 → (k - 1) / 2 ≠ i → ¬ ltI (itAt d k) (itAt d ((k - 1) / 2))) ∧
  (∀ k, 0 < k → k < n → (k - 1) / 2 = i → 0 < i → lo ≤ (i - 1) / 2 → ¬ ltI (itAt d k) (itAt d ((i - 1) / 2)))
/-- .. but for j itself -/
def UpI (d : List It) (n j : Nat) : Prop :=
  (∀ k, 0 < k → k < n → k ≠ j → ¬ ltI (itAt d k) (itAt d ((k - 1) / 2))) ∧
  (∀ k, 0 < k → k < n → (k - 1) / 2 = j → 0 < j → ¬ ltI (itAt d k) (itAt d ((j - 1) / 2)))

theorem DownI.init {d : List It} {n i : Nat} (h : HeapF d n (i + 1)) : DownI d n i i :=
  ⟨fun k h0 hn hl hne => h k h0 hn (by omega), fun k _ _ _ h0 hl => by omega⟩
theorem HeapF.none {d : List It} {n lo : Nat} (h : n ≤ 2 * lo + 1) : HeapF d n lo := fun k h0 hn hl => by omega
theorem HeapF.mono {d : List It} {n m lo : Nat} (h : HeapF d n lo) (hm : m ≤ n) : HeapF d m lo := fun k h0 hn hl => h k h0 (by omega) hl
theorem HeapF.congr {d e : List It} {n lo : Nat} (h : HeapF d n lo) (he : ∀ k, k < n → itAt e k = itAt d k) : HeapF e n lo := fun k h0 hn hl => by
  rw [he k hn, he _ (by omega)]
  exact h k h0 hn hl

/-- no child, or none that stands ahead -/
theorem DownI.stop {d : List It} {n lo i : Nat} (h : DownI d n lo i) (hc : ∀ k, 0 < k → k < n → (k - 1) / 2 = i → ¬ ltI (itAt d k) (itAt d i)) : HeapF d n lo := by
  intro k h0 hn hl
  by_cases e : (k - 1) / 2 = i
  · rw [e]; exact hc k h0 hn e
  · exact h.1 k h0 hn hl e
/-- the smaller child goes up -/
theorem DownI.step {d : List It} {n lo i j : Nat} (h : DownI d n lo i) (hd : n ≤ d.length) (hjn : j < n) (hj0 : 0 < j) (hji : (j - 1) / 2 = i) (hlo : lo ≤ i) (hlt : ltI (itAt d j) (itAt d i))
    (hc : ∀ k, 0 < k → k < n → (k - 1) / 2 = i → ¬ ltI (itAt d k) (itAt d j)) : DownI (sw d i j) n lo j := by
  have hi : i < d.length := by omega
  have hj : j < d.length := by omega
  have hij : i ≠ j := by omega
  have A := sw_at hi hj
  constructor
  · intro k h0 hn hl hne
    rw [A k, A ((k - 1) / 2), if_neg hne]
    by_cases kj : k = j
    · subst kj
      rw [if_pos rfl, hji, if_pos rfl]
      exact ltI_asymm hlt
    · rw [if_neg kj]
      by_cases ki : k = i
      · subst ki
        rw [if_pos rfl, if_neg (by omega)]
        exact h.2 j hj0 hjn hji (by omega) hl
      · rw [if_neg ki]
        by_cases kp : (k - 1) / 2 = i
        · rw [if_pos kp]
          exact hc k h0 hn kp
        · rw [if_neg kp]
          exact h.1 k h0 hn hl kp
  · intro k h0 hn hk hj' hl
    rw [A k, A ((j - 1) / 2), if_neg (by omega), if_neg (by omega), if_neg (by omega), hji, if_pos rfl]
    have := h.1 k h0 hn (by omega) (by omega)
    rw [hk] at this
    exact this

theorem UpI.start {d : List It} {n : Nat} (h : HeapF d n 0) : UpI d (n + 1) n :=
  ⟨fun k h0 hn hne => h k h0 (by omega) (Nat.zero_le _), fun k h0 hn hk hj => by omega⟩
theorem UpI.stop {d : List It} {n j : Nat} (h : UpI d n j) (hc : 0 < j → ¬ ltI (itAt d j) (itAt d ((j - 1) / 2))) : HeapF d n 0 := by
  intro k h0 hn _
  by_cases e : k = j
  · subst e; exact hc h0
  · exact h.1 k h0 hn e
theorem UpI.step {d : List It} {n j : Nat} (h : UpI d n j) (hd : n ≤ d.length) (hjn : j < n) (hj0 : 0 < j) (hlt : ltI (itAt d j) (itAt d ((j - 1) / 2))) : UpI (sw d ((j - 1) / 2) j) n ((j - 1) / 2) := by
  have hi : (j - 1) / 2 < d.length := by omega
  have hj : j < d.length := by omega
  have A := sw_at hi hj
  constructor
  · intro k h0 hn hne
    rw [A k, A ((k - 1) / 2), if_neg hne]
    by_cases kj : k = j
    · subst kj
      rw [if_pos rfl, if_neg (by omega), if_pos rfl]
      exact ltI_asymm hlt
    · rw [if_neg kj]
      by_cases kp : (k - 1) / 2 = j
      · rw [if_pos kp]
        exact h.2 k h0 hn kp hj0
      · rw [if_neg kp]
        by_cases kq : (k - 1) / 2 = (j - 1) / 2
        · rw [if_pos kq]
          have h1 := h.1 k h0 hn kj
          rw [kq] at h1
          exact leI_trans (ltI_asymm hlt) h1
        · rw [if_neg kq]
          exact h.1 k h0 hn kj
  · intro k h0 hn hk hj' 
    rw [A k, A (((j - 1) / 2 - 1) / 2), if_neg (by omega : ((j - 1) / 2 - 1) / 2 ≠ j), if_neg (by omega : ((j - 1) / 2 - 1) / 2 ≠ (j - 1) / 2)]
    have h2 := h.1 ((j - 1) / 2) hj' (by omega) (by omega)
    by_cases kj : k = j
    · rw [if_pos kj]; exact h2
    · rw [if_neg kj, if_neg (by omega)]
      have h1 := h.1 k h0 hn kj
      rw [hk] at h1
      exact leI_trans h2 h1

/-- the first one stands behind none -/
theorem HeapF.first {d : List It} {n : Nat} (h : HeapF d n 0) : ∀ k, k < n → ¬ ltI (itAt d k) (itAt d 0) := by
  intro k
  induction k using Nat.strongRecOn with
  | _ k ih =>
    intro hk
    rcases Nat.eq_zero_or_pos k with rfl | h0
    · exact ltI_irrefl _
    · exact leI_trans (ih ((k - 1) / 2) (by omega) (by omega)) (h k h0 hk (Nat.zero_le _))

/-- m stands behind none of them -/
def Least (m : It) (l : List It) : Prop := m ∈ l ∧ ∀ x, x ∈ l → ¬ ltI x m
theorem HeapF.least {d : List It} (h : HeapF d d.length 0) (h0 : 0 < d.length) : Least (itAt d 0) d :=
  ⟨itAt_mem h0, fun x hx => by obtain ⟨k, hk, rfl⟩ := mem_itAt hx; exact h.first k hk⟩
theorem Least.perm {m : It} {l k : List It} (h : Least m l) (hp : l.Perm k) : Least m k := ⟨hp.mem_iff.1 h.1, fun x hx => h.2 x (hp.mem_iff.2 hx)⟩
theorem Least.uniq {m n : It} {l : List It} (h : Least m l) (k : Least n l) : m = n := eq_of_ltI (k.2 _ h.1) (h.2 _ k.1)

/-- the last one is taken behind a change of places with the first -/
theorem take_last (d : List It) (h : 0 < d.length) : d.take (d.length - 1) ++ [itAt d (d.length - 1)] = d := by
  have e : d.length = d.length - 1 + 1 := by omega
  have h1 := List.take_succ_eq_append_getElem (l := d) (i := d.length - 1) (by omega)
  rw [← e, List.take_length] at h1
  rw [show itAt d (d.length - 1) = d[d.length - 1] from by simp [itAt, List.getD, show d.length - 1 < d.length from by omega]]
  exact h1.symm

/-- a list without place i -/
theorem erase_perm {l : List It} {i : Nat} (h : i < l.length) : (itAt l i :: (l.take i ++ l.drop (i + 1))).Perm l := by
  have e : l.take i ++ itAt l i :: l.drop (i + 1) = l := by
    rw [show itAt l i = l[i] from by simp [itAt, List.getD, h], List.getElem_cons_drop h, List.take_append_drop]
  conv => rhs; rw [← e]
  exact (List.perm_middle).symm

/-- RISING rows of stamps -/
def Rising (l : List St) : Prop := l.Pairwise ltS
def stOf (l : List St) (k : Nat) : St := l.getD k (0, 0)
theorem stOf_lt {l : List St} {k : Nat} (h : k < l.length) : stOf l k = l[k] := by simp [stOf, List.getD, h]
theorem rising_iff (l : List St) : Rising l ↔ ∀ k, 0 < k → k < l.length → ltS (stOf l (k - 1)) (stOf l k) := by
  constructor
  · intro h k h0 hk
    rw [stOf_lt hk, stOf_lt (by omega)]
    exact (List.pairwise_iff_getElem.1 h) (k - 1) k (by omega) hk (by omega)
  · intro h
    refine List.pairwise_iff_getElem.2 fun i j hi hj hij => ?_
    have key : ∀ m, i + m + 1 < l.length → ltS (stOf l i) (stOf l (i + m + 1)) := by
      intro m
      induction m with
      | zero => intro hm; exact h (i + 1) (by omega) hm
      | succ m ih => intro hm; exact ltS_trans (ih (by omega)) (h (i + (m + 1) + 1) (by omega) hm)
    have := key (j - i - 1) (by omega)
    rw [show i + (j - i - 1) + 1 = j from by omega, stOf_lt hi, stOf_lt hj] at this
    exact this
/-- a rising row is told by what is in it -/
theorem rising_uniq : ∀ {l m : List St}, Rising l → Rising m → (∀ x, x ∈ l ↔ x ∈ m) → l = m
  | [], [], _, _, _ => rfl
  | [], b :: m, _, _, h => absurd ((h b).2 (by simp)) (by simp)
  | a :: l, [], _, _, h => absurd ((h a).1 (by simp)) (by simp)
  | a :: l, b :: m, hl, hm, h => by
    have hl1 := List.pairwise_cons.1 hl
    have hm1 := List.pairwise_cons.1 hm
    have hab : a = b := by
      rcases List.mem_cons.1 ((h a).1 (by simp)) with e | e
      · exact e
      · rcases List.mem_cons.1 ((h b).2 (by simp)) with e2 | e2
        · exact e2.symm
        · exact absurd (hl1.1 b e2) (ltS_asymm (hm1.1 a e))
    subst hab
    have : l = m := rising_uniq hl1.2 hm1.2 fun x => by
      have := h x
      simp only [List.mem_cons] at this
      constructor
      · intro hx
        rcases this.1 (Or.inr hx) with rfl | e
        · exact absurd (hl1.1 _ hx) (ltS_irrefl _)
        · exact e
      · intro hx
        rcases this.2 (Or.inr hx) with rfl | e
        · exact absurd (hm1.1 _ hx) (ltS_irrefl _)
        · exact e
    rw [this]

/-- what is kept of the first n: each that is not the one ahead of it -/
def cp (l : List St) : Nat → List St
  | 0 => []
  | n + 1 => if n = 0 then [stOf l 0] else if stOf l n = stOf l (n - 1) then cp l n else cp l n ++ [stOf l n]
theorem cp_succ (l : List St) {n : Nat} (h : 0 < n) : cp l (n + 1) = if stOf l n = stOf l (n - 1) then cp l n else cp l n ++ [stOf l n] := by
  rw [cp, if_neg (by omega)]
theorem cp_one (l : List St) : cp l 1 = [stOf l 0] := rfl
theorem cp_length_le (l : List St) (n : Nat) : (cp l n).length ≤ n := by
  induction n with
  | zero => simp [cp]
  | succ n ih =>
    rw [cp]
    split
    · simp
    · split
      · omega
      · simp; omega
/-- .. of a row that stands in order: rising, and all of it -/
theorem cp_rising (l : List St) (hs : ∀ k, 0 < k → k < l.length → ¬ ltS (stOf l k) (stOf l (k - 1))) (n : Nat) (h : n ≤ l.length) :
    Rising (cp l n) ∧ (∀ x, x ∈ cp l n ↔ x ∈ l.take n) ∧ (0 < n → ∀ x, x ∈ cp l n → ¬ ltS (stOf l (n - 1)) x) := by
  induction n with
  | zero => simp [cp, Rising]
  | succ n ih =>
    obtain ⟨i1, i2, i3⟩ := ih (by omega)
    have hts : l.take (n + 1) = l.take n ++ [stOf l n] := by rw [List.take_succ_eq_append_getElem (by omega), stOf_lt (by omega)]
    rcases Nat.eq_zero_or_pos n with rfl | h0
    · rw [cp_one, hts]
      refine ⟨by simp [Rising], by simp, fun _ x hx => ?_⟩
      rw [List.mem_singleton.1 hx]
      exact ltS_irrefl _
    · rw [cp_succ l h0, hts]
      by_cases e : stOf l n = stOf l (n - 1)
      · rw [if_pos e]
        refine ⟨i1, fun x => ?_, fun _ x hx => ?_⟩
        · rw [i2 x]
          simp only [List.mem_append, List.mem_singleton]
          constructor
          · exact Or.inl
          · rintro (h | rfl)
            · exact h
            · rw [e, stOf_lt (by omega)]
              exact List.mem_take_iff_getElem.2 ⟨n - 1, by omega, rfl⟩
        · show ¬ ltS (stOf l n) x
          rw [e]; exact i3 h0 x hx
      · rw [if_neg e]
        have hlt : ltS (stOf l (n - 1)) (stOf l n) := by
          rcases ltS_tri (stOf l (n - 1)) (stOf l n) with h1 | h1 | h1
          · exact h1
          · exact absurd h1.symm e
          · exact absurd h1 (hs n h0 (by omega))
        have hall : ∀ x, x ∈ cp l n → ltS x (stOf l n) := fun x hx => by
          rcases ltS_tri x (stOf l (n - 1)) with h1 | h1 | h1
          · exact ltS_trans h1 hlt
          · rw [h1]; exact hlt
          · exact absurd h1 (i3 h0 x hx)
        refine ⟨?_, fun x => ?_, fun _ x hx => ?_⟩
        · exact List.pairwise_append.2 ⟨i1, by simp, fun a ha b hb => by rw [List.mem_singleton.1 hb]; exact hall a ha⟩
        · simp only [List.mem_append, List.mem_singleton]
          rw [i2 x]
        · show ¬ ltS (stOf l n) x
          rcases List.mem_append.1 hx with h1 | h1
          · exact ltS_asymm (hall x h1)
          · rw [List.mem_singleton.1 h1]; exact ltS_irrefl _
/-- nothing is left out as long as no two that stand beside each other are one -/
theorem cp_take (l : List St) (n : Nat) (h : n ≤ l.length) (hne : ∀ k, 0 < k → k < n → stOf l k ≠ stOf l (k - 1)) : cp l n = l.take n := by
  induction n with
  | zero => simp [cp]
  | succ n ih =>
    have hts : l.take (n + 1) = l.take n ++ [stOf l n] := by rw [List.take_succ_eq_append_getElem (by omega), stOf_lt (by omega)]
    rcases Nat.eq_zero_or_pos n with rfl | h0
    · rw [cp_one, hts]; simp
    · rw [cp_succ l h0, if_neg (hne n h0 (by omega)), ih (by omega) (fun k a b => hne k a (by omega)), hts]

/-- the document's With: s put into a rising row -/
def below (l : List St) (s : St) : Nat := (l.takeWhile fun x => decide (ltS x s)).length
def withS (l : List St) (s : St) (k : Nat) : List St := if k < l.length ∧ stOf l k = s then l else l.take k ++ [s] ++ l.drop k
theorem with_rising {l : List St} {s : St} {k : Nat} (hl : Rising l) (hk : k ≤ l.length) (hb : ∀ i, i < k → ltS (stOf l i) s) (ha : k < l.length → ¬ ltS (stOf l k) s) :
    Rising (withS l s k) ∧ ∀ x, x ∈ withS l s k ↔ x ∈ l ∨ x = s := by
  unfold withS
  by_cases e : k < l.length ∧ stOf l k = s
  · rw [if_pos e]
    refine ⟨hl, fun x => ⟨Or.inl, ?_⟩⟩
    rintro (h | rfl)
    · exact h
    · rw [← e.2, stOf_lt e.1]; exact List.getElem_mem _
  · rw [if_neg e]
    have hp := List.pairwise_iff_getElem.1 hl
    have h1 : ∀ a, a ∈ l.take k → ltS a s := fun a ha => by
      obtain ⟨i, hi, rfl⟩ := List.mem_take_iff_getElem.1 ha
      have := hb i (by omega)
      rw [stOf_lt (by omega)] at this
      exact this
    have h2 : ∀ a, a ∈ l.drop k → ltS s a := fun a ha' => by
      obtain ⟨i, hi, rfl⟩ := List.mem_drop_iff_getElem.1 ha'
      have hk1 : k < l.length := by omega
      have h3 : ltS s (stOf l k) := by
        rcases ltS_tri s (stOf l k) with h | h | h
        · exact h
        · exact absurd ⟨hk1, h.symm⟩ e
        · exact absurd h (ha hk1)
      rw [stOf_lt hk1] at h3
      rcases Nat.eq_zero_or_pos i with rfl | h0
      · simpa using h3
      · exact ltS_trans h3 (hp k (k + i) hk1 (by omega) (by omega))
    refine ⟨?_, fun x => ?_⟩
    · refine List.pairwise_append.2 ⟨List.pairwise_append.2 ⟨hl.sublist (List.take_sublist _ _), by simp, fun a ha b hb' => ?_⟩, hl.sublist (List.drop_sublist _ _), fun a ha b hb' => ?_⟩
      · rw [List.mem_singleton.1 hb']; exact h1 a ha
      · rcases List.mem_append.1 ha with h | h
        · exact ltS_trans (h1 a h) (h2 b hb')
        · rw [List.mem_singleton.1 h]; exact h2 b hb'
    · simp only [List.mem_append, List.mem_singleton]
      constructor
      · rintro ((h | h) | h)
        · exact Or.inl (List.mem_of_mem_take h)
        · exact Or.inr h
        · exact Or.inl (List.mem_of_mem_drop h)
      · rintro (h | h)
        · rw [← List.take_append_drop k l] at h
          rcases List.mem_append.1 h with h | h
          · exact Or.inl (Or.inl h)
          · exact Or.inr h
        · exact Or.inl (Or.inr h)

/-- the place of s: told by what stands ahead -/
theorem place_uniq {l : List St} {s : St} {j k : Nat} (hj : j ≤ l.length) (hk : k ≤ l.length) (hb : ∀ i, i < j → ltS (stOf l i) s) (ha : j < l.length → ¬ ltS (stOf l j) s)
    (hb' : ∀ i, i < k → ltS (stOf l i) s) (ha' : k < l.length → ¬ ltS (stOf l k) s) : j = k := by
  rcases Nat.lt_trichotomy j k with h | h | h
  · exact absurd (hb' j h) (ha (by omega))
  · exact h
  · exact absurd (hb k h) (ha' (by omega))

end Go.Proofs.YtaplemkmkbjodaaGreat.Qm

namespace Go.Proofs.YtaplemkmkbjodaaGreat
open Go.RowKit

/-- of what was there nothing turns but blocks of F -/
structure Turns (F : Nat → Prop) (w w' : World) : Prop where
  os : w'.os = w.os
  tape : w'.tape = w.tape
  output : w'.output = w.output
  size : w.heap.size ≤ w'.heap.size
  block : ∀ k, k < w.heap.size → ¬ F k → w'.heap[k]? = w.heap[k]?
theorem Turns.refl (F : Nat → Prop) (w : World) : Turns F w w := ⟨rfl, rfl, rfl, Nat.le_refl _, fun _ _ _ => rfl⟩
theorem Turns.trans {F : Nat → Prop} {a b c : World} (h : Turns F a b) (k : Turns (fun i => F i ∨ a.heap.size ≤ i) b c) : Turns F a c :=
  ⟨k.os.trans h.os, k.tape.trans h.tape, k.output.trans h.output, Nat.le_trans h.size k.size, fun i hi hf => (k.block i (Nat.lt_of_lt_of_le hi h.size) (fun x => x.elim hf fun y => by omega)).trans (h.block i hi hf)⟩
theorem Turns.mono {F G : Nat → Prop} {a b : World} (h : Turns F a b) (hm : ∀ k, k < a.heap.size → F k → G k) : Turns G a b := ⟨h.os, h.tape, h.output, h.size, fun k hk hg => h.block k hk fun hf => hg (hm k hk hf)⟩
theorem Turns.of_below {F : Nat → Prop} {w w' : World} (h : Below w.heap.size w w') : Turns F w w' := ⟨h.os, h.tape, h.output, h.size, fun k hk _ => h.block k hk⟩
theorem Turns.of_base {B : Nat} {w w' : World} (h : Below B w w') : Turns (fun k => B ≤ k) w w' := ⟨h.os, h.tape, h.output, h.size, fun k _ hf => h.block k (by omega)⟩
theorem Turns.below {F : Nat → Prop} {w w' : World} (h : Turns F w w') {B : Nat} (hF : ∀ k, k < w.heap.size → F k → B ≤ k) (hB : B ≤ w.heap.size) : Below B w w' :=
  ⟨h.os, h.tape, h.output, h.size, fun k hk => h.block k (by omega) fun hf => by have := hF k (by omega) hf; omega⟩
theorem Turns.of_grown {w w' : World} {row : Option Nat} (h : w.grownBy w' row) : Turns (fun k => row = some k) w w' := ⟨h.os, h.tape, h.output, h.size, fun k hk hf => h.block k hk fun e => hf e.symm⟩
theorem Turns.cell {F : Nat → Prop} {w w' : World} (h : Turns F w w') {p : Addr} {v : Value} (hc : w.cell? p = some v) (hf : ¬ F p.block) : w'.cell? p = some v := by
  rw [World.cell?_of_block (w := w) (h.block p.block (cell_lt hc) hf)]; exact hc
theorem Turns.frozen {F : Nat → Prop} {w w' : World} (h : Turns F w w') {p : Addr} (hl : p.block < w.heap.size) (hf : ¬ F p.block) : w'.frozen? p = w.frozen? p :=
  World.frozen?_of_block (w := w) (h.block p.block hl hf)
theorem Turns.own {F : Nat → Prop} {w w' : World} (h : Turns F w w') {B : Nat} {E : TypeId} {k : Nat} {v : Value} {n : Nat} {xs : List Value} (ho : w.ownsRow B E k v n xs) (hf : ∀ g, v.ownBlock = some g → ¬ F g) : w'.ownsRow B E k v n xs := by
  refine ⟨ho.1, ?_⟩
  rcases ho.2 with h2 | ⟨g, cap, cur, hv, hg, hh, r⟩
  · exact Or.inl h2
  · refine Or.inr ⟨g, cap, cur, hv, hg, ?_, r⟩
    rw [h.block g (Array.getElem?_eq_some_iff.1 hh).1 (hf g (by rw [hv]; rfl))]
    exact hh
theorem Turns.rd {F : Nat → Prop} {w w' : World} (h : Turns F w w') {p : Option Addr} {us : List Value} (hr : Rd w p us) (hf : ∀ a, p = some a → ¬ F a.block) : Rd w' p us := by
  intro h0
  obtain ⟨b, o, rfl, hc⟩ := hr h0
  exact ⟨b, o, rfl, fun i u hu => h.cell (hc i u hu) (hf ⟨b, o, none⟩ rfl)⟩
theorem Rd.below {w w' : World} {p : Option Addr} {us : List Value} (h : Rd w p us) (hb : Below w.heap.size w w') : Rd w' p us :=
  (Turns.of_below (F := fun _ => False) hb).rd h fun _ _ h => h
theorem Rd.base {w w' : World} {p : Option Addr} {us : List Value} {B : Nat} (h : Rd w p us) (hb : Below B w w') (hp : ∀ a, p = some a → a.block < B) : Rd w' p us :=
  (Turns.of_base hb).rd h fun a ha => by have := hp a ha; omega
theorem Rd.cell {w : World} {b o : Nat} {us : List Value} (h : Rd w (some ⟨b, o, none⟩) us) {i : Nat} {u : Value} (hi : us[i]? = some u) : w.cell? ⟨b, o + i, none⟩ = some u := by
  obtain ⟨b', o', e, hc⟩ := h (Nat.lt_of_le_of_lt (Nat.zero_le _) (List.getElem?_eq_some_iff.1 hi).1)
  simp only [Option.some.injEq, Addr.mk.injEq] at e
  obtain ⟨rfl, rfl, -⟩ := e
  exact hc i u hi
theorem Rd.nil (w : World) (p : Option Addr) : Rd w p [] := fun h => absurd h (Nat.lt_irrefl 0)
theorem Rd.addr {w : World} {p : Option Addr} {us : List Value} (h : Rd w p us) (h0 : 0 < us.length) : ∃ b o, p = some ⟨b, o, none⟩ ∧ b < w.heap.size := by
  obtain ⟨b, o, rfl, hc⟩ := h h0
  exact ⟨b, o, rfl, cell_lt (hc 0 _ (List.getElem?_eq_getElem h0))⟩

/-- the cells of a row of stamps -/
def stCells (l : List Qm.St) : List Value := l.flatMap fun x => [.int .i64 x.1, .int .i64 x.2]
/-- the cells of a row of items -/
def itCells (l : List Qm.It) : List Value := l.flatMap fun x => [.int .i64 x.1.1, .int .i64 x.1.2, .int .i64 x.2]
theorem stCells_length (l : List Qm.St) : (stCells l).length = l.length * 2 := by
  induction l with
  | nil => rfl
  | cons a l ih => simp only [stCells, List.flatMap_cons, List.length_append, List.length_cons, List.length_nil] at ih ⊢; omega
theorem itCells_length (l : List Qm.It) : (itCells l).length = l.length * 3 := by
  induction l with
  | nil => rfl
  | cons a l ih => simp only [itCells, List.flatMap_cons, List.length_append, List.length_cons, List.length_nil] at ih ⊢; omega
theorem stCells_append (l m : List Qm.St) : stCells (l ++ m) = stCells l ++ stCells m := by simp [stCells]
theorem itCells_append (l m : List Qm.It) : itCells (l ++ m) = itCells l ++ itCells m := by simp [itCells]
theorem stCells_one : ∀ {l : List Qm.St}, ∀ u ∈ stCells l, u.oneCell' = true := by
  intro l u hu
  obtain ⟨x, _, hx⟩ := List.mem_flatMap.1 hu
  simp at hx
  rcases hx with rfl | rfl <;> rfl
theorem itCells_one : ∀ {l : List Qm.It}, ∀ u ∈ itCells l, u.oneCell' = true := by
  intro l u hu
  obtain ⟨x, _, hx⟩ := List.mem_flatMap.1 hu
  simp at hx
  rcases hx with rfl | rfl | rfl <;> rfl
theorem stCells_get (l : List Qm.St) (i : Nat) (h : i < l.length) : (stCells l)[i * 2]? = some (.int .i64 (Qm.stOf l i).1) ∧ (stCells l)[i * 2 + 1]? = some (.int .i64 (Qm.stOf l i).2) := by
  induction l generalizing i with
  | nil => simp at h
  | cons a l ih =>
    cases i with
    | zero => simp [stCells, Qm.stOf]
    | succ i =>
      have := ih i (by simpa using h)
      have e : (i + 1) * 2 = i * 2 + 1 + 1 := by omega
      rw [e]
      simpa [stCells, Qm.stOf] using this
theorem itCells_get (l : List Qm.It) (i : Nat) (h : i < l.length) : (itCells l)[i * 3]? = some (.int .i64 (Qm.itAt l i).1.1) ∧ (itCells l)[i * 3 + 1]? = some (.int .i64 (Qm.itAt l i).1.2) ∧ (itCells l)[i * 3 + 2]? = some (.int .i64 (Qm.itAt l i).2) := by
  induction l generalizing i with
  | nil => simp at h
  | cons a l ih =>
    cases i with
    | zero => simp [itCells, Qm.itAt]
    | succ i =>
      have := ih i (by simpa using h)
      have e : (i + 1) * 3 = i * 3 + 1 + 1 + 1 := by omega
      rw [e]
      simpa [itCells, Qm.itAt] using this
theorem stCells_set (l : List Qm.St) (i : Nat) (x : Qm.St) : ((stCells l).set (i * 2) (.int .i64 x.1)).set (i * 2 + 1) (.int .i64 x.2) = stCells (l.set i x) := by
  induction l generalizing i with
  | nil => simp [stCells]
  | cons a l ih =>
    cases i with
    | zero => simp [stCells]
    | succ i =>
      have := ih i
      have e : (i + 1) * 2 = i * 2 + 1 + 1 := by omega
      rw [e]
      simpa [stCells] using this
theorem itCells_set (l : List Qm.It) (i : Nat) (x : Qm.It) : (((itCells l).set (i * 3) (.int .i64 x.1.1)).set (i * 3 + 1) (.int .i64 x.1.2)).set (i * 3 + 2) (.int .i64 x.2) = itCells (l.set i x) := by
  induction l generalizing i with
  | nil => simp [itCells]
  | cons a l ih =>
    cases i with
    | zero => simp [itCells]
    | succ i =>
      have := ih i
      have e : (i + 1) * 3 = i * 3 + 1 + 1 + 1 := by omega
      rw [e]
      simpa [itCells] using this
theorem stCells_take (l : List Qm.St) (n : Nat) : (stCells l).take (n * 2) = stCells (l.take n) := by
  induction l generalizing n with
  | nil => simp [stCells]
  | cons a l ih =>
    cases n with
    | zero => simp [stCells]
    | succ i =>
      have := ih i
      have e : (i + 1) * 2 = i * 2 + 1 + 1 := by omega
      rw [e]
      simpa [stCells] using this
theorem itCells_take (l : List Qm.It) (n : Nat) : (itCells l).take (n * 3) = itCells (l.take n) := by
  induction l generalizing n with
  | nil => simp [itCells]
  | cons a l ih =>
    cases n with
    | zero => simp [itCells]
    | succ i =>
      have := ih i
      have e : (i + 1) * 3 = i * 3 + 1 + 1 + 1 := by omega
      rw [e]
      simpa [itCells] using this
theorem stCells_drop (l : List Qm.St) (n : Nat) : (stCells l).drop (n * 2) = stCells (l.drop n) := by
  induction l generalizing n with
  | nil => simp [stCells]
  | cons a l ih =>
    cases n with
    | zero => simp [stCells]
    | succ i =>
      have := ih i
      have e : (i + 1) * 2 = i * 2 + 1 + 1 := by omega
      rw [e]
      simpa [stCells] using this
theorem itCells_drop (l : List Qm.It) (n : Nat) : (itCells l).drop (n * 3) = itCells (l.drop n) := by
  induction l generalizing n with
  | nil => simp [itCells]
  | cons a l ih =>
    cases n with
    | zero => simp [itCells]
    | succ i =>
      have := ih i
      have e : (i + 1) * 3 = i * 3 + 1 + 1 + 1 := by omega
      rw [e]
      simpa [itCells] using this

/-- a row of stamps, read at place i -/
theorem Rd.st {w : World} {b o : Nat} {l : List Qm.St} (h : Rd w (some ⟨b, o, none⟩) (stCells l)) (i : Nat) (hi : i < l.length) :
    w.cell? ⟨b, o + i * 2, none⟩ = some (.int .i64 (Qm.stOf l i).1) ∧ w.cell? ⟨b, o + i * 2 + 1, none⟩ = some (.int .i64 (Qm.stOf l i).2) := by
  obtain ⟨h0, h1⟩ := stCells_get l i hi
  exact ⟨h.cell h0, by rw [Nat.add_assoc]; exact h.cell h1⟩
/-- a row of items, read at place i -/
theorem Rd.it {w : World} {b o : Nat} {l : List Qm.It} (h : Rd w (some ⟨b, o, none⟩) (itCells l)) (i : Nat) (hi : i < l.length) :
    w.cell? ⟨b, o + i * 3, none⟩ = some (.int .i64 (Qm.itAt l i).1.1) ∧ w.cell? ⟨b, o + i * 3 + 1, none⟩ = some (.int .i64 (Qm.itAt l i).1.2) ∧ w.cell? ⟨b, o + i * 3 + 2, none⟩ = some (.int .i64 (Qm.itAt l i).2) := by
  obtain ⟨h0, h1, h2⟩ := itCells_get l i hi
  exact ⟨h.cell h0, by rw [Nat.add_assoc]; exact h.cell h1, by rw [Nat.add_assoc]; exact h.cell h2⟩
theorem Rd.take {w : World} {p : Option Addr} {us : List Value} (h : Rd w p us) (n : Nat) : Rd w p (us.take n) := by
  intro h0
  obtain ⟨b, o, rfl, hc⟩ := h (by simp at h0; omega)
  refine ⟨b, o, rfl, fun i u hu => hc i u ?_⟩
  rw [List.getElem?_take] at hu
  split at hu
  · exact hu
  · cases hu
theorem Rd.drop {w : World} {b o : Nat} {us : List Value} (h : Rd w (some ⟨b, o, none⟩) us) (n : Nat) : Rd w (some ⟨b, o + n, none⟩) (us.drop n) := by
  intro _
  refine ⟨b, o + n, rfl, fun i u hu => ?_⟩
  rw [List.getElem?_drop] at hu
  rw [Nat.add_assoc]
  exact h.cell hu

/-- an own row as a slice that reads as its cells -/
theorem own_rd {w : World} {B : Nat} {E : TypeId} {k : Nat} {v : Value} {n : Nat} {xs : List Value} (h : w.ownsRow B E k v n xs) :
    ∃ p c, v = .slice p n c ∧ Rd w p xs ∧ n ≤ c ∧ c ≤ maxLen ∧ (p = none → c = 0) ∧ (∀ a, p = some a → B ≤ a.block ∧ a.block < w.heap.size ∧ v.ownBlock = some a.block ∧ a = ⟨a.block, 0, none⟩) := by
  rcases h.2 with ⟨rfl, rfl⟩ | ⟨g, cap, cur, rfl, hg, hh, hnc, hcm, -, -⟩
  · refine ⟨none, 0, rfl, fun h0 => ?_, by omega, by simp [maxLen], fun _ => rfl, fun a ha => by cases ha⟩
    rw [h.1] at h0; omega
  · refine ⟨_, cap, rfl, fun _ => ⟨g, 0, rfl, fun i u hu => ?_⟩, hnc, hcm, (fun e => by cases e), fun a ha => ?_⟩
    · rw [Nat.zero_add, h.cellAt i (by have := (List.getElem?_eq_some_iff.1 hu).1; rw [h.1] at this; exact this)]
      exact hu
    · cases ha
      exact ⟨hg, (Array.getElem?_eq_some_iff.1 hh).1, rfl, rfl⟩
theorem own_base {w : World} {B B' : Nat} {E : TypeId} {k : Nat} {v : Value} {n : Nat} {xs : List Value} (h : w.ownsRow B E k v n xs) (hB : ∀ g, v.ownBlock = some g → B' ≤ g) : w.ownsRow B' E k v n xs := by
  refine ⟨h.1, ?_⟩
  rcases h.2 with h2 | ⟨g, cap, cur, hv, _, r⟩
  · exact Or.inl h2
  · exact Or.inr ⟨g, cap, cur, hv, hB g (by rw [hv]; rfl), r⟩
/-- a beginning of an own row -/
theorem own_take {w : World} {B : Nat} {E : TypeId} {k : Nat} {g n c : Nat} {xs : List Value} (h : w.ownsRow B E k (.slice (some ⟨g, 0, none⟩) n c) n xs) (m : Nat) (hm : m ≤ n) : w.ownsRow B E k (.slice (some ⟨g, 0, none⟩) m c) m (xs.take (m * k)) := by
  have hmk : m * k ≤ n * k := Nat.mul_le_mul_right _ hm
  refine ⟨by rw [List.length_take, h.1]; omega, ?_⟩
  rcases h.2 with ⟨h2, -⟩ | ⟨g', cap, cur, hv, hg, hh, hnc, hcm, hcs, ht⟩
  · cases h2
  · simp only [Value.slice.injEq, Option.some.injEq, Addr.mk.injEq, and_true, true_and] at hv
    obtain ⟨rfl, rfl⟩ := hv
    refine Or.inr ⟨g, c, cur, rfl, hg, hh, by omega, hcm, hcs, ?_⟩
    rw [← ht, List.take_take, Nat.min_eq_left hmk]

section
variable {P : Program} (w : World)

/-- APPEND, of elements of k cells each, onto a row of the call's own, from whatever slice. -/
theorem run_append_k (base : Nat) (t ty e : TypeId) (i : TypeInfo) (z : Value) (k bytes : Nat) (ht : P.underlying t = some (.slice e)) (hi : P.info? e = some i) (hz : i.zero = some z)
    (hsize : i.size = k) (hk0 : 0 < k) (hby : i.bytes = bytes) (hb1 : bytes ≤ 1000000000) (hzs : z.cells.size = k)
    (v : Value) (n : Nat) (xs : List Value) (hown : w.ownsRow base e k v n xs)
    (p : Option Addr) (m c : Nat) (us : List Value) (hus : us.length = m * k) (hrd : Rd w p us) (hpn : p = none → c = 0) (h1 : ∀ u ∈ us, u.oneCell' = true)
    (hbytes : (n + m) * bytes ≤ 211106232532992) (h63 : n + m ≤ maxLen) (hbase : base ≤ w.heap.size) :
    ∃ v' w', (Builtin.append_ #[t, t] ty #[v, .slice p m c]).run P w = .ok v' w' ∧ w'.ownsRow base e k v' (n + m) (xs ++ us) ∧ w.grownBy w' v.ownBlock ∧ (∀ g, v'.ownBlock = some g → v.ownBlock = some g ∨ w.heap.size ≤ g) := by
  rcases Nat.eq_zero_or_pos m with hm0 | hm0
  · subst hm0
    obtain rfl : us = [] := List.eq_nil_of_length_eq_zero (by simpa using hus)
    simp only [Nat.add_zero, List.append_nil]
    have hself : w.grownBy w v.ownBlock := ⟨rfl, rfl, rfl, Nat.le_refl _, fun _ _ _ => rfl⟩
    cases p with
    | none =>
      have hc := hpn rfl
      subst hc
      exact ⟨v, w, run_append_owned_none (P := P) (w := w) base t ty e i k ht hi v n xs hown, hown, hself, fun g hg => Or.inl hg⟩
    | some a =>
      refine ⟨v, w, ?_, hown, hself, fun g hg => Or.inl hg⟩
      rcases hown.2 with ⟨rfl, rfl⟩ | ⟨g, cap, cur, rfl, hbg, hg, hnc, hcm, hcs, htake⟩
      · simp [Builtin.append_, run_underlying ht, sizeOf, typeInfo, hi, Builtin.lenOf, Builtin.firstCells, loadCells, loadCellsFrom]
      · simp [Builtin.append_, run_underlying ht, sizeOf, typeInfo, hi, Builtin.lenOf, Builtin.firstCells, loadCells, loadCellsFrom, hnc, storeCells]
  · have hmk : 0 < m * k := Nat.mul_pos hm0 hk0
    obtain ⟨b, o, rfl, hcell⟩ := hrd (by omega)
    have hnews : ∀ j u, us[j]? = some u → w.cell? ((⟨b, o, none⟩ : Addr).add j) = some u := by
      intro j u hu
      have hadd : (⟨b, o, none⟩ : Addr).add j = ⟨b, o + j, none⟩ := by unfold Addr.add; split <;> simp_all
      rw [hadd]
      exact hcell j u hu
    have hmax : (maxLen : Nat) = 9223372036854775807 := by decide
    have h63m : ((n + m : Nat) : Int) ≤ 9223372036854775807 := by omega
    have hxl : xs.length = n * k := hown.1
    have hlen : (xs ++ us).length = (n + m) * k := by rw [List.length_append, hxl, hus, Nat.add_mul]
    have grown : ∀ (old : Nat), old < n + m → ∀ (row : Option Nat),
        (w.drew.alloc (.cells (xs.toArray ++ us.toArray ++ Builtin.zeroCells z.cells (grownCap w (n + m) old e - (n + m))) e)).ownsRow base e k
          (.slice (some ⟨w.heap.size, 0, none⟩) (n + m) (grownCap w (n + m) old e)) (n + m) (xs ++ us) ∧
        w.grownBy (w.drew.alloc (.cells (xs.toArray ++ us.toArray ++ Builtin.zeroCells z.cells (grownCap w (n + m) old e - (n + m))) e)) row := by
      intro old ho row
      have hge := grownCap_ge w (n + m) old e
      have hcm : grownCap w (n + m) old e ≤ maxLen := grownCap_le_maxLen w (n + m) old e h63
      refine ⟨⟨hlen, .inr ⟨w.heap.size, _, _, rfl, hbase, heap_alloc_new w.drew _, hge, hcm, ?_, ?_⟩⟩, ⟨rfl, rfl, rfl, by simp, fun k hk _ => Below.heap_alloc w.drew _ k hk⟩⟩
      · simp only [Array.size_append, List.size_toArray, size_zeroCells, hzs]
        have e1 : xs.length + us.length = (n + m) * k := by rw [← List.length_append]; exact hlen
        rw [e1, ← Nat.add_mul, Nat.add_sub_cancel' hge]
      · simp only [Array.toList_append, List.append_assoc]
        rw [← List.append_assoc, ← hlen]
        exact List.take_left
    rcases hown.2 with ⟨rfl, rfl⟩ | ⟨g, cap, cur, rfl, hbg, hg, hnc, hcm, hcs, htake⟩
    · have hx : xs = [] := List.eq_nil_of_length_eq_zero (by simpa using hxl)
      subst hx
      have hr := run_append_nil (P := P) w t ty e i z ht hi hz ⟨b, o, none⟩ m c us (by rw [hsize]; exact hus) hnews hm0 (by omega) (by rw [hby]; have hb := hbytes; simp only [Nat.zero_add] at hb; omega)
      have hgr := grown 0 (by omega) (Value.ownBlock (.slice none 0 0))
      simp only [Nat.zero_add, List.nil_append, Array.empty_append] at hgr ⊢
      exact ⟨_, _, hr, hgr.1, hgr.2, fun g hg => Or.inr (by cases hg; exact Nat.le_refl _)⟩
    · by_cases hroom : n + m ≤ cap
      · obtain ⟨w', hr, ho, hgr⟩ := run_append_fits (P := P) w base t ty e i k ht hi hsize g n cap xs hown ⟨b, o, none⟩ m c us hus hnews h1 hroom
        exact ⟨_, _, hr, ho, hgr, fun g hg => Or.inl hg⟩
      · have holds : ∀ j u, xs[j]? = some u → w.cell? ((⟨g, 0, none⟩ : Addr).add j) = some u := hown.cells (g := g) rfl
        have hr := run_append_grow (P := P) w t ty e i z ht hi hz ⟨g, 0, none⟩ n cap xs (by rw [hsize]; exact hxl) holds ⟨b, o, none⟩ m c us (by rw [hsize]; exact hus) hnews (by omega) h63m (by rw [hby]; exact grow_fits (by omega) hbytes hb1)
        have hgr := grown cap (by omega) (Value.ownBlock (.slice (some ⟨g, 0, none⟩) n cap))
        exact ⟨_, _, hr, hgr.1, hgr.2, fun g hg => Or.inr (by cases hg; exact Nat.le_refl _)⟩

/-- THE OPERATION, for the walk. -/
theorem wpList_append_k {w : World} {ops : Array Oper} {rest : List Oper} {o : Oper} {a : Act} {Q : Exit → Act → World → Prop} (hgd : o.guard = none) (s x : Operand) (t : TypeId)
    (ho : o.op = .call { callee := .builtin .append, args := #[s, x], argTypes := #[t, t] })
    (base : Nat) (e : TypeId) (i : TypeInfo) (z : Value) (k bytes : Nat) (ht : P.underlying t = some (.slice e)) (hi : P.info? e = some i) (hz : i.zero = some z)
    (hsize : i.size = k) (hk0 : 0 < k) (hby : i.bytes = bytes) (hb1 : bytes ≤ 1000) (hzs : z.cells.size = k)
    (v : Value) (n : Nat) (xs : List Value) (hs : a.eval s = v) (hown : w.ownsRow base e k v n xs)
    (p : Option Addr) (m c : Nat) (us : List Value) (hx : a.eval x = .slice p m c) (hus : us.length = m * k) (hrd : Rd w p us) (hpn : p = none → c = 0) (h1 : ∀ u ∈ us, u.oneCell' = true)
    (hsz : n + m ≤ 10000) (hbase : base ≤ w.heap.size)
    (h : ∀ p' c' w', w'.ownsRow base e k (.slice p' (n + m) c') (n + m) (xs ++ us) → w.grownBy w' v.ownBlock → (∀ g, (Value.slice p' (n + m) c').ownBlock = some g → v.ownBlock = some g ∨ w.heap.size ≤ g) → wpList P ops Q rest (a.put o.dst (.slice p' (n + m) c')) w') : wpList P ops Q (o :: rest) a w := by
  refine wpList_plain hgd fun K hK => ?_
  obtain ⟨v', w', hr, h2, h3, h4⟩ := run_append_k (P := P) w base t o.type e i z k bytes ht hi hz hsize hk0 hby (by omega) hzs v n xs hown p m c us hus hrd hpn h1
    (Nat.le_trans (Nat.mul_le_mul hsz hb1) (by decide)) (by unfold maxLen; omega) hbase
  obtain ⟨p', c', rfl, -⟩ := own_rd h2
  unfold Oper.wp execOp
  simp only [ho, resolve, invoke, builtin, Sem.run_bind, Sem.run_pure, Result.andThen_ok, List.map_toArray, List.map_cons, List.map_nil, hs, hx, hr]
  exact hK _ _ (h p' c' w' h2 h3 h4)
end

end Go.Proofs.YtaplemkmkbjodaaGreat
