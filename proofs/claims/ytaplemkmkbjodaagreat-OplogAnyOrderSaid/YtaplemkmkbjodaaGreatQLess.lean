/-
  THE ROW UNDER THE HEAP: Len, Less, Swap of items.
  No conditions but sizes.
-/
import Derived.Test.YtaplemkmkbjodaaGreatQCmp
import Derived.BigRegion
import Derived.Outline
namespace Go.Proofs.YtaplemkmkbjodaaGreat
open Go.RowKit

/-- the slice in cell c is a row (at block g) of the call's own that holds these items -/
structure HR (w : World) (c g cap : Nat) (d : List Qm.It) : Prop where
  cell : w.cell? ⟨c, 0, none⟩ = some (.slice (some ⟨g, 0, none⟩) d.length cap)
  free : w.frozen? ⟨c, 0, none⟩ = false
  ne : c ≠ g
  own : w.ownsRow 0 115 3 (.slice (some ⟨g, 0, none⟩) d.length cap) d.length (itCells d)
  len : d.length ≤ 2000
theorem HR.lt {w : World} {c g cap : Nat} {d : List Qm.It} (h : HR w c g cap d) : c < w.heap.size ∧ g < w.heap.size := ⟨cell_lt h.cell, (World.ownsRow.lt h.own g rfl).2⟩
theorem HR.turns {F : Nat → Prop} {w w' : World} {c g cap : Nat} {d : List Qm.It} (h : HR w c g cap d) (ht : Turns F w w') (hc : ¬ F c) (hg : ¬ F g) : HR w' c g cap d :=
  ⟨ht.cell h.cell hc, by rw [ht.frozen h.lt.1 hc]; exact h.free, h.ne, ht.own h.own fun k hk => by cases hk; exact hg, h.len⟩
theorem HR.below {w w' : World} {c g cap : Nat} {d : List Qm.It} (h : HR w c g cap d) (hb : Below w.heap.size w w') : HR w' c g cap d :=
  h.turns (F := fun _ => False) (Turns.of_below hb) (fun h => h) (fun h => h)
theorem HR.at {w : World} {c g cap : Nat} {d : List Qm.It} (h : HR w c g cap d) (i : Nat) (hi : i < d.length) :
    w.cell? ⟨g, i * 3, none⟩ = some (.int .i64 (Qm.itAt d i).1.1) ∧ w.cell? ⟨g, i * 3 + 1, none⟩ = some (.int .i64 (Qm.itAt d i).1.2) ∧ w.cell? ⟨g, i * 3 + 2, none⟩ = some (.int .i64 (Qm.itAt d i).2) := by
  obtain ⟨h0, h1, h2⟩ := itCells_get d i hi
  exact ⟨by rw [h.own.cellAt _ (by omega)]; exact h0, by rw [h.own.cellAt _ (by omega)]; exact h1, by rw [h.own.cellAt _ (by omega)]; exact h2⟩
/-- an item is put at place i -/
theorem HR.put {w : World} {c g cap : Nat} {d : List Qm.It} (h : HR w c g cap d) (i : Nat) (x : Qm.It) :
    HR (((w.setCell ⟨g, i * 3, none⟩ (.int .i64 x.1.1)).setCell ⟨g, i * 3 + 1, none⟩ (.int .i64 x.1.2)).setCell ⟨g, i * 3 + 2, none⟩ (.int .i64 x.2)) c g cap (d.set i x) := by
  have h1 := (((h.own.stored (i * 3) (.int .i64 x.1.1)).1.stored (i * 3 + 1) (.int .i64 x.1.2)).1.stored (i * 3 + 2) (.int .i64 x.2)).1
  rw [itCells_set] at h1
  refine ⟨?_, by simpa using h.free, h.ne, by simpa using h1, by simpa using h.len⟩
  have hn : ∀ o, (⟨g, o, none⟩ : Addr) ≠ ⟨c, 0, none⟩ := fun o e => h.ne (by cases e; rfl)
  rw [qcell_other (hn _), qcell_other (hn _), qcell_other (hn _), h.cell]
  simp
theorem turns_set (g : Nat) (w : World) (o : Nat) (v : Value) : Turns (fun k => k = g) w (w.setCell ⟨g, o, none⟩ v) :=
  ⟨rfl, rfl, rfl, by simp [World.setCell], fun k _ hk => Below.heap_setCell w _ v k hk⟩

set_option maxRecDepth 100000 in
set_option maxHeartbeats 1000000 in
theorem qitems_len (p : Option Addr) (n c : Nat) (w : World) : Calls Tryz.prog 104 #[.slice p n c] w fun e w' => e = .returned (.int .i64 (n : Int)) ∧ w = w' := by
  go_enter Tryz.func104, Tryz.ntmps104
  go_wp2
  go_ret
  exact ⟨rfl, rfl⟩

set_option maxRecDepth 100000 in
set_option maxHeartbeats 2000000 in
theorem less_any (c g cap : Nat) (d : List Qm.It) (i j : Nat) (w : World) (h : HR w c g cap d) (hi : i < d.length) (hj : j < d.length) :
    Calls Tryz.prog 144 #[.slice (some ⟨g, 0, none⟩) d.length cap, .int .i64 (i : Int), .int .i64 (j : Int)] w fun e w' => e = .returned (.bool (decide (Qm.ltI (Qm.itAt d i) (Qm.itAt d j)))) ∧ Below w.heap.size w w' := by
  have hlen := h.len
  obtain ⟨i0, i1, i2⟩ := h.at i hi
  obtain ⟨j0, j1, j2⟩ := h.at j hj
  clear h
  generalize Qm.itAt d i = x at *
  generalize Qm.itAt d j = y at *
  obtain ⟨⟨t, r⟩, k⟩ := x
  obtain ⟨⟨t', r'⟩, k'⟩ := y
  dsimp only at *
  have HC := Lib.hid (fun W => before_any t r k t' r' k' W)
  generalize decide (Qm.ltI ((t, r), k) ((t', r'), k')) = v at *
  go_enter Tryz.func144, Tryz.ntmps144
  go_wp2
  go_region_with (go_at_call 146; refine (HC.out _).mono ?_; rintro e w' ⟨rfl, hbc⟩)
  all_goals
    have hbw := Lib.hid ((Below.refl w.heap.size w).drew.trans hbc)
    clear hbc
    go_wp2
    go_ret
    exact ⟨rfl, hbw.out⟩

/-- two items change places -/
theorem HR.swap {w : World} {c g cap : Nat} {d : List Qm.It} (h : HR w c g cap d) {i j : Nat} {x y : Qm.It} (hx : Qm.itAt d i = x) (hy : Qm.itAt d j = y) :
    HR ((((((w.setCell ⟨g, i * 3, none⟩ (.int .i64 y.1.1)).setCell ⟨g, i * 3 + 1, none⟩ (.int .i64 y.1.2)).setCell ⟨g, i * 3 + 2, none⟩ (.int .i64 y.2)).setCell ⟨g, j * 3, none⟩ (.int .i64 x.1.1)).setCell ⟨g, j * 3 + 1, none⟩ (.int .i64 x.1.2)).setCell ⟨g, j * 3 + 2, none⟩ (.int .i64 x.2)) c g cap (Qm.sw d i j) := by
  subst hx hy
  exact (h.put i _).put j _
theorem turns_swap (g : Nat) (w : World) (a1 a2 a3 b1 b2 b3 : Nat) (v1 v2 v3 u1 u2 u3 : Value) :
    Turns (fun k => k = g) w ((((((w.setCell ⟨g, a1, none⟩ v1).setCell ⟨g, a2, none⟩ v2).setCell ⟨g, a3, none⟩ v3).setCell ⟨g, b1, none⟩ u1).setCell ⟨g, b2, none⟩ u2).setCell ⟨g, b3, none⟩ u3) := by
  have tr : ∀ {a b c : World}, Turns (fun k => k = g) a b → Turns (fun k => k = g) b c → Turns (fun k => k = g) a c := fun h k => h.trans (k.mono fun _ _ h => Or.inl h)
  exact tr (tr (tr (tr (tr (turns_set g w a1 v1) (turns_set g _ a2 v2)) (turns_set g _ a3 v3)) (turns_set g _ b1 u1)) (turns_set g _ b2 u2)) (turns_set g _ b3 u3)

/-- what Swap leaves -/
def Swapped (c g cap : Nat) (d : List Qm.It) (i j : Nat) (w : World) (e : Ending) (w' : World) : Prop :=
  e = .returned (.tuple #[]) ∧ HR w' c g cap (Qm.sw d i j) ∧ Turns (fun k => k = g) w w'

set_option maxRecDepth 100000 in
set_option maxHeartbeats 2000000 in
theorem swap_any (c g cap : Nat) (d : List Qm.It) (i j : Nat) (w : World) (h : HR w c g cap d) (hi : i < d.length) (hj : j < d.length) :
    Calls Tryz.prog 145 #[.slice (some ⟨g, 0, none⟩) d.length cap, .int .i64 (i : Int), .int .i64 (j : Int)] w (Swapped c g cap d i j w) := by
  have hlen := h.len
  obtain ⟨i0, i1, i2⟩ := h.at i hi
  obtain ⟨j0, j1, j2⟩ := h.at j hj
  have hf : ∀ o, w.frozen? ⟨g, o, none⟩ = false := fun o => h.own.frozenAt o
  have hS := Lib.hid (h.swap (i := i) (j := j) rfl rfl)
  have f0 := hf (i * 3)
  have f1 := hf (i * 3 + 1)
  have f2 := hf (i * 3 + 2)
  have k0 := hf (j * 3)
  have k1 := hf (j * 3 + 1)
  have k2 := hf (j * 3 + 2)
  clear h hf
  generalize Qm.itAt d i = x at *
  generalize Qm.itAt d j = y at *
  obtain ⟨⟨t, r⟩, k⟩ := x
  obtain ⟨⟨t', r'⟩, k'⟩ := y
  dsimp only at *
  obtain ⟨u0, s0⟩ := cell?_setCell_some (w := w) (p := ⟨g, i * 3, none⟩) (x := .int .i64 t') (q := ⟨g, j * 3, none⟩) (v := .int .i64 t') j0
  obtain ⟨u1, s1⟩ : ∃ u, ((w.setCell ⟨g, i * 3, none⟩ (.int .i64 t')).setCell ⟨g, i * 3 + 1, none⟩ (.int .i64 r')).cell? ⟨g, j * 3 + 1, none⟩ = some u := by
    obtain ⟨u, hu⟩ := cell?_setCell_some (w := w) (p := ⟨g, i * 3, none⟩) (x := .int .i64 t') (q := ⟨g, j * 3 + 1, none⟩) (v := .int .i64 r') j1
    exact cell?_setCell_some hu
  obtain ⟨u2, s2⟩ : ∃ u, (((w.setCell ⟨g, i * 3, none⟩ (.int .i64 t')).setCell ⟨g, i * 3 + 1, none⟩ (.int .i64 r')).setCell ⟨g, i * 3 + 2, none⟩ (.int .i64 k')).cell? ⟨g, j * 3 + 2, none⟩ = some u := by
    obtain ⟨u, hu⟩ := cell?_setCell_some (w := w) (p := ⟨g, i * 3, none⟩) (x := .int .i64 t') (q := ⟨g, j * 3 + 2, none⟩) (v := .int .i64 k') j2
    obtain ⟨u, hu⟩ := cell?_setCell_some (p := ⟨g, i * 3 + 1, none⟩) (x := .int .i64 r') hu
    exact cell?_setCell_some hu
  go_enter Tryz.func145, Tryz.ntmps145
  go_wp2
  go_region
  go_end0
  exact ⟨rfl, hS.out.below (Below.refl _ _).drew, (turns_swap g w _ _ _ _ _ _ _ _ _ _ _ _).trans (Turns.of_below (Below.refl _ _).drew)⟩

end Go.Proofs.YtaplemkmkbjodaaGreat
