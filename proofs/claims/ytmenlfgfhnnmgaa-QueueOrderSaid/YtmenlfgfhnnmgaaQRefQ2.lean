/-
  THE DOCUMENT's QUEUE: Push, Peek.
  No conditions but sizes.
-/
import Derived.Test.YtmenlfgfhnnmgaaQRefQ
namespace Go.Proofs.Ytmenlfgfhnnmgaa
open Go.RowKit

theorem info_ritem : (Try.prog.info? 36).map (fun i => (i.zero, i.size, i.bytes)) = some (some (.agg #[.int .i64 0, .int .i64 0, .int .i64 0]), 3, 24) := by kernel_rfl

/-- what the document's Push leaves -/
def RPushed (c : Nat) (p : Option Addr) (d : List Qm.It) (w : World) (e : Ending) (w' : World) : Prop :=
  e = .returned (.int .i64 0) ∧ ∃ p' cap', RQ w' c p' cap' d ∧ Turns (fun k => k = c ∨ ∃ a, p = some a ∧ a.block = k) w w' ∧ (∀ a, p' = some a → p = some a ∨ w.heap.size ≤ a.block)

/-- behind the append: the cell is as it was, and may be written; what it is then -/
theorem rpushed_new {c : Nat} {p p' : Option Addr} {cap c' : Nat} {d : List Qm.It} {x : Qm.It} {w W w1 : World} (h : RQ W c p cap d) (hb : Below w.heap.size w W) (hne : ∀ a, p = some a → a.block ≠ c)
    (ho : w1.ownsRow 0 36 3 (.slice p' (d.length + 1) c') (d.length + 1) (itCells d ++ itCells [x])) (hg : W.grownBy w1 (Value.slice p d.length cap).ownBlock)
    (hf : ∀ g, (Value.slice p' (d.length + 1) c').ownBlock = some g → (Value.slice p d.length cap).ownBlock = some g ∨ W.heap.size ≤ g) (hc : c < w.heap.size) (hl : d.length < 2000) :
    w1.cell? ⟨c, 0, none⟩ = some (.slice p d.length cap) ∧ w1.frozen? ⟨c, 0, none⟩ = false ∧
    ∀ w2, Below w1.heap.size w1 w2 → RPushed c p (d ++ [x]) w (.returned (.int .i64 0)) (w2.setCell ⟨c, 0, none⟩ (.slice p' (d.length + 1) c')) := by
  have hpb : ∀ g, (Value.slice p d.length cap).ownBlock = some g → ∃ a, p = some a ∧ a.block = g := by
    intro g hg
    cases p with
    | none => cases hg
    | some a => cases hg; exact ⟨a, rfl, rfl⟩
  have ht := Turns.of_grown hg
  have hcn : ¬ (Value.slice p d.length cap).ownBlock = some c := fun e => by
    obtain ⟨a, ha, e⟩ := hpb c e
    exact hne a ha e
  have k1 := ht.cell h.cell hcn
  have k2 := ht.frozen (cell_lt h.cell) hcn
  refine ⟨k1, by rw [k2]; exact h.free, fun w2 hw2 => ⟨rfl, p', c', ⟨?_, ?_, ?_, ?_, ?_⟩, ?_, ?_⟩⟩
  · rw [List.length_append]
    exact cell_same (by rw [hw2.cell (cell_lt k1)]; exact k1)
  · rw [World.frozen?_setCell, hw2.frozen (cell_lt k1), k2]; exact h.free
  · rw [itCells_append, List.length_append]
    refine (turns_set c w2 0 _).own ((Turns.of_below (F := fun _ => False) hw2).own ho fun _ _ h => h) fun g hg2 e => ?_
    subst e
    rcases hf g hg2 with h1 | h1
    · exact hcn h1
    · have := hb.size; omega
  · intro a ha e
    subst e
    rcases hf a.block (by rw [ha]; rfl) with h1 | h1
    · exact hcn h1
    · have := hb.size; omega
  · rw [List.length_append, List.length_singleton]; omega
  · refine (Turns.of_below hb).trans ((ht.mono fun k _ hk => Or.inl (Or.inr (hpb k hk))).trans ?_)
    refine (Turns.of_below hw2).trans ((turns_set c w2 0 _).mono fun k _ hk => ?_)
    exact Or.inl (Or.inl (Or.inl (Or.inl hk)))
  · intro a ha
    rcases hf a.block (by rw [ha]; rfl) with h1 | h1
    · left
      rcases own_addr h.own with rfl | ⟨g, rfl⟩
      · cases h1
      · cases h1
        rcases own_addr ho with rfl | ⟨g', rfl⟩
        · cases ha
        · cases ha; rfl
    · right; have := hb.size; omega

set_option maxRecDepth 100000 in
set_option maxHeartbeats 1500000 in
theorem rpush_any (s : Nat) (p : Option Addr) (cap : Nat) (d : List Qm.It) (t r k : Int) (w : World) (h : RQ w s p cap d) (hl : d.length < 2000) :
    Calls Try.prog 29 #[.pointer (some ⟨s, 0, none⟩), .agg #[.int .i64 t, .int .i64 r, .int .i64 k]] w (RPushed s p (d ++ [((t, r), k)]) w) := by
  obtain ⟨i0, hi, hz0, hz1, hz2⟩ := info_parts info_ritem
  have hcw := cell_lt h.cell
  have hb0 : Below w.heap.size w (w.alloc (.cells #[.int .i64 t, .int .i64 r, .int .i64 k] 36)) := (Below.refl _ _).alloc (Nat.le_refl _) _
  have hc := (h.below hb0).cell
  have hf := (h.below hb0).free
  have hbel : Below w.heap.size w ((w.alloc (.cells #[.int .i64 t, .int .i64 r, .int .i64 k] 36)).alloc (.cells #[.int .i64 t, .int .i64 r, .int .i64 k] 36)).drew := (hb0.alloc (by simp) _).drew
  have HO := Lib.hid (h.below hbel)
  have HRD := Lib.hid (show Rd ((w.alloc (.cells #[.int .i64 t, .int .i64 r, .int .i64 k] 36)).alloc (.cells #[.int .i64 t, .int .i64 r, .int .i64 k] 36)).drew (some ⟨w.heap.size + 1, 0, none⟩) (itCells [((t, r), k)]) from by have h9 := rd_one (w.alloc (.cells #[.int .i64 t, .int .i64 r, .int .i64 k] 36)) ((t, r), k) 36; rw [World.size_alloc] at h9; exact h9)
  have HBel := Lib.hid hbel
  have hne : ∀ a, p = some a → a.block ≠ s := h.ne
  have HNE := Lib.hid hne
  have dh : decide (1048576 ≤ (d.length : Int)) = false := decide_eq_false (by omega)
  clear h hbel hne hb0
  go_enter Try.func29, Try.ntmps29
  go_wp2
  go_region_law (refine step_append_k rfl _ _ 22 rfl 0 36 i0 _ 3 24 Try.underlying22 hi hz0 hz1 (by decide) hz2 (by decide) rfl _ d.length (itCells d) rfl HO.out.own _ 1 1 (itCells [((t, r), k)]) rfl rfl HRD.out (fun e => by cases e) itCells_one (by omega) (Nat.zero_le _) ?_; intro p' c' w1 ho1 hg1 hf1; have hq1 := rpushed_new HO.out HBel.out HNE.out ho1 hg1 hf1 hcw hl; have hc1 := hq1.1; have hc2 := hq1.2.1; have HQ1 := Lib.hid hq1.2.2; clear hq1 ho1 hg1 hf1 hc hf)
  all_goals
    go_simp
    go_wp2
    go_ret
    exact HQ1.out w1 (Below.refl _ _)

/-- what the document's Peek leaves -/
def RPeeked (l : List Qm.It) (w : World) (e : Ending) (w' : World) : Prop :=
  ((l = [] ∧ e = .returned (itB ((0, 0), 0) false)) ∨ ∃ x, Qm.Least x l ∧ e = .returned (itB x true)) ∧ Below w.heap.size w w'

set_option maxRecDepth 100000 in
set_option maxHeartbeats 1500000 in
theorem rpeek_any (s : Nat) (p : Option Addr) (cap : Nat) (d : List Qm.It) (w : World) (h : RQ w s p cap d) :
    Calls Try.prog 31 #[.pointer (some ⟨s, 0, none⟩)] w (RPeeked d w) := by
  have hb := (Below.refl w.heap.size w).alloc (Nat.le_refl _) (.cells #[.int .i64 0, .int .i64 0, .int .i64 0] 36)
  have HF := Lib.hid (first_any s p cap d _ (h.below hb))
  have HH := Lib.hid (h.below hb)
  have HB := Lib.hid hb
  have z0 : (w.alloc (.cells #[.int .i64 0, .int .i64 0, .int .i64 0] 36)).cell? ⟨w.heap.size, 0, none⟩ = some (.int .i64 0) := World.cell?_alloc_at _ _ _ _ rfl
  have z1 : (w.alloc (.cells #[.int .i64 0, .int .i64 0, .int .i64 0] 36)).cell? ⟨w.heap.size, 1, none⟩ = some (.int .i64 0) := World.cell?_alloc_at _ _ _ _ rfl
  have z2 : (w.alloc (.cells #[.int .i64 0, .int .i64 0, .int .i64 0] 36)).cell? ⟨w.heap.size, 2, none⟩ = some (.int .i64 0) := World.cell?_alloc_at _ _ _ _ rfl
  have zf : ∀ o, (w.alloc (.cells #[.int .i64 0, .int .i64 0, .int .i64 0] 36)).frozen? ⟨w.heap.size, o, none⟩ = false := fun o => World.frozen?_alloc_at _ _ _ _ rfl
  have HZ := Lib.hid (And.intro z0 (And.intro z1 (And.intro z2 zf)))
  clear h hb z0 z1 z2 zf
  go_enter Try.func31, Try.ntmps31
  go_wp2_with fail
  refine HF.out.mono ?_
  rintro e w1 ⟨k, hk, rfl, hb1⟩
  obtain ⟨z0, z1, z2, zf⟩ := HZ.out
  have y0 := hb1.cell (p := ⟨w.heap.size, 0, none⟩) (by simp)
  have y1 := hb1.cell (p := ⟨w.heap.size, 1, none⟩) (by simp)
  have y2 := hb1.cell (p := ⟨w.heap.size, 2, none⟩) (by simp)
  rw [z0] at y0
  rw [z1] at y1
  rw [z2] at y2
  have yf0 : w1.frozen? ⟨w.heap.size, 0, none⟩ = false := by rw [hb1.frozen (by simp)]; exact zf 0
  have yf1 : w1.frozen? ⟨w.heap.size, 1, none⟩ = false := by rw [hb1.frozen (by simp)]; exact zf 1
  have yf2 : w1.frozen? ⟨w.heap.size, 2, none⟩ = false := by rw [hb1.frozen (by simp)]; exact zf 2
  have HW := Lib.hid (HH.out.below hb1)
  have HB1 := Lib.hid (HB.out.trans (hb1.mono (by simp)))
  have hc := HW.out.cell
  clear hb1 z0 z1 z2 zf
  rcases hk with ⟨hd, rfl⟩ | ⟨i, rfl, hi, hx⟩
  · have HD := Lib.hid hd
    obtain ⟨r0, r1, r2, r3, r4, r5⟩ := res3 y0 y1 y2 (.int .i64 0) (.int .i64 0) (.int .i64 0)
    clear hd
    go_wp2
    exact bodyPost_ret (v := itB ((0, 0), 0) false) (by simp [results, Try.results31, go_sem, itB, r3, r4, r5]) rfl ⟨Or.inl ⟨HD.out, rfl⟩, put3_below HB1.out (Nat.le_refl _) _ _ _⟩
  · have hrd := HW.out.rd
    have hlen := HW.out.len
    obtain ⟨b, o, rfl, -⟩ := hrd.addr (by rw [itCells_length]; omega)
    obtain ⟨x0, x1, x2⟩ := hrd.it i hi
    have HX := Lib.hid hx
    have di : decide ((i : Int) < 0) = false := decide_eq_false (by omega)
    generalize Qm.itAt d i = x at *
    obtain ⟨⟨t, r⟩, k⟩ := x
    dsimp only at *
    obtain ⟨r0, r1, r2, r3, r4, r5⟩ := res3 y0 y1 y2 (.int .i64 t) (.int .i64 r) (.int .i64 k)
    clear hrd hx
    go_wp2
    exact bodyPost_ret (v := itB ((t, r), k) true) (by simp [results, Try.results31, go_sem, itB, r3, r4, r5]) rfl ⟨Or.inr ⟨_, HX.out, rfl⟩, put3_below HB1.out (Nat.le_refl _) _ _ _⟩

end Go.Proofs.Ytmenlfgfhnnmgaa
