/-
  slices.Compact at stamps, over a row of the call's own.
  No conditions but sizes.
-/
import Derived.Test.YtilkokhapcgolaaGreatQCmp
import Derived.Lib.SliceRun
import Derived.Deep.LoopGhost
import Derived.BigRegion
import Derived.Outline
namespace Go.Proofs.YtilkokhapcgolaaGreat
open Go.RowKit

/-- the block's first cells are these stamps, and may be written -/
def CS (w : World) (b N : Nat) (f : Nat → Qm.St) : Prop :=
  ∀ i, i < N → w.cell? ⟨b, i * 2, none⟩ = some (.int .i64 (f i).1) ∧ w.cell? ⟨b, i * 2 + 1, none⟩ = some (.int .i64 (f i).2) ∧ w.frozen? ⟨b, i * 2, none⟩ = false ∧ w.frozen? ⟨b, i * 2 + 1, none⟩ = false
theorem CS.below {w w' : World} {b N : Nat} {f : Nat → Qm.St} (h : CS w b N f) (hb : Below w.heap.size w w') : CS w' b N f := fun i hi => by
  obtain ⟨h0, h1, h2, h3⟩ := h i hi
  have hl : b < w.heap.size := cell_lt h0
  exact ⟨by rw [hb.cell (by simpa using hl)]; exact h0, by rw [hb.cell (by simpa using hl)]; exact h1, by rw [hb.frozen (by simpa using hl)]; exact h2, by rw [hb.frozen (by simpa using hl)]; exact h3⟩
theorem CS.set {w : World} {b N : Nat} {f : Nat → Qm.St} (h : CS w b N f) (k : Nat) (x : Qm.St) :
    CS ((w.setCell ⟨b, k * 2, none⟩ (.int .i64 x.1)).setCell ⟨b, k * 2 + 1, none⟩ (.int .i64 x.2)) b N (fun i => if i = k then x else f i) := fun i hi => by
  obtain ⟨h0, h1, h2, h3⟩ := h i hi
  refine ⟨?_, ?_, by simpa using h2, by simpa using h3⟩
  · rw [qcell_other (by intro e; have := (Addr.mk.inj e).2.1; omega)]
    by_cases e : i = k
    · subst e; simp only [if_true]; exact qcell_same h0
    · show _ = some (Value.int .i64 (if i = k then x else f i).1)
      rw [if_neg e, qcell_other (by intro e; have := (Addr.mk.inj e).2.1; omega)]; exact h0
  · by_cases e : i = k
    · subst e; simp only [if_true]; exact qcell_same (u := .int .i64 (f i).2) (by rw [qcell_other (by simp)]; exact h1)
    · show _ = some (Value.int .i64 (if i = k then x else f i).2)
      rw [if_neg e, qcell_other (by intro e; have := (Addr.mk.inj e).2.1; omega), qcell_other (by intro e; have := (Addr.mk.inj e).2.1; omega)]; exact h1
theorem rd_of_cells {w : World} {b : Nat} {l : List Qm.St} (h : ∀ i, i < l.length → w.cell? ⟨b, i * 2, none⟩ = some (.int .i64 (Qm.stOf l i).1) ∧ w.cell? ⟨b, i * 2 + 1, none⟩ = some (.int .i64 (Qm.stOf l i).2)) :
    Rd w (some ⟨b, 0, none⟩) (stCells l) := fun _ => ⟨b, 0, rfl, fun i u hu => by
  have hi := (List.getElem?_eq_some_iff.1 hu).1
  rw [stCells_length] at hi
  obtain ⟨c0, c1⟩ := h (i / 2) (by omega)
  obtain ⟨g0, g1⟩ := stCells_get l (i / 2) (by omega)
  rw [Nat.zero_add]
  rcases Nat.mod_two_eq_zero_or_one i with he | he
  · have e : i / 2 * 2 = i := by omega
    rw [e] at c0 g0
    rw [c0, ← hu, g0]
  · have e : i / 2 * 2 + 1 = i := by omega
    rw [e] at c1 g1
    rw [c1, ← hu, g1]⟩

/-- what the second loop keeps -/
structure CInv (l : List Qm.St) (m kk : Nat) (f : Nat → Qm.St) : Prop where
  len : kk = (Qm.cp l m).length
  low : ∀ i, i < kk → f i = Qm.stOf (Qm.cp l m) i
  high : ∀ i, m ≤ i + 1 → f i = Qm.stOf l i
  lt : kk < m
  pos : 0 < m
theorem CInv.start {l : List Qm.St} {k : Nat} (h0 : 0 < k) (hk : k < l.length) (hall : ∀ j, 0 < j → j < k → Qm.stOf l j ≠ Qm.stOf l (j - 1)) (he : Qm.stOf l k = Qm.stOf l (k - 1)) : CInv l (k + 1) k (Qm.stOf l) := by
  have e : Qm.cp l (k + 1) = l.take k := by rw [Qm.cp_succ l h0, if_pos he, Qm.cp_take l k (by omega) hall]
  refine ⟨by rw [e, List.length_take]; omega, fun i hi => ?_, fun _ _ => rfl, by omega, by omega⟩
  rw [e]
  simp [Qm.stOf, List.getD, hi]
theorem CInv.skip {l : List Qm.St} {m kk : Nat} {f : Nat → Qm.St} (h : CInv l m kk f) (he : Qm.stOf l m = Qm.stOf l (m - 1)) : CInv l (m + 1) kk f := by
  have e : Qm.cp l (m + 1) = Qm.cp l m := by rw [Qm.cp_succ l h.pos, if_pos he]
  exact ⟨by rw [e]; exact h.len, fun i hi => by rw [e]; exact h.low i hi, fun i hi => h.high i (by omega), by have := h.lt; omega, by omega⟩
theorem CInv.keep {l : List Qm.St} {m kk : Nat} {f : Nat → Qm.St} (h : CInv l m kk f) (he : Qm.stOf l m ≠ Qm.stOf l (m - 1)) : CInv l (m + 1) (kk + 1) (fun i => if i = kk then Qm.stOf l m else f i) := by
  have e : Qm.cp l (m + 1) = Qm.cp l m ++ [Qm.stOf l m] := by rw [Qm.cp_succ l h.pos, if_neg he]
  have hl := h.len
  have hlt := h.lt
  refine ⟨by rw [e, List.length_append, ← hl]; rfl, fun i hi => ?_, fun i hi => ?_, by omega, by omega⟩
  · rw [e]
    by_cases hik : i = kk
    · rw [if_pos hik, hik]
      simp [Qm.stOf, List.getD, hl]
    · have hi2 : i < (Qm.cp l m).length := by omega
      rw [if_neg hik, h.low i (by omega)]
      simp [Qm.stOf, List.getD, List.getElem?_append_left hi2]
  · rw [if_neg (by omega)]; exact h.high i (by omega)

theorem st_cases (x y : Qm.St) : x = y ∨ (x ≠ y ∧ ((x.1 == y.1) : Bool) = false) ∨ (x ≠ y ∧ x.1 = y.1 ∧ ((x.2 == y.2) : Bool) = false) := by
  obtain ⟨a, b⟩ := x
  obtain ⟨c, d⟩ := y
  by_cases h : a = c
  · by_cases k : b = d
    · exact Or.inl (by rw [h, k])
    · exact Or.inr (Or.inr ⟨fun e => k (Prod.mk.inj e).2, h, by simpa using k⟩)
  · exact Or.inr (Or.inl ⟨fun e => h (Prod.mk.inj e).1, by simpa using h⟩)

theorem turns_setCells (b : Nat) : ∀ (vs : List Value) (o : Nat) (w : World), Turns (fun k => k = b) w (w.setCells b o vs)
  | [], _, w => Turns.refl _ w
  | v :: r, o, w => by
    rw [World.setCells]
    exact (⟨rfl, rfl, rfl, by simp [World.setCell], fun k _ hk => Below.heap_setCell w _ v k hk⟩ : Turns (fun k => k = b) w (w.setCell ⟨b, o, none⟩ v)).trans ((turns_setCells b r (o + 1) _).mono fun _ _ h => Or.inl h)

theorem run_clear_st {P : Program} (w : World) (t e ty : TypeId) (z : Value) (ht : P.underlying t = some (.slice e)) (hv : ∀ w, (zeroValue e).run P w = .ok z w) (hz : z.cells = #[.int .i64 0, .int .i64 0]) (b o n c : Nat) (hn : 0 < n)
    (hc : ∀ j, j < n * 2 → (w.cell? ⟨b, o + j, none⟩).isSome = true) (hf : ∀ j, j < n * 2 → w.frozen? ⟨b, o + j, none⟩ = false) :
    (Builtin.clear_ #[t] ty #[.slice (some ⟨b, o, none⟩) n c]).run P w = .ok (.tuple #[]) (w.setCells b o (Builtin.zeroCells #[.int .i64 0, .int .i64 0] n).toList) := by
  have hs : (Builtin.zeroCells #[.int .i64 0, .int .i64 0] n).toList.length = n * 2 := by rw [Array.length_toList, size_zeroCells]; rfl
  have hst := run_storeCells_cells (P := P) b o (Builtin.zeroCells #[.int .i64 0, .int .i64 0] n).toList 0 w (by rw [hs]; simpa using hc) (by rw [hs]; simpa using hf) (by
    intro v hv'
    simp only [Builtin.zeroCells, Array.toList_map, Array.toList_range, List.mem_map] at hv'
    obtain ⟨i, hi, rfl⟩ := hv'
    have h2 : i % (#[Value.int .i64 0, Value.int .i64 0] : Array Value).size = 0 ∨ i % (#[Value.int .i64 0, Value.int .i64 0] : Array Value).size = 1 := by
      show i % 2 = 0 ∨ i % 2 = 1
      omega
    rcases h2 with h2 | h2 <;> rw [h2] <;> rfl)
  simp only [Nat.add_zero] at hst
  obtain ⟨m, rfl⟩ : ∃ m, n = m + 1 := ⟨n - 1, by omega⟩
  simp [Builtin.clear_, run_underlying ht, hv, hz, hst]

theorem turns_set2 (b : Nat) (w : World) (o1 o2 : Nat) (u v : Value) : Turns (fun k => k = b) w ((w.drew.setCell ⟨b, o1, none⟩ u).setCell ⟨b, o2, none⟩ v) := by
  have h1 : Turns (fun k => k = b) w.drew (w.drew.setCell ⟨b, o1, none⟩ u) := ⟨rfl, rfl, rfl, by simp [World.setCell], fun k _ hk => Below.heap_setCell w.drew _ u k hk⟩
  have h2 : Turns (fun k => k = b) (w.drew.setCell ⟨b, o1, none⟩ u) ((w.drew.setCell ⟨b, o1, none⟩ u).setCell ⟨b, o2, none⟩ v) := ⟨rfl, rfl, rfl, by simp [World.setCell], fun k _ hk => Below.heap_setCell _ _ v k hk⟩
  exact ((Turns.of_below (Below.refl _ _).drew).trans (h1.mono fun _ _ h => Or.inl h)).trans (h2.mono fun _ _ h => Or.inl h)

/-- what Compact leaves -/
def Compacted (b cap : Nat) (l : List Qm.St) (w : World) (e : Ending) (w' : World) : Prop :=
  e = .returned (.slice (some ⟨b, 0, none⟩) (Qm.cp l l.length).length cap) ∧ Rd w' (some ⟨b, 0, none⟩) (stCells (Qm.cp l l.length)) ∧ Turns (fun k => k = b) w w'
theorem compacted_all {b cap : Nat} {l : List Qm.St} {w w' : World} (h : CS w' b l.length (Qm.stOf l)) (hall : ∀ j, 0 < j → j < l.length → Qm.stOf l j ≠ Qm.stOf l (j - 1)) (ht : Turns (fun k => k = b) w w') :
    Compacted b cap l w (.returned (.slice (some ⟨b, 0, none⟩) l.length cap)) w' := by
  have e : Qm.cp l l.length = l := by rw [Qm.cp_take l _ (Nat.le_refl _) hall, List.take_length]
  refine ⟨by rw [e], ?_, ht⟩
  rw [e]
  exact rd_of_cells fun i hi => ⟨(h i hi).1, (h i hi).2.1⟩

end Go.Proofs.YtilkokhapcgolaaGreat
