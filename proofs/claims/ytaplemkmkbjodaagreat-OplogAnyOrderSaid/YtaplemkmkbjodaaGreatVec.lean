/-
  VECTORS IN MEMORY: sixteen numbers by value, in a block of their own; held against each other.
  No conditions.
-/
import Derived.Test.YtaplemkmkbjodaaGreatGA
import Derived.Deep.MidRow
import Derived.Deep.RegionHeld
import Derived.ChangeKeysEq
namespace Go.Proofs.YtaplemkmkbjodaaGreat
open Go.RowKit

/-- the sixteen cells of a vector -/
def vecL (a : Nat → Int) : List Value := (List.range 16).map fun i => .int .i64 (a i)
theorem vecL_length (a : Nat → Int) : (vecL a).length = 16 := by simp [vecL]
theorem vecL_get (a : Nat → Int) (i : Nat) (h : i < 16) : (vecL a)[i]? = some (.int .i64 (a i)) := by simp [vecL, h]
theorem vecL_one (a : Nat → Int) : ∀ v ∈ vecL a, v.oneCell' = true := by
  intro v hv
  obtain ⟨i, -, rfl⟩ := List.mem_map.1 hv
  rfl
theorem vecL_congr {a b : Nat → Int} (h : ∀ i, i < 16 → a i = b i) : vecL a = vecL b := List.map_congr_left fun i hi => by rw [h i (by simpa using hi)]
/-- its cells -/
def vecA (a : Nat → Int) : Array Value := (vecL a).toArray
theorem vecA_size (a : Nat → Int) : (vecA a).size = 16 := by simp [vecA, vecL_length]
theorem vecA_get (a : Nat → Int) (i : Nat) (h : i < 16) : (vecA a)[i]? = some (.int .i64 (a i)) := by simp [vecA, vecL_get a i h]
theorem vecA_congr {a b : Nat → Int} (h : ∀ i, i < 16 → a i = b i) : vecA a = vecA b := by rw [vecA, vecA, vecL_congr h]
theorem vecA_one (a : Nat → Int) : (vecA a).all (·.oneCell') = true := all_oneCell_toArray (vecL_one a)
/-- are they the same? -/
def eqv (a b : Nat → Int) : Bool := (List.range 16).all fun i => a i == b i
theorem eqv_iff {a b : Nat → Int} : eqv a b = true ↔ ∀ i, i < 16 → a i = b i := by simp [eqv]
theorem eqv_refl (a : Nat → Int) : eqv a a = true := eqv_iff.2 fun _ _ => rfl

/-- a vector lies in block b, which is a row of its own -/
def VAt (w : World) (b : Nat) (a : Nat → Int) : Prop := ∃ T, w.heap[b]? = some (.cells (vecA a) T (0, 0))
theorem VAt.cell {w : World} {b : Nat} {a : Nat → Int} (h : VAt w b a) (i : Nat) (hi : i < 16) : w.cell? ⟨b, i, none⟩ = some (.int .i64 (a i)) := by
  obtain ⟨T, h⟩ := h
  rw [cell_of_row w b i _ T (0, 0) h, vecA_get a i hi]
theorem VAt.lt {w : World} {b : Nat} {a : Nat → Int} (h : VAt w b a) : b < w.heap.size := cell_lt (h.cell 0 (by decide))
theorem VAt.free {w : World} {b : Nat} {a : Nat → Int} (h : VAt w b a) (i : Nat) : w.frozen? ⟨b, i, none⟩ = false := by
  obtain ⟨T, h⟩ := h
  exact frozen_of_row w b i _ T h
theorem VAt.below {w w' : World} {b : Nat} {a : Nat → Int} (h : VAt w b a) {B : Nat} (hb : Below B w w') (hB : b < B) : VAt w' b a := by
  obtain ⟨T, h⟩ := h
  exact ⟨T, by rw [hb.block b hB]; exact h⟩
theorem VAt.kept {w w' : World} {b : Nat} {a : Nat → Int} (h : VAt w b a) (hb : Below w.heap.size w w') : VAt w' b a := h.below hb h.lt
theorem VAt.drew {w : World} {b : Nat} {a : Nat → Int} (h : VAt w b a) : VAt w.drew b a := h
theorem VAt.new (w : World) (a : Nat → Int) (T : TypeId) : VAt (w.alloc (.cells (vecA a) T)) w.heap.size a := ⟨T, heap_alloc_new w _⟩
theorem VAt.set {w : World} {b : Nat} {a : Nat → Int} (h : VAt w b a) (i : Nat) (x : Int) : VAt (w.setCell ⟨b, i, none⟩ (.int .i64 x)) b (fun j => if j = i then x else a j) := by
  obtain ⟨T, h⟩ := h
  refine ⟨T, ?_⟩
  rw [heap_setCell_same w b i _ T _ h]
  congr 2
  apply Array.ext_getElem?
  intro j
  by_cases hj : j < 16
  · rw [Array.getElem?_setIfInBounds, vecA_get _ j hj, vecA_get _ j hj, vecA_size]
    by_cases e : i = j
    · subst e; simp [hj]
    · rw [if_neg e, if_neg (fun h => e h.symm)]
  · rw [Array.getElem?_eq_none (by simp [vecA_size]; omega), Array.getElem?_eq_none (by rw [vecA_size]; omega)]
theorem VAt.congr {w : World} {b : Nat} {a c : Nat → Int} (h : VAt w b a) (e : ∀ i, i < 16 → a i = c i) : VAt w b c := by
  obtain ⟨T, h⟩ := h
  exact ⟨T, by rw [← vecA_congr e]; exact h⟩
theorem VAt.setOther {w : World} {b c : Nat} {a : Nat → Int} (h : VAt w b a) (hne : b ≠ c) (i : Nat) (x : Value) : VAt (w.setCell ⟨c, i, none⟩ x) b a := by
  obtain ⟨T, h⟩ := h
  exact ⟨T, by rw [heap_setCell_other w ⟨c, i, none⟩ b x hne]; exact h⟩

section
variable {P : Program} (w : World)
theorem run_part_vec (e : TypeId) (he : P.underlying e = some (.int .i64)) (a : Nat → Int) (i : Nat) (hi : i < 16) : (part e (vecA a) i).run P w = .ok (.int .i64 (a i)) w := by
  simp [part, isAgg, run_underlying he, vecA_get a i hi]
theorem run_index_vec (t e : TypeId) (ht : P.underlying t = some (.array 16 e)) (he : P.underlying e = some (.int .i64)) (hsz : ∀ w, (sizeOf e).run P w = .ok 1 w) (a : Nat → Int) (i : Nat) (hi : i < 16) :
    (Instr.index t (.agg (vecA a)) (.int .i64 (i : Int))).run P w = .ok (.int .i64 (a i)) w := by
  have h : (0 : Int) ≤ (i : Int) ∧ (i : Int) < 16 := ⟨by omega, by omega⟩
  simp [Instr.index, run_underlying ht, asIntOf, h, hsz, run_part_vec w e he a i hi]
  omega
theorem run_equalIn_vec (d : Nat) (t e : TypeId) (ht : P.underlying t = some (.array 16 e)) (he : P.underlying e = some (.int .i64)) (hsz : ∀ w, (sizeOf e).run P w = .ok 1 w) (a b : Nat → Int) :
    (Op.equalIn (d + 2) t (.agg (vecA a)) (.agg (vecA b))).run P w = .ok (eqv a b) w := by
  rw [eqv, List.range_eq_range', Op.equalIn]
  simp only [Sem.run_bind, run_underlying ht, Result.andThen_ok, hsz, Std.Legacy.Range.forIn_eq_forIn_range', Std.Legacy.Range.size, Nat.sub_zero, Nat.add_sub_cancel, Nat.div_one]
  have hl : ∀ i ∈ List.range' 0 16 1, i < 16 := fun i hi => by simpa using (List.mem_range'_1.1 hi).2
  generalize List.range' 0 16 1 = l at hl ⊢
  induction l with
  | nil => simp
  | cons i l ih =>
    have hi : i < 16 := hl i (by simp)
    have pe : (Op.equalIn (d + 1) e (.int .i64 (a i)) (.int .i64 (b i))).run P w = .ok (a i == b i) w := run_equalIn_int w d e .i64 .i64 _ _ he
    simp only [List.forIn_cons, Sem.run_bind, Nat.mul_one, run_part_vec w e he _ i hi, pe, Result.andThen_ok, List.all_cons]
    cases hb : (a i == b i)
    · simp
    · simp only [Bool.not_true, Bool.false_eq_true, if_false, Sem.run_pure, Result.andThen_ok, Bool.true_and]
      have := ih fun j hj => hl j (by simp [hj])
      simp only [Nat.mul_one] at this
      exact this
/-- the whole of it, read -/
theorem run_loadAt_vec (t e : TypeId) (ht : P.underlying t = some (.array 16 e)) (hi : (P.info? t).map (·.size) = some 16) (b : Nat) (a : Nat → Int) (h : VAt w b a) :
    (Instr.loadAt t (.pointer (some ⟨b, 0, none⟩))).run P w = .ok (.agg (vecA a)) w := by
  obtain ⟨T, h⟩ := h
  simp only [Instr.loadAt, Instr.sureAddr, Sem.run_bind, Sem.run_pure, Result.andThen_ok]
  exact run_loadVar_row w b T t _ (0, 0) _ h ht rfl (by rw [vecA_size]; exact hi)
end
end Go.Proofs.YtaplemkmkbjodaaGreat
