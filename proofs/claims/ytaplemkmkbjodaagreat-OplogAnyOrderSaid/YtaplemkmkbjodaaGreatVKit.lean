/-
  VECTORS, PLAINLY: right, join, meet, covers, used, total; and what a program's type tables say of them.
  No conditions.
-/
import Derived.Test.YtaplemkmkbjodaaGreatVec
namespace Go.Proofs.YtaplemkmkbjodaaGreat
open Go.RowKit

/-- may it be? up to the first k -/
def vOk (a : Nat → Int) (k : Nat) : Bool := (List.range k).all fun i => decide (0 ≤ a i) && decide (a i ≤ 512)
def vRight (a : Nat → Int) : Bool := vOk a 16
theorem vOk_iff {a : Nat → Int} {k : Nat} : vOk a k = true ↔ ∀ i, i < k → 0 ≤ a i ∧ a i ≤ 512 := by simp [vOk]
theorem vRight_iff {a : Nat → Int} : vRight a = true ↔ ∀ i, i < 16 → 0 ≤ a i ∧ a i ≤ 512 := vOk_iff
theorem vOk_succ {a : Nat → Int} {k : Nat} (h : vOk a k = true) (h0 : 0 ≤ a k) (h1 : a k ≤ 512) : vOk a (k + 1) = true := by
  rw [vOk_iff] at h ⊢
  intro i hi
  rcases Nat.lt_or_ge i k with e | e
  · exact h i e
  · obtain rfl : i = k := by omega
    exact ⟨h0, h1⟩
theorem vRight_bad {a : Nat → Int} {k : Nat} (hk : k < 16) (h : a k < 0 ∨ 512 < a k) : vRight a = false := by
  rw [Bool.eq_false_iff]
  intro hr
  have := vRight_iff.1 hr k hk
  omega
def joinF (a b : Nat → Int) : Nat → Int := fun i => if a i < b i then b i else a i
def meetF (a b : Nat → Int) : Nat → Int := fun i => if b i < a i then b i else a i
/-- the first k are done -/
def upTo (k : Nat) (f a : Nat → Int) : Nat → Int := fun i => if i < k then f i else a i
def coversB (a b : Nat → Int) : Bool := (List.range 16).all fun i => decide (b i ≤ a i)
theorem coversB_iff {a b : Nat → Int} : coversB a b = true ↔ ∀ i, i < 16 → b i ≤ a i := by simp [coversB]
theorem covers_join (a b : Nat → Int) : eqv (joinF a b) a = coversB a b := by
  rw [Bool.eq_iff_iff, eqv_iff, coversB_iff]
  refine forall_congr' fun i => forall_congr' fun _ => ?_
  unfold joinF
  split <;> omega
/-- 0, 1, -1 or 2 -/
def cmpF (a b : Nat → Int) : Int := if eqv a b = true then 0 else if coversB a b = true then 1 else if coversB b a = true then -1 else 2
theorem eqv_covers (a b : Nat → Int) : eqv a b = (coversB a b && coversB b a) := by
  rw [Bool.eq_iff_iff, eqv_iff, Bool.and_eq_true, coversB_iff, coversB_iff]
  constructor
  · intro h; exact ⟨fun i hi => by rw [h i hi]; exact Int.le_refl _, fun i hi => by rw [h i hi]; exact Int.le_refl _⟩
  · intro ⟨h, k⟩ i hi; have := h i hi; have := k i hi; omega
/-- how many numbers up to the last one that is not 0, of the first k -/
def usedTo (a : Nat → Int) : Nat → Nat
  | 0 => 0
  | k + 1 => if a k = 0 then usedTo a k else k + 1
def usedF (a : Nat → Int) : Nat := usedTo a 16
theorem usedTo_le (a : Nat → Int) (k : Nat) : usedTo a k ≤ k := by
  induction k with
  | zero => exact Nat.le_refl _
  | succ k ih => unfold usedTo; split <;> omega
theorem usedTo_ge (a : Nat → Int) (k i : Nat) (h : usedTo a k ≤ i) (hi : i < k) : a i = 0 := by
  induction k with
  | zero => omega
  | succ k ih =>
    unfold usedTo at h
    split at h
    · rcases Nat.lt_or_ge i k with e | e
      · exact ih h e
      · obtain rfl : i = k := by omega
        assumption
    · omega
theorem usedTo_last (a : Nat → Int) (k : Nat) (h : 0 < usedTo a k) : a (usedTo a k - 1) ≠ 0 := by
  induction k with
  | zero => simp [usedTo] at h
  | succ k ih =>
    by_cases e : a k = 0
    · have e' : usedTo a (k + 1) = usedTo a k := by rw [usedTo, if_pos e]
      rw [e'] at h ⊢; exact ih h
    · have e' : usedTo a (k + 1) = k + 1 := by rw [usedTo, if_neg e]
      rw [e']; exact e
theorem usedTo_zero {a : Nat → Int} {k : Nat} (h : a k = 0) : usedTo a (k + 1) = usedTo a k := by rw [usedTo, if_pos h]
theorem usedTo_some {a : Nat → Int} {k : Nat} (h : a k ≠ 0) : usedTo a (k + 1) = k + 1 := by rw [usedTo, if_neg h]
/-- the sum of the first k -/
def sumTo (a : Nat → Int) : Nat → Int
  | 0 => 0
  | k + 1 => sumTo a k + a k
def totalF (a : Nat → Int) : Int := if vRight a = true then sumTo a 16 else 0
theorem sumTo_bd {a : Nat → Int} (h : vRight a = true) (k : Nat) (hk : k ≤ 16) : 0 ≤ sumTo a k ∧ sumTo a k ≤ 512 * k := by
  induction k with
  | zero => exact ⟨Int.le_refl _, by simp [sumTo]⟩
  | succ k ih =>
    have := ih (by omega)
    have := vRight_iff.1 h k (by omega)
    rw [sumTo]
    omega
/-- what a program's tables say of the type t of vectors -/
structure VT (P : Program) (t : TypeId) : Prop where
  und : P.underlying t = some (.array 16 3)
  size : (P.info? t).map (·.size) = some 16
theorem i_int : Tryz.prog.underlying 3 = some (.int .i64) := by kernel_rfl
theorem sz_int : ∀ w, (sizeOf 3).run Tryz.prog w = .ok 1 w := fun _ => by kernel_rfl
theorem vtP : VT Tryz.prog 64 := ⟨by kernel_rfl, by kernel_rfl⟩
theorem vtR : VT Tryz.prog 24 := ⟨by kernel_rfl, by kernel_rfl⟩
theorem VT.load {t : TypeId} (h : VT Tryz.prog t) {w : World} {b : Nat} {a : Nat → Int} (hv : VAt w b a) : (Instr.loadAt t (.pointer (some ⟨b, 0, none⟩))).run Tryz.prog w = .ok (.agg (vecA a)) w := run_loadAt_vec w t _ h.und h.size b a hv
theorem VT.index {t : TypeId} (h : VT Tryz.prog t) (w : World) (a : Nat → Int) (i : Nat) (hi : i < 16) : (Instr.index t (.agg (vecA a)) (.int .i64 (i : Int))).run Tryz.prog w = .ok (.int .i64 (a i)) w := run_index_vec w t _ h.und i_int sz_int a i hi
theorem VT.eq {t : TypeId} (h : VT Tryz.prog t) (w : World) (a b : Nat → Int) : (Op.equalIn 10000 t (.agg (vecA a)) (.agg (vecA b))).run Tryz.prog w = .ok (eqv a b) w := run_equalIn_vec w 9998 t _ h.und i_int sz_int a b
/-- its first n numbers, as a slice -/
theorem VT.slice {t : TypeId} (h : VT Tryz.prog t) (W : World) (b n : Nat) (hn : n ≤ 16) : (Instr.sliceAt t (.pointer (some ⟨b, 0, none⟩)) none (some (.int .i64 (n : Int))) none).run Tryz.prog W = .ok (.slice (some ⟨b, 0, none⟩) n 16) W := by
  have e1 : Tryz.prog.arrayLen t = 16 := by unfold Program.arrayLen; rw [h.und]
  have e2 : Tryz.prog.elem t = 3 := by unfold Program.elem; rw [h.und]
  rw [run_sliceAt_array_h W t ⟨b, 0, none⟩ (by rw [e1, e2]; exact h.und) .i64 (n : Int) (by omega) (by rw [e1]; omega), e2, sz_int, Result.andThen_ok, e1]
  rfl
/-- a whole vector out of its block, as the walk meets it -/
theorem wpList_load_vec {t : TypeId} (V : VT Tryz.prog t) {ops : Array Oper} {rest : List Oper} {o : Oper} {a : Act} {w : World} {Q : Exit → Act → World → Prop} (hgd : o.guard = none) (x : Operand) (ho : o.op = .load t x)
    (b : Nat) (hx : a.eval x = .pointer (some ⟨b, 0, none⟩)) (v : Nat → Int) (hv : VAt w b v)
    (h : wpList Tryz.prog ops Q rest (a.put o.dst (.agg (vecA v))) w) : wpList Tryz.prog ops Q (o :: rest) a w := by
  obtain ⟨T, hv⟩ := hv
  exact wpList_load_row hgd t x ho b hx T _ (0, 0) _ hv V.und rfl (by rw [vecA_size]; exact V.size) h
theorem run_storeVar_vec {t : TypeId} (V : VT Tryz.prog t) (w : World) (b : Nat) (T : TypeId) (u v : Nat → Int) (hv : w.heap[b]? = some (.cells (vecA u) T (0, 0))) : (storeVar t ⟨b, 0, none⟩ (.agg (vecA v))).run Tryz.prog w = .ok () (w.setRow b (vecA v)) := by
  have := run_storeCells_from (P := Tryz.prog) b T (vecA v).toList 0 (vecA u) w hv (by simp [vecA_size]) (fun x hx => vecL_one v x (by simpa [vecA] using hx))
  have hi := V.size
  cases hq : (Tryz.prog).info? t with
  | none => simp [hq] at hi
  | some i =>
    have hs : i.size = (vecA v).size := by simp [hq] at hi; rw [vecA_size, hi]
    simp only [List.take_zero, List.nil_append, Array.toArray_toList] at this
    simp [storeVar, sizeOf, typeInfo, hq, Value.cells, hs, this]
/-- the same at an operation with a guard -/
theorem wpList_load_vecG {t : TypeId} (V : VT Tryz.prog t) {ops : Array Oper} {rest : List Oper} {o : Oper} {a : Act} {w : World} {Q : Exit → Act → World → Prop} (hgd : Region.wanted o (yielded ops a.tmps) = true) (x : Operand) (ho : o.op = .load t x)
    (b : Nat) (hx : a.eval x = .pointer (some ⟨b, 0, none⟩)) (v : Nat → Int) (hv : VAt w b v)
    (h : wpList Tryz.prog ops Q rest (a.put o.dst (.agg (vecA v))) w) : wpList Tryz.prog ops Q (o :: rest) a w := by
  obtain ⟨T, hv⟩ := hv
  rw [wpList, if_pos hgd]
  exact Or.inl (wp_load_row t x ho b hx T _ (0, 0) _ hv V.und rfl (by rw [vecA_size]; exact V.size) h)
/-- a vector that is a call's result, read -/
theorem results_vec {t : TypeId} (V : VT Tryz.prog t) {fn : Func} {p : Tmp} (tmps : Array Value) {w : World} {g : Nat} {v : Nat → Int} (h : fn.results = #[.cell p t]) (hv : VAt w g v) (hp : tmps.getD p undef = .pointer (some ⟨g, 0, none⟩)) :
    (results fn tmps).run Tryz.prog w = .ok (.agg (vecA v)) w := by
  obtain ⟨T, hv⟩ := hv
  exact results_cell_row h tmps w g T _ (0, 0) _ hp hv V.und rfl (by rw [vecA_size]; exact V.size)
/-- a whole vector into a block of its own -/
theorem wpList_store_vec {t : TypeId} (V : VT Tryz.prog t) {ops : Array Oper} {rest : List Oper} {o : Oper} {a : Act} {w : World} {Q : Exit → Act → World → Prop} (hgd : o.guard = none) (x y : Operand) (ho : o.op = .store t x y)
    (b : Nat) (hx : a.eval x = .pointer (some ⟨b, 0, none⟩)) (u v : Nat → Int) (hv : VAt w b u) (hy : a.eval y = .agg (vecA v))
    (h : ∀ w' : World, VAt w' b v → (∀ k, k ≠ b → w'.heap[k]? = w.heap[k]?) → w'.heap.size = w.heap.size → (∀ B w0, Below B w0 w → B ≤ b → Below B w0 w') → wpList Tryz.prog ops Q rest (a.put o.dst undef) w') : wpList Tryz.prog ops Q (o :: rest) a w := by
  obtain ⟨T, hv⟩ := hv
  refine wpList_plain hgd fun K hK => ?_
  have hr := run_storeVar_vec V w b T u v hv
  have hk : K (a.put o.dst undef) (w.setRow b (vecA v)) := by
    refine hK _ _ (h _ ⟨T, setRow_heap w b _ _ T _ hv⟩ (fun k hk => setRow_other w b k _ hk) (by simp) ?_)
    intro B w0 hb hB
    exact hb.trans ⟨rfl, rfl, rfl, by simp, fun k hk => setRow_other w b k _ (by omega)⟩
  unfold Oper.wp execOp
  simp only [ho, hx, hy, Instr.storeAt, Instr.sureAddr, Sem.run_bind, Sem.run_pure, Result.andThen_ok, hr]
  exact hk
end Go.Proofs.YtaplemkmkbjodaaGreat
