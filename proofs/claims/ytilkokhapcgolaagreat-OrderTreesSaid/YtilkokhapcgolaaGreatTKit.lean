/-
  WHOLE STRUCTS in memory; maps by the steps of a walk.
  No conditions.
-/
import Derived.Test.YtilkokhapcgolaaGreatQMem
import Derived.Test.YtilkokhapcgolaaGreatTPlace
import Derived.Deep.MidRow
import Derived.Deep.RegionHeld
import Derived.Deep.RegionHeld3
import Derived.Laws.Tables
import Derived.Maps.Views
import Derived.Maps.OwnOps
import Derived.DeepKeys4
namespace Go.Proofs.YtilkokhapcgolaaGreat
open Go.RowKit
open Go.Maps (Keyed)

/-- what the type tables say of a struct's type of n cells -/
structure AgT (t : TypeId) (n : Nat) : Prop where
  und : ∃ d, Tryz.prog.underlying t = some (.struct d)
  size : (Tryz.prog.info? t).map (·.size) = some n
/-- the cells A lie in block b, which is a row of its own -/
def AgAt (w : World) (b : Nat) (A : Array Value) : Prop := ∃ T, w.heap[b]? = some (.cells A T (0, 0))
section
variable {w w' : World} {b : Nat} {A : Array Value} {t : TypeId} {n : Nat}
theorem AgAt.cell (h : AgAt w b A) (i : Nat) : w.cell? ⟨b, i, none⟩ = A[i]? := by
  obtain ⟨T, h⟩ := h
  exact cell_of_row w b i _ T (0, 0) h
theorem AgAt.free (h : AgAt w b A) (i : Nat) : w.frozen? ⟨b, i, none⟩ = false := by
  obtain ⟨T, h⟩ := h
  exact frozen_of_row w b i _ T h
theorem AgAt.lt (h : AgAt w b A) : b < w.heap.size := by
  obtain ⟨T, h⟩ := h
  exact (Array.getElem?_eq_some_iff.1 h).1
theorem AgAt.block (h : AgAt w b A) (e : w'.heap[b]? = w.heap[b]?) : AgAt w' b A := by
  obtain ⟨T, h⟩ := h
  exact ⟨T, e.trans h⟩
theorem AgAt.below (h : AgAt w b A) {B : Nat} (hb : Below B w w') (hB : b < B) : AgAt w' b A := h.block (hb.block b hB)
theorem AgAt.kept (h : AgAt w b A) (hb : Below w.heap.size w w') : AgAt w' b A := h.below hb h.lt
theorem AgAt.new (w : World) (A : Array Value) (T : TypeId) : AgAt (w.alloc (.cells A T)) w.heap.size A := ⟨T, heap_alloc_new w _⟩
theorem AgAt.put (h : AgAt w b A) (i : Nat) (v : Value) : AgAt (w.setCell ⟨b, i, none⟩ v) b (A.setIfInBounds i v) := by
  obtain ⟨T, h⟩ := h
  exact ⟨T, by rw [Go.Joins.block_setCell h]⟩
theorem AgT.load (V : AgT t n) (hn : A.size = n) (hv : AgAt w b A) : (Instr.loadAt t (.pointer (some ⟨b, 0, none⟩))).run Tryz.prog w = .ok (.agg A) w := by
  obtain ⟨T, hv⟩ := hv
  obtain ⟨d, hu⟩ := V.und
  simp only [Instr.loadAt, Instr.sureAddr, Sem.run_bind, Sem.run_pure, Result.andThen_ok]
  exact run_loadVar_row w b T t _ (0, 0) _ hv hu rfl (by rw [hn]; exact V.size)
theorem wpList_load_ag (V : AgT t n) {ops : Array Oper} {rest : List Oper} {o : Oper} {a : Act} {Q : Exit → Act → World → Prop} (hgd : Region.wanted o (yielded ops a.tmps) = true) (y : Operand) (ho : o.op = .load t y)
    (b : Nat) (hx : a.eval y = .pointer (some ⟨b, 0, none⟩)) (hn : A.size = n) (hv : AgAt w b A)
    (h : wpList Tryz.prog ops Q rest (a.put o.dst (.agg A)) w) : wpList Tryz.prog ops Q (o :: rest) a w := by
  obtain ⟨T, hv⟩ := hv
  obtain ⟨d, hu⟩ := V.und
  rw [wpList, if_pos hgd]
  exact Or.inl (wp_load_row t y ho b hx T _ (0, 0) _ hv hu rfl (by rw [hn]; exact V.size) h)
theorem exec_load_ag (V : AgT t n) {c : Act} {o : Oper} {x : Operand} (ho : o.op = .load t x) {b : Nat} (hx : c.eval x = .pointer (some ⟨b, 0, none⟩)) (hn : A.size = n) (hv : AgAt w b A) :
    (execOp c.eval o).run Tryz.prog w = .ok (.value (.agg A)) w := by
  unfold execOp
  simp only [ho, hx, Sem.run_bind, V.load hn hv, Result.andThen_ok, Sem.run_pure]
theorem results_ag (V : AgT t n) {fn : Func} {p : Tmp} (tmps : Array Value) {g : Nat} (h : fn.results = #[.cell p t]) (hn : A.size = n) (hv : AgAt w g A) (hp : tmps.getD p undef = .pointer (some ⟨g, 0, none⟩)) :
    (results fn tmps).run Tryz.prog w = .ok (.agg A) w := by
  obtain ⟨T, hv⟩ := hv
  obtain ⟨d, hu⟩ := V.und
  exact results_cell_row h tmps w g T _ (0, 0) _ hp hv hu rfl (by rw [hn]; exact V.size)
theorem wpList_store_ag (V : AgT t n) {ops : Array Oper} {rest : List Oper} {o : Oper} {a : Act} {Q : Exit → Act → World → Prop} (hgd : o.guard = none) (x y : Operand) (ho : o.op = .store t x y)
    (b : Nat) (hx : a.eval x = .pointer (some ⟨b, 0, none⟩)) (u : Array Value) (hv : AgAt w b u) (hy : a.eval y = .agg A) (hu : u.size = n) (hn : A.size = n) (h1 : A.all (·.oneCell') = true)
    (h : ∀ w' : World, AgAt w' b A → (∀ k, k ≠ b → w'.heap[k]? = w.heap[k]?) → w'.heap.size = w.heap.size → (∀ B w0, Below B w0 w → B ≤ b → Below B w0 w') → wpList Tryz.prog ops Q rest (a.put o.dst undef) w') : wpList Tryz.prog ops Q (o :: rest) a w := by
  obtain ⟨T, hv⟩ := hv
  refine wpList_plain hgd fun K hK => ?_
  have hr : (storeVar t ⟨b, 0, none⟩ (.agg A)).run Tryz.prog w = .ok () (w.setRow b A) := run_storeVar_row w b T t u A hv (by rw [hn]; exact V.size) (by rw [hu, hn]) h1
  have hk : K (a.put o.dst undef) (w.setRow b A) := by
    refine hK _ _ (h _ ⟨T, setRow_heap w b _ _ T _ hv⟩ (fun k hk => setRow_other w b k _ hk) (by simp) ?_)
    intro B w0 hb hB
    exact hb.trans ⟨rfl, rfl, rfl, by simp, fun k hk => setRow_other w b k _ (by omega)⟩
  unfold Oper.wp execOp
  simp only [ho, hx, hy, Instr.storeAt, Instr.sureAddr, Sem.run_bind, Sem.run_pure, Result.andThen_ok, hr]
  exact hk
/-- into a new block -/
theorem wpList_store_newag (V : AgT t n) {T : TypeId} {ops : Array Oper} {rest : List Oper} {o : Oper} {a : Act} {Q : Exit → Act → World → Prop} (hgd : o.guard = none) (x y : Operand) (ho : o.op = .store t x y)
    (hx : a.eval x = .pointer (some ⟨w.heap.size, 0, none⟩)) (u : Array Value) (hy : a.eval y = .agg A) (hu : u.size = n) (hn : A.size = n) (h1 : A.all (·.oneCell') = true)
    (h : ∀ w' : World, AgAt w' w.heap.size A → Below w.heap.size w w' → wpList Tryz.prog ops Q rest (a.put o.dst undef) w') : wpList Tryz.prog ops Q (o :: rest) a (w.alloc (.cells u T)) :=
  wpList_store_ag V hgd x y ho w.heap.size hx u ⟨T, heap_alloc_new w _⟩ hy hu hn h1 fun w' hv _ _ hb => h w' hv (hb _ _ ((Below.refl _ _).alloc (Nat.le_refl _) _) (Nat.le_refl _))
end

/-- a stamp's cells -/
theorem stA_one (a b : Int) : (#[Value.int .i64 a, .int .i64 b] : Array Value).all (·.oneCell') = true := all_oneCell_toArray (cs := [.int .i64 a, .int .i64 b]) (by
  intro v hv
  simp only [List.mem_cons, List.not_mem_nil, or_false] at hv
  rcases hv with rfl | rfl <;> rfl)
theorem stT : AgT 24 2 := ⟨⟨_, Tryz.underlying24⟩, by kernel_rfl⟩

theorem step_of {P : Program} {w : World} {ops : Array Oper} {o : Oper} {a : Act} {K : Act → World → Prop} {Q : Exit → Act → World → Prop} {E : Prop} (hgd : o.guard = none) (h : Oper.wp P o a w K Q) :
    if Region.wanted o (yielded ops a.tmps) = true then Oper.wp P o a w K Q else E := by
  have hw : Region.wanted o (yielded ops a.tmps) = true := by simp [Region.wanted, hgd]
  rw [if_pos hw]
  exact h
theorem wp_mapUpdate {P : Program} {w : World} {o : Oper} {a : Act} {K : Act → World → Prop} {Q : Exit → Act → World → Prop} (t : TypeId) (x y z : Operand) (ho : o.op = .mapUpdate t x y z) (u v n : Value) (hx : a.eval x = u) (hy : a.eval y = v) (hz : a.eval z = n) (w' : World)
    (hr : (Instr.mapUpdate t u v n).run P w = .ok () w') (h : K (a.put o.dst undef) w') : Oper.wp P o a w K Q := by
  unfold Oper.wp execOp
  simp only [ho, hx, hy, hz, Sem.run_bind, Sem.run_pure, hr, Result.andThen_ok]
  exact h
theorem wp_delete {P : Program} {w : World} {o : Oper} {a : Act} {K : Act → World → Prop} {Q : Exit → Act → World → Prop} (x y : Operand) (t k : TypeId) (ho : o.op = .call { callee := .builtin .delete, args := #[x, y], argTypes := #[t, k] }) (u v : Value) (hx : a.eval x = u) (hy : a.eval y = v) (w' : World)
    (hr : (Builtin.delete_ #[t, k] o.type #[u, v]).run P w = .ok (.tuple #[]) w') (h : K (a.put o.dst (.tuple #[])) w') : Oper.wp P o a w K Q := by
  unfold Oper.wp execOp
  simp only [ho, resolve, invoke, builtin, Sem.run_bind, Sem.run_pure, Result.andThen_ok, List.map_toArray, List.map_cons, List.map_nil, hx, hy, hr]
  exact h
theorem exec_lookup {P : Program} {c : Act} {w : World} {o : Oper} {t : TypeId} {x y : Operand} {ok : Bool} (ho : o.op = .lookup t x y ok) {u v z : Value} (hx : c.eval x = u) (hy : c.eval y = v) (hr : (Instr.lookup t u v ok).run P w = .ok z w) :
    (execOp c.eval o).run P w = .ok (.value z) w := by
  unfold execOp
  simp only [ho, hx, hy, Sem.run_bind, hr, Result.andThen_ok, Sem.run_pure]
theorem wp_store_newag {t : TypeId} {n : Nat} {A : Array Value} {w : World} (V : AgT t n) {T : TypeId} {o : Oper} {a : Act} {K : Act → World → Prop} {Q : Exit → Act → World → Prop} (x y : Operand) (ho : o.op = .store t x y)
    (hx : a.eval x = .pointer (some ⟨w.heap.size, 0, none⟩)) (u : Array Value) (hy : a.eval y = .agg A) (hu : u.size = n) (hn : A.size = n) (h1 : A.all (·.oneCell') = true)
    (h : ∀ w' : World, AgAt w' w.heap.size A → Below w.heap.size w w' → K (a.put o.dst undef) w') : Oper.wp Tryz.prog o a (w.alloc (.cells u T)) K Q := by
  have hv := heap_alloc_new w (.cells u T)
  have hr : (storeVar t ⟨w.heap.size, 0, none⟩ (.agg A)).run Tryz.prog (w.alloc (.cells u T)) = .ok () ((w.alloc (.cells u T)).setRow w.heap.size A) := run_storeVar_row _ w.heap.size T t u A hv (by rw [hn]; exact V.size) (by rw [hu, hn]) h1
  have hk : K (a.put o.dst undef) ((w.alloc (.cells u T)).setRow w.heap.size A) :=
    h _ ⟨T, setRow_heap _ w.heap.size _ _ T _ hv⟩ (((Below.refl _ _).alloc (Nat.le_refl _) _).trans ⟨rfl, rfl, rfl, by simp, fun k hk => setRow_other _ w.heap.size k _ (by omega)⟩)
  unfold Oper.wp execOp
  simp only [ho, hx, hy, Instr.storeAt, Instr.sureAddr, Sem.run_bind, Sem.run_pure, Result.andThen_ok, hr]
  exact hk

theorem set_turns (b : Nat) (w : World) (i : Nat) (v : Value) : Turns (fun k => k = b) w (w.setCell ⟨b, i, none⟩ v) := ⟨rfl, rfl, rfl, by simp, fun k _ hk => heap_setCell_other w ⟨b, i, none⟩ k v hk⟩
theorem stored_turns {w w' : World} {b : Nat} (hko : ∀ k, k ≠ b → w'.heap[k]? = w.heap[k]?) (hsz : w'.heap.size = w.heap.size) (hbn : ∀ B w0, Below B w0 w → B ≤ b → Below B w0 w') : Turns (fun k => k = b) w w' :=
  have h0 := hbn 0 _ (Below.refl 0 _) (Nat.zero_le _)
  ⟨h0.os, h0.tape, h0.output, by rw [hsz]; exact Nat.le_refl _, fun k _ hk => hko k hk⟩

theorem setBlock_turns {w : World} {M clock : Nat} {es : Array MapEntry} (hb : w.heap[M]? = some (.map es clock)) (o : Obj) : Turns (fun k => k = M) w (Go.ChangeMaps.setBlock w M o) :=
  ⟨rfl, rfl, rfl, by simp [Go.ChangeMaps.setBlock], fun k _ hk => Go.ChangeMaps.heap_setBlock_other hb _ (fun e => hk e)⟩
end Go.Proofs.YtilkokhapcgolaaGreat
