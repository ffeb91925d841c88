/-
  WHOLE STRUCTS in memory; maps by the steps of a walk.
  No conditions.
  MAPS WHOSE KEYS ARE STAMPS, whatever they hold: look-ups, a store at a new place, what is taken out, how many; a range over one.
  No conditions.
-/
import Derived.Test.YthifdefjmfakgaaGreatGQ
import Derived.Test.YthifdefjmfakgaaGreatGT
import Derived.Deep.MidRow
import Derived.Deep.RegionHeld
import Derived.Deep.RegionHeld3
import Derived.Laws.Tables
import Derived.Maps.Views
import Derived.Maps.OwnOps
import Derived.DeepKeys4
import Derived.Laws.IdiomRangeMap
namespace Go.Proofs.YthifdefjmfakgaaGreat
open Go.RowKit
open Go.Maps (Keyed)

/-- what the type tables say of a struct's type of n cells -/
structure AgT (t : TypeId) (n : Nat) : Prop where
  und : ∃ d, Tryz.prog.underlying t = some (.struct d)
  size : (Tryz.prog.info? t).map (·.size) = some n
/-- the cells A lie in block b, which is a row of its own -/
def AgAt (w : World) (b : Nat) (A : Array Value) : Prop := ∃ T, w.heap[b]? = some (.cells A T (0, 0))
section
variable {w w' : World} {b : Nat} {A : Array Value} {t : TypeId} {n : Nat}
theorem AgAt.cell (h : AgAt w b A) (i : Nat) : w.cell? ⟨b, i, none⟩ = A[i]? := by
  obtain ⟨T, h⟩ := h
  exact cell_of_row w b i _ T (0, 0) h
theorem AgAt.free (h : AgAt w b A) (i : Nat) : w.frozen? ⟨b, i, none⟩ = false := by
  obtain ⟨T, h⟩ := h
  exact frozen_of_row w b i _ T h
theorem AgAt.lt (h : AgAt w b A) : b < w.heap.size := by
  obtain ⟨T, h⟩ := h
  exact (Array.getElem?_eq_some_iff.1 h).1
theorem AgAt.block (h : AgAt w b A) (e : w'.heap[b]? = w.heap[b]?) : AgAt w' b A := by
  obtain ⟨T, h⟩ := h
  exact ⟨T, e.trans h⟩
theorem AgAt.below (h : AgAt w b A) {B : Nat} (hb : Below B w w') (hB : b < B) : AgAt w' b A := h.block (hb.block b hB)
theorem AgAt.kept (h : AgAt w b A) (hb : Below w.heap.size w w') : AgAt w' b A := h.below hb h.lt
theorem AgAt.new (w : World) (A : Array Value) (T : TypeId) : AgAt (w.alloc (.cells A T)) w.heap.size A := ⟨T, heap_alloc_new w _⟩
theorem AgAt.put (h : AgAt w b A) (i : Nat) (v : Value) : AgAt (w.setCell ⟨b, i, none⟩ v) b (A.setIfInBounds i v) := by
  obtain ⟨T, h⟩ := h
  exact ⟨T, by rw [Go.Joins.block_setCell h]⟩
theorem AgT.load (V : AgT t n) (hn : A.size = n) (hv : AgAt w b A) : (Instr.loadAt t (.pointer (some ⟨b, 0, none⟩))).run Tryz.prog w = .ok (.agg A) w := by
  obtain ⟨T, hv⟩ := hv
  obtain ⟨d, hu⟩ := V.und
  simp only [Instr.loadAt, Instr.sureAddr, Sem.run_bind, Sem.run_pure, Result.andThen_ok]
  exact run_loadVar_row w b T t _ (0, 0) _ hv hu rfl (by rw [hn]; exact V.size)
theorem wpList_load_ag (V : AgT t n) {ops : Array Oper} {rest : List Oper} {o : Oper} {a : Act} {Q : Exit → Act → World → Prop} (hgd : Region.wanted o (yielded ops a.tmps) = true) (y : Operand) (ho : o.op = .load t y)
    (b : Nat) (hx : a.eval y = .pointer (some ⟨b, 0, none⟩)) (hn : A.size = n) (hv : AgAt w b A)
    (h : wpList Tryz.prog ops Q rest (a.put o.dst (.agg A)) w) : wpList Tryz.prog ops Q (o :: rest) a w := by
  obtain ⟨T, hv⟩ := hv
  obtain ⟨d, hu⟩ := V.und
  rw [wpList, if_pos hgd]
  exact Or.inl (wp_load_row t y ho b hx T _ (0, 0) _ hv hu rfl (by rw [hn]; exact V.size) h)
theorem exec_load_ag (V : AgT t n) {c : Act} {o : Oper} {x : Operand} (ho : o.op = .load t x) {b : Nat} (hx : c.eval x = .pointer (some ⟨b, 0, none⟩)) (hn : A.size = n) (hv : AgAt w b A) :
    (execOp c.eval o).run Tryz.prog w = .ok (.value (.agg A)) w := by
  unfold execOp
  simp only [ho, hx, Sem.run_bind, V.load hn hv, Result.andThen_ok, Sem.run_pure]
theorem wpList_store_ag (V : AgT t n) {ops : Array Oper} {rest : List Oper} {o : Oper} {a : Act} {Q : Exit → Act → World → Prop} (hgd : o.guard = none) (x y : Operand) (ho : o.op = .store t x y)
    (b : Nat) (hx : a.eval x = .pointer (some ⟨b, 0, none⟩)) (u : Array Value) (hv : AgAt w b u) (hy : a.eval y = .agg A) (hu : u.size = n) (hn : A.size = n) (h1 : A.all (·.oneCell') = true)
    (h : ∀ w' : World, AgAt w' b A → (∀ k, k ≠ b → w'.heap[k]? = w.heap[k]?) → w'.heap.size = w.heap.size → (∀ B w0, Below B w0 w → B ≤ b → Below B w0 w') → wpList Tryz.prog ops Q rest (a.put o.dst undef) w') : wpList Tryz.prog ops Q (o :: rest) a w := by
  obtain ⟨T, hv⟩ := hv
  refine wpList_plain hgd fun K hK => ?_
  have hr : (storeVar t ⟨b, 0, none⟩ (.agg A)).run Tryz.prog w = .ok () (w.setRow b A) := run_storeVar_row w b T t u A hv (by rw [hn]; exact V.size) (by rw [hu, hn]) h1
  have hk : K (a.put o.dst undef) (w.setRow b A) := by
    refine hK _ _ (h _ ⟨T, setRow_heap w b _ _ T _ hv⟩ (fun k hk => setRow_other w b k _ hk) (by simp) ?_)
    intro B w0 hb hB
    exact hb.trans ⟨rfl, rfl, rfl, by simp, fun k hk => setRow_other w b k _ (by omega)⟩
  unfold Oper.wp execOp
  simp only [ho, hx, hy, Instr.storeAt, Instr.sureAddr, Sem.run_bind, Sem.run_pure, Result.andThen_ok, hr]
  exact hk
/-- into a new block -/
theorem wpList_store_newag (V : AgT t n) {T : TypeId} {ops : Array Oper} {rest : List Oper} {o : Oper} {a : Act} {Q : Exit → Act → World → Prop} (hgd : o.guard = none) (x y : Operand) (ho : o.op = .store t x y)
    (hx : a.eval x = .pointer (some ⟨w.heap.size, 0, none⟩)) (u : Array Value) (hy : a.eval y = .agg A) (hu : u.size = n) (hn : A.size = n) (h1 : A.all (·.oneCell') = true)
    (h : ∀ w' : World, AgAt w' w.heap.size A → Below w.heap.size w w' → wpList Tryz.prog ops Q rest (a.put o.dst undef) w') : wpList Tryz.prog ops Q (o :: rest) a (w.alloc (.cells u T)) :=
  wpList_store_ag V hgd x y ho w.heap.size hx u ⟨T, heap_alloc_new w _⟩ hy hu hn h1 fun w' hv _ _ hb => h w' hv (hb _ _ ((Below.refl _ _).alloc (Nat.le_refl _) _) (Nat.le_refl _))
end

/-- a stamp's cells -/
theorem stA_one (a b : Int) : (#[Value.int .i64 a, .int .i64 b] : Array Value).all (·.oneCell') = true := all_oneCell_toArray (cs := [.int .i64 a, .int .i64 b]) (by
  intro v hv
  simp only [List.mem_cons, List.not_mem_nil, or_false] at hv
  rcases hv with rfl | rfl <;> rfl)
theorem stT : AgT 35 2 := ⟨⟨_, Tryz.underlying35⟩, by kernel_rfl⟩

theorem step_of {P : Program} {w : World} {ops : Array Oper} {o : Oper} {a : Act} {K : Act → World → Prop} {Q : Exit → Act → World → Prop} {E : Prop} (hgd : o.guard = none) (h : Oper.wp P o a w K Q) :
    if Region.wanted o (yielded ops a.tmps) = true then Oper.wp P o a w K Q else E := by
  have hw : Region.wanted o (yielded ops a.tmps) = true := by simp [Region.wanted, hgd]
  rw [if_pos hw]
  exact h
theorem wp_mapUpdate {P : Program} {w : World} {o : Oper} {a : Act} {K : Act → World → Prop} {Q : Exit → Act → World → Prop} (t : TypeId) (x y z : Operand) (ho : o.op = .mapUpdate t x y z) (u v n : Value) (hx : a.eval x = u) (hy : a.eval y = v) (hz : a.eval z = n) (w' : World)
    (hr : (Instr.mapUpdate t u v n).run P w = .ok () w') (h : K (a.put o.dst undef) w') : Oper.wp P o a w K Q := by
  unfold Oper.wp execOp
  simp only [ho, hx, hy, hz, Sem.run_bind, Sem.run_pure, hr, Result.andThen_ok]
  exact h
theorem wp_delete {P : Program} {w : World} {o : Oper} {a : Act} {K : Act → World → Prop} {Q : Exit → Act → World → Prop} (x y : Operand) (t k : TypeId) (ho : o.op = .call { callee := .builtin .delete, args := #[x, y], argTypes := #[t, k] }) (u v : Value) (hx : a.eval x = u) (hy : a.eval y = v) (w' : World)
    (hr : (Builtin.delete_ #[t, k] o.type #[u, v]).run P w = .ok (.tuple #[]) w') (h : K (a.put o.dst (.tuple #[])) w') : Oper.wp P o a w K Q := by
  unfold Oper.wp execOp
  simp only [ho, resolve, invoke, builtin, Sem.run_bind, Sem.run_pure, Result.andThen_ok, List.map_toArray, List.map_cons, List.map_nil, hx, hy, hr]
  exact h
theorem exec_lookup {P : Program} {c : Act} {w : World} {o : Oper} {t : TypeId} {x y : Operand} {ok : Bool} (ho : o.op = .lookup t x y ok) {u v z : Value} (hx : c.eval x = u) (hy : c.eval y = v) (hr : (Instr.lookup t u v ok).run P w = .ok z w) :
    (execOp c.eval o).run P w = .ok (.value z) w := by
  unfold execOp
  simp only [ho, hx, hy, Sem.run_bind, hr, Result.andThen_ok, Sem.run_pure]
theorem wp_store_newag {t : TypeId} {n : Nat} {A : Array Value} {w : World} (V : AgT t n) {T : TypeId} {o : Oper} {a : Act} {K : Act → World → Prop} {Q : Exit → Act → World → Prop} (x y : Operand) (ho : o.op = .store t x y)
    (hx : a.eval x = .pointer (some ⟨w.heap.size, 0, none⟩)) (u : Array Value) (hy : a.eval y = .agg A) (hu : u.size = n) (hn : A.size = n) (h1 : A.all (·.oneCell') = true)
    (h : ∀ w' : World, AgAt w' w.heap.size A → Below w.heap.size w w' → K (a.put o.dst undef) w') : Oper.wp Tryz.prog o a (w.alloc (.cells u T)) K Q := by
  have hv := heap_alloc_new w (.cells u T)
  have hr : (storeVar t ⟨w.heap.size, 0, none⟩ (.agg A)).run Tryz.prog (w.alloc (.cells u T)) = .ok () ((w.alloc (.cells u T)).setRow w.heap.size A) := run_storeVar_row _ w.heap.size T t u A hv (by rw [hn]; exact V.size) (by rw [hu, hn]) h1
  have hk : K (a.put o.dst undef) ((w.alloc (.cells u T)).setRow w.heap.size A) :=
    h _ ⟨T, setRow_heap _ w.heap.size _ _ T _ hv⟩ (((Below.refl _ _).alloc (Nat.le_refl _) _).trans ⟨rfl, rfl, rfl, by simp, fun k hk => setRow_other _ w.heap.size k _ (by omega)⟩)
  unfold Oper.wp execOp
  simp only [ho, hx, hy, Instr.storeAt, Instr.sureAddr, Sem.run_bind, Sem.run_pure, Result.andThen_ok, hr]
  exact hk

theorem set_turns (b : Nat) (w : World) (i : Nat) (v : Value) : Turns (fun k => k = b) w (w.setCell ⟨b, i, none⟩ v) := ⟨rfl, rfl, rfl, by simp, fun k _ hk => heap_setCell_other w ⟨b, i, none⟩ k v hk⟩
theorem stored_turns {w w' : World} {b : Nat} (hko : ∀ k, k ≠ b → w'.heap[k]? = w.heap[k]?) (hsz : w'.heap.size = w.heap.size) (hbn : ∀ B w0, Below B w0 w → B ≤ b → Below B w0 w') : Turns (fun k => k = b) w w' :=
  have h0 := hbn 0 _ (Below.refl 0 _) (Nat.zero_le _)
  ⟨h0.os, h0.tape, h0.output, by rw [hsz]; exact Nat.le_refl _, fun k _ hk => hko k hk⟩

theorem setBlock_turns {w : World} {M clock : Nat} {es : Array MapEntry} (hb : w.heap[M]? = some (.map es clock)) (o : Obj) : Turns (fun k => k = M) w (Go.ChangeMaps.setBlock w M o) :=
  ⟨rfl, rfl, rfl, by simp [Go.ChangeMaps.setBlock], fun k _ hk => Go.ChangeMaps.heap_setBlock_other hb _ (fun e => hk e)⟩
end Go.Proofs.YthifdefjmfakgaaGreat

namespace Go.Proofs.YthifdefjmfakgaaGreat
open Go.RowKit
open Go.Maps (Keyed)

theorem laidB10 : laidOutB Tryz.prog = true := by kernel_rfl
theorem lawSt : Keyed Tryz.prog 35 := Keyed.of_law (deep_law_laid laidB10 (m := 2) (by omega) (of_decide_eq_true (by kernel_rfl)) (by kernel_rfl) (by kernel_rfl))
/-- a stamp as a value -/
abbrev snV (x : Qm.St) : Value := .agg #[.int .i64 x.1, .int .i64 x.2]
/-- numbers that words hold -/
def StWf (x : Qm.St) : Prop := (Lit.int .i64 x.1).wf = true ∧ (Lit.int .i64 x.2).wf = true
theorem i64wf {n : Int} (h0 : -9223372036854775808 ≤ n) (h1 : n ≤ 9223372036854775807) : (Lit.int .i64 n).wf = true := by
  have e1 : IntKind.i64.min = -9223372036854775808 := by decide
  have e2 : IntKind.i64.max = 9223372036854775807 := by decide
  simp [Lit.wf, e1, e2]
  omega
theorem key_st (x : Qm.St) (h : StWf x) : ∃ l, keyOf Tryz.prog 35 (snV x) = some l := by
  obtain ⟨r, s⟩ := x
  obtain ⟨h0, h1⟩ := h
  dsimp only at h0 h1
  have hkt : Tryz.prog.keyType 35 = true := by kernel_rfl
  have hsz : 2 ≤ Tryz.prog.types.size := of_decide_eq_true (by kernel_rfl)
  obtain ⟨m, hm⟩ : ∃ m, Tryz.prog.types.size = m + 1 := ⟨Tryz.prog.types.size - 1, by omega⟩
  have c2 : Tryz.prog.cellsOf 35 = 2 := by kernel_rfl
  have c3 : Tryz.prog.cellsOf 3 = 1 := by kernel_rfl
  have hu := Tryz.underlying35
  have hi := Tryz.underlying3
  have k1 : ∀ (n : Nat) (a : Int), (Lit.int .i64 a).wf = true → Tryz.prog.keyLits (n + 1) 3 [.int .i64 a] = some [.int .i64 a] := fun n a ha => by
    simp [Program.keyLits, hi, ha]
  have k3 : ∃ ls, Tryz.prog.keyLits (Tryz.prog.types.size + 1) 35 (snV (r, s)).cells.toList = some ls := by
    rw [hm]
    unfold Program.keyLits
    simp only [hu]
    rw [if_pos ⟨by rw [c2]; rfl, by kernel_rfl⟩]
    simp [Value.cells, c3, k1 _ _ h0, k1 _ _ h1]
  obtain ⟨ls, hls⟩ := k3
  refine ⟨.string (keyBytes ls), ?_⟩
  unfold keyOf
  simp only [hu]
  rw [if_pos (by simp [hkt, Value.formed, hu, c2]), hls]
  rfl
theorem snV_inj {x y : Qm.St} (h : snV x = snV y) : x = y := by
  obtain ⟨a, b⟩ := x
  obtain ⟨c, d⟩ := y
  simp only [snV, Value.agg.injEq] at h
  have h4 := congrArg Array.toList h
  simp at h4
  rw [h4.1, h4.2]

/-- what stands at x -/
def lk (l : List (Qm.St × Value)) (x : Qm.St) : Option Value := (l.find? fun e => e.1 == x).map (·.2)
theorem lk_none {l : List (Qm.St × Value)} {x : Qm.St} : lk l x = none ↔ ∀ e ∈ l, e.1 ≠ x := by
  unfold lk
  rw [Option.map_eq_none_iff, List.find?_eq_none]
  simp
theorem lk_some {l : List (Qm.St × Value)} (nd : (l.map Prod.fst).Nodup) {x : Qm.St} {v : Value} (h : (x, v) ∈ l) : lk l x = some v := by
  induction l with
  | nil => cases h
  | cons a T ih =>
    rw [List.map_cons, List.nodup_cons] at nd
    unfold lk
    rw [List.find?_cons]
    by_cases e : a.1 = x
    · rw [show (a.1 == x) = true by simpa using e]
      rcases List.mem_cons.1 h with rfl | h
      · rfl
      · exact absurd (List.mem_map.2 ⟨_, h, rfl⟩) (by rw [e] at nd; exact nd.1)
    · rw [show (a.1 == x) = false by simpa using e]
      rcases List.mem_cons.1 h with rfl | h
      · exact absurd rfl e
      · exact ih nd.2 h
theorem lk_mem {l : List (Qm.St × Value)} {x : Qm.St} {v : Value} (h : lk l x = some v) : (x, v) ∈ l := by
  unfold lk at h
  obtain ⟨e, he, rfl⟩ := Option.map_eq_some_iff.1 h
  have h1 := List.find?_some he
  have h2 := List.mem_of_find?_eq_some he
  have h3 : e.1 = x := by simpa using h1
  subst h3
  exact h2
theorem lk_map {α : Type} (f : α → Value) (l : List (Qm.St × α)) (x : Qm.St) : lk (l.map fun e => (e.1, f e.2)) x = ((l.find? fun e => e.1 == x).map (·.2)).map f := by
  unfold lk
  rw [List.find?_map]
  cases h : l.find? ((fun e : Qm.St × Value => e.1 == x) ∘ fun e => (e.1, f e.2)) with
  | none =>
    have : l.find? (fun e => e.1 == x) = none := h
    rw [this]
    rfl
  | some a =>
    have : l.find? (fun e => e.1 == x) = some a := h
    rw [this]
    rfl

/-- the entries are these -/
def EntsAre (es : List MapEntry) (l : List (Qm.St × Value)) : Prop := es.map (fun e => (e.key, e.val)) = l.map fun b => (snV b.1, b.2)
/-- block M is a map of these, in the order in which they came -/
def SMap (w : World) (M : Nat) (l : List (Qm.St × Value)) : Prop :=
  ∃ es clock, w.heap[M]? = some (.map es clock) ∧ EntsAre es.toList l ∧ (∀ b ∈ l, StWf b.1) ∧ (l.map Prod.fst).Nodup ∧ (∀ e ∈ es.toList, e.born < clock) ∧ (es.toList.map (·.born)).Nodup
section
variable {w w' : World} {M : Nat} {l : List (Qm.St × Value)}
theorem SMap.lt (h : SMap w M l) : M < w.heap.size := by
  obtain ⟨es, clock, hb, -⟩ := h
  exact (Array.getElem?_eq_some_iff.1 hb).1
theorem SMap.block (h : SMap w M l) (e : w'.heap[M]? = w.heap[M]?) : SMap w' M l := by
  obtain ⟨es, clock, hb, h1⟩ := h
  exact ⟨es, clock, e.trans hb, h1⟩
theorem SMap.turns {G : Nat → Prop} (h : SMap w M l) (ht : Turns G w w') (hd : ¬ G M) : SMap w' M l := h.block (ht.block M h.lt hd)
theorem SMap.below (h : SMap w M l) (hb : Below w.heap.size w w') : SMap w' M l := h.block (hb.block M h.lt)
theorem SMap.made (w : World) : SMap (w.alloc (.map #[] 0)) w.heap.size [] := ⟨#[], 0, heap_alloc_new w _, rfl, fun _ h => (by cases h), List.nodup_nil, fun _ h => (by cases h), List.nodup_nil⟩
theorem SMap.nd (h : SMap w M l) : (l.map Prod.fst).Nodup := by obtain ⟨_, _, _, _, _, h, -⟩ := h; exact h
theorem SMap.wf (h : SMap w M l) : ∀ b ∈ l, StWf b.1 := by obtain ⟨_, _, _, _, h, -⟩ := h; exact h
theorem EntsAre.mem {es : List MapEntry} (he : EntsAre es l) {e0 : MapEntry} (hm : e0 ∈ es) : ∃ b ∈ l, e0.key = snV b.1 ∧ e0.val = b.2 := by
  have : (e0.key, e0.val) ∈ l.map fun b => (snV b.1, b.2) := by rw [← he]; exact List.mem_map.2 ⟨e0, hm, rfl⟩
  obtain ⟨b, hb, e'⟩ := List.mem_map.1 this
  simp only [Prod.mk.injEq] at e'
  exact ⟨b, hb, e'.1.symm, e'.2.symm⟩
theorem EntsAre.of {es : List MapEntry} (he : EntsAre es l) {b : Qm.St × Value} (hb : b ∈ l) : ∃ e0 ∈ es, e0.key = snV b.1 ∧ e0.val = b.2 := by
  have : (snV b.1, b.2) ∈ es.map fun e => (e.key, e.val) := by rw [he]; exact List.mem_map.2 ⟨b, hb, rfl⟩
  obtain ⟨e, hm, e'⟩ := List.mem_map.1 this
  simp only [Prod.mk.injEq] at e'
  exact ⟨e, hm, e'.1, e'.2⟩
theorem EntsAre.keys {es : List MapEntry} (he : EntsAre es l) (hw : ∀ b ∈ l, StWf b.1) : ∀ e ∈ es, ∃ k, keyOf Tryz.prog 35 e.key = some k := by
  intro e hm
  obtain ⟨b, hb, h1, -⟩ := he.mem hm
  rw [h1]
  exact key_st _ (hw b hb)
/-- how finding goes -/
theorem SMap.find (h : SMap w M l) (x : Qm.St) (hx : StWf x) : ∃ es clock, w.heap[M]? = some (.map es clock) ∧ (∀ W em, (Instr.checkKey em 10000 35 (snV x)).run Tryz.prog W = .ok () W) ∧
    ((lk l x = none ∧ (Instr.findKey 35 (snV x) es.toList).run Tryz.prog w = .ok none w) ∨
     ∃ v j, lk l x = some v ∧ (Instr.findKey 35 (snV x) es.toList).run Tryz.prog w = .ok (some (j, v)) w) := by
  obtain ⟨es, clock, hb, he, hwf, hnd, -, -⟩ := h
  obtain ⟨kl, hkey⟩ := key_st x hx
  refine ⟨es, clock, hb, fun W em => lawSt.check W em hkey, ?_⟩
  rcases lawSt.find w hkey es.toList (he.keys hwf) with ⟨h1, h2⟩ | ⟨j, e0, h1, h2, h3⟩
  · refine Or.inl ⟨lk_none.2 fun e hm hh => ?_, h1⟩
    obtain ⟨e0, h3, h4, -⟩ := he.of hm
    exact h2 e0 h3 (by rw [h4, hh])
  · obtain ⟨b, hb', h4, h5⟩ := he.mem (List.mem_of_getElem? h2)
    have hbx : b.1 = x := snV_inj (h4.symm.trans h3)
    subst hbx
    exact Or.inr ⟨e0.val, j, by rw [h5]; exact lk_some hnd hb', h1⟩
/-- what the tables say of a map's type -/
structure MapT (mt et : TypeId) (z : Value) : Prop where
  und : Tryz.prog.underlying mt = some (.map 35 et)
  zero : ∀ w, (zeroValue et).run Tryz.prog w = .ok z w
variable {mt et : TypeId} {z : Value}
theorem SMap.look (h : SMap w M l) (T : MapT mt et z) (x : Qm.St) (hx : StWf x) : (Instr.lookup mt (.map (some M)) (snV x) false).run Tryz.prog w = .ok ((lk l x).getD z) w := by
  obtain ⟨es, clock, hb, hc, h1 | ⟨v, j, h1, h2⟩⟩ := h.find x hx
  · simp [Instr.lookup, run_underlying T.und, MapKept.run_getObj_map hb, hc, h1.1, h1.2, T.zero, Result.andThen]
  · simp [Instr.lookup, run_underlying T.und, MapKept.run_getObj_map hb, hc, h1, h2, Result.andThen]
theorem SMap.lookOk (h : SMap w M l) (T : MapT mt et z) (x : Qm.St) (hx : StWf x) : (Instr.lookup mt (.map (some M)) (snV x) true).run Tryz.prog w = .ok (.tuple #[(lk l x).getD z, .bool (lk l x).isSome]) w := by
  obtain ⟨es, clock, hb, hc, h1 | ⟨v, j, h1, h2⟩⟩ := h.find x hx
  · simp [Instr.lookup, run_underlying T.und, MapKept.run_getObj_map hb, hc, h1.1, h1.2, T.zero, Result.andThen]
  · simp [Instr.lookup, run_underlying T.und, MapKept.run_getObj_map hb, hc, h1, h2, Result.andThen]
theorem SMap.upd (h : SMap w M l) (T : MapT mt et z) (x : Qm.St) (v : Value) (hx : StWf x) (hn : lk l x = none) :
    ∃ w', (Instr.mapUpdate mt (.map (some M)) (snV x) v).run Tryz.prog w = .ok () w' ∧ SMap w' M (l ++ [(x, v)]) ∧ Turns (fun k => k = M) w w' ∧ w'.heap.size = w.heap.size := by
  obtain ⟨es0, clock0, hb0, hc, h1 | ⟨v', j, h1, -⟩⟩ := h.find x hx
  · obtain ⟨es, clock, hb, he, hwf, hnd, hf1, hf2⟩ := h
    obtain ⟨rfl, rfl⟩ : es0 = es ∧ clock0 = clock := by rw [hb] at hb0; cases hb0; exact ⟨rfl, rfl⟩
    refine ⟨Go.ChangeMaps.setBlock w M (.map (es0.push ⟨snV x, v, clock0⟩) (clock0 + 1)), ?_, ⟨_, _, Go.ChangeMaps.heap_setBlock_same hb _, ?_, ?_, ?_, ?_, ?_⟩, setBlock_turns hb _, by simp [Go.ChangeMaps.setBlock]⟩
    · simp [Instr.mapUpdate, run_underlying T.und, MapKept.run_getObj_map hb, hc, h1.2, MapKept.run_setObj_map _ hb, Result.andThen, Go.ChangeMaps.setBlock]
    · unfold EntsAre at he ⊢
      simp [he]
    · intro e hm
      rcases List.mem_append.1 hm with hm | hm
      · exact hwf e hm
      · obtain rfl := List.mem_singleton.1 hm
        exact hx
    · rw [List.map_append]
      refine List.nodup_append.2 ⟨hnd, by simp, fun a ha b hb e => ?_⟩
      obtain ⟨y, hy, rfl⟩ := List.mem_map.1 ha
      have : b = x := by simpa using hb
      subst this
      exact lk_none.1 hn y hy e
    · intro e hm
      rw [Array.toList_push] at hm
      rcases List.mem_append.1 hm with hm | hm
      · have := hf1 e hm
        omega
      · obtain rfl := List.mem_singleton.1 hm
        exact Nat.lt_succ_self _
    · rw [Array.toList_push, List.map_append]
      refine List.nodup_append.2 ⟨hf2, by simp, fun x hx y hy e => ?_⟩
      obtain ⟨q, hq, rfl⟩ := List.mem_map.1 hx
      have h1 := hf1 q hq
      have h2 : y = clock0 := by simpa using hy
      omega
  · rw [hn] at h1; cases h1
theorem SMap.del (h : SMap w M l) (T : MapT mt et z) (x : Qm.St) (hx : StWf x) (hm : (lk l x).isSome = true) :
    ∃ w', (∀ ty, (Builtin.delete_ #[mt, 35] ty #[.map (some M), snV x]).run Tryz.prog w = .ok (.tuple #[]) w') ∧ SMap w' M (l.filter fun e => !(e.1 == x)) ∧ Turns (fun k => k = M) w w' ∧ w'.heap.size = w.heap.size := by
  obtain ⟨es, clock, hb, he, hwf, hnd, hf1, hf2⟩ := h
  obtain ⟨kl, hkey⟩ := key_st x hx
  rcases lawSt.find w hkey es.toList (he.keys hwf) with ⟨h1, h2⟩ | ⟨j, e0, h1, h2, h3⟩
  · obtain ⟨v, hv⟩ := Option.isSome_iff_exists.1 hm
    obtain ⟨e0, h3, h4, -⟩ := he.of (lk_mem hv)
    exact absurd h4 (h2 e0 h3)
  · have hjl : j < es.toList.length := (List.getElem?_eq_some_iff.1 h2).1
    have hjs : j < es.size := by simpa using hjl
    have hsub : (es.eraseIdxIfInBounds j).toList = es.toList.eraseIdx j := by
      unfold Array.eraseIdxIfInBounds
      rw [dif_pos hjs]
      simp
    have hll : l.length = es.toList.length := by have := congrArg List.length he; simpa using this.symm
    obtain ⟨a, hja⟩ : ∃ a, l[j]? = some a := ⟨_, List.getElem?_eq_getElem (by omega)⟩
    have hae : (a.1 == x) = true := by
      have h6 : (es.toList.map fun e => (e.key, e.val))[j]? = (l.map fun b => (snV b.1, b.2))[j]? := by rw [he]
      rw [List.getElem?_map, List.getElem?_map, h2, hja] at h6
      simp only [Option.map_some, Option.some.injEq, Prod.mk.injEq] at h6
      simpa using snV_inj (h6.1.symm.trans h3)
    have hap : l.Pairwise fun a b => a.1 ≠ b.1 := List.pairwise_map.1 hnd
    have hfil := Go.ChangeMaps.filter_eq_eraseIdx (fun a : Qm.St × Value => a.1 == x) l j a hja hae (hap.imp fun {a b} hne ⟨k1, k2⟩ => hne (by rw [beq_iff_eq] at k1 k2; rw [k1, k2]))
    refine ⟨Go.ChangeMaps.setBlock w M (.map (es.eraseIdxIfInBounds j) clock), ?_, ⟨_, _, Go.ChangeMaps.heap_setBlock_same hb _, ?_, ?_, ?_, ?_, ?_⟩, setBlock_turns hb _, by simp [Go.ChangeMaps.setBlock]⟩
    · intro ty
      simp [Builtin.delete_, run_underlying T.und, MapKept.run_getObj_map hb, lawSt.check w _ hkey, h1, MapKept.run_setObj_map _ hb, Result.andThen, Go.ChangeMaps.setBlock]
    · unfold EntsAre at he ⊢
      rw [hsub, hfil, Go.ChangeMaps.map_eraseIdx, he, Go.ChangeMaps.map_eraseIdx]
    · exact fun e hm => hwf e (List.mem_filter.1 hm).1
    · exact (List.filter_sublist.map Prod.fst).nodup hnd
    · intro e hm
      rw [hsub] at hm
      exact hf1 e ((List.eraseIdx_sublist _ _).subset hm)
    · rw [hsub]
      exact ((List.eraseIdx_sublist _ _).map _).nodup hf2
theorem SMap.len (h : SMap w M l) (T : MapT mt et z) (ty : TypeId) : (Builtin.len_ #[mt] ty #[.map (some M)]).run Tryz.prog w = .ok (.int .i64 (l.length : Int)) w := by
  obtain ⟨es, clock, hb, he, -⟩ := h
  have hll : es.size = l.length := by have := congrArg List.length he; simpa using this
  simp [Builtin.len_, run_underlying T.und, MapKept.run_getObj_map hb, Result.andThen, goInt, hll]
theorem len_none (T : MapT mt et z) (ty : TypeId) : (Builtin.len_ #[mt] ty #[.map none]).run Tryz.prog w = .ok (.int .i64 0) w := by
  simp [Builtin.len_, run_underlying T.und, Result.andThen, goInt]
end

/-! ### a range over one -/
/-- one step: nothing is left, or one that is left comes out, whichever -/
theorem run_next_at {P : Program} (w : World) (ty : TypeId) (r bm since c0 : Nat) (seen : Array Nat) (es : Array MapEntry) (clock : Nat) (hr : w.heap[r]? = some (.mapIter (some bm) since seen c0)) (hb : w.heap[bm]? = some (.map es clock))
    (hold : ∀ x ∈ es.toList, x.born < since) (hsc : since ≤ c0) :
    ((leftOf es seen).size = 0 ∧ (Instr.next (.pointer (some ⟨r, 0, none⟩)) false ty).run P w = .ok (.tuple #[.bool false]) w) ∨
    ∃ e ∈ (leftOf es seen).toList, ∃ w' : World, (Instr.next (.pointer (some ⟨r, 0, none⟩)) false ty).run P w = .ok (.tuple #[.bool true, e.key, e.val]) w' ∧ w'.heap[r]? = some (.mapIter (some bm) since (seen.push e.born) clock) ∧ Turns (fun k => k = r) w w' := by
  have hrl : r < w.heap.size := (Array.getElem?_eq_some_iff.1 hr).1
  simp only [Instr.next, getObj, Sem.run_bind, Sem.run, hr, hb, Result.andThen, next_test_false seen es since c0 hold hsc, Bool.false_eq_true, if_false]
  unfold leftOf
  have hmem : ∀ x ∈ (Array.filter (fun e => !seen.contains e.born) es).toList, x.born < since := fun x hx => hold x (by simp at hx ⊢; exact hx.1)
  generalize Array.filter (fun e => !seen.contains e.born) es = L at hmem ⊢
  have e1 : L.filter (fun x => decide (x.born < since)) = L := Array.filter_eq_self.2 (fun x hx => by simpa using hmem x (by simpa using hx))
  have e2 : L.filter (fun x => decide (x.born ≥ since)) = #[] := by
    rw [Array.filter_eq_empty_iff]
    intro x hx
    have := hmem x (by simpa using hx)
    simp
    omega
  simp only [e1, e2, Array.append_empty]
  by_cases h0 : L.size = 0
  · left
    have : L = #[] := Array.eq_empty_of_size_eq_zero h0
    subst this
    refine ⟨rfl, ?_⟩
    simp [choose, Sem.run, Question.forced]
  · right
    have hne : L.isEmpty = false := by simp [Array.isEmpty, h0]
    simp only [hne, Bool.false_eq_true, if_false, Array.empty_append, Array.size_map]
    have hch : ∃ (j : Nat) (w1 : World), j < L.size ∧ Turns (fun _ => False) w w1 ∧ w1.heap = w.heap ∧ (choose (Question.mapNext L.size)).run P w = .ok j w1 := by
      by_cases hf : L.size ≤ 1
      · exact ⟨0, w, by omega, Turns.refl _ _, rfl, by simp [choose, Sem.run, Question.forced, hf]⟩
      · exact ⟨_, w.drew, Nat.mod_lt _ (by omega), Turns.of_below (Below.drew (Below.refl _ _)), rfl, by
          simp only [choose, Sem.run, Question.forced, decide_eq_true_eq, hf, if_false, Question.cut]
          rfl⟩
    obtain ⟨j, w1, hj, ht, hh, hrun⟩ := hch
    refine ⟨L[j], by simp, Go.ChangeMaps.setBlock w1 r (.mapIter (some bm) since (seen.push L[j].born) clock), ?_, ?_, ?_⟩
    · have hset : ∀ o' : Obj, (setObj r o').run P w1 = .ok () (Go.ChangeMaps.setBlock w1 r o') := fun o' => by
        have hr1 : w1.heap[r]? = some (.mapIter (some bm) since seen c0) := by rw [hh]; exact hr
        simp only [setObj, Sem.run, hr1]
        rfl
      simp only [hrun, Array.getElem?_map, Array.getElem?_eq_getElem hj, Option.map_some, Sem.run_bind, Result.andThen, hset]
      rfl
    · show (w1.heap.setIfInBounds r _)[r]? = _
      rw [hh, Array.getElem?_setIfInBounds_self_of_lt hrl]
    · refine ⟨ht.os, ht.tape, ht.output, by simp [Go.ChangeMaps.setBlock, hh], fun k _ hk => ?_⟩
      show (w1.heap.setIfInBounds r _)[k]? = _
      rw [hh, Array.getElem?_setIfInBounds_ne (fun e => hk e.symm)]
/-- what came out, read -/
theorem run_entry_at {P : Program} (w : World) (r bm since : Nat) (seen : Array Nat) (es : Array MapEntry) (clock : Nat) (e : MapEntry) (hr : w.heap[r]? = some (.mapIter (some bm) since (seen.push e.born) clock)) (hb : w.heap[bm]? = some (.map es clock))
    (he : e ∈ es.toList) (hn : (es.toList.map (·.born)).Nodup) : (Instr.entry (.pointer (some ⟨r, 0, none⟩))).run P w = .ok (.tuple #[e.key, e.val]) w := by
  have hf : es.find? (·.born == e.born) = some e := by rw [← Array.find?_toList]; exact find_born e es.toList hn he
  simp only [Instr.entry, getObj, Sem.run_bind, Sem.run, hr, hb, Result.andThen, Array.back?_push, bne_self_eq_false, Bool.false_eq_true, if_false, hf]
  rfl
theorem left_step {es : Array MapEntry} {seen : Array Nat} {e : MapEntry} {j : Nat} (hn : (es.toList.map (·.born)).Nodup) (hj : (leftOf es seen).toList[j]? = some e) : (leftOf es (seen.push e.born)).toList = (leftOf es seen).toList.eraseIdx j := by
  have h1 : (leftOf es seen).toList = es.toList.filter fun x => !seen.contains x.born := by unfold leftOf; rw [Array.toList_filter]
  have h2 : (leftOf es (seen.push e.born)).toList = (leftOf es seen).toList.filter fun x => !(x.born == e.born) := by
    rw [h1, List.filter_filter]
    unfold leftOf
    rw [Array.toList_filter]
    apply List.filter_congr
    intro x _
    rw [contains_push]
    cases seen.contains x.born <;> cases x.born == e.born <;> rfl
  rw [h2]
  refine Go.ChangeMaps.filter_eq_eraseIdx (fun x : MapEntry => x.born == e.born) _ j e hj (by simp) ?_
  have h3 : ((leftOf es seen).toList.map (·.born)).Nodup := by rw [h1]; exact hn.sublist (List.filter_sublist.map _)
  refine (List.pairwise_map.1 h3).imp ?_
  intro a b hne ⟨k1, k2⟩
  exact hne ((beq_iff_eq.1 k1).trans (beq_iff_eq.1 k2).symm)
theorem cons_erase {α : Type} : ∀ (l : List α) (j : Nat) (h : j < l.length), (l[j] :: l.eraseIdx j).Perm l
  | a :: l, 0, _ => List.Perm.refl _
  | a :: l, j + 1, h => (List.Perm.swap _ _ _).trans ((cons_erase l j (by simpa using h)).cons a)
/-- block r is an iterator over the map of block M; these are left -/
def SIt (w : World) (r M : Nat) (l left : List (Qm.St × Value)) : Prop :=
  ∃ es clock seen c0, w.heap[M]? = some (.map es clock) ∧ w.heap[r]? = some (.mapIter (some M) clock seen c0) ∧ clock ≤ c0 ∧ EntsAre es.toList l ∧ EntsAre (leftOf es seen).toList left ∧ (∀ b ∈ l, StWf b.1) ∧ (l.map Prod.fst).Nodup ∧ (∀ e ∈ es.toList, e.born < clock) ∧ (es.toList.map (·.born)).Nodup
section
variable {w w' : World} {r M : Nat} {l left : List (Qm.St × Value)}
theorem SIt.map (h : SIt w r M l left) : SMap w M l := by
  obtain ⟨es, clock, seen, c0, h1, h2, h3, h4, h5, h6, h7, h8, h9⟩ := h
  exact ⟨es, clock, h1, h4, h6, h7, h8, h9⟩
theorem SIt.ltR (h : SIt w r M l left) : r < w.heap.size := by
  obtain ⟨es, clock, seen, c0, h1, h2, -⟩ := h
  exact (Array.getElem?_eq_some_iff.1 h2).1
theorem SIt.turns {G : Nat → Prop} (h : SIt w r M l left) (ht : Turns G w w') (hr : ¬ G r) (hM : ¬ G M) : SIt w' r M l left := by
  have h0 := h.ltR
  have h01 := h.map.lt
  obtain ⟨es, clock, seen, c0, h1, h2, h3⟩ := h
  exact ⟨es, clock, seen, c0, (ht.block _ h01 hM).trans h1, (ht.block _ h0 hr).trans h2, h3⟩
theorem SIt.below (h : SIt w r M l left) (hb : Below w.heap.size w w') : SIt w' r M l left := h.turns (Turns.of_below (F := fun _ => False) hb) (fun h => h) fun h => h
theorem SMap.range (h : SMap w M l) {mt et : TypeId} {z : Value} (T : MapT mt et z) :
    ∃ o, (Instr.range mt (.map (some M))).run Tryz.prog w = .ok (.pointer (some ⟨w.heap.size, 0, none⟩)) (w.alloc o) ∧ SIt (w.alloc o) w.heap.size M l l := by
  have hlt := h.lt
  obtain ⟨es, clock, hb, he, hwf, hnd, hf1, hf2⟩ := h
  refine ⟨.mapIter (some M) clock #[] clock, run_range_map (P := Tryz.prog) w mt _ _ M es clock T.und hb, es, clock, #[], clock, (Below.heap_alloc _ _ _ hlt).trans hb, heap_alloc_new w _, Nat.le_refl _, he, ?_, hwf, hnd, hf1, hf2⟩
  unfold leftOf EntsAre
  rw [Array.toList_filter]
  have : es.toList.filter (fun e => !(#[] : Array Nat).contains e.born) = es.toList := List.filter_eq_self.2 fun x _ => by simp
  rw [this]
  exact he
theorem SIt.next (h : SIt w r M l left) (ty : TypeId) :
    (left = [] ∧ (Instr.next (.pointer (some ⟨r, 0, none⟩)) false ty).run Tryz.prog w = .ok (.tuple #[.bool false]) w) ∨
    ∃ b left' w', (b :: left').Perm left ∧ (Instr.next (.pointer (some ⟨r, 0, none⟩)) false ty).run Tryz.prog w = .ok (.tuple #[.bool true, snV b.1, b.2]) w' ∧ Turns (fun k => k = r) w w' ∧ SIt w' r M l left' ∧
      (Instr.entry (.pointer (some ⟨r, 0, none⟩))).run Tryz.prog w' = .ok (.tuple #[snV b.1, b.2]) w' := by
  have hlr := h.ltR
  have hlm := h.map.lt
  obtain ⟨es, clock, seen, c0, hb, hr, hc, he, hl, hwf, hnd, hf1, hf2⟩ := h
  rcases run_next_at (P := Tryz.prog) w ty r M clock c0 seen es clock hr hb hf1 hc with ⟨h0, hnx⟩ | ⟨e, hm, w', hnx, hr', ht⟩
  · refine Or.inl ⟨?_, hnx⟩
    have := congrArg List.length hl
    simp only [List.length_map, Array.length_toList, h0] at this
    exact List.eq_nil_of_length_eq_zero this.symm
  · obtain ⟨j, hj, hje⟩ := List.getElem_of_mem hm
    have hll : (leftOf es seen).toList.length = left.length := by have := congrArg List.length hl; simpa using this
    have hjl : j < left.length := by omega
    have h1 : ((leftOf es seen).toList.map fun e => (e.key, e.val))[j]? = (left.map fun b => (snV b.1, b.2))[j]? := by rw [hl]
    rw [List.getElem?_map, List.getElem?_map, List.getElem?_eq_getElem hj, List.getElem?_eq_getElem hjl, hje] at h1
    simp only [Option.map_some, Option.some.injEq, Prod.mk.injEq] at h1
    have hne : M ≠ r := fun e => by rw [e, hr] at hb; cases hb
    have hb' : w'.heap[M]? = some (.map es clock) := (ht.block _ hlm hne).trans hb
    have hes : e ∈ es.toList := by
      unfold leftOf at hm
      rw [Array.toList_filter] at hm
      exact (List.mem_filter.1 hm).1
    refine Or.inr ⟨left[j], left.eraseIdx j, w', cons_erase left j hjl, by rw [← h1.1, ← h1.2]; exact hnx, ht, ⟨es, clock, seen.push e.born, clock, hb', hr', Nat.le_refl _, he, ?_, hwf, hnd, hf1, hf2⟩, by rw [← h1.1, ← h1.2]; exact run_entry_at (P := Tryz.prog) w' r M clock seen es clock e hr' hb' hes hf2⟩
    unfold EntsAre at hl ⊢
    rw [left_step hf2 (j := j) (by rw [List.getElem?_eq_getElem hj, hje]), Go.ChangeMaps.map_eraseIdx, hl, Go.ChangeMaps.map_eraseIdx]
end
end Go.Proofs.YthifdefjmfakgaaGreat
