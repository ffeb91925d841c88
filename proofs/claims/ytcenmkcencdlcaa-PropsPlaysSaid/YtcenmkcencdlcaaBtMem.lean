/-
  BATCHES IN MEMORY: rows of ops, a batch's four cells; what keeps them; loads, stores and answers of whole ones.
  No conditions.
-/
import Derived.Test.YtcenmkcencdlcaaGH
import Derived.Test.YtcenmkcencdlcaaGI
import Derived.Test.YtcenmkcencdlcaaOFit
namespace Go.Proofs.Ytcenmkcencdlcaa
open Go.RowKit

/-- what the type tables say of a struct's type of n cells -/
structure AgT (t : TypeId) (n : Nat) : Prop where
  und : ∃ d, Try.prog.underlying t = some (.struct d)
  size : (Try.prog.info? t).map (·.size) = some n
/-- the cells A lie in block b, which is a row of its own -/
def AgAt (w : World) (b : Nat) (A : Array Value) : Prop := ∃ T, w.heap[b]? = some (.cells A T (0, 0))
section
variable {w w' : World} {b : Nat} {A : Array Value} {t : TypeId} {n : Nat}
theorem AgAt.cell (h : AgAt w b A) (i : Nat) : w.cell? ⟨b, i, none⟩ = A[i]? := by
  obtain ⟨T, h⟩ := h
  exact cell_of_row w b i _ T (0, 0) h
theorem AgAt.free (h : AgAt w b A) (i : Nat) : w.frozen? ⟨b, i, none⟩ = false := by
  obtain ⟨T, h⟩ := h
  exact frozen_of_row w b i _ T h
theorem AgAt.lt (h : AgAt w b A) : b < w.heap.size := by
  obtain ⟨T, h⟩ := h
  exact (Array.getElem?_eq_some_iff.1 h).1
theorem AgAt.block (h : AgAt w b A) (e : w'.heap[b]? = w.heap[b]?) : AgAt w' b A := by
  obtain ⟨T, h⟩ := h
  exact ⟨T, e.trans h⟩
theorem AgAt.below (h : AgAt w b A) {B : Nat} (hb : Below B w w') (hB : b < B) : AgAt w' b A := h.block (hb.block b hB)
theorem AgAt.kept (h : AgAt w b A) (hb : Below w.heap.size w w') : AgAt w' b A := h.below hb h.lt
theorem AgAt.only {k : Nat} (h : AgAt w b A) (ho : Only k w w') (hne : b ≠ k) : AgAt w' b A := h.block (ho.block b h.lt (by simpa using hne))
theorem AgAt.new (w : World) (A : Array Value) (T : TypeId) : AgAt (w.alloc (.cells A T)) w.heap.size A := ⟨T, heap_alloc_new w _⟩
theorem AgAt.put (h : AgAt w b A) (i : Nat) (v : Value) : AgAt (w.setCell ⟨b, i, none⟩ v) b (A.setIfInBounds i v) := by
  obtain ⟨T, h⟩ := h
  exact ⟨T, by rw [Go.Joins.block_setCell h]⟩
theorem AgT.load (V : AgT t n) (hn : A.size = n) (hv : AgAt w b A) : (Instr.loadAt t (.pointer (some ⟨b, 0, none⟩))).run Try.prog w = .ok (.agg A) w := by
  obtain ⟨T, hv⟩ := hv
  obtain ⟨d, hu⟩ := V.und
  simp only [Instr.loadAt, Instr.sureAddr, Sem.run_bind, Sem.run_pure, Result.andThen_ok]
  exact run_loadVar_row w b T t _ (0, 0) _ hv hu rfl (by rw [hn]; exact V.size)
theorem wpList_load_ag (V : AgT t n) {ops : Array Oper} {rest : List Oper} {o : Oper} {a : Act} {Q : Exit → Act → World → Prop} (hgd : Region.wanted o (yielded ops a.tmps) = true) (y : Operand) (ho : o.op = .load t y)
    (b : Nat) (hx : a.eval y = .pointer (some ⟨b, 0, none⟩)) (hn : A.size = n) (hv : AgAt w b A)
    (h : wpList Try.prog ops Q rest (a.put o.dst (.agg A)) w) : wpList Try.prog ops Q (o :: rest) a w := by
  obtain ⟨T, hv⟩ := hv
  obtain ⟨d, hu⟩ := V.und
  rw [wpList, if_pos hgd]
  exact Or.inl (wp_load_row t y ho b hx T _ (0, 0) _ hv hu rfl (by rw [hn]; exact V.size) h)
theorem exec_load_ag (V : AgT t n) {c : Act} {o : Oper} {x : Operand} (ho : o.op = .load t x) {b : Nat} (hx : c.eval x = .pointer (some ⟨b, 0, none⟩)) (hn : A.size = n) (hv : AgAt w b A) :
    (execOp c.eval o).run Try.prog w = .ok (.value (.agg A)) w := by
  unfold execOp
  simp only [ho, hx, Sem.run_bind, V.load hn hv, Result.andThen_ok, Sem.run_pure]
theorem results_ag (V : AgT t n) {fn : Func} {p : Tmp} (tmps : Array Value) {g : Nat} (h : fn.results = #[.cell p t]) (hn : A.size = n) (hv : AgAt w g A) (hp : tmps.getD p undef = .pointer (some ⟨g, 0, none⟩)) :
    (results fn tmps).run Try.prog w = .ok (.agg A) w := by
  obtain ⟨T, hv⟩ := hv
  obtain ⟨d, hu⟩ := V.und
  exact results_cell_row h tmps w g T _ (0, 0) _ hp hv hu rfl (by rw [hn]; exact V.size)
theorem wpList_store_ag (V : AgT t n) {ops : Array Oper} {rest : List Oper} {o : Oper} {a : Act} {Q : Exit → Act → World → Prop} (hgd : o.guard = none) (x y : Operand) (ho : o.op = .store t x y)
    (b : Nat) (hx : a.eval x = .pointer (some ⟨b, 0, none⟩)) (u : Array Value) (hv : AgAt w b u) (hy : a.eval y = .agg A) (hu : u.size = n) (hn : A.size = n) (h1 : A.all (·.oneCell') = true)
    (h : ∀ w' : World, AgAt w' b A → (∀ k, k ≠ b → w'.heap[k]? = w.heap[k]?) → w'.heap.size = w.heap.size → (∀ B w0, Below B w0 w → B ≤ b → Below B w0 w') → wpList Try.prog ops Q rest (a.put o.dst undef) w') : wpList Try.prog ops Q (o :: rest) a w := by
  obtain ⟨T, hv⟩ := hv
  refine wpList_plain hgd fun K hK => ?_
  have hr : (storeVar t ⟨b, 0, none⟩ (.agg A)).run Try.prog w = .ok () (w.setRow b A) := run_storeVar_row w b T t u A hv (by rw [hn]; exact V.size) (by rw [hu, hn]) h1
  have hk : K (a.put o.dst undef) (w.setRow b A) := by
    refine hK _ _ (h _ ⟨T, setRow_heap w b _ _ T _ hv⟩ (fun k hk => setRow_other w b k _ hk) (by simp) ?_)
    intro B w0 hb hB
    exact hb.trans ⟨rfl, rfl, rfl, by simp, fun k hk => setRow_other w b k _ (by omega)⟩
  unfold Oper.wp execOp
  simp only [ho, hx, hy, Instr.storeAt, Instr.sureAddr, Sem.run_bind, Sem.run_pure, Result.andThen_ok, hr]
  exact hk
/-- into a new block -/
theorem wpList_store_newag (V : AgT t n) {T : TypeId} {ops : Array Oper} {rest : List Oper} {o : Oper} {a : Act} {Q : Exit → Act → World → Prop} (hgd : o.guard = none) (x y : Operand) (ho : o.op = .store t x y)
    (hx : a.eval x = .pointer (some ⟨w.heap.size, 0, none⟩)) (u : Array Value) (hy : a.eval y = .agg A) (hu : u.size = n) (hn : A.size = n) (h1 : A.all (·.oneCell') = true)
    (h : ∀ w' : World, AgAt w' w.heap.size A → Below w.heap.size w w' → wpList Try.prog ops Q rest (a.put o.dst undef) w') : wpList Try.prog ops Q (o :: rest) a (w.alloc (.cells u T)) :=
  wpList_store_ag V hgd x y ho w.heap.size hx u ⟨T, heap_alloc_new w _⟩ hy hu hn h1 fun w' hv _ _ hb => h w' hv (hb _ _ ((Below.refl _ _).alloc (Nat.le_refl _) _) (Nat.le_refl _))
end

/-- a stamp's cells -/
theorem stA_one (a b : Int) : (#[Value.int .i64 a, .int .i64 b] : Array Value).all (·.oneCell') = true := all_oneCell_toArray (cs := [.int .i64 a, .int .i64 b]) (by
  intro v hv
  simp only [List.mem_cons, List.not_mem_nil, or_false] at hv
  rcases hv with rfl | rfl <;> rfl)
theorem stT : AgT 32 2 := ⟨⟨_, Try.underlying32⟩, by kernel_rfl⟩

/-- an op, where its Path lies -/
structure En where
  x : Opp
  q : Option Addr
  c : Nat
def enCells (l : List En) : List Value := l.flatMap fun e => opL e.x e.q e.c
def enOf (l : List En) (i : Nat) : En := l.getD i ⟨Opp.zero, none, 0⟩
theorem enCells_length (l : List En) : (enCells l).length = l.length * 12 := by
  induction l with
  | nil => rfl
  | cons a l ih => simp only [enCells, opL, List.flatMap_cons, List.length_append, List.length_cons, List.length_nil] at ih ⊢; omega
theorem enCells_append (l m : List En) : enCells (l ++ m) = enCells l ++ enCells m := by simp [enCells]
theorem enCells_sing (e : En) : enCells [e] = opL e.x e.q e.c := by simp [enCells]
theorem enCells_one : ∀ {l : List En}, ∀ u ∈ enCells l, u.oneCell' = true := by
  intro l u hu
  obtain ⟨x, _, hx⟩ := List.mem_flatMap.1 hu
  simp only [opL, List.mem_cons, List.not_mem_nil, or_false] at hx
  rcases hx with rfl | rfl | rfl | rfl | rfl | rfl | rfl | rfl | rfl | rfl | rfl | rfl <;> rfl
theorem opL_length (x : Opp) (q : Option Addr) (c : Nat) : (opL x q c).length = 12 := rfl
theorem enCells_get (l : List En) (i j : Nat) (h : i < l.length) (hj : j < 12) : (enCells l)[i * 12 + j]? = (opL (enOf l i).x (enOf l i).q (enOf l i).c)[j]? := by
  induction l generalizing i with
  | nil => simp at h
  | cons a l ih =>
    have e0 : enCells (a :: l) = opL a.x a.q a.c ++ enCells l := by simp [enCells]
    rw [e0]
    cases i with
    | zero =>
      rw [Nat.zero_mul, Nat.zero_add, List.getElem?_append_left (by rw [opL_length]; exact hj)]
      rfl
    | succ i =>
      rw [List.getElem?_append_right (by rw [opL_length]; omega), opL_length, show (i + 1) * 12 + j - 12 = i * 12 + j from by omega, ih i (by simpa using h)]
      rfl
theorem enOf_mem {l : List En} {i : Nat} (h : i < l.length) : enOf l i ∈ l := by
  have : enOf l i = l[i] := by simp [enOf, h]
  rw [this]; exact List.getElem_mem h
theorem enOf_x {l : List En} {ops : List Opp} (h : l.map (·.x) = ops) (i : Nat) : (enOf l i).x = opOf ops i := by
  subst h
  unfold enOf opOf
  rw [List.getD_eq_getElem?_getD, List.getD_eq_getElem?_getD, List.getElem?_map]
  cases l[i]? <;> rfl
/-- the cells of op i of a row -/
theorem Rd.en {w : World} {b o : Nat} {l : List En} (h : Rd w (some ⟨b, o, none⟩) (enCells l)) (i : Nat) (hi : i < l.length) : w.rangeAt b (o + i * 12) (opL (enOf l i).x (enOf l i).q (enOf l i).c) := by
  intro j v hv
  have hj : j < 12 := by have := (List.getElem?_eq_some_iff.1 hv).1; rw [opL_length] at this; exact this
  rw [Nat.add_assoc]
  exact h.cell (by rw [enCells_get l i j hi hj]; exact hv)
/-- a whole op out of a row of ops -/
theorem wpList_load_en {w : World} {t : TypeId} (V : OT t) {ops : Array Oper} {rest : List Oper} {o : Oper} {a : Act} {Q : Exit → Act → World → Prop} (hgd : o.guard = none) (y : Operand) (ho : o.op = .load t y)
    (b s i : Nat) (hx : a.eval y = .pointer (some ⟨b, s + i * 12, none⟩)) (l : List En) (hrd : Rd w (some ⟨b, s, none⟩) (enCells l)) (hi : i < l.length)
    (h : wpList Try.prog ops Q rest (a.put o.dst (.agg (opA (enOf l i).x (enOf l i).q (enOf l i).c))) w) : wpList Try.prog ops Q (o :: rest) a w := by
  obtain ⟨d, hu⟩ := V.und
  exact wpList_load_mid hgd t y ho b (s + i * 12) hx (opL (enOf l i).x (enOf l i).q (enOf l i).c) _ (hrd.en i hi) hu rfl V.size h
theorem exec_load_en {w : World} {t : TypeId} (V : OT t) {c : Act} {o : Oper} {x : Operand} (ho : o.op = .load t x) {b s i : Nat} (hx : c.eval x = .pointer (some ⟨b, s + i * 12, none⟩)) (l : List En) (hrd : Rd w (some ⟨b, s, none⟩) (enCells l)) (hi : i < l.length) :
    (execOp c.eval o).run Try.prog w = .ok (.value (.agg (opA (enOf l i).x (enOf l i).q (enOf l i).c))) w := by
  obtain ⟨d, hu⟩ := V.und
  unfold execOp
  simp only [ho, hx, Sem.run_bind, run_loadAt_mid w b (s + i * 12) t (opL (enOf l i).x (enOf l i).q (enOf l i).c) _ (hrd.en i hi) hu rfl V.size, Result.andThen_ok, Sem.run_pure]
  rfl

/-- a row of ops -/
structure Os (w : World) (p : Option Addr) (c : Nat) (l : List En) (ops : List Opp) : Prop where
  map : l.map (·.x) = ops
  rd : Rd w p (enCells l)
  pa : ∀ e, e ∈ l → Pa w e.x e.q e.c
  nil : p = none → c = 0
  cap : ops.length ≤ c
theorem Os.len {w : World} {p : Option Addr} {c : Nat} {l : List En} {ops : List Opp} (h : Os w p c l ops) : l.length = ops.length := by rw [← h.map, List.length_map]
theorem Os.kept {w w' : World} {p : Option Addr} {c : Nat} {l : List En} {ops : List Opp} (h : Os w p c l ops) (hb : Below w.heap.size w w') : Os w' p c l ops := ⟨h.map, h.rd.below hb, fun e he => (h.pa e he).kept hb, h.nil, h.cap⟩
theorem Os.x {w : World} {p : Option Addr} {c : Nat} {l : List En} {ops : List Opp} (h : Os w p c l ops) (i : Nat) : (enOf l i).x = opOf ops i := enOf_x h.map i
theorem Os.paOf {w : World} {p : Option Addr} {c : Nat} {l : List En} {ops : List Opp} (h : Os w p c l ops) {i : Nat} (hi : i < ops.length) : Pa w (opOf ops i) (enOf l i).q (enOf l i).c := by
  rw [← h.x i]
  exact h.pa _ (enOf_mem (by rw [h.len]; exact hi))
theorem Os.empty (w : World) : Os w none 0 [] [] := ⟨rfl, Rd.nil _ _, fun _ h => (by cases h), fun _ => rfl, Nat.le_refl _⟩

/-- a batch's cells -/
def btA (x : Bat) (p : Option Addr) (c : Nat) : Array Value := #[.int .i64 x.r, .int .i64 x.s, .int .i64 x.t, .slice p x.ops.length c]
theorem btA_size (x : Bat) (p : Option Addr) (c : Nat) : (btA x p c).size = 4 := rfl
theorem btA_one (x : Bat) (p : Option Addr) (c : Nat) : (btA x p c).all (·.oneCell') = true := all_oneCell_toArray (cs := [.int .i64 x.r, .int .i64 x.s, .int .i64 x.t, .slice p x.ops.length c]) (by
  intro v hv
  simp only [List.mem_cons, List.not_mem_nil, or_false] at hv
  rcases hv with rfl | rfl | rfl | rfl <;> rfl)
abbrev BtAt (w : World) (b : Nat) (x : Bat) (p : Option Addr) (c : Nat) : Prop := AgAt w b (btA x p c)
theorem BtAt.cells {w : World} {b : Nat} {x : Bat} {p : Option Addr} {c : Nat} (h : BtAt w b x p c) :
    w.cell? ⟨b, 0, none⟩ = some (.int .i64 x.r) ∧ w.cell? ⟨b, 1, none⟩ = some (.int .i64 x.s) ∧ w.cell? ⟨b, 2, none⟩ = some (.int .i64 x.t) ∧ w.cell? ⟨b, 3, none⟩ = some (.slice p x.ops.length c) :=
  ⟨by rw [AgAt.cell h 0]; rfl, by rw [AgAt.cell h 1]; rfl, by rw [AgAt.cell h 2]; rfl, by rw [AgAt.cell h 3]; rfl⟩
/-- a batch's ops -/
def Bops (w : World) (x : Bat) (p : Option Addr) (c : Nat) : Prop := ∃ l, Os w p c l x.ops
theorem Bops.kept {w w' : World} {x : Bat} {p : Option Addr} {c : Nat} (h : Bops w x p c) (hb : Below w.heap.size w w') : Bops w' x p c := by
  obtain ⟨l, h⟩ := h
  exact ⟨l, h.kept hb⟩
theorem Bops.zero (w : World) : Bops w Bat.zero none 0 := ⟨[], Os.empty w⟩
/-- ops of bearable size -/
structure Szs (l : List Opp) : Prop where
  each : ∀ x, x ∈ l → Sz x
  len : l.length ≤ 10000
theorem Szs.of {l : List Opp} (h : Szs l) {i : Nat} (hi : i < l.length) : Sz (opOf l i) := h.each _ (opOf_mem hi)
end Go.Proofs.Ytcenmkcencdlcaa
