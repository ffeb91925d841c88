/-
  BATCHES, PLAINLY: which may be, when two are the same, their stamps, their bytes, how they are read, framed or not.
  No conditions.
  BATCHES IN MEMORY: rows of ops, a batch's four cells; what keeps them; loads, stores and answers of whole ones.
  No conditions.
  May a batch be: allRight, Right.
  No conditions but sizes.
  Are two batches the same: EqualFunc over rows of ops, Same.
  No conditions but sizes.
  A batch's stamps: Stamp, End.
  No conditions but sizes.
-/
import Derived.Test.YtaplemkmkbjodaaGreatGF
import Derived.Test.YtaplemkmkbjodaaGreatGA
import Derived.Test.YtaplemkmkbjodaaGreatGB
import Derived.Test.YtaplemkmkbjodaaGreatGD
import Derived.Test.YtaplemkmkbjodaaGreatOFit
import Derived.Test.YtaplemkmkbjodaaGreatORight
import Derived.Test.YtaplemkmkbjodaaGreatOSame
namespace Go.Proofs.YtaplemkmkbjodaaGreat
open Go.RowKit

/-- a batch, without where its ops lie -/
structure Bat where
  r : Int
  s : Int
  t : Int
  ops : List Opp
def Bat.zero : Bat := ⟨0, 0, 0, []⟩
def rightT (x : Bat) : Bool :=
  decide (0 ≤ x.r ∧ x.r ≤ 15) && decide (1 ≤ x.s ∧ x.s ≤ 512) && decide (1 ≤ x.ops.length ∧ x.ops.length ≤ 64) && decide (1 ≤ x.t ∧ x.t ≤ 1099511627776 - ((x.ops.length : Int) - 1)) && x.ops.all rightO
/-- may a batch be but for its ops? -/
def headT (x : Bat) : Bool := decide (0 ≤ x.r ∧ x.r ≤ 15) && decide (1 ≤ x.s ∧ x.s ≤ 512) && decide (1 ≤ x.ops.length ∧ x.ops.length ≤ 64) && decide (1 ≤ x.t ∧ x.t ≤ 1099511627776 - ((x.ops.length : Int) - 1))
theorem rightT_iff {x : Bat} : rightT x = true ↔ (0 ≤ x.r ∧ x.r ≤ 15) ∧ (1 ≤ x.s ∧ x.s ≤ 512) ∧ (1 ≤ x.ops.length ∧ x.ops.length ≤ 64) ∧ (1 ≤ x.t ∧ x.t ≤ 1099511627776 - ((x.ops.length : Int) - 1)) ∧ ∀ y ∈ x.ops, rightO y = true := by
  simp only [rightT, Bool.and_eq_true, decide_eq_true_eq, List.all_eq_true, and_assoc]
theorem rightT_head {x : Bat} (h : headT x = true) : rightT x = x.ops.all rightO := by
  unfold rightT; unfold headT at h; rw [h, Bool.true_and]
theorem rightT_nohead {x : Bat} (h : headT x = false) : rightT x = false := by
  unfold rightT; unfold headT at h; rw [h, Bool.false_and]
theorem headT_no {x : Bat} (h : ¬ ((0 ≤ x.r ∧ x.r ≤ 15) ∧ (1 ≤ x.s ∧ x.s ≤ 512) ∧ (1 ≤ x.ops.length ∧ x.ops.length ≤ 64) ∧ (1 ≤ x.t ∧ x.t ≤ 1099511627776 - ((x.ops.length : Int) - 1)))) : headT x = false := by
  cases hh : headT x
  · rfl
  · simp only [headT, Bool.and_eq_true, decide_eq_true_eq, and_assoc] at hh h
    exact absurd hh h
theorem headT_yes {x : Bat} (h : (0 ≤ x.r ∧ x.r ≤ 15) ∧ (1 ≤ x.s ∧ x.s ≤ 512) ∧ (1 ≤ x.ops.length ∧ x.ops.length ≤ 64) ∧ (1 ≤ x.t ∧ x.t ≤ 1099511627776 - ((x.ops.length : Int) - 1))) : headT x = true := by
  simp only [headT, Bool.and_eq_true, decide_eq_true_eq, and_assoc] at h ⊢
  exact h
theorem rightT_zero : rightT Bat.zero = false := rfl

def opOf (l : List Opp) (i : Nat) : Opp := l.getD i Opp.zero
theorem opOf_mem {l : List Opp} {i : Nat} (h : i < l.length) : opOf l i ∈ l := by
  have : opOf l i = l[i] := by simp [opOf, h]
  rw [this]; exact List.getElem_mem h
theorem all_no {l : List Opp} {f : Opp → Bool} {k : Nat} (hk : k < l.length) (h : f (opOf l k) = false) : l.all f = false := by
  rw [List.all_eq_false]
  exact ⟨_, opOf_mem hk, by rw [h]; simp⟩
theorem all_yes {l : List Opp} {f : Opp → Bool} (h : ∀ i, i < l.length → f (opOf l i) = true) : l.all f = true := by
  rw [List.all_eq_true]
  intro s hs
  obtain ⟨i, hi, rfl⟩ := List.mem_iff_getElem.1 hs
  have := h i hi
  simpa [opOf, hi] using this

/-- two rows of ops, held against each other -/
def sameL : List Opp → List Opp → Bool
  | [], [] => true
  | x :: l, y :: m => sameO x y && sameL l m
  | _, _ => false
theorem sameL_iff : ∀ {l m : List Opp}, sameL l m = true ↔ l = m
  | [], [] => by simp [sameL]
  | [], _ :: _ => by simp [sameL]
  | _ :: _, [] => by simp [sameL]
  | x :: l, y :: m => by
    simp only [sameL, Bool.and_eq_true, sameO_iff, List.cons.injEq]
    exact and_congr Iff.rfl (sameL_iff (l := l) (m := m))
theorem sameL_refl (l : List Opp) : sameL l l = true := sameL_iff.2 rfl
theorem sameL_len {l m : List Opp} (h : l.length ≠ m.length) : sameL l m = false := by
  cases hh : sameL l m
  · rfl
  · exact absurd (by rw [sameL_iff.1 hh]) h
theorem sameL_no {l m : List Opp} {k : Nat} (h : sameO (opOf l k) (opOf m k) = false) : sameL l m = false := by
  cases hh : sameL l m
  · rfl
  · have e := sameL_iff.1 hh
    subst e
    rw [sameO_refl] at h
    cases h
theorem sameL_yes {l m : List Opp} (hn : l.length = m.length) (h : ∀ i, i < m.length → sameO (opOf l i) (opOf m i) = true) : sameL l m = true := by
  rw [sameL_iff]
  apply List.ext_getElem hn
  intro i h1 h2
  have := sameO_iff.1 (h i h2)
  simpa [opOf, h1, h2] using this
def sameT (x y : Bat) : Bool := x.r == y.r && x.s == y.s && x.t == y.t && sameL x.ops y.ops
theorem sameT_refl (x : Bat) : sameT x x = true := by simp [sameT, sameL_refl]

/-- the stamp of place i -/
def stampT (x : Bat) (i : Int) : Qm.St := if 0 ≤ i ∧ i < (x.ops.length : Int) ∧ rightT x = true then (x.t + i, x.r) else (0, 0)
def endT (x : Bat) : Qm.St := stampT x ((x.ops.length : Int) - 1)

/-- a batch's bytes -/
def opsB (l : List Opp) : List UInt8 := l.flatMap opB
def batB (x : Bat) : List UInt8 := Wm.numB x.r.toNat ++ (Wm.numB x.s.toNat ++ (Wm.numB x.t.toNat ++ (Wm.numB x.ops.length ++ opsB x.ops)))
def putT (x : Bat) : List UInt8 × Nat := if rightT x = true then (batB x, 0) else ([], 1)
theorem putT_ok {x : Bat} (h : rightT x = true) : putT x = (batB x, 0) := by unfold putT; rw [if_pos h]
theorem putT_err {x : Bat} (h : rightT x = false) : putT x = ([], 1) := by unfold putT; rw [if_neg (by simp [h])]
def frameT (x : Bat) : List UInt8 × Nat := if rightT x = true then (Wm.frameB (batB x), 0) else ([], 1)

/-- what reading leaves -/
def uptoS (m : Int) (s : RS) : Nat × RS := if s.2 ≠ 0 then (0, s) else uptoR s.1 m
/-- n ops more, where a are read -/
def opsS : Nat → RS → List Opp → List Opp × RS
  | 0, s, a => (a, s)
  | n + 1, s, a => if (takeO s).2.2 ≠ 0 then ([], (takeO s).2) else opsS n (takeO s).2 (a ++ [(takeO s).1])
/-- what Take reads -/
def rawT (s : RS) : Bat × RS :=
  let a := uptoS 15 s; let b := uptoS 512 a.2; let c := numS b.2; let d := uptoS 64 c.2; let o := opsS d.1 d.2 []
  (⟨a.1, b.1, c.1, o.1⟩, o.2)
/-- how it ends -/
def endB (q : Bat × RS) : Bat × RS := if q.2.2 ≠ 0 then (Bat.zero, q.2) else if rightT q.1 = true then q else (Bat.zero, failS 21 q.2)
def takeT (s : RS) : Bat × RS := endB (rawT s)
def unframeT (l : List UInt8) : Bat × Nat × Nat :=
  if (unfR l).2.2 ≠ 0 then (Bat.zero, 0, (unfR l).2.2)
  else if doneR (takeT ((unfR l).1, 0)).2.1 (takeT ((unfR l).1, 0)).2.2 ≠ 0 then (Bat.zero, 0, 21)
  else ((takeT ((unfR l).1, 0)).1, (unfR l).2.1, 0)

theorem uptoS_back {n : Nat} {m : Int} (h : n < 281474976710656) (hm : (n : Int) ≤ m) (more : List UInt8) : uptoS m (Wm.numB n ++ more, 0) = (n, (more, 0)) := by
  unfold uptoS
  rw [if_neg (by simp)]
  exact uptoR_backM h hm more
theorem opsS_back : ∀ (l a : List Opp) (more : List UInt8), (∀ x, x ∈ l → rightO x = true) → opsS l.length (opsB l ++ more, 0) a = (a ++ l, (more, 0))
  | [], a, more, _ => by simp [opsS, opsB]
  | x :: l, a, more, h => by
    have e : opsB (x :: l) ++ more = opB x ++ (opsB l ++ more) := by simp [opsB]
    rw [e, List.length_cons, opsS, takeO_back (h x List.mem_cons_self)]
    rw [if_neg (by simp), opsS_back l (a ++ [x]) more fun y hy => h y (List.mem_cons_of_mem _ hy), List.append_assoc]
    rfl
theorem rawT_back {x : Bat} (h : rightT x = true) (more : List UInt8) : rawT (batB x ++ more, 0) = (x, (more, 0)) := by
  obtain ⟨h1, h2, h3, h4, h5⟩ := rightT_iff.1 h
  unfold rawT batB
  rw [List.append_assoc, uptoS_back (by omega) (by omega)]
  dsimp only
  rw [List.append_assoc, uptoS_back (by omega) (by omega)]
  dsimp only
  rw [List.append_assoc, numS_back (by omega)]
  dsimp only
  rw [List.append_assoc, uptoS_back (by omega) (by omega)]
  dsimp only
  rw [opsS_back x.ops [] more h5]
  obtain ⟨r, s, t, l⟩ := x
  dsimp only at h1 h2 h4 ⊢
  rw [Int.toNat_of_nonneg (by omega), Int.toNat_of_nonneg (by omega), Int.toNat_of_nonneg (by omega)]
  rfl
theorem takeT_back {x : Bat} (h : rightT x = true) (more : List UInt8) : takeT (batB x ++ more, 0) = (x, (more, 0)) := by
  unfold takeT
  rw [rawT_back h]
  unfold endB
  rw [if_neg (by simp), if_pos h]

theorem opsB_append (l m : List Opp) : opsB (l ++ m) = opsB l ++ opsB m := by simp [opsB]
theorem opsB_one (x : Opp) : opsB [x] = opB x := by simp [opsB]
theorem frameT_ok {x : Bat} (h : rightT x = true) : frameT x = (Wm.frameB (batB x), 0) := by unfold frameT; rw [if_pos h]
theorem frameT_err {x : Bat} (h : rightT x = false) : frameT x = ([], 1) := by unfold frameT; rw [if_neg (by simp [h])]
theorem take_succ_op (l : List Opp) (k : Nat) (h : k < l.length) : l.take (k + 1) = l.take k ++ [opOf l k] := by
  rw [List.take_succ_eq_append_getElem h]
  simp [opOf, h]
end Go.Proofs.YtaplemkmkbjodaaGreat

namespace Go.Proofs.YtaplemkmkbjodaaGreat
open Go.RowKit

/-- what the type tables say of a struct's type of n cells -/
structure AgT (t : TypeId) (n : Nat) : Prop where
  und : ∃ d, Tryz.prog.underlying t = some (.struct d)
  size : (Tryz.prog.info? t).map (·.size) = some n
/-- the cells A lie in block b, which is a row of its own -/
def AgAt (w : World) (b : Nat) (A : Array Value) : Prop := ∃ T, w.heap[b]? = some (.cells A T (0, 0))
section
variable {w w' : World} {b : Nat} {A : Array Value} {t : TypeId} {n : Nat}
theorem AgAt.cell (h : AgAt w b A) (i : Nat) : w.cell? ⟨b, i, none⟩ = A[i]? := by
  obtain ⟨T, h⟩ := h
  exact cell_of_row w b i _ T (0, 0) h
theorem AgAt.free (h : AgAt w b A) (i : Nat) : w.frozen? ⟨b, i, none⟩ = false := by
  obtain ⟨T, h⟩ := h
  exact frozen_of_row w b i _ T h
theorem AgAt.lt (h : AgAt w b A) : b < w.heap.size := by
  obtain ⟨T, h⟩ := h
  exact (Array.getElem?_eq_some_iff.1 h).1
theorem AgAt.block (h : AgAt w b A) (e : w'.heap[b]? = w.heap[b]?) : AgAt w' b A := by
  obtain ⟨T, h⟩ := h
  exact ⟨T, e.trans h⟩
theorem AgAt.below (h : AgAt w b A) {B : Nat} (hb : Below B w w') (hB : b < B) : AgAt w' b A := h.block (hb.block b hB)
theorem AgAt.kept (h : AgAt w b A) (hb : Below w.heap.size w w') : AgAt w' b A := h.below hb h.lt
theorem AgAt.only {k : Nat} (h : AgAt w b A) (ho : Only k w w') (hne : b ≠ k) : AgAt w' b A := h.block (ho.block b h.lt (by simpa using hne))
theorem AgAt.new (w : World) (A : Array Value) (T : TypeId) : AgAt (w.alloc (.cells A T)) w.heap.size A := ⟨T, heap_alloc_new w _⟩
theorem AgAt.put (h : AgAt w b A) (i : Nat) (v : Value) : AgAt (w.setCell ⟨b, i, none⟩ v) b (A.setIfInBounds i v) := by
  obtain ⟨T, h⟩ := h
  exact ⟨T, by rw [Go.Joins.block_setCell h]⟩
theorem AgT.load (V : AgT t n) (hn : A.size = n) (hv : AgAt w b A) : (Instr.loadAt t (.pointer (some ⟨b, 0, none⟩))).run Tryz.prog w = .ok (.agg A) w := by
  obtain ⟨T, hv⟩ := hv
  obtain ⟨d, hu⟩ := V.und
  simp only [Instr.loadAt, Instr.sureAddr, Sem.run_bind, Sem.run_pure, Result.andThen_ok]
  exact run_loadVar_row w b T t _ (0, 0) _ hv hu rfl (by rw [hn]; exact V.size)
theorem wpList_load_ag (V : AgT t n) {ops : Array Oper} {rest : List Oper} {o : Oper} {a : Act} {Q : Exit → Act → World → Prop} (hgd : Region.wanted o (yielded ops a.tmps) = true) (y : Operand) (ho : o.op = .load t y)
    (b : Nat) (hx : a.eval y = .pointer (some ⟨b, 0, none⟩)) (hn : A.size = n) (hv : AgAt w b A)
    (h : wpList Tryz.prog ops Q rest (a.put o.dst (.agg A)) w) : wpList Tryz.prog ops Q (o :: rest) a w := by
  obtain ⟨T, hv⟩ := hv
  obtain ⟨d, hu⟩ := V.und
  rw [wpList, if_pos hgd]
  exact Or.inl (wp_load_row t y ho b hx T _ (0, 0) _ hv hu rfl (by rw [hn]; exact V.size) h)
theorem exec_load_ag (V : AgT t n) {c : Act} {o : Oper} {x : Operand} (ho : o.op = .load t x) {b : Nat} (hx : c.eval x = .pointer (some ⟨b, 0, none⟩)) (hn : A.size = n) (hv : AgAt w b A) :
    (execOp c.eval o).run Tryz.prog w = .ok (.value (.agg A)) w := by
  unfold execOp
  simp only [ho, hx, Sem.run_bind, V.load hn hv, Result.andThen_ok, Sem.run_pure]
theorem results_ag (V : AgT t n) {fn : Func} {p : Tmp} (tmps : Array Value) {g : Nat} (h : fn.results = #[.cell p t]) (hn : A.size = n) (hv : AgAt w g A) (hp : tmps.getD p undef = .pointer (some ⟨g, 0, none⟩)) :
    (results fn tmps).run Tryz.prog w = .ok (.agg A) w := by
  obtain ⟨T, hv⟩ := hv
  obtain ⟨d, hu⟩ := V.und
  exact results_cell_row h tmps w g T _ (0, 0) _ hp hv hu rfl (by rw [hn]; exact V.size)
theorem wpList_store_ag (V : AgT t n) {ops : Array Oper} {rest : List Oper} {o : Oper} {a : Act} {Q : Exit → Act → World → Prop} (hgd : o.guard = none) (x y : Operand) (ho : o.op = .store t x y)
    (b : Nat) (hx : a.eval x = .pointer (some ⟨b, 0, none⟩)) (u : Array Value) (hv : AgAt w b u) (hy : a.eval y = .agg A) (hu : u.size = n) (hn : A.size = n) (h1 : A.all (·.oneCell') = true)
    (h : ∀ w' : World, AgAt w' b A → (∀ k, k ≠ b → w'.heap[k]? = w.heap[k]?) → w'.heap.size = w.heap.size → (∀ B w0, Below B w0 w → B ≤ b → Below B w0 w') → wpList Tryz.prog ops Q rest (a.put o.dst undef) w') : wpList Tryz.prog ops Q (o :: rest) a w := by
  obtain ⟨T, hv⟩ := hv
  refine wpList_plain hgd fun K hK => ?_
  have hr : (storeVar t ⟨b, 0, none⟩ (.agg A)).run Tryz.prog w = .ok () (w.setRow b A) := run_storeVar_row w b T t u A hv (by rw [hn]; exact V.size) (by rw [hu, hn]) h1
  have hk : K (a.put o.dst undef) (w.setRow b A) := by
    refine hK _ _ (h _ ⟨T, setRow_heap w b _ _ T _ hv⟩ (fun k hk => setRow_other w b k _ hk) (by simp) ?_)
    intro B w0 hb hB
    exact hb.trans ⟨rfl, rfl, rfl, by simp, fun k hk => setRow_other w b k _ (by omega)⟩
  unfold Oper.wp execOp
  simp only [ho, hx, hy, Instr.storeAt, Instr.sureAddr, Sem.run_bind, Sem.run_pure, Result.andThen_ok, hr]
  exact hk
/-- into a new block -/
theorem wpList_store_newag (V : AgT t n) {T : TypeId} {ops : Array Oper} {rest : List Oper} {o : Oper} {a : Act} {Q : Exit → Act → World → Prop} (hgd : o.guard = none) (x y : Operand) (ho : o.op = .store t x y)
    (hx : a.eval x = .pointer (some ⟨w.heap.size, 0, none⟩)) (u : Array Value) (hy : a.eval y = .agg A) (hu : u.size = n) (hn : A.size = n) (h1 : A.all (·.oneCell') = true)
    (h : ∀ w' : World, AgAt w' w.heap.size A → Below w.heap.size w w' → wpList Tryz.prog ops Q rest (a.put o.dst undef) w') : wpList Tryz.prog ops Q (o :: rest) a (w.alloc (.cells u T)) :=
  wpList_store_ag V hgd x y ho w.heap.size hx u ⟨T, heap_alloc_new w _⟩ hy hu hn h1 fun w' hv _ _ hb => h w' hv (hb _ _ ((Below.refl _ _).alloc (Nat.le_refl _) _) (Nat.le_refl _))
end

/-- a stamp's cells -/
theorem stA_one (a b : Int) : (#[Value.int .i64 a, .int .i64 b] : Array Value).all (·.oneCell') = true := all_oneCell_toArray (cs := [.int .i64 a, .int .i64 b]) (by
  intro v hv
  simp only [List.mem_cons, List.not_mem_nil, or_false] at hv
  rcases hv with rfl | rfl <;> rfl)
theorem stT : AgT 50 2 := ⟨⟨_, Tryz.underlying50⟩, by kernel_rfl⟩

/-- an op, where its Path lies -/
structure En where
  x : Opp
  q : Option Addr
  c : Nat
def enCells (l : List En) : List Value := l.flatMap fun e => opL e.x e.q e.c
def enOf (l : List En) (i : Nat) : En := l.getD i ⟨Opp.zero, none, 0⟩
theorem enCells_length (l : List En) : (enCells l).length = l.length * 12 := by
  induction l with
  | nil => rfl
  | cons a l ih => simp only [enCells, opL, List.flatMap_cons, List.length_append, List.length_cons, List.length_nil] at ih ⊢; omega
theorem enCells_append (l m : List En) : enCells (l ++ m) = enCells l ++ enCells m := by simp [enCells]
theorem enCells_sing (e : En) : enCells [e] = opL e.x e.q e.c := by simp [enCells]
theorem enCells_one : ∀ {l : List En}, ∀ u ∈ enCells l, u.oneCell' = true := by
  intro l u hu
  obtain ⟨x, _, hx⟩ := List.mem_flatMap.1 hu
  simp only [opL, List.mem_cons, List.not_mem_nil, or_false] at hx
  rcases hx with rfl | rfl | rfl | rfl | rfl | rfl | rfl | rfl | rfl | rfl | rfl | rfl <;> rfl
theorem opL_length (x : Opp) (q : Option Addr) (c : Nat) : (opL x q c).length = 12 := rfl
theorem enCells_get (l : List En) (i j : Nat) (h : i < l.length) (hj : j < 12) : (enCells l)[i * 12 + j]? = (opL (enOf l i).x (enOf l i).q (enOf l i).c)[j]? := by
  induction l generalizing i with
  | nil => simp at h
  | cons a l ih =>
    have e0 : enCells (a :: l) = opL a.x a.q a.c ++ enCells l := by simp [enCells]
    rw [e0]
    cases i with
    | zero =>
      rw [Nat.zero_mul, Nat.zero_add, List.getElem?_append_left (by rw [opL_length]; exact hj)]
      rfl
    | succ i =>
      rw [List.getElem?_append_right (by rw [opL_length]; omega), opL_length, show (i + 1) * 12 + j - 12 = i * 12 + j from by omega, ih i (by simpa using h)]
      rfl
theorem enOf_mem {l : List En} {i : Nat} (h : i < l.length) : enOf l i ∈ l := by
  have : enOf l i = l[i] := by simp [enOf, h]
  rw [this]; exact List.getElem_mem h
theorem enOf_x {l : List En} {ops : List Opp} (h : l.map (·.x) = ops) (i : Nat) : (enOf l i).x = opOf ops i := by
  subst h
  unfold enOf opOf
  rw [List.getD_eq_getElem?_getD, List.getD_eq_getElem?_getD, List.getElem?_map]
  cases l[i]? <;> rfl
/-- the cells of op i of a row -/
theorem Rd.en {w : World} {b o : Nat} {l : List En} (h : Rd w (some ⟨b, o, none⟩) (enCells l)) (i : Nat) (hi : i < l.length) : w.rangeAt b (o + i * 12) (opL (enOf l i).x (enOf l i).q (enOf l i).c) := by
  intro j v hv
  have hj : j < 12 := by have := (List.getElem?_eq_some_iff.1 hv).1; rw [opL_length] at this; exact this
  rw [Nat.add_assoc]
  exact h.cell (by rw [enCells_get l i j hi hj]; exact hv)
/-- a whole op out of a row of ops -/
theorem wpList_load_en {w : World} {t : TypeId} (V : OT t) {ops : Array Oper} {rest : List Oper} {o : Oper} {a : Act} {Q : Exit → Act → World → Prop} (hgd : o.guard = none) (y : Operand) (ho : o.op = .load t y)
    (b s i : Nat) (hx : a.eval y = .pointer (some ⟨b, s + i * 12, none⟩)) (l : List En) (hrd : Rd w (some ⟨b, s, none⟩) (enCells l)) (hi : i < l.length)
    (h : wpList Tryz.prog ops Q rest (a.put o.dst (.agg (opA (enOf l i).x (enOf l i).q (enOf l i).c))) w) : wpList Tryz.prog ops Q (o :: rest) a w := by
  obtain ⟨d, hu⟩ := V.und
  exact wpList_load_mid hgd t y ho b (s + i * 12) hx (opL (enOf l i).x (enOf l i).q (enOf l i).c) _ (hrd.en i hi) hu rfl V.size h
theorem exec_load_en {w : World} {t : TypeId} (V : OT t) {c : Act} {o : Oper} {x : Operand} (ho : o.op = .load t x) {b s i : Nat} (hx : c.eval x = .pointer (some ⟨b, s + i * 12, none⟩)) (l : List En) (hrd : Rd w (some ⟨b, s, none⟩) (enCells l)) (hi : i < l.length) :
    (execOp c.eval o).run Tryz.prog w = .ok (.value (.agg (opA (enOf l i).x (enOf l i).q (enOf l i).c))) w := by
  obtain ⟨d, hu⟩ := V.und
  unfold execOp
  simp only [ho, hx, Sem.run_bind, run_loadAt_mid w b (s + i * 12) t (opL (enOf l i).x (enOf l i).q (enOf l i).c) _ (hrd.en i hi) hu rfl V.size, Result.andThen_ok, Sem.run_pure]
  rfl

/-- a row of ops -/
structure Os (w : World) (p : Option Addr) (c : Nat) (l : List En) (ops : List Opp) : Prop where
  map : l.map (·.x) = ops
  rd : Rd w p (enCells l)
  pa : ∀ e, e ∈ l → Pa w e.x e.q e.c
  nil : p = none → c = 0
  cap : ops.length ≤ c
theorem Os.len {w : World} {p : Option Addr} {c : Nat} {l : List En} {ops : List Opp} (h : Os w p c l ops) : l.length = ops.length := by rw [← h.map, List.length_map]
theorem Os.kept {w w' : World} {p : Option Addr} {c : Nat} {l : List En} {ops : List Opp} (h : Os w p c l ops) (hb : Below w.heap.size w w') : Os w' p c l ops := ⟨h.map, h.rd.below hb, fun e he => (h.pa e he).kept hb, h.nil, h.cap⟩
theorem Os.x {w : World} {p : Option Addr} {c : Nat} {l : List En} {ops : List Opp} (h : Os w p c l ops) (i : Nat) : (enOf l i).x = opOf ops i := enOf_x h.map i
theorem Os.paOf {w : World} {p : Option Addr} {c : Nat} {l : List En} {ops : List Opp} (h : Os w p c l ops) {i : Nat} (hi : i < ops.length) : Pa w (opOf ops i) (enOf l i).q (enOf l i).c := by
  rw [← h.x i]
  exact h.pa _ (enOf_mem (by rw [h.len]; exact hi))
theorem Os.empty (w : World) : Os w none 0 [] [] := ⟨rfl, Rd.nil _ _, fun _ h => (by cases h), fun _ => rfl, Nat.le_refl _⟩

/-- a batch's cells -/
def btA (x : Bat) (p : Option Addr) (c : Nat) : Array Value := #[.int .i64 x.r, .int .i64 x.s, .int .i64 x.t, .slice p x.ops.length c]
theorem btA_size (x : Bat) (p : Option Addr) (c : Nat) : (btA x p c).size = 4 := rfl
theorem btA_one (x : Bat) (p : Option Addr) (c : Nat) : (btA x p c).all (·.oneCell') = true := all_oneCell_toArray (cs := [.int .i64 x.r, .int .i64 x.s, .int .i64 x.t, .slice p x.ops.length c]) (by
  intro v hv
  simp only [List.mem_cons, List.not_mem_nil, or_false] at hv
  rcases hv with rfl | rfl | rfl | rfl <;> rfl)
abbrev BtAt (w : World) (b : Nat) (x : Bat) (p : Option Addr) (c : Nat) : Prop := AgAt w b (btA x p c)
theorem BtAt.cells {w : World} {b : Nat} {x : Bat} {p : Option Addr} {c : Nat} (h : BtAt w b x p c) :
    w.cell? ⟨b, 0, none⟩ = some (.int .i64 x.r) ∧ w.cell? ⟨b, 1, none⟩ = some (.int .i64 x.s) ∧ w.cell? ⟨b, 2, none⟩ = some (.int .i64 x.t) ∧ w.cell? ⟨b, 3, none⟩ = some (.slice p x.ops.length c) :=
  ⟨by rw [AgAt.cell h 0]; rfl, by rw [AgAt.cell h 1]; rfl, by rw [AgAt.cell h 2]; rfl, by rw [AgAt.cell h 3]; rfl⟩
theorem btP : AgT 39 4 := ⟨⟨_, Tryz.underlying39⟩, by kernel_rfl⟩
theorem btR : AgT 43 4 := ⟨⟨_, Tryz.underlying43⟩, by kernel_rfl⟩
/-- a batch's ops -/
def Bops (w : World) (x : Bat) (p : Option Addr) (c : Nat) : Prop := ∃ l, Os w p c l x.ops
theorem Bops.kept {w w' : World} {x : Bat} {p : Option Addr} {c : Nat} (h : Bops w x p c) (hb : Below w.heap.size w w') : Bops w' x p c := by
  obtain ⟨l, h⟩ := h
  exact ⟨l, h.kept hb⟩
theorem Bops.zero (w : World) : Bops w Bat.zero none 0 := ⟨[], Os.empty w⟩
/-- ops of bearable size -/
structure Szs (l : List Opp) : Prop where
  each : ∀ x, x ∈ l → Sz x
  len : l.length ≤ 10000
theorem Szs.of {l : List Opp} (h : Szs l) {i : Nat} (hi : i < l.length) : Sz (opOf l i) := h.each _ (opOf_mem hi)
end Go.Proofs.YtaplemkmkbjodaaGreat

namespace Go.Proofs.YtaplemkmkbjodaaGreat
open Go.RowKit

/-- an op into a new block -/
theorem wpList_store_newop' {t : TypeId} (V : OT t) {ops : Array Oper} {rest : List Oper} {o : Oper} {a : Act} {w : World} {T : TypeId} {Q : Exit → Act → World → Prop} (hgd : o.guard = none) (x y : Operand) (ho : o.op = .store t x y)
    (hx : a.eval x = .pointer (some ⟨w.heap.size, 0, none⟩)) (A : Array Value) (hA : A.size = 12) (v : Opp) (q : Option Addr) (c : Nat) (hy : a.eval y = .agg (opA v q c))
    (h : ∀ w' : World, OpAt w' w.heap.size v q c → Below w.heap.size w w' → wpList Tryz.prog ops Q rest (a.put o.dst undef) w') : wpList Tryz.prog ops Q (o :: rest) a (w.alloc (.cells A T)) :=
  wpList_store_op V hgd x y ho w.heap.size hx T A (heap_alloc_new w _) hA v q c hy fun w' hv _ _ hb => h w' hv (hb _ _ ((Below.refl _ _).alloc (Nat.le_refl _) _) (Nat.le_refl _))

set_option maxRecDepth 100000 in
set_option maxHeartbeats 2000000 in
theorem allRight_any (p : Option Addr) (c : Nat) (l : List En) (ops : List Opp) (w : World) (hs : Szs ops) (h : Os w p c l ops) :
    Calls Tryz.prog 64 #[.slice p ops.length c] w fun e w' => e = .returned (.bool (ops.all rightO)) ∧ Below w.heap.size w w' := by
  have HOS := Lib.hid h
  have HSZ := Lib.hid hs
  have hlen := hs.len
  rcases Nat.eq_zero_or_pos ops.length with h0 | h0
  · have HR := Lib.hid (show ops.all rightO = true by rw [List.eq_nil_of_length_eq_zero h0]; rfl)
    clear h hs
    generalize ops.length = n at *
    subst h0
    go_enter Tryz.func64, Tryz.ntmps64
    go_wp2
    go_loop [7] (fun i => i = .int .i64 0) (fun _ => 0)
    case atStart => rfl
    case round =>
      subst hrel
      go_wp2
      go_ret
      exact ⟨ret_b HR.out.symm, Below.refl _ _⟩
  · obtain ⟨b, o, rfl, hb⟩ := h.rd.addr (by rw [enCells_length, h.len]; omega)
    clear h hs
    go_enter Tryz.func64, Tryz.ntmps64
    go_wp2
    go_loopw [7] (fun i wr => ∃ k : Nat, k ≤ ops.length ∧ i = .int .i64 (k : Int) ∧ (∀ j, j < k → rightO (opOf ops j) = true) ∧ Below w.heap.size w wr) (fun i _ => ops.length - (intOf i).toNat)
    case atStart => exact ⟨0, Nat.zero_le _, rfl, fun j hj => absurd hj (Nat.not_lt_zero _), Below.refl _ _⟩
    case round =>
      obtain ⟨k, hk, rfl, ho, hbw⟩ := hrel
      have HO := Lib.hid ho
      have HBW := Lib.hid hbw
      clear ho hbw
      by_cases hlt : k < ops.length
      · have HRD := Lib.hid (HOS.out.kept HBW.out)
        have HX := Lib.hid (HOS.out.x k)
        have HPA := Lib.hid (HRD.out.paOf hlt)
        have HN := Lib.hid (fun (W : World) (hp : Pa W (opOf ops k) (enOf l k).q (enOf l k).c) => oright_any (opOf ops k) (enOf l k).q (enOf l k).c W (HSZ.out.of hlt) hp)
        have HNO := Lib.hid (fun h => all_no (l := ops) (f := rightO) hlt h)
        have HST := Lib.hid (show rightO (opOf ops k) = true → ∀ j, j < k + 1 → rightO (opOf ops j) = true from fun he j hj => by
          rcases Nat.lt_or_ge j k with e | e
          · exact HO.out j e
          · obtain rfl : j = k := by omega
            exact he)
        have hll := HRD.out.len
        go_wp2_with (first | (refine wpList_load_en otP rfl _ rfl _ _ _ rfl _ HRD.out.rd (by omega) ?_; rw [HX.out]) | (refine wpList_store_newop' otP rfl _ _ rfl rfl _ rfl _ _ _ rfl ?_; intro wz hvz hbz) | (refine wpList_load_op otP rfl _ rfl _ rfl _ _ _ (by assumption) ?_))
        refine (HN.out _ (HPA.out.kept hbz)).mono ?_
        have HB3 := Lib.hid (fun w1 (hb1 : Below wz.heap.size wz w1) => (HBW.out.trans (hbz.mono HBW.out.size)).trans (hb1.mono (Nat.le_trans HBW.out.size hbz.size)))
        clear hvz hbz
        cases hr : rightO (opOf ops k) with
        | false =>
          have HR := Lib.hid (HNO.out hr)
          rintro e w1 ⟨rfl, hb1⟩
          have HB4 := Lib.hid (HB3.out _ hb1)
          clear hb1
          go_wp2
          go_ret
          exact ⟨ret_b HR.out.symm, HB4.out⟩
        | true =>
          have HR := Lib.hid (HST.out hr)
          rintro e w1 ⟨rfl, hb1⟩
          have HB4 := Lib.hid (HB3.out _ hb1)
          clear hb1
          go_wp2
          go_roundw
          case rel => exact ⟨k + 1, by omega, by go_num, HR.out, HB4.out⟩
          case measure => simp [intOf]; omega
      · obtain rfl : k = ops.length := by omega
        have HR := Lib.hid (all_yes (l := ops) (f := rightO) HO.out)
        go_wp2
        go_ret
        exact ⟨ret_b HR.out.symm, HBW.out⟩

set_option maxRecDepth 100000 in
set_option maxHeartbeats 4000000 in
theorem bright_any (x : Bat) (p : Option Addr) (c : Nat) (w : World) (hs : Szs x.ops) (h : Bops w x p c) : Calls Tryz.prog 30 #[.agg (btA x p c)] w fun e w' => e = .returned (.bool (rightT x)) ∧ Below w.heap.size w w' := by
  obtain ⟨l, h⟩ := h
  have HX := Lib.hid (AgAt.new w (btA x p c) 39)
  have HB := Lib.hid ((Below.refl w.heap.size w).alloc (Nat.le_refl _) (.cells (btA x p c) 39))
  have HOS := Lib.hid (h.kept ((Below.refl w.heap.size w).alloc (Nat.le_refl _) (.cells (btA x p c) 39)))
  have HA := Lib.hid (fun W (hw : Os W p c l x.ops) => allRight_any p c l x.ops W hs hw)
  have hlen := hs.len
  obtain ⟨x0, x1, x2, x3⟩ := BtAt.cells HX.out
  have HHN := Lib.hid (fun hn => headT_no (x := x) hn)
  have HHY := Lib.hid (fun hn => headT_yes (x := x) hn)
  have HRH := Lib.hid (fun hn => rightT_head (x := x) hn)
  have HRN := Lib.hid (fun hn => rightT_nohead (x := x) hn)
  clear h hs
  by_cases h0 : 0 ≤ x.r
  rotate_left
  · have d0 : decide ((0 : Int) ≤ x.r) = false := decide_eq_false (by omega)
    have HR := Lib.hid (HRN.out (HHN.out (by omega)))
    generalize x.ops.length = n at *
    go_enter Tryz.func30, Tryz.ntmps30
    go_wp2
    go_ret
    exact ⟨ret_b HR.out.symm, HB.out⟩
  have d0 : decide ((0 : Int) ≤ x.r) = true := decide_eq_true (by omega)
  by_cases h1 : x.r ≤ 15
  rotate_left
  · have d1 : decide (x.r ≤ 15) = false := decide_eq_false (by omega)
    have HR := Lib.hid (HRN.out (HHN.out (by omega)))
    generalize x.ops.length = n at *
    go_enter Tryz.func30, Tryz.ntmps30
    go_wp2
    go_ret
    exact ⟨ret_b HR.out.symm, HB.out⟩
  have d1 : decide (x.r ≤ 15) = true := decide_eq_true (by omega)
  by_cases h2 : 1 ≤ x.s
  rotate_left
  · have d2 : decide ((1 : Int) ≤ x.s) = false := decide_eq_false (by omega)
    have HR := Lib.hid (HRN.out (HHN.out (by omega)))
    generalize x.ops.length = n at *
    go_enter Tryz.func30, Tryz.ntmps30
    go_wp2
    go_ret
    exact ⟨ret_b HR.out.symm, HB.out⟩
  have d2 : decide ((1 : Int) ≤ x.s) = true := decide_eq_true (by omega)
  by_cases h3 : x.s ≤ 512
  rotate_left
  · have d3 : decide (x.s ≤ 512) = false := decide_eq_false (by omega)
    have HR := Lib.hid (HRN.out (HHN.out (by omega)))
    generalize x.ops.length = n at *
    go_enter Tryz.func30, Tryz.ntmps30
    go_wp2
    go_ret
    exact ⟨ret_b HR.out.symm, HB.out⟩
  have d3 : decide (x.s ≤ 512) = true := decide_eq_true (by omega)
  by_cases h4 : 1 ≤ x.ops.length
  rotate_left
  · have d4 : decide ((1 : Int) ≤ (x.ops.length : Int)) = false := decide_eq_false (by omega)
    have HR := Lib.hid (HRN.out (HHN.out (by omega)))
    generalize x.ops.length = n at *
    go_enter Tryz.func30, Tryz.ntmps30
    go_wp2
    go_ret
    exact ⟨ret_b HR.out.symm, HB.out⟩
  have d4 : decide ((1 : Int) ≤ (x.ops.length : Int)) = true := decide_eq_true (by omega)
  by_cases h5 : x.ops.length ≤ 64
  rotate_left
  · have d5 : decide ((x.ops.length : Int) ≤ 64) = false := decide_eq_false (by omega)
    have HR := Lib.hid (HRN.out (HHN.out (by omega)))
    generalize x.ops.length = n at *
    go_enter Tryz.func30, Tryz.ntmps30
    go_wp2
    go_ret
    exact ⟨ret_b HR.out.symm, HB.out⟩
  have d5 : decide ((x.ops.length : Int) ≤ 64) = true := decide_eq_true (by omega)
  by_cases h6 : 1 ≤ x.t
  rotate_left
  · have d6 : decide ((1 : Int) ≤ x.t) = false := decide_eq_false (by omega)
    have HR := Lib.hid (HRN.out (HHN.out (by omega)))
    generalize x.ops.length = n at *
    go_enter Tryz.func30, Tryz.ntmps30
    go_wp2
    go_ret
    exact ⟨ret_b HR.out.symm, HB.out⟩
  have d6 : decide ((1 : Int) ≤ x.t) = true := decide_eq_true (by omega)
  by_cases h7 : x.t ≤ 1099511627776 - ((x.ops.length : Int) - 1)
  rotate_left
  · have d7 : decide (x.t ≤ 1099511627776 - ((x.ops.length : Int) - 1)) = false := decide_eq_false (by omega)
    have HR := Lib.hid (HRN.out (HHN.out (by omega)))
    generalize x.ops.length = n at *
    go_enter Tryz.func30, Tryz.ntmps30
    go_wp2
    go_ret
    exact ⟨ret_b HR.out.symm, HB.out⟩
  have d7 : decide (x.t ≤ 1099511627776 - ((x.ops.length : Int) - 1)) = true := decide_eq_true (by omega)
  have HR := Lib.hid (HRH.out (HHY.out (by omega)))
  go_enter Tryz.func30, Tryz.ntmps30
  go_wp2_with fail
  refine (HA.out _ HOS.out).mono ?_
  rintro e w1 ⟨rfl, hb1⟩
  have HB2 := Lib.hid (HB.out.trans (hb1.mono HB.out.size))
  clear hb1
  go_wp2
  go_ret
  exact ⟨ret_b HR.out.symm, HB2.out⟩
end Go.Proofs.YtaplemkmkbjodaaGreat

namespace Go.Proofs.YtaplemkmkbjodaaGreat
open Go.RowKit

theorem two_bt (w : World) (x y : Bat) (p q : Option Addr) (c d : Nat) (T : TypeId) :
    Hid (BtAt ((w.alloc (.cells (btA x p c) T)).alloc (.cells (btA y q d) T)) w.heap.size x p c) ∧ Hid (BtAt ((w.alloc (.cells (btA x p c) T)).alloc (.cells (btA y q d) T)) (w.heap.size + 1) y q d) ∧ Hid (Below w.heap.size w ((w.alloc (.cells (btA x p c) T)).alloc (.cells (btA y q d) T))) := by
  have h1 : ∀ (w : World) (o : Obj), Below w.heap.size w (w.alloc o) := fun w o => (Below.refl _ _).alloc (Nat.le_refl _) _
  have e1 : (w.alloc (.cells (btA x p c) T)).heap.size = w.heap.size + 1 := by simp
  have k := AgAt.new (w.alloc (.cells (btA x p c) T)) (btA y q d) T
  rw [e1] at k
  exact ⟨Lib.hid ((AgAt.new w _ _).kept (h1 _ _)), Lib.hid k, Lib.hid ((h1 _ _).trans ((h1 _ _).mono (by simp)))⟩

end Go.Proofs.YtaplemkmkbjodaaGreat

namespace Go.Proofs.YtaplemkmkbjodaaGreat
open Go.RowKit

theorem stampT_no {x : Bat} {i : Int} (h : ¬ (0 ≤ i ∧ i < (x.ops.length : Int) ∧ rightT x = true)) : stampT x i = (0, 0) := by unfold stampT; rw [if_neg h]
theorem stampT_yes {x : Bat} {i : Int} (h : 0 ≤ i ∧ i < (x.ops.length : Int) ∧ rightT x = true) : stampT x i = (x.t + i, x.r) := by unfold stampT; rw [if_pos h]
theorem ret_st {a b : Int} {s : Qm.St} (h : s = (a, b)) : Ending.returned (.agg #[.int .i64 a, .int .i64 b]) = .returned (.agg #[.int .i64 s.1, .int .i64 s.2]) := by rw [h]

set_option maxRecDepth 100000 in
set_option maxHeartbeats 4000000 in
theorem bstamp_any (x : Bat) (p : Option Addr) (c : Nat) (i : Int) (w : World) (hs : Szs x.ops) (h : Bops w x p c) (hi : -9223372036854775808 ≤ i ∧ i ≤ 9223372036854775807) :
    Calls Tryz.prog 80 #[.agg (btA x p c), .int .i64 i] w fun e w' => e = .returned (.agg #[.int .i64 (stampT x i).1, .int .i64 (stampT x i).2]) ∧ Below w.heap.size w w' := by
  have hlen := hs.len
  have h1 : ∀ (w : World) (o : Obj), Below w.heap.size w (w.alloc o) := fun w o => (Below.refl _ _).alloc (Nat.le_refl _) _
  have HX := Lib.hid (show BtAt ((w.alloc (.cells (btA x p c) 39)).alloc (.cells #[.int .i64 0, .int .i64 0] 50)) w.heap.size x p c from (AgAt.new w (btA x p c) 39).kept (h1 _ _))
  have HB := Lib.hid (show Below w.heap.size w ((w.alloc (.cells (btA x p c) 39)).alloc (.cells #[.int .i64 0, .int .i64 0] 50)) from (h1 _ _).trans ((h1 _ _).mono (by simp)))
  have HRI := Lib.hid (fun W (hw : Below w.heap.size w W) => bright_any x p c W hs (h.kept hw))
  have HNO := Lib.hid (fun hh => stampT_no (x := x) (i := i) hh)
  have HYE := Lib.hid (fun hh => stampT_yes (x := x) (i := i) hh)
  obtain ⟨x0, x1, x2, x3⟩ := BtAt.cells HX.out
  have hx := HX.out
  clear h hs h1
  by_cases g1 : i < 0
  · have d1 : decide (i < 0) = true := decide_eq_true g1
    have HR := Lib.hid (HNO.out (by omega))
    go_enter Tryz.func80, Tryz.ntmps80
    go_wp2
    refine bodyPost_ret (v := .agg #[.int .i64 0, .int .i64 0]) (by simp [results, Tryz.results80, go_sem]) rfl ?_
    rw [HR.out]
    exact ⟨rfl, HB.out⟩
  have d1 : decide (i < 0) = false := decide_eq_false g1
  by_cases g2 : (x.ops.length : Int) ≤ i
  · have d2 : decide ((x.ops.length : Int) ≤ i) = true := decide_eq_true g2
    have HR := Lib.hid (HNO.out (by omega))
    generalize x.ops.length = n at *
    go_enter Tryz.func80, Tryz.ntmps80
    go_wp2
    refine bodyPost_ret (v := .agg #[.int .i64 0, .int .i64 0]) (by simp [results, Tryz.results80, go_sem]) rfl ?_
    rw [HR.out]
    exact ⟨rfl, HB.out⟩
  have d2 : decide ((x.ops.length : Int) ≤ i) = false := decide_eq_false g2
  cases hr : rightT x with
  | false =>
    have HR := Lib.hid (HNO.out (by rw [hr]; simp))
    rw [hr] at HRI
    generalize x.ops.length = n at *
    go_enter Tryz.func80, Tryz.ntmps80
    go_wp2_with (refine wpList_load_ag btP (by kernel_rfl) _ rfl _ rfl (A := btA x p c) rfl (by assumption) ?_)
    refine (HRI.out _ HB.out).mono ?_
    rintro e w1 ⟨rfl, hb1⟩
    have HB2 := Lib.hid (HB.out.trans (hb1.mono HB.out.size))
    have HZ := Lib.hid (show AgAt w1 (w.heap.size + 1) #[.int .i64 0, .int .i64 0] from AgAt.kept (by have := AgAt.new (w.alloc (.cells (btA x p c) 39)) #[.int .i64 0, .int .i64 0] 50; simpa using this) hb1)
    clear hb1
    go_wp2_with (refine wpList_store_ag stT rfl _ _ rfl _ rfl _ HZ.out rfl rfl rfl (stA_one _ _) ?_; intro wz hvz hko hsz hbn)
    refine bodyPost_ret (results_ag stT _ rfl rfl hvz rfl) rfl ?_
    rw [HR.out]
    exact ⟨rfl, hbn _ _ HB2.out (Nat.le_succ _)⟩
  | true =>
    have HR := Lib.hid (HYE.out ⟨by omega, by omega, hr⟩)
    have HF := Lib.hid (rightT_iff.1 hr)
    rw [hr] at HRI
    generalize x.ops.length = n at *
    go_enter Tryz.func80, Tryz.ntmps80
    go_wp2_with (refine wpList_load_ag btP (by kernel_rfl) _ rfl _ rfl (A := btA x p c) rfl (by assumption) ?_)
    refine (HRI.out _ HB.out).mono ?_
    rintro e w1 ⟨rfl, hb1⟩
    have HB2 := Lib.hid (HB.out.trans (hb1.mono HB.out.size))
    have hwr : IntKind.i64.wrap (x.t + i) = x.t + i := by rw [IntKind.wrap_i64]; have := HF.out.2.2.2.1; have := HF.out.2.2.1; omega
    obtain ⟨x0, x1, x2, x3⟩ := BtAt.cells (AgAt.kept HX.out hb1)
    have HZ := Lib.hid (show AgAt w1 (w.heap.size + 1) #[.int .i64 0, .int .i64 0] from AgAt.kept (by have := AgAt.new (w.alloc (.cells (btA x p c) 39)) #[.int .i64 0, .int .i64 0] 50; simpa using this) hb1)
    clear hb1
    go_wp2_with (refine wpList_store_ag stT rfl _ _ rfl _ rfl _ HZ.out rfl rfl rfl (stA_one _ _) ?_; intro wz hvz hko hsz hbn)
    refine bodyPost_ret (results_ag stT _ rfl rfl hvz rfl) rfl ?_
    rw [HR.out]
    exact ⟨rfl, hbn _ _ HB2.out (Nat.le_succ _)⟩

set_option maxRecDepth 100000 in
set_option maxHeartbeats 4000000 in
theorem bend_any (x : Bat) (p : Option Addr) (c : Nat) (w : World) (hs : Szs x.ops) (h : Bops w x p c) :
    Calls Tryz.prog 77 #[.agg (btA x p c)] w fun e w' => e = .returned (.agg #[.int .i64 (endT x).1, .int .i64 (endT x).2]) ∧ Below w.heap.size w w' := by
  have hlen := hs.len
  have h1 : ∀ (w : World) (o : Obj), Below w.heap.size w (w.alloc o) := fun w o => (Below.refl _ _).alloc (Nat.le_refl _) _
  have HX := Lib.hid (show BtAt ((w.alloc (.cells (btA x p c) 39)).alloc (.cells #[.int .i64 0, .int .i64 0] 50)) w.heap.size x p c from (AgAt.new w (btA x p c) 39).kept (h1 _ _))
  have HB := Lib.hid (show Below w.heap.size w ((w.alloc (.cells (btA x p c) 39)).alloc (.cells #[.int .i64 0, .int .i64 0] 50)) from (h1 _ _).trans ((h1 _ _).mono (by simp)))
  have HZ0 := Lib.hid (show AgAt ((w.alloc (.cells (btA x p c) 39)).alloc (.cells #[.int .i64 0, .int .i64 0] 50)) (w.heap.size + 1) #[.int .i64 0, .int .i64 0] from by
    have := AgAt.new (w.alloc (.cells (btA x p c) 39)) #[.int .i64 0, .int .i64 0] 50
    simpa using this)
  have HST := Lib.hid (fun W (hw : Below w.heap.size w W) => bstamp_any x p c ((x.ops.length : Int) - 1) W hs (h.kept hw) (by omega))
  have hwr : IntKind.i64.wrap ((x.ops.length : Int) - 1) = (x.ops.length : Int) - 1 := by rw [IntKind.wrap_i64]; omega
  have HE := Lib.hid (show endT x = stampT x ((x.ops.length : Int) - 1) from rfl)
  obtain ⟨x0, x1, x2, x3⟩ := BtAt.cells HX.out
  have hx := HX.out
  clear h hs h1
  go_enter Tryz.func77, Tryz.ntmps77
  go_wp2_with (refine wpList_load_ag btP (by kernel_rfl) _ rfl _ rfl (A := btA x p c) rfl (by assumption) ?_)
  refine (HST.out _ HB.out).mono ?_
  rintro e w1 ⟨rfl, hb1⟩
  have HB2 := Lib.hid (HB.out.trans (hb1.mono HB.out.size))
  have HZ := Lib.hid (HZ0.out.kept hb1)
  clear hb1
  go_wp2_with (refine wpList_store_ag stT rfl _ _ rfl _ rfl _ HZ.out rfl rfl rfl (stA_one _ _) ?_; intro wz hvz hko hsz hbn)
  refine bodyPost_ret (results_ag stT _ rfl rfl hvz rfl) rfl ?_
  rw [HE.out]
  exact ⟨rfl, hbn _ _ HB2.out (Nat.le_succ _)⟩
end Go.Proofs.YtaplemkmkbjodaaGreat
