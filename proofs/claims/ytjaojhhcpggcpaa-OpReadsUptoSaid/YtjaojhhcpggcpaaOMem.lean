/-
  OPS IN MEMORY: twelve cells in a block of their own; loads, stores and answers of whole ops; what a function's type tables say.
  No conditions.
-/
import Derived.Test.YtjaojhhcpggcpaaOMath
import Derived.Test.YtjaojhhcpggcpaaQMem
import Derived.Deep.MidRow
import Derived.Deep.RegionHeld
import Derived.Laws.Tables
namespace Go.Proofs.Ytjaojhhcpggcpaa
open Go.RowKit

def opL (x : Opp) (q : Option Addr) (c : Nat) : List Value := [.int .i64 x.k, .int .i64 x.nt, .int .i64 x.nr, .int .i64 x.rt, .int .i64 x.rr, .string x.key, .slice q x.path.length c, .int .i64 x.p, .int .i64 x.vk, .int .i64 x.vn, .string x.vt, .bool x.on]
/-- an op's cells, its Path at q -/
def opA (x : Opp) (q : Option Addr) (c : Nat) : Array Value := (opL x q c).toArray
theorem opA_size (x : Opp) (q : Option Addr) (c : Nat) : (opA x q c).size = 12 := rfl
theorem opA_one (x : Opp) (q : Option Addr) (c : Nat) : (opA x q c).all (·.oneCell') = true := all_oneCell_toArray (by
  intro v hv
  simp only [opL, List.mem_cons, List.not_mem_nil, or_false] at hv
  rcases hv with rfl | rfl | rfl | rfl | rfl | rfl | rfl | rfl | rfl | rfl | rfl | rfl <;> rfl)
/-- an op lies in block b, which is a row of its own -/
def OpAt (w : World) (b : Nat) (x : Opp) (q : Option Addr) (c : Nat) : Prop := ∃ T, w.heap[b]? = some (.cells (opA x q c) T (0, 0))
/-- the Path -/
structure Pa (w : World) (x : Opp) (q : Option Addr) (c : Nat) : Prop where
  rd : Rd w q (stCells x.path)
  nil : q = none → c = 0
  cap : x.path.length ≤ c
theorem Pa.kept {w w' : World} {x : Opp} {q : Option Addr} {c : Nat} (h : Pa w x q c) (hb : Below w.heap.size w w') : Pa w' x q c := ⟨h.rd.below hb, h.nil, h.cap⟩
theorem Pa.none (w : World) (x : Opp) (h : x.path = []) : Pa w x none 0 := ⟨by rw [h]; exact Rd.nil _ _, fun _ => rfl, by rw [h]; exact Nat.le_refl _⟩
theorem OpAt.cell {w : World} {b : Nat} {x : Opp} {q : Option Addr} {c : Nat} (h : OpAt w b x q c) (i : Nat) : w.cell? ⟨b, i, none⟩ = (opL x q c)[i]? := by
  obtain ⟨T, h⟩ := h
  rw [cell_of_row w b i _ T (0, 0) h]
  simp [opA]
theorem OpAt.free {w : World} {b : Nat} {x : Opp} {q : Option Addr} {c : Nat} (h : OpAt w b x q c) (i : Nat) : w.frozen? ⟨b, i, none⟩ = false := by
  obtain ⟨T, h⟩ := h
  exact frozen_of_row w b i _ T h
theorem OpAt.lt {w : World} {b : Nat} {x : Opp} {q : Option Addr} {c : Nat} (h : OpAt w b x q c) : b < w.heap.size := by
  obtain ⟨T, h⟩ := h
  exact (Array.getElem?_eq_some_iff.1 h).1
theorem OpAt.block {w w' : World} {b : Nat} {x : Opp} {q : Option Addr} {c : Nat} (h : OpAt w b x q c) (e : w'.heap[b]? = w.heap[b]?) : OpAt w' b x q c := by
  obtain ⟨T, h⟩ := h
  exact ⟨T, e.trans h⟩
theorem OpAt.below {w w' : World} {b : Nat} {x : Opp} {q : Option Addr} {c : Nat} (h : OpAt w b x q c) {B : Nat} (hb : Below B w w') (hB : b < B) : OpAt w' b x q c := h.block (hb.block b hB)
theorem OpAt.kept {w w' : World} {b : Nat} {x : Opp} {q : Option Addr} {c : Nat} (h : OpAt w b x q c) (hb : Below w.heap.size w w') : OpAt w' b x q c := h.below hb h.lt
theorem OpAt.only {w w' : World} {b k : Nat} {x : Opp} {q : Option Addr} {c : Nat} (h : OpAt w b x q c) (ho : Only k w w') (hne : b ≠ k) : OpAt w' b x q c := h.block (ho.block b h.lt (by simpa using hne))
theorem OpAt.new (w : World) (x : Opp) (q : Option Addr) (c : Nat) (T : TypeId) : OpAt (w.alloc (.cells (opA x q c) T)) w.heap.size x q c := ⟨T, heap_alloc_new w _⟩
theorem OpAt.cells {w : World} {b : Nat} {x : Opp} {q : Option Addr} {c : Nat} (h : OpAt w b x q c) :
    w.cell? ⟨b, 0, none⟩ = some (.int .i64 x.k) ∧ w.cell? ⟨b, 1, none⟩ = some (.int .i64 x.nt) ∧ w.cell? ⟨b, 2, none⟩ = some (.int .i64 x.nr) ∧ w.cell? ⟨b, 3, none⟩ = some (.int .i64 x.rt) ∧ w.cell? ⟨b, 4, none⟩ = some (.int .i64 x.rr) ∧
    w.cell? ⟨b, 5, none⟩ = some (.string x.key) ∧ w.cell? ⟨b, 6, none⟩ = some (.slice q x.path.length c) ∧ w.cell? ⟨b, 7, none⟩ = some (.int .i64 x.p) ∧ w.cell? ⟨b, 8, none⟩ = some (.int .i64 x.vk) ∧ w.cell? ⟨b, 9, none⟩ = some (.int .i64 x.vn) ∧
    w.cell? ⟨b, 10, none⟩ = some (.string x.vt) ∧ w.cell? ⟨b, 11, none⟩ = some (.bool x.on) :=
  ⟨h.cell 0, h.cell 1, h.cell 2, h.cell 3, h.cell 4, h.cell 5, h.cell 6, h.cell 7, h.cell 8, h.cell 9, h.cell 10, h.cell 11⟩
theorem OpAt.setOther {w : World} {b k : Nat} {x : Opp} {q : Option Addr} {c : Nat} (h : OpAt w b x q c) (hne : b ≠ k) (i : Nat) (v : Value) : OpAt (w.setCell ⟨k, i, none⟩ v) b x q c :=
  h.block (heap_setCell_other w ⟨k, i, none⟩ b v hne)
/-- a part is written -/
theorem OpAt.put {w : World} {b : Nat} {x : Opp} {q : Option Addr} {c : Nat} (h : OpAt w b x q c) (i : Nat) (v : Value) (y : Opp) (q' : Option Addr) (c' : Nat) (e : (opA x q c).setIfInBounds i v = opA y q' c') : OpAt (w.setCell ⟨b, i, none⟩ v) b y q' c' := by
  obtain ⟨T, h⟩ := h
  exact ⟨T, by rw [Go.Joins.block_setCell h, e]⟩
theorem OpAt.setN {w : World} {b : Nat} {x : Opp} {q : Option Addr} {c : Nat} (h : OpAt w b x q c) (t r : Int) : OpAt ((w.setCell ⟨b, 1, none⟩ (.int .i64 t)).setCell ⟨b, 2, none⟩ (.int .i64 r)) b { x with nt := t, nr := r } q c :=
  (h.put 1 _ { x with nt := t } q c rfl).put 2 _ _ q c rfl
theorem OpAt.setR {w : World} {b : Nat} {x : Opp} {q : Option Addr} {c : Nat} (h : OpAt w b x q c) (t r : Int) : OpAt ((w.setCell ⟨b, 3, none⟩ (.int .i64 t)).setCell ⟨b, 4, none⟩ (.int .i64 r)) b { x with rt := t, rr := r } q c :=
  (h.put 3 _ { x with rt := t } q c rfl).put 4 _ _ q c rfl
theorem OpAt.setKey {w : World} {b : Nat} {x : Opp} {q : Option Addr} {c : Nat} (h : OpAt w b x q c) (s : ByteArray) : OpAt (w.setCell ⟨b, 5, none⟩ (.string s)) b { x with key := s } q c := h.put 5 _ _ q c rfl
theorem OpAt.setPath {w : World} {b : Nat} {x : Opp} {q : Option Addr} {c : Nat} (h : OpAt w b x q c) (l : List Qm.St) (q' : Option Addr) (c' : Nat) : OpAt (w.setCell ⟨b, 6, none⟩ (.slice q' l.length c')) b { x with path := l } q' c' := h.put 6 _ _ q' c' rfl
theorem OpAt.setP {w : World} {b : Nat} {x : Opp} {q : Option Addr} {c : Nat} (h : OpAt w b x q c) (t : Int) : OpAt (w.setCell ⟨b, 7, none⟩ (.int .i64 t)) b { x with p := t } q c := h.put 7 _ _ q c rfl
theorem OpAt.setV {w : World} {b : Nat} {x : Opp} {q : Option Addr} {c : Nat} (h : OpAt w b x q c) (k n : Int) (t : ByteArray) : OpAt (((w.setCell ⟨b, 8, none⟩ (.int .i64 k)).setCell ⟨b, 9, none⟩ (.int .i64 n)).setCell ⟨b, 10, none⟩ (.string t)) b { x with vk := k, vn := n, vt := t } q c :=
  ((h.put 8 _ { x with vk := k } q c rfl).put 9 _ { x with vk := k, vn := n } q c rfl).put 10 _ _ q c rfl
theorem OpAt.setOn {w : World} {b : Nat} {x : Opp} {q : Option Addr} {c : Nat} (h : OpAt w b x q c) (v : Bool) : OpAt (w.setCell ⟨b, 11, none⟩ (.bool v)) b { x with on := v } q c := h.put 11 _ _ q c rfl

/-- what the type tables say of a type of ops -/
structure OT (t : TypeId) : Prop where
  und : ∃ d, Try.prog.underlying t = some (.struct d)
  size : (Try.prog.info? t).map (·.size) = some 12
theorem otP : OT 35 := ⟨⟨_, Try.underlying35⟩, by kernel_rfl⟩
theorem otR : OT 28 := ⟨⟨_, Try.underlying28⟩, by kernel_rfl⟩
theorem OT.load {t : TypeId} (h : OT t) {w : World} {b : Nat} {x : Opp} {q : Option Addr} {c : Nat} (hv : OpAt w b x q c) : (Instr.loadAt t (.pointer (some ⟨b, 0, none⟩))).run Try.prog w = .ok (.agg (opA x q c)) w := by
  obtain ⟨T, hv⟩ := hv
  obtain ⟨d, hu⟩ := h.und
  simp only [Instr.loadAt, Instr.sureAddr, Sem.run_bind, Sem.run_pure, Result.andThen_ok]
  exact run_loadVar_row w b T t _ (0, 0) _ hv hu rfl (by rw [opA_size]; exact h.size)
/-- a whole op out of its block -/
theorem wpList_load_op {t : TypeId} (V : OT t) {ops : Array Oper} {rest : List Oper} {o : Oper} {a : Act} {w : World} {Q : Exit → Act → World → Prop} (hgd : o.guard = none) (y : Operand) (ho : o.op = .load t y)
    (b : Nat) (hx : a.eval y = .pointer (some ⟨b, 0, none⟩)) (x : Opp) (q : Option Addr) (c : Nat) (hv : OpAt w b x q c)
    (h : wpList Try.prog ops Q rest (a.put o.dst (.agg (opA x q c))) w) : wpList Try.prog ops Q (o :: rest) a w := by
  obtain ⟨T, hv⟩ := hv
  obtain ⟨d, hu⟩ := V.und
  exact wpList_load_row hgd t y ho b hx T _ (0, 0) _ hv hu rfl (by rw [opA_size]; exact V.size) h
/-- the same at an operation with a guard -/
theorem wpList_load_opG {t : TypeId} (V : OT t) {ops : Array Oper} {rest : List Oper} {o : Oper} {a : Act} {w : World} {Q : Exit → Act → World → Prop} (hgd : Region.wanted o (yielded ops a.tmps) = true) (y : Operand) (ho : o.op = .load t y)
    (b : Nat) (hx : a.eval y = .pointer (some ⟨b, 0, none⟩)) (x : Opp) (q : Option Addr) (c : Nat) (hv : OpAt w b x q c)
    (h : wpList Try.prog ops Q rest (a.put o.dst (.agg (opA x q c))) w) : wpList Try.prog ops Q (o :: rest) a w := by
  obtain ⟨T, hv⟩ := hv
  obtain ⟨d, hu⟩ := V.und
  rw [wpList, if_pos hgd]
  exact Or.inl (wp_load_row t y ho b hx T _ (0, 0) _ hv hu rfl (by rw [opA_size]; exact V.size) h)
/-- an op that is a call's result, read -/
theorem results_op {t : TypeId} (V : OT t) {fn : Func} {p : Tmp} (tmps : Array Value) {w : World} {g : Nat} {x : Opp} {q : Option Addr} {c : Nat} (h : fn.results = #[.cell p t]) (hv : OpAt w g x q c) (hp : tmps.getD p undef = .pointer (some ⟨g, 0, none⟩)) :
    (results fn tmps).run Try.prog w = .ok (.agg (opA x q c)) w := by
  obtain ⟨T, hv⟩ := hv
  obtain ⟨d, hu⟩ := V.und
  exact results_cell_row h tmps w g T _ (0, 0) _ hp hv hu rfl (by rw [opA_size]; exact V.size)
theorem run_storeVar_op {t : TypeId} (V : OT t) (w : World) (b : Nat) (T : TypeId) (u v : Array Value) (hv : w.heap[b]? = some (.cells u T (0, 0))) (hu : u.size = 12) (hs : v.size = 12) (h1 : v.all (·.oneCell') = true) : (storeVar t ⟨b, 0, none⟩ (.agg v)).run Try.prog w = .ok () (w.setRow b v) :=
  run_storeVar_row w b T t u v hv (by rw [hs]; exact V.size) (by rw [hu, hs]) h1
/-- a whole op into a block of its own -/
theorem wpList_store_op {t : TypeId} (V : OT t) {ops : Array Oper} {rest : List Oper} {o : Oper} {a : Act} {w : World} {Q : Exit → Act → World → Prop} (hgd : o.guard = none) (x y : Operand) (ho : o.op = .store t x y)
    (b : Nat) (hx : a.eval x = .pointer (some ⟨b, 0, none⟩)) (T : TypeId) (u : Array Value) (hv : w.heap[b]? = some (.cells u T (0, 0))) (hu : u.size = 12) (v : Opp) (q : Option Addr) (c : Nat) (hy : a.eval y = .agg (opA v q c))
    (h : ∀ w' : World, OpAt w' b v q c → (∀ k, k ≠ b → w'.heap[k]? = w.heap[k]?) → w'.heap.size = w.heap.size → (∀ B w0, Below B w0 w → B ≤ b → Below B w0 w') → wpList Try.prog ops Q rest (a.put o.dst undef) w') : wpList Try.prog ops Q (o :: rest) a w := by
  refine wpList_plain hgd fun K hK => ?_
  have hr := run_storeVar_op V w b T u (opA v q c) hv hu rfl (opA_one _ _ _)
  have hk : K (a.put o.dst undef) (w.setRow b (opA v q c)) := by
    refine hK _ _ (h _ ⟨T, setRow_heap w b _ _ T _ hv⟩ (fun k hk => setRow_other w b k _ hk) (by simp) ?_)
    intro B w0 hb hB
    exact hb.trans ⟨rfl, rfl, rfl, by simp, fun k hk => setRow_other w b k _ (by omega)⟩
  unfold Oper.wp execOp
  simp only [ho, hx, hy, Instr.storeAt, Instr.sureAddr, Sem.run_bind, Sem.run_pure, Result.andThen_ok, hr]
  exact hk

/-- a row of six bools: what a kind names -/
def prA (p : Prt) : Array Value := #[.bool p.node, .bool p.spot, .bool p.master, .bool p.path, .bool p.value, .bool p.on]
def PrAt (w : World) (b : Nat) (p : Prt) : Prop := ∃ T, w.heap[b]? = some (.cells (prA p) T (0, 0))
theorem PrAt.cells {w : World} {b : Nat} {p : Prt} (h : PrAt w b p) :
    w.cell? ⟨b, 0, none⟩ = some (.bool p.node) ∧ w.cell? ⟨b, 1, none⟩ = some (.bool p.spot) ∧ w.cell? ⟨b, 2, none⟩ = some (.bool p.master) ∧ w.cell? ⟨b, 3, none⟩ = some (.bool p.path) ∧ w.cell? ⟨b, 4, none⟩ = some (.bool p.value) ∧ w.cell? ⟨b, 5, none⟩ = some (.bool p.on) := by
  obtain ⟨T, h⟩ := h
  refine ⟨?_, ?_, ?_, ?_, ?_, ?_⟩ <;> rw [cell_of_row w b _ _ T (0, 0) h] <;> rfl
theorem PrAt.lt {w : World} {b : Nat} {p : Prt} (h : PrAt w b p) : b < w.heap.size := by
  obtain ⟨T, h⟩ := h
  exact (Array.getElem?_eq_some_iff.1 h).1
theorem PrAt.block {w w' : World} {b : Nat} {p : Prt} (h : PrAt w b p) (e : w'.heap[b]? = w.heap[b]?) : PrAt w' b p := by
  obtain ⟨T, h⟩ := h
  exact ⟨T, e.trans h⟩
theorem PrAt.kept {w w' : World} {b : Nat} {p : Prt} (h : PrAt w b p) (hb : Below w.heap.size w w') : PrAt w' b p := h.block (hb.block b h.lt)
theorem PrAt.only {w w' : World} {b k : Nat} {p : Prt} (h : PrAt w b p) (ho : Only k w w') (hne : b ≠ k) : PrAt w' b p := h.block (ho.block b h.lt (by simpa using hne))
theorem PrAt.new (w : World) (p : Prt) (T : TypeId) : PrAt (w.alloc (.cells (prA p) T)) w.heap.size p := ⟨T, heap_alloc_new w _⟩
theorem ret_b {a b : Bool} (h : a = b) : Ending.returned (.bool a) = .returned (.bool b) := by rw [h]
end Go.Proofs.Ytjaojhhcpggcpaa
