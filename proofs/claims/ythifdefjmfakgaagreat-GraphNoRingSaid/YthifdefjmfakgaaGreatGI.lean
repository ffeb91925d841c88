/-
  OPS IN MEMORY: twelve cells in a block of their own; loads, stores and answers of whole ops; what a function's type tables say.
  No conditions.
  Node, Place, digit, the error's number.
  No conditions.
  May a Path be; two Paths held against each other.
  No conditions but sizes.
-/
import Derived.Test.YthifdefjmfakgaaGreatOMath
import Derived.Test.YthifdefjmfakgaaGreatGQ
import Derived.Deep.MidRow
import Derived.Deep.RegionHeld
import Derived.Laws.Tables
namespace Go.Proofs.YthifdefjmfakgaaGreat
open Go.RowKit

def opL (x : Opp) (q : Option Addr) (c : Nat) : List Value := [.int .i64 x.k, .int .i64 x.nt, .int .i64 x.nr, .int .i64 x.rt, .int .i64 x.rr, .string x.key, .slice q x.path.length c, .int .i64 x.p, .int .i64 x.vk, .int .i64 x.vn, .string x.vt, .bool x.on]
/-- an op's cells, its Path at q -/
def opA (x : Opp) (q : Option Addr) (c : Nat) : Array Value := (opL x q c).toArray
theorem opA_size (x : Opp) (q : Option Addr) (c : Nat) : (opA x q c).size = 12 := rfl
theorem opA_one (x : Opp) (q : Option Addr) (c : Nat) : (opA x q c).all (·.oneCell') = true := all_oneCell_toArray (by
  intro v hv
  simp only [opL, List.mem_cons, List.not_mem_nil, or_false] at hv
  rcases hv with rfl | rfl | rfl | rfl | rfl | rfl | rfl | rfl | rfl | rfl | rfl | rfl <;> rfl)
/-- an op lies in block b, which is a row of its own -/
def OpAt (w : World) (b : Nat) (x : Opp) (q : Option Addr) (c : Nat) : Prop := ∃ T, w.heap[b]? = some (.cells (opA x q c) T (0, 0))
/-- the Path -/
structure Pa (w : World) (x : Opp) (q : Option Addr) (c : Nat) : Prop where
  rd : Rd w q (stCells x.path)
  nil : q = none → c = 0
  cap : x.path.length ≤ c
theorem Pa.kept {w w' : World} {x : Opp} {q : Option Addr} {c : Nat} (h : Pa w x q c) (hb : Below w.heap.size w w') : Pa w' x q c := ⟨h.rd.below hb, h.nil, h.cap⟩
theorem Pa.none (w : World) (x : Opp) (h : x.path = []) : Pa w x none 0 := ⟨by rw [h]; exact Rd.nil _ _, fun _ => rfl, by rw [h]; exact Nat.le_refl _⟩
theorem OpAt.cell {w : World} {b : Nat} {x : Opp} {q : Option Addr} {c : Nat} (h : OpAt w b x q c) (i : Nat) : w.cell? ⟨b, i, none⟩ = (opL x q c)[i]? := by
  obtain ⟨T, h⟩ := h
  rw [cell_of_row w b i _ T (0, 0) h]
  simp [opA]
theorem OpAt.free {w : World} {b : Nat} {x : Opp} {q : Option Addr} {c : Nat} (h : OpAt w b x q c) (i : Nat) : w.frozen? ⟨b, i, none⟩ = false := by
  obtain ⟨T, h⟩ := h
  exact frozen_of_row w b i _ T h
theorem OpAt.lt {w : World} {b : Nat} {x : Opp} {q : Option Addr} {c : Nat} (h : OpAt w b x q c) : b < w.heap.size := by
  obtain ⟨T, h⟩ := h
  exact (Array.getElem?_eq_some_iff.1 h).1
theorem OpAt.block {w w' : World} {b : Nat} {x : Opp} {q : Option Addr} {c : Nat} (h : OpAt w b x q c) (e : w'.heap[b]? = w.heap[b]?) : OpAt w' b x q c := by
  obtain ⟨T, h⟩ := h
  exact ⟨T, e.trans h⟩
theorem OpAt.below {w w' : World} {b : Nat} {x : Opp} {q : Option Addr} {c : Nat} (h : OpAt w b x q c) {B : Nat} (hb : Below B w w') (hB : b < B) : OpAt w' b x q c := h.block (hb.block b hB)
theorem OpAt.kept {w w' : World} {b : Nat} {x : Opp} {q : Option Addr} {c : Nat} (h : OpAt w b x q c) (hb : Below w.heap.size w w') : OpAt w' b x q c := h.below hb h.lt
theorem OpAt.only {w w' : World} {b k : Nat} {x : Opp} {q : Option Addr} {c : Nat} (h : OpAt w b x q c) (ho : Only k w w') (hne : b ≠ k) : OpAt w' b x q c := h.block (ho.block b h.lt (by simpa using hne))
theorem OpAt.new (w : World) (x : Opp) (q : Option Addr) (c : Nat) (T : TypeId) : OpAt (w.alloc (.cells (opA x q c) T)) w.heap.size x q c := ⟨T, heap_alloc_new w _⟩
theorem OpAt.cells {w : World} {b : Nat} {x : Opp} {q : Option Addr} {c : Nat} (h : OpAt w b x q c) :
    w.cell? ⟨b, 0, none⟩ = some (.int .i64 x.k) ∧ w.cell? ⟨b, 1, none⟩ = some (.int .i64 x.nt) ∧ w.cell? ⟨b, 2, none⟩ = some (.int .i64 x.nr) ∧ w.cell? ⟨b, 3, none⟩ = some (.int .i64 x.rt) ∧ w.cell? ⟨b, 4, none⟩ = some (.int .i64 x.rr) ∧
    w.cell? ⟨b, 5, none⟩ = some (.string x.key) ∧ w.cell? ⟨b, 6, none⟩ = some (.slice q x.path.length c) ∧ w.cell? ⟨b, 7, none⟩ = some (.int .i64 x.p) ∧ w.cell? ⟨b, 8, none⟩ = some (.int .i64 x.vk) ∧ w.cell? ⟨b, 9, none⟩ = some (.int .i64 x.vn) ∧
    w.cell? ⟨b, 10, none⟩ = some (.string x.vt) ∧ w.cell? ⟨b, 11, none⟩ = some (.bool x.on) :=
  ⟨h.cell 0, h.cell 1, h.cell 2, h.cell 3, h.cell 4, h.cell 5, h.cell 6, h.cell 7, h.cell 8, h.cell 9, h.cell 10, h.cell 11⟩
/-- a part is written -/
theorem OpAt.put {w : World} {b : Nat} {x : Opp} {q : Option Addr} {c : Nat} (h : OpAt w b x q c) (i : Nat) (v : Value) (y : Opp) (q' : Option Addr) (c' : Nat) (e : (opA x q c).setIfInBounds i v = opA y q' c') : OpAt (w.setCell ⟨b, i, none⟩ v) b y q' c' := by
  obtain ⟨T, h⟩ := h
  exact ⟨T, by rw [Go.Joins.block_setCell h, e]⟩
/-- what the type tables say of a type of ops -/
structure OT (t : TypeId) : Prop where
  und : ∃ d, Tryz.prog.underlying t = some (.struct d)
  size : (Tryz.prog.info? t).map (·.size) = some 12
theorem otP : OT 43 := ⟨⟨_, Tryz.underlying43⟩, by kernel_rfl⟩
theorem OT.load {t : TypeId} (h : OT t) {w : World} {b : Nat} {x : Opp} {q : Option Addr} {c : Nat} (hv : OpAt w b x q c) : (Instr.loadAt t (.pointer (some ⟨b, 0, none⟩))).run Tryz.prog w = .ok (.agg (opA x q c)) w := by
  obtain ⟨T, hv⟩ := hv
  obtain ⟨d, hu⟩ := h.und
  simp only [Instr.loadAt, Instr.sureAddr, Sem.run_bind, Sem.run_pure, Result.andThen_ok]
  exact run_loadVar_row w b T t _ (0, 0) _ hv hu rfl (by rw [opA_size]; exact h.size)
/-- the same at an operation with a guard -/
theorem wpList_load_opG {t : TypeId} (V : OT t) {ops : Array Oper} {rest : List Oper} {o : Oper} {a : Act} {w : World} {Q : Exit → Act → World → Prop} (hgd : Region.wanted o (yielded ops a.tmps) = true) (y : Operand) (ho : o.op = .load t y)
    (b : Nat) (hx : a.eval y = .pointer (some ⟨b, 0, none⟩)) (x : Opp) (q : Option Addr) (c : Nat) (hv : OpAt w b x q c)
    (h : wpList Tryz.prog ops Q rest (a.put o.dst (.agg (opA x q c))) w) : wpList Tryz.prog ops Q (o :: rest) a w := by
  obtain ⟨T, hv⟩ := hv
  obtain ⟨d, hu⟩ := V.und
  rw [wpList, if_pos hgd]
  exact Or.inl (wp_load_row t y ho b hx T _ (0, 0) _ hv hu rfl (by rw [opA_size]; exact V.size) h)
/-- an op that is a call's result, read -/
theorem results_op {t : TypeId} (V : OT t) {fn : Func} {p : Tmp} (tmps : Array Value) {w : World} {g : Nat} {x : Opp} {q : Option Addr} {c : Nat} (h : fn.results = #[.cell p t]) (hv : OpAt w g x q c) (hp : tmps.getD p undef = .pointer (some ⟨g, 0, none⟩)) :
    (results fn tmps).run Tryz.prog w = .ok (.agg (opA x q c)) w := by
  obtain ⟨T, hv⟩ := hv
  obtain ⟨d, hu⟩ := V.und
  exact results_cell_row h tmps w g T _ (0, 0) _ hp hv hu rfl (by rw [opA_size]; exact V.size)
theorem run_storeVar_op {t : TypeId} (V : OT t) (w : World) (b : Nat) (T : TypeId) (u v : Array Value) (hv : w.heap[b]? = some (.cells u T (0, 0))) (hu : u.size = 12) (hs : v.size = 12) (h1 : v.all (·.oneCell') = true) : (storeVar t ⟨b, 0, none⟩ (.agg v)).run Tryz.prog w = .ok () (w.setRow b v) :=
  run_storeVar_row w b T t u v hv (by rw [hs]; exact V.size) (by rw [hu, hs]) h1
/-- a row of six bools: what a kind names -/
def prA (p : Prt) : Array Value := #[.bool p.node, .bool p.spot, .bool p.master, .bool p.path, .bool p.value, .bool p.on]
def PrAt (w : World) (b : Nat) (p : Prt) : Prop := ∃ T, w.heap[b]? = some (.cells (prA p) T (0, 0))
theorem PrAt.cells {w : World} {b : Nat} {p : Prt} (h : PrAt w b p) :
    w.cell? ⟨b, 0, none⟩ = some (.bool p.node) ∧ w.cell? ⟨b, 1, none⟩ = some (.bool p.spot) ∧ w.cell? ⟨b, 2, none⟩ = some (.bool p.master) ∧ w.cell? ⟨b, 3, none⟩ = some (.bool p.path) ∧ w.cell? ⟨b, 4, none⟩ = some (.bool p.value) ∧ w.cell? ⟨b, 5, none⟩ = some (.bool p.on) := by
  obtain ⟨T, h⟩ := h
  refine ⟨?_, ?_, ?_, ?_, ?_, ?_⟩ <;> rw [cell_of_row w b _ _ T (0, 0) h] <;> rfl
theorem PrAt.lt {w : World} {b : Nat} {p : Prt} (h : PrAt w b p) : b < w.heap.size := by
  obtain ⟨T, h⟩ := h
  exact (Array.getElem?_eq_some_iff.1 h).1
theorem PrAt.block {w w' : World} {b : Nat} {p : Prt} (h : PrAt w b p) (e : w'.heap[b]? = w.heap[b]?) : PrAt w' b p := by
  obtain ⟨T, h⟩ := h
  exact ⟨T, e.trans h⟩
theorem PrAt.kept {w w' : World} {b : Nat} {p : Prt} (h : PrAt w b p) (hb : Below w.heap.size w w') : PrAt w' b p := h.block (hb.block b h.lt)
theorem PrAt.only {w w' : World} {b k : Nat} {p : Prt} (h : PrAt w b p) (ho : Only k w w') (hne : b ≠ k) : PrAt w' b p := h.block (ho.block b h.lt (by simpa using hne))
theorem PrAt.new (w : World) (p : Prt) (T : TypeId) : PrAt (w.alloc (.cells (prA p) T)) w.heap.size p := ⟨T, heap_alloc_new w _⟩
theorem ret_b {a b : Bool} (h : a = b) : Ending.returned (.bool a) = .returned (.bool b) := by rw [h]
end Go.Proofs.YthifdefjmfakgaaGreat

namespace Go.Proofs.YthifdefjmfakgaaGreat
open Go.RowKit

set_option maxRecDepth 100000 in
set_option maxHeartbeats 1000000 in
theorem onode_any (t r : Int) (w : World) : Calls Tryz.prog 36 #[.agg #[.int .i64 t, .int .i64 r]] w fun e w' => e = .returned (.bool (okNode t r)) ∧ Below w.heap.size w w' := by
  have HB := Lib.hid ((Below.refl w.heap.size w).alloc (Nat.le_refl _) (.cells #[.int .i64 t, .int .i64 r] 35))
  have HT := Lib.hid (TwoAt.start w t r)
  cases hR : rightB t r with
  | false =>
    have HR := Lib.hid (show okNode t r = false by unfold okNode; rw [hR]; rfl)
    have HRB := Lib.hid hR
    clear hR
    go_enter Tryz.func36, Tryz.ntmps36
    go_wp2_with fail
    refine (right_any t r _).mono ?_
    rw [HRB.out]
    rintro e w1 ⟨rfl, hb1⟩
    have HB1 := Lib.hid (HB.out.trans (hb1.mono (by simp)))
    clear hb1
    go_wp2
    go_ret
    exact ⟨ret_b HR.out.symm, HB1.out⟩
  | true =>
    have HRB := Lib.hid hR
    have HR := Lib.hid (show okNode t r = decide (1 ≤ t) by unfold okNode; rw [hR]; rfl)
    clear hR
    go_enter Tryz.func36, Tryz.ntmps36
    go_wp2_with fail
    refine (right_any t r _).mono ?_
    rw [HRB.out]
    rintro e w1 ⟨rfl, hb1⟩
    have HB1 := Lib.hid (HB.out.trans (hb1.mono (by simp)))
    have c0 := (HT.out.kept hb1).cell0
    clear hb1
    go_wp2
    go_ret
    exact ⟨ret_b HR.out.symm, HB1.out⟩

/-- three stamps, boxed one behind the other -/
theorem three_boxes (w : World) (a b c d e f : Int) : ∀ W, W = ((w.alloc (.cells #[.int .i64 a, .int .i64 b] 35)).alloc (.cells #[.int .i64 c, .int .i64 d] 35)).alloc (.cells #[.int .i64 e, .int .i64 f] 35) →
    TwoAt W w.heap.size a b ∧ TwoAt W (w.heap.size + 1) c d ∧ TwoAt W (w.heap.size + 1 + 1) e f ∧ Below w.heap.size w W := by
  rintro W rfl
  have h1 : ∀ (w : World) (o : Obj), Below w.heap.size w (w.alloc o) := fun w o => (Below.refl _ _).alloc (Nat.le_refl _) _
  have k2 := TwoAt.start (w.alloc (.cells #[.int .i64 a, .int .i64 b] 35)) c d
  have k3 := TwoAt.start ((w.alloc (.cells #[.int .i64 a, .int .i64 b] 35)).alloc (.cells #[.int .i64 c, .int .i64 d] 35)) e f
  have e1 : ∀ (w : World) (o : Obj), (w.alloc o).heap.size = w.heap.size + 1 := fun w o => by simp
  simp only [e1] at k2 k3
  exact ⟨((TwoAt.start w a b).kept (h1 _ _)).kept (h1 _ _), k2.kept (h1 _ _), k3, (h1 _ _).trans (((h1 _ _).mono (by simp)).trans ((h1 _ _).mono (by simp; omega)))⟩
set_option maxRecDepth 100000 in
set_option maxHeartbeats 1000000 in
theorem oplace_any (t r : Int) (w : World) : Calls Tryz.prog 114 #[.agg #[.int .i64 t, .int .i64 r]] w fun e w' => e = .returned (.bool (okPlace t r)) ∧ Below w.heap.size w w' := by
  obtain ⟨T0, T1, T2, hb⟩ := three_boxes w t r 0 0 0 1 _ rfl
  have HB := Lib.hid hb
  have HT0 := Lib.hid T0
  have HT1 := Lib.hid T1
  have HT2 := Lib.hid T2
  clear hb T0 T1 T2
  cases hR : okNode t r with
  | true =>
    have HR := Lib.hid (show okPlace t r = true by unfold okPlace; rw [hR]; rfl)
    have HRB := Lib.hid hR
    clear hR
    go_enter Tryz.func114, Tryz.ntmps114
    go_wp2_with fail
    refine (onode_any t r _).mono ?_
    rw [HRB.out]
    rintro e w1 ⟨rfl, hb1⟩
    have HB1 := Lib.hid (HB.out.trans (hb1.mono (by simp; omega)))
    clear hb1
    go_wp2
    go_ret
    exact ⟨ret_b HR.out.symm, HB1.out⟩
  | false =>
    have HRB := Lib.hid hR
    have HR := Lib.hid (show okPlace t r = (isZ t r || isT t r) by unfold okPlace; rw [hR]; rfl)
    clear hR
    by_cases ht : t = 0
    · subst ht
      by_cases h0 : r = 0
      · subst h0
        have HV := Lib.hid (show (isZ 0 0 || isT 0 0) = true from rfl)
        go_enter Tryz.func114, Tryz.ntmps114
        go_wp2_with fail
        refine (onode_any _ _ _).mono ?_
        rw [HRB.out]
        rintro e w1 ⟨rfl, hb1⟩
        have HB1 := Lib.hid (HB.out.trans (hb1.mono (by simp; omega)))
        have x0 := (HT0.out.kept hb1).cell0
        have x1 := (HT0.out.kept hb1).cell1
        have y0 := (HT1.out.kept hb1).cell0
        have y1 := (HT1.out.kept hb1).cell1
        have z0 := (HT2.out.kept hb1).cell0
        have z1 := (HT2.out.kept hb1).cell1
        clear hb1
        go_wp2
        go_ret
        exact ⟨ret_b (HR.out.trans HV.out).symm, HB1.out⟩
      · have e0 : (r == 0) = false := by simpa using h0
        by_cases h1 : r = 1
        · subst h1
          have HV := Lib.hid (show (isZ 0 1 || isT 0 1) = true from rfl)
          go_enter Tryz.func114, Tryz.ntmps114
          go_wp2_with fail
          refine (onode_any _ _ _).mono ?_
          rw [HRB.out]
          rintro e w1 ⟨rfl, hb1⟩
          have HB1 := Lib.hid (HB.out.trans (hb1.mono (by simp; omega)))
          have x0 := (HT0.out.kept hb1).cell0
          have x1 := (HT0.out.kept hb1).cell1
          have y0 := (HT1.out.kept hb1).cell0
          have y1 := (HT1.out.kept hb1).cell1
          have z0 := (HT2.out.kept hb1).cell0
          have z1 := (HT2.out.kept hb1).cell1
          clear hb1
          go_wp2
          go_ret
          exact ⟨ret_b (HR.out.trans HV.out).symm, HB1.out⟩
        · have e1 : (r == 1) = false := by simpa using h1
          have HV := Lib.hid (show (isZ 0 r || isT 0 r) = false by unfold isZ isT; rw [e0, e1]; rfl)
          go_enter Tryz.func114, Tryz.ntmps114
          go_wp2_with fail
          refine (onode_any _ _ _).mono ?_
          rw [HRB.out]
          rintro e w1 ⟨rfl, hb1⟩
          have HB1 := Lib.hid (HB.out.trans (hb1.mono (by simp; omega)))
          have x0 := (HT0.out.kept hb1).cell0
          have x1 := (HT0.out.kept hb1).cell1
          have y0 := (HT1.out.kept hb1).cell0
          have y1 := (HT1.out.kept hb1).cell1
          have z0 := (HT2.out.kept hb1).cell0
          have z1 := (HT2.out.kept hb1).cell1
          clear hb1
          go_wp2
          go_ret
          exact ⟨ret_b (HR.out.trans HV.out).symm, HB1.out⟩
    · have e0 : (t == 0) = false := by simpa using ht
      have HV := Lib.hid (show (isZ t r || isT t r) = false by unfold isZ isT; rw [e0]; rfl)
      go_enter Tryz.func114, Tryz.ntmps114
      go_wp2_with fail
      refine (onode_any _ _ _).mono ?_
      rw [HRB.out]
      rintro e w1 ⟨rfl, hb1⟩
      have HB1 := Lib.hid (HB.out.trans (hb1.mono (by simp; omega)))
      have x0 := (HT0.out.kept hb1).cell0
      have x1 := (HT0.out.kept hb1).cell1
      have y0 := (HT1.out.kept hb1).cell0
      have y1 := (HT1.out.kept hb1).cell1
      have z0 := (HT2.out.kept hb1).cell0
      have z1 := (HT2.out.kept hb1).cell1
      clear hb1
      go_wp2
      go_ret
      exact ⟨ret_b (HR.out.trans HV.out).symm, HB1.out⟩
end Go.Proofs.YthifdefjmfakgaaGreat

namespace Go.Proofs.YthifdefjmfakgaaGreat
open Go.RowKit

theorem okPath_no {l : List Qm.St} {k : Nat} (hk : k < l.length) (h : okNode (Qm.stOf l k).1 (Qm.stOf l k).2 = false) : okPath l = false := by
  have hm : Qm.stOf l k ∈ l := by
    have : Qm.stOf l k = l[k] := by simp [Qm.stOf, hk]
    rw [this]; exact List.getElem_mem hk
  unfold okPath
  rw [show (l.all fun s => okNode s.1 s.2) = false from ?_, Bool.and_false]
  rw [List.all_eq_false]
  exact ⟨_, hm, by rw [h]; simp⟩
theorem okPath_yes {l : List Qm.St} (h0 : 1 ≤ l.length) (h8 : l.length ≤ 8) (h : ∀ i, i < l.length → okNode (Qm.stOf l i).1 (Qm.stOf l i).2 = true) : okPath l = true := by
  unfold okPath
  rw [decide_eq_true h0, decide_eq_true h8, Bool.true_and, Bool.true_and, List.all_eq_true]
  intro s hs
  obtain ⟨i, hi, rfl⟩ := List.mem_iff_getElem.1 hs
  have := h i hi
  simpa [Qm.stOf, hi] using this

set_option maxRecDepth 100000 in
set_option maxHeartbeats 1000000 in
theorem isPath_any (p : Option Addr) (c : Nat) (l : List Qm.St) (w : World) (h : Rd w p (stCells l)) (hl : l.length ≤ 4611686018427387904) :
    Calls Tryz.prog 116 #[.slice p l.length c] w fun e w' => e = .returned (.bool (okPath l)) ∧ Below w.heap.size w w' := by
  have HRD := Lib.hid h
  by_cases h0 : l.length = 0
  · have HR := Lib.hid (show okPath l = false by unfold okPath; rw [h0]; rfl)
    clear h
    generalize l.length = n at *
    subst h0
    go_enter Tryz.func116, Tryz.ntmps116
    go_wp2
    go_ret
    exact ⟨ret_b HR.out.symm, Below.refl _ _⟩
  · by_cases h8 : 8 < l.length
    · have HR := Lib.hid (show okPath l = false by unfold okPath; rw [decide_eq_false (show ¬ l.length ≤ 8 by omega)]; simp)
      have d1 : decide ((l.length : Int) < 1) = false := decide_eq_false (by omega)
      have d2 : decide ((8 : Int) < (l.length : Int)) = true := decide_eq_true (by omega)
      clear h
      generalize l.length = n at *
      go_enter Tryz.func116, Tryz.ntmps116
      go_wp2
      go_ret
      exact ⟨ret_b HR.out.symm, Below.refl _ _⟩
    · obtain ⟨b, o, rfl, hb⟩ := h.addr (by rw [stCells_length]; omega)
      have d1 : decide ((l.length : Int) < 1) = false := decide_eq_false (by omega)
      have d2 : decide ((8 : Int) < (l.length : Int)) = false := decide_eq_false (by omega)
      have hLEN := Lib.hid (show 1 ≤ l.length ∧ l.length ≤ 8 by omega)
      clear h
      go_enter Tryz.func116, Tryz.ntmps116
      go_wp2
      clear d1 d2
      go_loopw [15] (fun i wr => ∃ k : Nat, k ≤ l.length ∧ i = .int .i64 (k : Int) ∧ (∀ j, j < k → okNode (Qm.stOf l j).1 (Qm.stOf l j).2 = true) ∧ Below w.heap.size w wr) (fun i _ => l.length - (intOf i).toNat)
      case atStart => exact ⟨0, Nat.zero_le _, rfl, fun j hj => absurd hj (Nat.not_lt_zero _), Below.refl _ _⟩
      case round =>
        obtain ⟨k, hk, rfl, ho, hbw⟩ := hrel
        have HO := Lib.hid ho
        have HBW := Lib.hid hbw
        clear ho hbw
        by_cases hlt : k < l.length
        · obtain ⟨c0, c1⟩ := (HRD.out.base HBW.out (fun a ha => by cases ha; exact hb)).st k hlt
          have HN := Lib.hid (show ∀ W, Calls Tryz.prog 36 #[.agg #[.int .i64 (Qm.stOf l k).1, .int .i64 (Qm.stOf l k).2]] W fun e w' => e = .returned (.bool (okNode (Qm.stOf l k).1 (Qm.stOf l k).2)) ∧ Below W.heap.size W w' from fun W => onode_any _ _ W)
          have HNO := Lib.hid (fun h => okPath_no (l := l) hlt h)
          have HST := Lib.hid (show ∀ j, j < k + 1 → okNode (Qm.stOf l k).1 (Qm.stOf l k).2 = true → okNode (Qm.stOf l j).1 (Qm.stOf l j).2 = true from fun j hj he => by
            rcases Nat.lt_or_ge j k with e | e
            · exact HO.out j e
            · obtain rfl : j = k := by omega
              exact he)
          cases hN : okNode (Qm.stOf l k).1 (Qm.stOf l k).2 with
          | false =>
            have HR := Lib.hid (HNO.out hN)
            rw [hN] at HN
            clear hN HST HNO
            generalize (Qm.stOf l k).1 = s at *
            generalize (Qm.stOf l k).2 = t at *
            have HB2 := Lib.hid (HBW.out.alloc HBW.out.size (.cells #[.int .i64 s, .int .i64 t] 35))
            go_wp2_with fail
            refine (HN.out _).mono ?_
            rintro e w1 ⟨rfl, hb1⟩
            have HB3 := Lib.hid (HB2.out.trans (hb1.mono HB2.out.size))
            clear hb1
            go_wp2
            go_ret
            exact ⟨ret_b HR.out.symm, HB3.out⟩
          | true =>
            have HR := Lib.hid (fun j hj => HST.out j hj hN)
            rw [hN] at HN
            clear hN HST HNO
            generalize (Qm.stOf l k).1 = s at *
            generalize (Qm.stOf l k).2 = t at *
            have HB2 := Lib.hid (HBW.out.alloc HBW.out.size (.cells #[.int .i64 s, .int .i64 t] 35))
            go_wp2_with fail
            refine (HN.out _).mono ?_
            rintro e w1 ⟨rfl, hb1⟩
            have HB3 := Lib.hid (HB2.out.trans (hb1.mono HB2.out.size))
            clear hb1
            go_wp2
            go_roundw
            case rel => exact ⟨k + 1, by omega, by go_num, HR.out, HB3.out⟩
            case measure => simp [intOf]; omega
        · obtain rfl : k = l.length := by omega
          have HR := Lib.hid (okPath_yes hLEN.out.1 hLEN.out.2 HO.out)
          go_wp2
          go_ret
          exact ⟨ret_b HR.out.symm, HBW.out⟩

end Go.Proofs.YthifdefjmfakgaaGreat
