/-
  THE LAWS' HELPERS: num, Own, Long, do, knows.
  No conditions but sizes.
-/
import Derived.Test.YtilkokhapcgolaaGreatTMove
import Derived.Test.YtilkokhapcgolaaGreatTNodes
namespace Go.Proofs.YtilkokhapcgolaaGreat
open Go.RowKit
open Tm (Sp Tr has put cut kids)

theorem spR : AgT 34 3 := ⟨⟨_, Tryz.underlying34⟩, by kernel_rfl⟩
theorem acT : AgT 36 6 := ⟨⟨_, Tryz.underlying36⟩, by kernel_rfl⟩
/-- an act -/
structure TAct where
  k : Int
  n : Qm.St
  s : Sp
def TAct.zero : TAct := ⟨0, (0, 0), ((0, 0), ⟨#[]⟩)⟩
def acL (a : TAct) : List Value := [.int .i64 a.k, .int .i64 a.n.1, .int .i64 a.n.2, .int .i64 a.s.1.1, .int .i64 a.s.1.2, .string a.s.2]
def acA (a : TAct) : Array Value := (acL a).toArray
def acOf (l : List TAct) (i : Nat) : TAct := l.getD i TAct.zero
def acCells (l : List TAct) : List Value := l.flatMap acL
theorem acCells_length (l : List TAct) : (acCells l).length = l.length * 6 := by
  induction l with
  | nil => rfl
  | cons a l ih => simp only [acCells, List.flatMap_cons, List.length_append, List.length_cons, acL, List.length_nil] at ih ⊢; omega
theorem acCells_get (l : List TAct) (i j : Nat) (h : i < l.length) (hj : j < 6) : (acCells l)[i * 6 + j]? = (acL (acOf l i))[j]? := by
  induction l generalizing i with
  | nil => simp at h
  | cons a l ih =>
    have e0 : acCells (a :: l) = acL a ++ acCells l := by simp [acCells]
    rw [e0]
    cases i with
    | zero =>
      rw [Nat.zero_mul, Nat.zero_add, List.getElem?_append_left (by exact hj)]
      rfl
    | succ i =>
      have hl : (acL a).length = 6 := rfl
      rw [List.getElem?_append_right (by rw [hl]; omega), hl, show (i + 1) * 6 + j - 6 = i * 6 + j from by omega, ih i (by simpa using h)]
      rfl
theorem acOf_mem {l : List TAct} {i : Nat} (h : i < l.length) : acOf l i ∈ l := by
  have : acOf l i = l[i] := by simp [acOf, h]
  rw [this]; exact List.getElem_mem h
theorem Rd.ac {w : World} {b o : Nat} {l : List TAct} (h : Rd w (some ⟨b, o, none⟩) (acCells l)) (i : Nat) (hi : i < l.length) : w.rangeAt b (o + i * 6) (acL (acOf l i)) := by
  intro j v hv
  have hj : j < 6 := (List.getElem?_eq_some_iff.1 hv).1
  rw [Nat.add_assoc]
  exact h.cell (by rw [acCells_get l i j hi hj]; exact hv)
theorem wpList_load_ac {w : World} {ops : Array Oper} {rest : List Oper} {o : Oper} {a : Act} {Q : Exit → Act → World → Prop} (hgd : o.guard = none) (y : Operand) (ho : o.op = .load 36 y)
    (b s i : Nat) (hx : a.eval y = .pointer (some ⟨b, s + i * 6, none⟩)) (l : List TAct) (hrd : Rd w (some ⟨b, s, none⟩) (acCells l)) (hi : i < l.length)
    (h : wpList Tryz.prog ops Q rest (a.put o.dst (.agg (acA (acOf l i)))) w) : wpList Tryz.prog ops Q (o :: rest) a w := by
  obtain ⟨d, hu⟩ := acT.und
  exact wpList_load_mid hgd _ y ho b (s + i * 6) hx (acL (acOf l i)) _ (hrd.ac i hi) hu rfl acT.size h
theorem acN (a : TAct) : ∀ j v, [Value.int .i64 a.n.1, .int .i64 a.n.2][j]? = some v → (acA a)[1 + j]? = some v := fun j v h => by
  match j, h with
  | 0, h => exact h
  | 1, h => exact h
theorem acS (a : TAct) : ∀ j v, [Value.int .i64 a.s.1.1, .int .i64 a.s.1.2, .string a.s.2][j]? = some v → (acA a)[3 + j]? = some v := fun j v h => by
  match j, h with
  | 0, h => exact h
  | 1, h => exact h
  | 2, h => exact h

set_option maxRecDepth 100000 in
set_option maxHeartbeats 1000000 in
theorem own_any (s : Sp) (w : World) : Calls Tryz.prog 8 #[.agg (spA s)] w fun e w' => e = .returned (spV s) ∧ Below w.heap.size w w' := by
  have h1 : ∀ (w : World) (o : Obj), Below w.heap.size w (w.alloc o) := fun w o => (Below.refl _ _).alloc (Nat.le_refl _) _
  have HT := Lib.hid (show Below w.heap.size w ((w.alloc (.cells (spA s) 34)).alloc (.cells #[.int .i64 0, .int .i64 0, .string ⟨#[]⟩] 39)) from (h1 _ _).trans ((h1 _ _).mono (by simp)))
  have HB0 := Lib.hid ((AgAt.new w (spA s) 34).kept (h1 _ (.cells #[.int .i64 0, .int .i64 0, .string ⟨#[]⟩] 39)))
  have HB1 := Lib.hid (show AgAt ((w.alloc (.cells (spA s) 34)).alloc (.cells #[.int .i64 0, .int .i64 0, .string ⟨#[]⟩] 39)) (w.heap.size + 1) #[.int .i64 0, .int .i64 0, .string ⟨#[]⟩] from by
    have := AgAt.new (w.alloc (.cells (spA s) 34)) #[.int .i64 0, .int .i64 0, .string ⟨#[]⟩] 39
    rw [show (w.alloc (.cells (spA s) 34)).heap.size = w.heap.size + 1 from by simp] at this
    exact this)
  have y2 := AgAt.cell HB0.out 2
  rw [show (spA s)[2]? = some (.string s.2) from rfl] at y2
  clear h1
  go_enter Tryz.func8, Tryz.ntmps8
  go_wp2_with (first | (refine wpList_load_part stT rfl _ rfl _ 0 rfl [.int .i64 s.1.1, .int .i64 s.1.2] rfl HB0.out spPar ?_) | (refine wpList_store_ag spT rfl _ _ rfl _ rfl _ HB1.out (A := spA s) rfl rfl rfl (spA_one _) ?_; intro w6 hv6 hko6 hsz6 hbn6))
  refine bodyPost_ret (results_ag spT _ rfl rfl hv6 rfl) rfl ?_
  exact ⟨rfl, hbn6 _ _ HT.out (by omega)⟩

theorem Below.mono2 {n m : Nat} {w w' : World} (h : Below n w w') (hm : m ≤ n) : Below m w w' := ⟨h.os, h.tape, h.output, h.size, fun k hk => h.block k (Nat.lt_of_lt_of_le hk hm)⟩
/-- a tree in memory from B on -/
def TreeAt (w : World) (B P : Nat) (T : Tr) : Prop := ∃ M1 M2 C, Lay w P M1 M2 T C (fun k => B ≤ k ∧ k < w.heap.size)
theorem TreeAt.kept {w w' : World} {B P : Nat} {T : Tr} (h : TreeAt w B P T) (hb : Below w.heap.size w w') : TreeAt w' B P T := by
  obtain ⟨M1, M2, C, hL⟩ := h
  exact ⟨M1, M2, C, (hL.kept hb).more (fun k hk => ⟨hk.1, Nat.lt_of_lt_of_le hk.2 hb.size⟩) fun k hk => hk.2⟩
theorem TreeAt.lt {w : World} {B P : Nat} {T : Tr} (h : TreeAt w B P T) : B ≤ P ∧ P < w.heap.size := by
  obtain ⟨M1, M2, C, hL⟩ := h
  exact hL.fP
/-- acts made it, of numbers that words hold -/
def GoodT (T : Tr) : Prop := Tm.Ok T ∧ ∀ e ∈ T, StWf e.2.1
def doT (T : Tr) (a : TAct) : Tr := if a.k = 0 then (Tm.addT T a.n a.s).1 else if a.k = 1 then (Tm.moveT T a.n a.s).1 else if a.k = 2 then (Tm.dropT T a.n).1 else T
/-- an act of numbers that words hold, and a text that memory holds -/
def AcOk (a : TAct) : Prop := StWf a.n ∧ StWf a.s.1 ∧ a.s.2.size ≤ 140737488355328
theorem GoodT.nil : GoodT [] := ⟨Tm.Ok.nil, fun _ h => (by cases h)⟩
theorem GoodT.doT {T : Tr} (h : GoodT T) {a : TAct} (ha : StWf a.s.1) : GoodT (doT T a) := by
  have hput : ∀ U : Tr, (∀ e ∈ U, StWf e.2.1) → ∀ e ∈ put U a.n a.s, StWf e.2.1 := fun U hU e he => by
    rcases List.mem_append.1 he with he | he
    · exact hU e he
    · obtain rfl := List.mem_singleton.1 he
      exact ha
  have hcut : ∀ e ∈ cut T a.n, StWf e.2.1 := fun e he => h.2 e (Tm.mem_cut.1 he).1
  unfold Go.Proofs.YtilkokhapcgolaaGreat.doT
  split
  · refine ⟨h.1.addT _ _, ?_⟩
    unfold Tm.addT
    repeat' split
    all_goals first | exact h.2 | exact hput _ h.2
  · split
    · refine ⟨h.1.moveT _ _, ?_⟩
      unfold Tm.moveT
      repeat' split
      all_goals first | exact h.2 | exact hput _ hcut
    · split
      · refine ⟨h.1.dropT _, ?_⟩
        unfold Tm.dropT
        repeat' split
        all_goals first | exact h.2 | exact hcut
      · exact h
theorem doT_len (T : Tr) (a : TAct) : (doT T a).length ≤ T.length + 1 := by
  have h1 := Tm.addT_len T a.n a.s
  have h2 := Tm.moveT_len T a.n a.s
  have h3 := Tm.dropT_len T a.n
  unfold doT
  repeat' split
  all_goals omega
/-- what do leaves -/
def DidT (B P : Nat) (T' : Tr) (w : World) (e : Ending) (w' : World) : Prop := e = .returned (.tuple #[]) ∧ TreeAt w' B P T' ∧ Below B w w'
theorem Did.of {B P M1 M2 : Nat} {T' : Tr} {w w1 w' : World} {C' : List Kid} (hB : B ≤ w.heap.size) (hb : Below w.heap.size w w1)
    (hl : Lay w' P M1 M2 T' C' (fun k => (B ≤ k ∧ k < w.heap.size) ∨ (w1.heap.size ≤ k ∧ k < w'.heap.size))) (ht : Turns (fun k => B ≤ k ∧ k < w.heap.size) w1 w') : DidT B P T' w (.returned (.tuple #[])) w' :=
  ⟨rfl, ⟨M1, M2, C', hl.more (fun k hk => ⟨hk.elim (fun h => h.1) fun h => by have := hb.size; omega, hl.lt k hk⟩) fun k hk => hk.2⟩, (Below.mono2 hb hB).trans (ht.below (fun k _ hk => hk.1) (Nat.le_trans hB hb.size))⟩

/-- the two nodes of the laws' own trial -/
def kT1 : Tr := [((1, 0), ((0, 0), ⟨#[97]⟩))]
def kT2 : Tr := [((1, 0), ((0, 0), ⟨#[97]⟩)), ((2, 0), ((1, 0), ⟨#[97]⟩))]
def kT3 : Tr := [((1, 0), ((0, 0), ⟨#[97]⟩)), ((2, 0), ((0, 1), ⟨#[98]⟩))]
theorem kA1 : Tm.addT [] (1, 0) ((0, 0), ⟨#[97]⟩) = (kT1, 0) := by decide +kernel
theorem kA2 : Tm.addT kT1 (2, 0) ((1, 0), ⟨#[97]⟩) = (kT2, 0) := by decide +kernel
theorem kM1 : Tm.moveT kT2 (1, 0) ((2, 0), ⟨#[97]⟩) = (kT2, zS, 41) := by decide +kernel
theorem kM2 : Tm.moveT kT2 (2, 0) ((0, 1), ⟨#[98]⟩) = (kT3, ((1, 0), ⟨#[97]⟩), 0) := by decide +kernel
theorem kW1 : Tm.within kT3 (1, 0) (1, 0) = true := by decide +kernel
theorem kW2 : Tm.within kT3 (1, 0) (2, 0) = false := by decide +kernel

end Go.Proofs.YtilkokhapcgolaaGreat
