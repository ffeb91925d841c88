/-
  TREES IN MEMORY: two maps, and a map for each place that has nodes below it; New, ours, top, right, Has, Spot.
  No conditions but sizes.
-/
import Derived.Test.YthifdefjmfakgaaGreatGU
import Derived.Test.YthifdefjmfakgaaGreatGT
import Derived.Test.YthifdefjmfakgaaGreatGG
import Derived.Deep.Cut
import Derived.Deep.DeepCutAuto
namespace Go.Proofs.YthifdefjmfakgaaGreat
open Go.RowKit
open Tm (Sp Tr has put cut kids)

/-- a spot's cells -/
def spA (s : Sp) : Array Value := #[.int .i64 s.1.1, .int .i64 s.1.2, .string s.2]
abbrev spV (s : Sp) : Value := .agg (spA s)
def zS : Sp := ((0, 0), ⟨#[]⟩)
theorem spA_one (s : Sp) : (spA s).all (·.oneCell') = true := all_oneCell_toArray (cs := [.int .i64 s.1.1, .int .i64 s.1.2, .string s.2]) (by
  intro v hv
  simp only [List.mem_cons, List.not_mem_nil, or_false] at hv
  rcases hv with rfl | rfl | rfl <;> rfl)
theorem spT : AgT 72 3 := ⟨⟨_, Tryz.underlying72⟩, by kernel_rfl⟩
theorem mtSpots : MapT 131 72 (.agg (spA zS)) := ⟨Tryz.underlying131, fun _ => by kernel_rfl⟩
theorem mtBelow : MapT 90 136 (.map none) := ⟨Tryz.underlying90, fun _ => by kernel_rfl⟩
theorem mtSet : MapT 136 91 (.agg #[]) := ⟨Tryz.underlying136, fun _ => by kernel_rfl⟩

/-- a place that has nodes below it: the block of their map, the nodes -/
structure Kid where
  p : Qm.St
  b : Nat
  l : List Qm.St
def spots (T : Tr) : List (Qm.St × Value) := T.map fun e => (e.1, spV e.2)
def belows (C : List Kid) : List (Qm.St × Value) := C.map fun c => (c.p, Value.map (some c.b))
def nodesOf (l : List Qm.St) : List (Qm.St × Value) := l.map fun n => (n, Value.agg #[])
theorem lk_spots (T : Tr) (n : Qm.St) : lk (spots T) n = (Tm.look T n).map spV := lk_map spV T n
theorem lk_nodes {l : List Qm.St} {n : Qm.St} : lk (nodesOf l) n = if n ∈ l then some (.agg #[]) else none := by
  unfold lk nodesOf
  rw [List.find?_map]
  by_cases h : n ∈ l
  · rw [if_pos h]
    cases h2 : l.find? ((fun e : Qm.St × Value => e.1 == n) ∘ fun n => (n, Value.agg #[])) with
    | none =>
      have := List.find?_eq_none.1 h2 n h
      simp at this
    | some a => rfl
  · rw [if_neg h]
    have : l.find? ((fun e : Qm.St × Value => e.1 == n) ∘ fun n => (n, Value.agg #[])) = none := List.find?_eq_none.2 fun a ha => by
      simp
      intro e
      exact h (e ▸ ha)
    rw [this]
    rfl
/-- a tree's memory: its block, its two maps, the maps of the places; all of it in F -/
structure Mem (w : World) (P M1 M2 : Nat) (T : Tr) (C : List Kid) (F : Nat → Prop) : Prop where
  at_ : AgAt w P #[.map (some M1), .map (some M2)]
  spots : SMap w M1 (spots T)
  below : SMap w M2 (belows C)
  inner : ∀ c ∈ C, SMap w c.b (nodesOf c.l)
  fP : F P
  f1 : F M1
  f2 : F M2
  fK : ∀ c ∈ C, F c.b
  ne : P ≠ M1 ∧ P ≠ M2 ∧ M1 ≠ M2
  kne : ∀ c ∈ C, c.b ≠ P ∧ c.b ≠ M1 ∧ c.b ≠ M2
  knd : (C.map Kid.b).Nodup
  lt : ∀ k, F k → k < w.heap.size
/-- .. which tells of each place its nodes -/
structure Lay (w : World) (P M1 M2 : Nat) (T : Tr) (C : List Kid) (F : Nat → Prop) : Prop extends Mem w P M1 M2 T C F where
  full : ∀ c ∈ C, c.l ≠ [] ∧ ∀ n, n ∈ c.l ↔ n ∈ kids T c.p
  all : ∀ e ∈ T, ∃ c ∈ C, c.p = e.2.1
section
variable {w w' : World} {P M1 M2 : Nat} {T : Tr} {C : List Kid} {F G : Nat → Prop}
theorem Mem.turns (h : Mem w P M1 M2 T C F) (ht : Turns G w w') (hd : ∀ k, F k → ¬ G k) : Mem w' P M1 M2 T C F :=
  ⟨h.at_.block (ht.block _ (h.lt _ h.fP) (hd _ h.fP)), h.spots.turns ht (hd _ h.f1), h.below.turns ht (hd _ h.f2), fun c hc => (h.inner c hc).turns ht (hd _ (h.fK c hc)), h.fP, h.f1, h.f2, h.fK, h.ne, h.kne, h.knd,
   fun k hk => Nat.lt_of_lt_of_le (h.lt k hk) ht.size⟩
theorem Mem.kept (h : Mem w P M1 M2 T C F) (hb : Below w.heap.size w w') : Mem w' P M1 M2 T C F := h.turns (Turns.of_below (F := fun _ => False) hb) fun _ _ h => h
theorem Mem.more (h : Mem w P M1 M2 T C F) (hm : ∀ k, F k → G k) (hl : ∀ k, G k → k < w.heap.size) : Mem w P M1 M2 T C G :=
  ⟨h.at_, h.spots, h.below, h.inner, hm _ h.fP, hm _ h.f1, hm _ h.f2, fun c hc => hm _ (h.fK c hc), h.ne, h.kne, h.knd, hl⟩
theorem Lay.turns (h : Lay w P M1 M2 T C F) (ht : Turns G w w') (hd : ∀ k, F k → ¬ G k) : Lay w' P M1 M2 T C F := ⟨h.toMem.turns ht hd, h.full, h.all⟩
theorem Lay.kept (h : Lay w P M1 M2 T C F) (hb : Below w.heap.size w w') : Lay w' P M1 M2 T C F := h.turns (Turns.of_below (F := fun _ => False) hb) fun _ _ h => h
theorem Lay.more (h : Lay w P M1 M2 T C F) (hm : ∀ k, F k → G k) (hl : ∀ k, G k → k < w.heap.size) : Lay w P M1 M2 T C G := ⟨h.toMem.more hm hl, h.full, h.all⟩
theorem Mem.cell0 (h : Mem w P M1 M2 T C F) : w.cell? ⟨P, 0, none⟩ = some (.map (some M1)) := by rw [AgAt.cell h.at_ 0]; rfl
theorem Mem.cell1 (h : Mem w P M1 M2 T C F) : w.cell? ⟨P, 1, none⟩ = some (.map (some M2)) := by rw [AgAt.cell h.at_ 1]; rfl
theorem Mem.nd (h : Mem w P M1 M2 T C F) : (T.map Prod.fst).Nodup := by
  have := h.spots.nd
  unfold Go.Proofs.YthifdefjmfakgaaGreat.spots at this
  rwa [List.map_map] at this
theorem Mem.wf (h : Mem w P M1 M2 T C F) : ∀ e ∈ T, StWf e.1 := fun e he => h.spots.wf (e.1, spV e.2) (List.mem_map.2 ⟨e, he, rfl⟩)
theorem Mem.cnd (h : Mem w P M1 M2 T C F) : (C.map Kid.p).Nodup := by
  have := h.below.nd
  unfold belows at this
  rwa [List.map_map] at this
theorem Mem.look1 (h : Mem w P M1 M2 T C F) (n : Qm.St) (hn : StWf n) :
    (Instr.lookup 131 (.map (some M1)) (snV n) true).run Tryz.prog w = .ok (.tuple #[.agg (spA ((Tm.look T n).getD zS)), .bool (Tm.look T n).isSome]) w := by
  rw [h.spots.lookOk mtSpots n hn, lk_spots]
  cases Tm.look T n <;> rfl
/-- the map below a place -/
def kidOf (C : List Kid) (p : Qm.St) : Option Nat := (C.find? fun c => c.p == p).map Kid.b
theorem lk_belows (C : List Kid) (p : Qm.St) : (lk (belows C) p).getD (.map none) = .map (kidOf C p) := by
  unfold lk belows kidOf
  rw [List.find?_map]
  cases h : C.find? ((fun e : Qm.St × Value => e.1 == p) ∘ fun c => (c.p, Value.map (some c.b))) with
  | none =>
    have : C.find? (fun c => c.p == p) = none := h
    rw [this]
    rfl
  | some a =>
    have : C.find? (fun c => c.p == p) = some a := h
    rw [this]
    rfl
theorem Mem.lookB (h : Mem w P M1 M2 T C F) (n : Qm.St) (hn : StWf n) :
    (Instr.lookup 90 (.map (some M2)) (snV n) false).run Tryz.prog w = .ok (.map (kidOf C n)) w := by
  rw [h.below.look mtBelow n hn, lk_belows]
theorem kidOf_some {C : List Kid} {p : Qm.St} {b : Nat} (h : kidOf C p = some b) : ∃ c ∈ C, c.p = p ∧ c.b = b := by
  unfold kidOf at h
  obtain ⟨c, hc, rfl⟩ := Option.map_eq_some_iff.1 h
  have h1 := List.find?_some hc
  exact ⟨c, List.mem_of_find?_eq_some hc, by simpa using h1, rfl⟩
theorem kidOf_none {C : List Kid} {p : Qm.St} (h : kidOf C p = none) : ∀ c ∈ C, c.p ≠ p := by
  unfold kidOf at h
  rw [Option.map_eq_none_iff, List.find?_eq_none] at h
  intro c hc
  simpa using h c hc
theorem one_of {α β : Type} {f : α → β} {C : List α} (nd : (C.map f).Nodup) {c c' : α} (h : c ∈ C) (h' : c' ∈ C) (e : f c = f c') : c = c' := by
  induction C with
  | nil => cases h
  | cons a C ih =>
    rw [List.map_cons, List.nodup_cons] at nd
    rcases List.mem_cons.1 h with h1 | h1 <;> rcases List.mem_cons.1 h' with h2 | h2
    · rw [h1, h2]
    · exact absurd (List.mem_map.2 ⟨c', h2, by rw [← e, h1]⟩) nd.1
    · exact absurd (List.mem_map.2 ⟨c, h1, by rw [e, h2]⟩) nd.1
    · exact ih nd.2 h1 h2
theorem kidOf_of {C : List Kid} (nd : (C.map Kid.p).Nodup) {c : Kid} (h : c ∈ C) : kidOf C c.p = some c.b := by
  cases h2 : kidOf C c.p with
  | none => exact absurd rfl (kidOf_none h2 c h)
  | some b =>
    obtain ⟨c', h3, h4, rfl⟩ := kidOf_some h2
    rw [one_of nd h3 h h4]
theorem Lay.kidNone (h : Lay w P M1 M2 T C F) {p : Qm.St} (hk : kidOf C p = none) : kids T p = [] := by
  rw [Tm.kids_nil]
  intro e he hh
  obtain ⟨c, hc, h2⟩ := h.all e he
  exact kidOf_none hk c hc (h2.trans hh)
theorem Lay.kidSome (h : Lay w P M1 M2 T C F) {p : Qm.St} {b : Nat} (hk : kidOf C p = some b) : ∃ c ∈ C, c.p = p ∧ c.b = b ∧ SMap w b (nodesOf c.l) ∧ c.l ≠ [] ∧ c.l.Perm (kids T p) := by
  obtain ⟨c, hc, rfl, rfl⟩ := kidOf_some hk
  have h1 := h.inner c hc
  have h2 : c.l.Nodup := by
    have := h1.nd
    unfold nodesOf at this
    rw [List.map_map, show (Prod.fst ∘ fun n : Qm.St => (n, Value.agg #[])) = id from rfl, List.map_id] at this
    exact this
  refine ⟨c, hc, rfl, rfl, h1, (h.full c hc).1, ?_⟩
  exact (List.perm_ext_iff_of_nodup h2 (Tm.kids_nodup h.nd _)).2 (h.full c hc).2
end

/-- an empty tree -/
def Newed (w : World) (e : Ending) (w' : World) : Prop := ∃ P M1 M2, e = .returned (.pointer (some ⟨P, 0, none⟩)) ∧ Lay w' P M1 M2 [] [] (fun k => w.heap.size ≤ k ∧ k < w'.heap.size) ∧ Below w.heap.size w w'
theorem new_any (w : World) : Calls Tryz.prog 29 #[] w (Newed w) := by
  have h1 : ∀ (w : World) (o : Obj), (w.alloc o).heap.size = w.heap.size + 1 := fun w o => by simp
  have b1 : ∀ (w : World) (o : Obj), Below w.heap.size w (w.alloc o) := fun w o => (Below.refl _ _).alloc (Nat.le_refl _) _
  have HE := Lib.hid (show Lay (((w.alloc (.map #[] 0)).alloc (.map #[] 0)).alloc (.cells #[.map (some w.heap.size), .map (some (w.heap.size + 1))] 133)) (w.heap.size + 1 + 1) w.heap.size (w.heap.size + 1) [] []
      (fun k => w.heap.size ≤ k ∧ k < (((w.alloc (.map #[] 0)).alloc (.map #[] 0)).alloc (.cells #[.map (some w.heap.size), .map (some (w.heap.size + 1))] 133)).heap.size) ∧
      Below w.heap.size w (((w.alloc (.map #[] 0)).alloc (.map #[] 0)).alloc (.cells #[.map (some w.heap.size), .map (some (w.heap.size + 1))] 133)) from by
    have k2 := SMap.made (w.alloc (.map #[] 0))
    have k3 := AgAt.new ((w.alloc (.map #[] 0)).alloc (.map #[] 0)) #[.map (some w.heap.size), .map (some (w.heap.size + 1))] 133
    simp only [h1] at k2 k3
    refine ⟨⟨⟨k3, ((SMap.made w).below (b1 _ _)).below (b1 _ _), k2.below (b1 _ _), fun _ h => (by cases h), ?_, ?_, ?_, fun _ h => (by cases h), ?_, fun _ h => (by cases h), List.nodup_nil, fun k hk => hk.2⟩, fun _ h => (by cases h), fun _ h => (by cases h)⟩, ?_⟩
    · simp only [h1]; omega
    · simp only [h1]; omega
    · simp only [h1]; omega
    · omega
    · exact (b1 _ _).trans (((b1 _ _).mono (by simp)).trans ((b1 _ _).mono (by simp; omega))))
  have hmm := @run_makeMap Tryz.prog
  clear h1 b1
  go_enter Tryz.func29, Tryz.ntmps29
  go_wp2
  go_ret
  exact ⟨_, _, _, rfl, HE.out.1, HE.out.2⟩

theorem map_neq (w : World) (M : Nat) : Sem.run Tryz.prog (binOp BinOp.neq 131 (Value.map (some M)) (Value.map none)) w = .ok (.bool true) w := by kernel_rfl
theorem ours_any {P M1 M2 : Nat} {T : Tr} {C : List Kid} {F : Nat → Prop} (w : World) (h : Lay w P M1 M2 T C F) :
    Calls Tryz.prog 68 #[.pointer (some ⟨P, 0, none⟩)] w fun e w' => e = .returned (.bool true) ∧ w = w' := by
  have y0 := h.cell0
  have hne := map_neq w M1
  clear h
  go_enter Tryz.func68, Tryz.ntmps68
  go_wp2
  go_ret
  exact ⟨rfl, rfl⟩

set_option maxRecDepth 100000 in
set_option maxHeartbeats 1000000 in
theorem top_any (n : Qm.St) (w : World) : Calls Tryz.prog 99 #[snV n] w fun e w' => e = .returned (.bool (Tm.top n)) ∧ Below w.heap.size w w' := by
  obtain ⟨t, r⟩ := n
  have HB := Lib.hid ((Below.refl w.heap.size w).alloc (Nat.le_refl _) (.cells #[.int .i64 t, .int .i64 r] 35))
  have HT := Lib.hid (AgAt.new w #[.int .i64 t, .int .i64 r] 35)
  have HR := Lib.hid (show Tm.top (t, r) = (okPlace t r && !okNode t r) from rfl)
  rw [HR.out]
  clear HR
  have HP := Lib.hid (fun W => oplace_any t r W)
  have HQ := Lib.hid (fun W => onode_any t r W)
  generalize okNode t r = nb at *
  generalize okPlace t r = pb at *
  cases pb with
  | false =>
    go_enter Tryz.func99, Tryz.ntmps99
    go_wp2_with fail
    refine (HP.out _).mono ?_
    rintro e w1 ⟨rfl, hb1⟩
    have HB1 := Lib.hid (HB.out.trans (hb1.mono HB.out.size))
    clear hb1
    go_wp2
    go_ret
    exact ⟨rfl, HB1.out⟩
  | true =>
    go_enter Tryz.func99, Tryz.ntmps99
    go_wp2_with fail
    refine (HP.out _).mono ?_
    rintro e w1 ⟨rfl, hb1⟩
    have HB1 := Lib.hid (HB.out.trans (hb1.mono HB.out.size))
    have HT1 := Lib.hid (AgAt.kept HT.out hb1)
    clear hb1
    go_wp2_with (refine wpList_load_ag stT (by kernel_rfl) _ rfl _ rfl (A := #[.int .i64 t, .int .i64 r]) rfl HT1.out ?_)
    refine (HQ.out _).mono ?_
    rintro e w2 ⟨rfl, hb2⟩
    have HB2 := Lib.hid (HB1.out.trans (hb2.mono HB1.out.size))
    clear hb2
    go_wp2
    go_ret
    exact ⟨rfl, HB2.out⟩

/-- a stamp or text out of a struct's block -/
theorem AgAt.range {w : World} {b : Nat} {A : Array Value} (h : AgAt w b A) (o : Nat) (cs : List Value) (hc : ∀ j v, cs[j]? = some v → A[o + j]? = some v) : w.rangeAt b o cs := fun j v hv => by
  rw [AgAt.cell h]
  exact hc j v hv
theorem wpList_load_part {t : TypeId} {n : Nat} (V : AgT t n) {ops : Array Oper} {rest : List Oper} {o : Oper} {a : Act} {w : World} {Q : Exit → Act → World → Prop} (hgd : o.guard = none) (y : Operand) (ho : o.op = .load t y)
    (b i : Nat) (hx : a.eval y = .pointer (some ⟨b, i, none⟩)) (cs : List Value) (hn : cs.length = n) {A : Array Value} (hv : AgAt w b A) (hc : ∀ j v, cs[j]? = some v → A[i + j]? = some v)
    (h : wpList Tryz.prog ops Q rest (a.put o.dst (.agg cs.toArray)) w) : wpList Tryz.prog ops Q (o :: rest) a w := by
  obtain ⟨d, hu⟩ := V.und
  exact wpList_load_mid hgd t y ho b i hx cs _ (hv.range i cs hc) hu rfl (by rw [hn]; exact V.size) h
theorem exec_load_part {t : TypeId} {n : Nat} (V : AgT t n) {c : Act} {o : Oper} {x : Operand} {w : World} (ho : o.op = .load t x) {b i : Nat} (hx : c.eval x = .pointer (some ⟨b, i, none⟩)) (cs : List Value) (hn : cs.length = n) {A : Array Value} (hv : AgAt w b A) (hc : ∀ j v, cs[j]? = some v → A[i + j]? = some v) :
    (execOp c.eval o).run Tryz.prog w = .ok (.value (.agg cs.toArray)) w := by
  obtain ⟨d, hu⟩ := V.und
  unfold execOp
  simp only [ho, hx, Sem.run_bind, run_loadAt_mid w b i t cs _ (hv.range i cs hc) hu rfl (by rw [hn]; exact V.size), Result.andThen_ok, Sem.run_pure]
theorem spPar {s : Sp} : ∀ j v, [Value.int .i64 s.1.1, .int .i64 s.1.2][j]? = some v → (spA s)[0 + j]? = some v := fun j v h => by
  match j, h with
  | 0, h => exact h
  | 1, h => exact h

set_option maxRecDepth 100000 in
set_option maxHeartbeats 1000000 in
theorem rightSp_any (s : Sp) (w : World) (hk : s.2.size ≤ 140737488355328) : Calls Tryz.prog 160 #[spV s] w fun e w' => e = .returned (.bool (Tm.rightSp s)) ∧ Below w.heap.size w w' := by
  have HB := Lib.hid ((Below.refl w.heap.size w).alloc (Nat.le_refl _) (.cells (spA s) 72))
  have HT := Lib.hid (AgAt.new w (spA s) 72)
  have HR := Lib.hid (show Tm.rightSp s = (okPlace s.1.1 s.1.2 && Km.rightB s.2.data.toList) from rfl)
  rw [HR.out]
  clear HR
  have HP := Lib.hid (fun W => oplace_any s.1.1 s.1.2 W)
  have HQ := Lib.hid (fun W => kright_any s.2 W hk)
  clear hk
  generalize Km.rightB s.2.data.toList = nb at *
  generalize okPlace s.1.1 s.1.2 = pb at *
  cases pb with
  | false =>
    go_enter Tryz.func160, Tryz.ntmps160
    go_wp2_with (refine wpList_load_part stT rfl _ rfl _ 0 rfl [.int .i64 s.1.1, .int .i64 s.1.2] rfl HT.out spPar ?_)
    refine (HP.out _).mono ?_
    rintro e w1 ⟨rfl, hb1⟩
    have HB1 := Lib.hid (HB.out.trans (hb1.mono HB.out.size))
    clear hb1
    go_wp2
    go_ret
    exact ⟨rfl, HB1.out⟩
  | true =>
    go_enter Tryz.func160, Tryz.ntmps160
    go_wp2_with (refine wpList_load_part stT rfl _ rfl _ 0 rfl [.int .i64 s.1.1, .int .i64 s.1.2] rfl HT.out spPar ?_)
    refine (HP.out _).mono ?_
    rintro e w1 ⟨rfl, hb1⟩
    have HB1 := Lib.hid (HB.out.trans (hb1.mono HB.out.size))
    have y2 : w1.cell? ⟨w.heap.size, 2, none⟩ = some (.string s.2) := by rw [AgAt.cell (AgAt.kept HT.out hb1) 2]; rfl
    clear hb1
    go_wp2_with fail
    refine (HQ.out _).mono ?_
    rintro e w2 ⟨rfl, rfl⟩
    go_wp2
    go_ret
    exact ⟨rfl, HB1.out⟩

set_option maxRecDepth 100000 in
set_option maxHeartbeats 4000000 in
theorem has_any {P M1 M2 : Nat} {T : Tr} {C : List Kid} {F : Nat → Prop} (n : Qm.St) (w : World) (h : Lay w P M1 M2 T C F) (hn : StWf n) :
    Calls Tryz.prog 61 #[.pointer (some ⟨P, 0, none⟩), snV n] w fun e w' => e = .returned (.bool (has T n)) ∧ Below w.heap.size w w' := by
  have hb := (Below.refl w.heap.size w).alloc (Nat.le_refl _) (.cells #[.int .i64 n.1, .int .i64 n.2] 35)
  have HN := Lib.hid (AgAt.new w #[.int .i64 n.1, .int .i64 n.2] 35)
  have HL := Lib.hid (h.kept hb)
  have HB := Lib.hid hb
  have HWF := Lib.hid hn
  have HR := Lib.hid (show has T n = ((Tm.look T n).isSome || Tm.top n) from rfl)
  obtain ⟨ib, hib⟩ : ∃ b, b = (Tm.look T n).isSome := ⟨_, rfl⟩
  obtain ⟨va, hva⟩ : ∃ s, s = (Tm.look T n).getD zS := ⟨_, rfl⟩
  have HIB := Lib.hid hib
  have HVA := Lib.hid hva
  rw [HR.out, ← hib]
  have HTOP := Lib.hid (fun W => top_any n W)
  generalize Tm.top n = tb at *
  clear h hb hn HR hib hva
  go_enter Tryz.func61, Tryz.ntmps61
  go_wp2_with fail
  refine (ours_any _ HL.out).mono ?_
  rintro e w1 ⟨rfl, rfl⟩
  go_upto_region 3 with fail
  generalize w.alloc (.cells #[.int .i64 n.1, .int .i64 n.2] 35) = w1 at *
  refine wp_region_held_drew (S := fun W => Below w1.heap.size w1 W) (by kernel_rfl) (Below.refl _ _).drew (fun hS => ?_)
  generalize w1.drew = wd at *
  refine wpAnyH_take (i := 0) (v := ?_) rfl (by kernel_rfl) (by kernel_rfl) (by kernel_rfl) (fun _ _ _ h => h) (Or.inl ⟨by kernel_rfl, ?_⟩) hS ?_
  rotate_left
  · intro W hSW
    go_simp
    all_goals with_reducible rfl
  refine wpAnyH_take (i := 1) (v := ?_) rfl (by kernel_rfl) (by kernel_rfl) (by kernel_rfl) (fun _ _ _ h => h) (Or.inl ⟨by kernel_rfl, ?_⟩) hS ?_
  rotate_left
  · intro W hSW
    go_simp
    all_goals with_reducible rfl
  refine wpAnyH_take (i := 2) (v := ?_) rfl (by kernel_rfl) (by kernel_rfl) (by kernel_rfl) (fun _ _ _ h => h) (Or.inl ⟨by kernel_rfl, ?_⟩) hS ?_
  rotate_left
  · intro W hSW
    go_simp
    all_goals with_reducible rfl
  refine wpAnyH_take (i := 3) (v := ?_) rfl (by kernel_rfl) (by kernel_rfl) (by kernel_rfl) (fun _ _ _ h => h) (Or.inl ⟨by kernel_rfl, ?_⟩) hS ?_
  rotate_left
  · intro W hSW
    have y0 := (HL.out.kept hSW).cell0
    go_simp
    all_goals with_reducible rfl
  go_simp
  refine wpAnyH_take (i := 4) (v := snV n) rfl (by kernel_rfl) (by kernel_rfl) (by kernel_rfl) (fun _ _ _ h => h) (Or.inl ⟨by kernel_rfl, fun W hSW => exec_load_ag stT rfl rfl rfl (AgAt.kept HN.out hSW)⟩) hS ?_
  go_simp
  refine wpAnyH_take (i := 5) (v := .tuple #[.agg (spA va), .bool ib]) rfl (by kernel_rfl) (by kernel_rfl) (by kernel_rfl) (fun _ _ _ h => h) (Or.inl ⟨by kernel_rfl, fun W hSW => exec_lookup rfl rfl rfl (by rw [HIB.out, HVA.out]; exact (HL.out.kept hSW).look1 _ HWF.out)⟩) hS ?_
  refine wpAnyH_take (i := 6) (v := ?_) rfl (by kernel_rfl) (by kernel_rfl) (by kernel_rfl) (fun _ _ _ h => h) (Or.inl ⟨by kernel_rfl, ?_⟩) hS ?_
  rotate_left
  · intro W hSW
    go_simp
    all_goals with_reducible rfl
  refine wpAnyH_take (i := 7) (v := ?_) rfl (by kernel_rfl) (by kernel_rfl) (by kernel_rfl) (fun _ _ _ h => h) (Or.inl ⟨by kernel_rfl, ?_⟩) hS ?_
  rotate_left
  · intro W hSW
    go_simp
    all_goals with_reducible rfl
  refine wpAnyH_take (i := 8) (v := ?_) rfl (by kernel_rfl) (by kernel_rfl) (by kernel_rfl) (fun _ _ _ h => h) (Or.inl ⟨by kernel_rfl, ?_⟩) hS ?_
  rotate_left
  · intro W hSW
    go_simp
    all_goals with_reducible rfl
  go_simp
  refine wpAnyH_ready (rs := [9]) (by kernel_rfl) (by simp) ?_
  refine AllReadyH.cons rfl (fun K hK => ?_) AllReadyH.nil
  have HS0 := Lib.hid hS
  go_simp
  have hba := (Below.refl wd.heap.size wd).alloc (Nat.le_refl _) (.cells #[.int .i64 0, .int .i64 0, .string ⟨#[]⟩] 72)
  refine hK.out _ _ (hS.trans (hba.mono hS.size)) (fun hS => ?_)
  clear hK K hba
  refine wpAnyH_ready (rs := [10]) (by kernel_rfl) (by simp) ?_
  refine AllReadyH.cons rfl (fun K hK => ?_) AllReadyH.nil
  refine step_of (by kernel_rfl) ?_
  refine wp_store_newag spT _ _ rfl rfl _ (A := spA va) rfl rfl rfl (spA_one _) ?_
  intro w5 hv5 hb5
  have HV5 := Lib.hid hv5
  have HB5 := Lib.hid hb5
  refine hK.out _ _ (HS0.out.trans (hb5.mono HS0.out.size)) (fun hS => ?_)
  clear hK K hv5 hb5
  refine wpAnyH_take (i := 11) (v := ?_) rfl (by kernel_rfl) (by kernel_rfl) (by kernel_rfl) (fun _ _ _ h => h) (Or.inl ⟨by kernel_rfl, ?_⟩) hS ?_
  rotate_left
  · intro W hSW
    go_simp
    all_goals with_reducible rfl
  go_simp
  refine wpAnyH_done (by kernel_rfl) ?_ _
  go_simp
  have HB5a := Lib.hid (HB.out.trans (hS.mono HB.out.size))
  have HN5 := Lib.hid (AgAt.kept HN.out hS)
  clear hS HV5 HB5 HS0 HL HIB HVA
  cases ib with
  | true =>
    go_wp2
    go_ret
    exact ⟨rfl, HB5a.out⟩
  | false =>
    go_wp2_with (refine wpList_load_ag stT (by kernel_rfl) _ rfl _ rfl (A := #[.int .i64 n.1, .int .i64 n.2]) rfl HN5.out ?_)
    refine (HTOP.out _).mono ?_
    rintro e w6 ⟨rfl, hb6⟩
    have HB6 := Lib.hid (HB5a.out.trans (hb6.mono HB5a.out.size))
    clear hb6
    go_wp2
    go_ret
    exact ⟨rfl, HB6.out⟩
end Go.Proofs.YthifdefjmfakgaaGreat
