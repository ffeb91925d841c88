/-
  MEMORY of layer 5: what a call turns ('Turns F': blocks of F, and new ones), rows of stamps and of items, the row under a heap.
  No conditions but sizes.
-/
import Derived.Test.YtcenmkcencdlcaaGC
import Derived.Test.YtcenmkcencdlcaaQMath
import Derived.Laws.OwnMore
namespace Go.Proofs.Ytcenmkcencdlcaa
open Go.RowKit

/-- of what was there nothing turns but blocks of F -/
structure Turns (F : Nat → Prop) (w w' : World) : Prop where
  os : w'.os = w.os
  tape : w'.tape = w.tape
  output : w'.output = w.output
  size : w.heap.size ≤ w'.heap.size
  block : ∀ k, k < w.heap.size → ¬ F k → w'.heap[k]? = w.heap[k]?
theorem Turns.refl (F : Nat → Prop) (w : World) : Turns F w w := ⟨rfl, rfl, rfl, Nat.le_refl _, fun _ _ _ => rfl⟩
theorem Turns.trans {F : Nat → Prop} {a b c : World} (h : Turns F a b) (k : Turns (fun i => F i ∨ a.heap.size ≤ i) b c) : Turns F a c :=
  ⟨k.os.trans h.os, k.tape.trans h.tape, k.output.trans h.output, Nat.le_trans h.size k.size, fun i hi hf => (k.block i (Nat.lt_of_lt_of_le hi h.size) (fun x => x.elim hf fun y => by omega)).trans (h.block i hi hf)⟩
theorem Turns.mono {F G : Nat → Prop} {a b : World} (h : Turns F a b) (hm : ∀ k, k < a.heap.size → F k → G k) : Turns G a b := ⟨h.os, h.tape, h.output, h.size, fun k hk hg => h.block k hk fun hf => hg (hm k hk hf)⟩
theorem Turns.of_below {F : Nat → Prop} {w w' : World} (h : Below w.heap.size w w') : Turns F w w' := ⟨h.os, h.tape, h.output, h.size, fun k hk _ => h.block k hk⟩
theorem Turns.of_base {B : Nat} {w w' : World} (h : Below B w w') : Turns (fun k => B ≤ k) w w' := ⟨h.os, h.tape, h.output, h.size, fun k _ hf => h.block k (by omega)⟩
theorem Turns.below {F : Nat → Prop} {w w' : World} (h : Turns F w w') {B : Nat} (hF : ∀ k, k < w.heap.size → F k → B ≤ k) (hB : B ≤ w.heap.size) : Below B w w' :=
  ⟨h.os, h.tape, h.output, h.size, fun k hk => h.block k (by omega) fun hf => by have := hF k (by omega) hf; omega⟩
theorem Turns.of_grown {w w' : World} {row : Option Nat} (h : w.grownBy w' row) : Turns (fun k => row = some k) w w' := ⟨h.os, h.tape, h.output, h.size, fun k hk hf => h.block k hk fun e => hf e.symm⟩
theorem Turns.cell {F : Nat → Prop} {w w' : World} (h : Turns F w w') {p : Addr} {v : Value} (hc : w.cell? p = some v) (hf : ¬ F p.block) : w'.cell? p = some v := by
  rw [World.cell?_of_block (w := w) (h.block p.block (cell_lt hc) hf)]; exact hc
theorem Turns.frozen {F : Nat → Prop} {w w' : World} (h : Turns F w w') {p : Addr} (hl : p.block < w.heap.size) (hf : ¬ F p.block) : w'.frozen? p = w.frozen? p :=
  World.frozen?_of_block (w := w) (h.block p.block hl hf)
theorem Turns.own {F : Nat → Prop} {w w' : World} (h : Turns F w w') {B : Nat} {E : TypeId} {k : Nat} {v : Value} {n : Nat} {xs : List Value} (ho : w.ownsRow B E k v n xs) (hf : ∀ g, v.ownBlock = some g → ¬ F g) : w'.ownsRow B E k v n xs := by
  refine ⟨ho.1, ?_⟩
  rcases ho.2 with h2 | ⟨g, cap, cur, hv, hg, hh, r⟩
  · exact Or.inl h2
  · refine Or.inr ⟨g, cap, cur, hv, hg, ?_, r⟩
    rw [h.block g (Array.getElem?_eq_some_iff.1 hh).1 (hf g (by rw [hv]; rfl))]
    exact hh
theorem Turns.rd {F : Nat → Prop} {w w' : World} (h : Turns F w w') {p : Option Addr} {us : List Value} (hr : Rd w p us) (hf : ∀ a, p = some a → ¬ F a.block) : Rd w' p us := by
  intro h0
  obtain ⟨b, o, rfl, hc⟩ := hr h0
  exact ⟨b, o, rfl, fun i u hu => h.cell (hc i u hu) (hf ⟨b, o, none⟩ rfl)⟩
theorem Rd.below {w w' : World} {p : Option Addr} {us : List Value} (h : Rd w p us) (hb : Below w.heap.size w w') : Rd w' p us :=
  (Turns.of_below (F := fun _ => False) hb).rd h fun _ _ h => h
theorem Rd.base {w w' : World} {p : Option Addr} {us : List Value} {B : Nat} (h : Rd w p us) (hb : Below B w w') (hp : ∀ a, p = some a → a.block < B) : Rd w' p us :=
  (Turns.of_base hb).rd h fun a ha => by have := hp a ha; omega
theorem Rd.cell {w : World} {b o : Nat} {us : List Value} (h : Rd w (some ⟨b, o, none⟩) us) {i : Nat} {u : Value} (hi : us[i]? = some u) : w.cell? ⟨b, o + i, none⟩ = some u := by
  obtain ⟨b', o', e, hc⟩ := h (Nat.lt_of_le_of_lt (Nat.zero_le _) (List.getElem?_eq_some_iff.1 hi).1)
  simp only [Option.some.injEq, Addr.mk.injEq] at e
  obtain ⟨rfl, rfl, -⟩ := e
  exact hc i u hi
theorem Rd.nil (w : World) (p : Option Addr) : Rd w p [] := fun h => absurd h (Nat.lt_irrefl 0)
theorem Rd.addr {w : World} {p : Option Addr} {us : List Value} (h : Rd w p us) (h0 : 0 < us.length) : ∃ b o, p = some ⟨b, o, none⟩ ∧ b < w.heap.size := by
  obtain ⟨b, o, rfl, hc⟩ := h h0
  exact ⟨b, o, rfl, cell_lt (hc 0 _ (List.getElem?_eq_getElem h0))⟩

/-- the cells of a row of stamps -/
def stCells (l : List Qm.St) : List Value := l.flatMap fun x => [.int .i64 x.1, .int .i64 x.2]
/-- the cells of a row of items -/
def itCells (l : List Qm.It) : List Value := l.flatMap fun x => [.int .i64 x.1.1, .int .i64 x.1.2, .int .i64 x.2]
theorem stCells_length (l : List Qm.St) : (stCells l).length = l.length * 2 := by
  induction l with
  | nil => rfl
  | cons a l ih => simp only [stCells, List.flatMap_cons, List.length_append, List.length_cons, List.length_nil] at ih ⊢; omega
theorem itCells_length (l : List Qm.It) : (itCells l).length = l.length * 3 := by
  induction l with
  | nil => rfl
  | cons a l ih => simp only [itCells, List.flatMap_cons, List.length_append, List.length_cons, List.length_nil] at ih ⊢; omega
theorem stCells_append (l m : List Qm.St) : stCells (l ++ m) = stCells l ++ stCells m := by simp [stCells]
theorem itCells_append (l m : List Qm.It) : itCells (l ++ m) = itCells l ++ itCells m := by simp [itCells]
theorem stCells_one : ∀ {l : List Qm.St}, ∀ u ∈ stCells l, u.oneCell' = true := by
  intro l u hu
  obtain ⟨x, _, hx⟩ := List.mem_flatMap.1 hu
  simp at hx
  rcases hx with rfl | rfl <;> rfl
theorem itCells_one : ∀ {l : List Qm.It}, ∀ u ∈ itCells l, u.oneCell' = true := by
  intro l u hu
  obtain ⟨x, _, hx⟩ := List.mem_flatMap.1 hu
  simp at hx
  rcases hx with rfl | rfl | rfl <;> rfl
theorem stCells_get (l : List Qm.St) (i : Nat) (h : i < l.length) : (stCells l)[i * 2]? = some (.int .i64 (Qm.stOf l i).1) ∧ (stCells l)[i * 2 + 1]? = some (.int .i64 (Qm.stOf l i).2) := by
  induction l generalizing i with
  | nil => simp at h
  | cons a l ih =>
    cases i with
    | zero => simp [stCells, Qm.stOf]
    | succ i =>
      have := ih i (by simpa using h)
      have e : (i + 1) * 2 = i * 2 + 1 + 1 := by omega
      rw [e]
      simpa [stCells, Qm.stOf] using this
theorem itCells_get (l : List Qm.It) (i : Nat) (h : i < l.length) : (itCells l)[i * 3]? = some (.int .i64 (Qm.itAt l i).1.1) ∧ (itCells l)[i * 3 + 1]? = some (.int .i64 (Qm.itAt l i).1.2) ∧ (itCells l)[i * 3 + 2]? = some (.int .i64 (Qm.itAt l i).2) := by
  induction l generalizing i with
  | nil => simp at h
  | cons a l ih =>
    cases i with
    | zero => simp [itCells, Qm.itAt]
    | succ i =>
      have := ih i (by simpa using h)
      have e : (i + 1) * 3 = i * 3 + 1 + 1 + 1 := by omega
      rw [e]
      simpa [itCells, Qm.itAt] using this
theorem stCells_set (l : List Qm.St) (i : Nat) (x : Qm.St) : ((stCells l).set (i * 2) (.int .i64 x.1)).set (i * 2 + 1) (.int .i64 x.2) = stCells (l.set i x) := by
  induction l generalizing i with
  | nil => simp [stCells]
  | cons a l ih =>
    cases i with
    | zero => simp [stCells]
    | succ i =>
      have := ih i
      have e : (i + 1) * 2 = i * 2 + 1 + 1 := by omega
      rw [e]
      simpa [stCells] using this
theorem itCells_set (l : List Qm.It) (i : Nat) (x : Qm.It) : (((itCells l).set (i * 3) (.int .i64 x.1.1)).set (i * 3 + 1) (.int .i64 x.1.2)).set (i * 3 + 2) (.int .i64 x.2) = itCells (l.set i x) := by
  induction l generalizing i with
  | nil => simp [itCells]
  | cons a l ih =>
    cases i with
    | zero => simp [itCells]
    | succ i =>
      have := ih i
      have e : (i + 1) * 3 = i * 3 + 1 + 1 + 1 := by omega
      rw [e]
      simpa [itCells] using this
theorem stCells_take (l : List Qm.St) (n : Nat) : (stCells l).take (n * 2) = stCells (l.take n) := by
  induction l generalizing n with
  | nil => simp [stCells]
  | cons a l ih =>
    cases n with
    | zero => simp [stCells]
    | succ i =>
      have := ih i
      have e : (i + 1) * 2 = i * 2 + 1 + 1 := by omega
      rw [e]
      simpa [stCells] using this
theorem itCells_take (l : List Qm.It) (n : Nat) : (itCells l).take (n * 3) = itCells (l.take n) := by
  induction l generalizing n with
  | nil => simp [itCells]
  | cons a l ih =>
    cases n with
    | zero => simp [itCells]
    | succ i =>
      have := ih i
      have e : (i + 1) * 3 = i * 3 + 1 + 1 + 1 := by omega
      rw [e]
      simpa [itCells] using this
theorem stCells_drop (l : List Qm.St) (n : Nat) : (stCells l).drop (n * 2) = stCells (l.drop n) := by
  induction l generalizing n with
  | nil => simp [stCells]
  | cons a l ih =>
    cases n with
    | zero => simp [stCells]
    | succ i =>
      have := ih i
      have e : (i + 1) * 2 = i * 2 + 1 + 1 := by omega
      rw [e]
      simpa [stCells] using this
theorem itCells_drop (l : List Qm.It) (n : Nat) : (itCells l).drop (n * 3) = itCells (l.drop n) := by
  induction l generalizing n with
  | nil => simp [itCells]
  | cons a l ih =>
    cases n with
    | zero => simp [itCells]
    | succ i =>
      have := ih i
      have e : (i + 1) * 3 = i * 3 + 1 + 1 + 1 := by omega
      rw [e]
      simpa [itCells] using this

/-- a row of stamps, read at place i -/
theorem Rd.st {w : World} {b o : Nat} {l : List Qm.St} (h : Rd w (some ⟨b, o, none⟩) (stCells l)) (i : Nat) (hi : i < l.length) :
    w.cell? ⟨b, o + i * 2, none⟩ = some (.int .i64 (Qm.stOf l i).1) ∧ w.cell? ⟨b, o + i * 2 + 1, none⟩ = some (.int .i64 (Qm.stOf l i).2) := by
  obtain ⟨h0, h1⟩ := stCells_get l i hi
  exact ⟨h.cell h0, by rw [Nat.add_assoc]; exact h.cell h1⟩
/-- a row of items, read at place i -/
theorem Rd.it {w : World} {b o : Nat} {l : List Qm.It} (h : Rd w (some ⟨b, o, none⟩) (itCells l)) (i : Nat) (hi : i < l.length) :
    w.cell? ⟨b, o + i * 3, none⟩ = some (.int .i64 (Qm.itAt l i).1.1) ∧ w.cell? ⟨b, o + i * 3 + 1, none⟩ = some (.int .i64 (Qm.itAt l i).1.2) ∧ w.cell? ⟨b, o + i * 3 + 2, none⟩ = some (.int .i64 (Qm.itAt l i).2) := by
  obtain ⟨h0, h1, h2⟩ := itCells_get l i hi
  exact ⟨h.cell h0, by rw [Nat.add_assoc]; exact h.cell h1, by rw [Nat.add_assoc]; exact h.cell h2⟩
theorem Rd.take {w : World} {p : Option Addr} {us : List Value} (h : Rd w p us) (n : Nat) : Rd w p (us.take n) := by
  intro h0
  obtain ⟨b, o, rfl, hc⟩ := h (by simp at h0; omega)
  refine ⟨b, o, rfl, fun i u hu => hc i u ?_⟩
  rw [List.getElem?_take] at hu
  split at hu
  · exact hu
  · cases hu
theorem Rd.drop {w : World} {b o : Nat} {us : List Value} (h : Rd w (some ⟨b, o, none⟩) us) (n : Nat) : Rd w (some ⟨b, o + n, none⟩) (us.drop n) := by
  intro _
  refine ⟨b, o + n, rfl, fun i u hu => ?_⟩
  rw [List.getElem?_drop] at hu
  rw [Nat.add_assoc]
  exact h.cell hu

/-- an own row as a slice that reads as its cells -/
theorem own_rd {w : World} {B : Nat} {E : TypeId} {k : Nat} {v : Value} {n : Nat} {xs : List Value} (h : w.ownsRow B E k v n xs) :
    ∃ p c, v = .slice p n c ∧ Rd w p xs ∧ n ≤ c ∧ c ≤ maxLen ∧ (p = none → c = 0) ∧ (∀ a, p = some a → B ≤ a.block ∧ a.block < w.heap.size ∧ v.ownBlock = some a.block ∧ a = ⟨a.block, 0, none⟩) := by
  rcases h.2 with ⟨rfl, rfl⟩ | ⟨g, cap, cur, rfl, hg, hh, hnc, hcm, -, -⟩
  · refine ⟨none, 0, rfl, fun h0 => ?_, by omega, by simp [maxLen], fun _ => rfl, fun a ha => by cases ha⟩
    rw [h.1] at h0; omega
  · refine ⟨_, cap, rfl, fun _ => ⟨g, 0, rfl, fun i u hu => ?_⟩, hnc, hcm, (fun e => by cases e), fun a ha => ?_⟩
    · rw [Nat.zero_add, h.cellAt i (by have := (List.getElem?_eq_some_iff.1 hu).1; rw [h.1] at this; exact this)]
      exact hu
    · cases ha
      exact ⟨hg, (Array.getElem?_eq_some_iff.1 hh).1, rfl, rfl⟩
theorem own_base {w : World} {B B' : Nat} {E : TypeId} {k : Nat} {v : Value} {n : Nat} {xs : List Value} (h : w.ownsRow B E k v n xs) (hB : ∀ g, v.ownBlock = some g → B' ≤ g) : w.ownsRow B' E k v n xs := by
  refine ⟨h.1, ?_⟩
  rcases h.2 with h2 | ⟨g, cap, cur, hv, _, r⟩
  · exact Or.inl h2
  · exact Or.inr ⟨g, cap, cur, hv, hB g (by rw [hv]; rfl), r⟩
/-- a beginning of an own row -/
theorem own_take {w : World} {B : Nat} {E : TypeId} {k : Nat} {g n c : Nat} {xs : List Value} (h : w.ownsRow B E k (.slice (some ⟨g, 0, none⟩) n c) n xs) (m : Nat) (hm : m ≤ n) : w.ownsRow B E k (.slice (some ⟨g, 0, none⟩) m c) m (xs.take (m * k)) := by
  have hmk : m * k ≤ n * k := Nat.mul_le_mul_right _ hm
  refine ⟨by rw [List.length_take, h.1]; omega, ?_⟩
  rcases h.2 with ⟨h2, -⟩ | ⟨g', cap, cur, hv, hg, hh, hnc, hcm, hcs, ht⟩
  · cases h2
  · simp only [Value.slice.injEq, Option.some.injEq, Addr.mk.injEq, and_true, true_and] at hv
    obtain ⟨rfl, rfl⟩ := hv
    refine Or.inr ⟨g, c, cur, rfl, hg, hh, by omega, hcm, hcs, ?_⟩
    rw [← ht, List.take_take, Nat.min_eq_left hmk]

section
variable {P : Program} (w : World)

/-- APPEND, of elements of k cells each, onto a row of the call's own, from whatever slice. -/
theorem run_append_k (base : Nat) (t ty e : TypeId) (i : TypeInfo) (z : Value) (k bytes : Nat) (ht : P.underlying t = some (.slice e)) (hi : P.info? e = some i) (hz : i.zero = some z)
    (hsize : i.size = k) (hk0 : 0 < k) (hby : i.bytes = bytes) (hb1 : bytes ≤ 1000000000) (hzs : z.cells.size = k)
    (v : Value) (n : Nat) (xs : List Value) (hown : w.ownsRow base e k v n xs)
    (p : Option Addr) (m c : Nat) (us : List Value) (hus : us.length = m * k) (hrd : Rd w p us) (hpn : p = none → c = 0) (h1 : ∀ u ∈ us, u.oneCell' = true)
    (hbytes : (n + m) * bytes ≤ 211106232532992) (h63 : n + m ≤ maxLen) (hbase : base ≤ w.heap.size) :
    ∃ v' w', (Builtin.append_ #[t, t] ty #[v, .slice p m c]).run P w = .ok v' w' ∧ w'.ownsRow base e k v' (n + m) (xs ++ us) ∧ w.grownBy w' v.ownBlock ∧ (∀ g, v'.ownBlock = some g → v.ownBlock = some g ∨ w.heap.size ≤ g) := by
  rcases Nat.eq_zero_or_pos m with hm0 | hm0
  · subst hm0
    obtain rfl : us = [] := List.eq_nil_of_length_eq_zero (by simpa using hus)
    simp only [Nat.add_zero, List.append_nil]
    have hself : w.grownBy w v.ownBlock := ⟨rfl, rfl, rfl, Nat.le_refl _, fun _ _ _ => rfl⟩
    cases p with
    | none =>
      have hc := hpn rfl
      subst hc
      exact ⟨v, w, run_append_owned_none (P := P) (w := w) base t ty e i k ht hi v n xs hown, hown, hself, fun g hg => Or.inl hg⟩
    | some a =>
      refine ⟨v, w, ?_, hown, hself, fun g hg => Or.inl hg⟩
      rcases hown.2 with ⟨rfl, rfl⟩ | ⟨g, cap, cur, rfl, hbg, hg, hnc, hcm, hcs, htake⟩
      · simp [Builtin.append_, run_underlying ht, sizeOf, typeInfo, hi, Builtin.lenOf, Builtin.firstCells, loadCells, loadCellsFrom]
      · simp [Builtin.append_, run_underlying ht, sizeOf, typeInfo, hi, Builtin.lenOf, Builtin.firstCells, loadCells, loadCellsFrom, hnc, storeCells]
  · have hmk : 0 < m * k := Nat.mul_pos hm0 hk0
    obtain ⟨b, o, rfl, hcell⟩ := hrd (by omega)
    have hnews : ∀ j u, us[j]? = some u → w.cell? ((⟨b, o, none⟩ : Addr).add j) = some u := by
      intro j u hu
      have hadd : (⟨b, o, none⟩ : Addr).add j = ⟨b, o + j, none⟩ := by unfold Addr.add; split <;> simp_all
      rw [hadd]
      exact hcell j u hu
    have hmax : (maxLen : Nat) = 9223372036854775807 := by decide
    have h63m : ((n + m : Nat) : Int) ≤ 9223372036854775807 := by omega
    have hxl : xs.length = n * k := hown.1
    have hlen : (xs ++ us).length = (n + m) * k := by rw [List.length_append, hxl, hus, Nat.add_mul]
    have grown : ∀ (old : Nat), old < n + m → ∀ (row : Option Nat),
        (w.drew.alloc (.cells (xs.toArray ++ us.toArray ++ Builtin.zeroCells z.cells (grownCap w (n + m) old e - (n + m))) e)).ownsRow base e k
          (.slice (some ⟨w.heap.size, 0, none⟩) (n + m) (grownCap w (n + m) old e)) (n + m) (xs ++ us) ∧
        w.grownBy (w.drew.alloc (.cells (xs.toArray ++ us.toArray ++ Builtin.zeroCells z.cells (grownCap w (n + m) old e - (n + m))) e)) row := by
      intro old ho row
      have hge := grownCap_ge w (n + m) old e
      have hcm : grownCap w (n + m) old e ≤ maxLen := grownCap_le_maxLen w (n + m) old e h63
      refine ⟨⟨hlen, .inr ⟨w.heap.size, _, _, rfl, hbase, heap_alloc_new w.drew _, hge, hcm, ?_, ?_⟩⟩, ⟨rfl, rfl, rfl, by simp, fun k hk _ => Below.heap_alloc w.drew _ k hk⟩⟩
      · simp only [Array.size_append, List.size_toArray, size_zeroCells, hzs]
        have e1 : xs.length + us.length = (n + m) * k := by rw [← List.length_append]; exact hlen
        rw [e1, ← Nat.add_mul, Nat.add_sub_cancel' hge]
      · simp only [Array.toList_append, List.append_assoc]
        rw [← List.append_assoc, ← hlen]
        exact List.take_left
    rcases hown.2 with ⟨rfl, rfl⟩ | ⟨g, cap, cur, rfl, hbg, hg, hnc, hcm, hcs, htake⟩
    · have hx : xs = [] := List.eq_nil_of_length_eq_zero (by simpa using hxl)
      subst hx
      have hr := run_append_nil (P := P) w t ty e i z ht hi hz ⟨b, o, none⟩ m c us (by rw [hsize]; exact hus) hnews hm0 (by omega) (by rw [hby]; have hb := hbytes; simp only [Nat.zero_add] at hb; omega)
      have hgr := grown 0 (by omega) (Value.ownBlock (.slice none 0 0))
      simp only [Nat.zero_add, List.nil_append, Array.empty_append] at hgr ⊢
      exact ⟨_, _, hr, hgr.1, hgr.2, fun g hg => Or.inr (by cases hg; exact Nat.le_refl _)⟩
    · by_cases hroom : n + m ≤ cap
      · obtain ⟨w', hr, ho, hgr⟩ := run_append_fits (P := P) w base t ty e i k ht hi hsize g n cap xs hown ⟨b, o, none⟩ m c us hus hnews h1 hroom
        exact ⟨_, _, hr, ho, hgr, fun g hg => Or.inl hg⟩
      · have holds : ∀ j u, xs[j]? = some u → w.cell? ((⟨g, 0, none⟩ : Addr).add j) = some u := hown.cells (g := g) rfl
        have hr := run_append_grow (P := P) w t ty e i z ht hi hz ⟨g, 0, none⟩ n cap xs (by rw [hsize]; exact hxl) holds ⟨b, o, none⟩ m c us (by rw [hsize]; exact hus) hnews (by omega) h63m (by rw [hby]; exact grow_fits (by omega) hbytes hb1)
        have hgr := grown cap (by omega) (Value.ownBlock (.slice (some ⟨g, 0, none⟩) n cap))
        exact ⟨_, _, hr, hgr.1, hgr.2, fun g hg => Or.inr (by cases hg; exact Nat.le_refl _)⟩

/-- THE OPERATION, for the walk. -/
theorem wpList_append_k {w : World} {ops : Array Oper} {rest : List Oper} {o : Oper} {a : Act} {Q : Exit → Act → World → Prop} (hgd : o.guard = none) (s x : Operand) (t : TypeId)
    (ho : o.op = .call { callee := .builtin .append, args := #[s, x], argTypes := #[t, t] })
    (base : Nat) (e : TypeId) (i : TypeInfo) (z : Value) (k bytes : Nat) (ht : P.underlying t = some (.slice e)) (hi : P.info? e = some i) (hz : i.zero = some z)
    (hsize : i.size = k) (hk0 : 0 < k) (hby : i.bytes = bytes) (hb1 : bytes ≤ 1000) (hzs : z.cells.size = k)
    (v : Value) (n : Nat) (xs : List Value) (hs : a.eval s = v) (hown : w.ownsRow base e k v n xs)
    (p : Option Addr) (m c : Nat) (us : List Value) (hx : a.eval x = .slice p m c) (hus : us.length = m * k) (hrd : Rd w p us) (hpn : p = none → c = 0) (h1 : ∀ u ∈ us, u.oneCell' = true)
    (hsz : n + m ≤ 10000) (hbase : base ≤ w.heap.size)
    (h : ∀ p' c' w', w'.ownsRow base e k (.slice p' (n + m) c') (n + m) (xs ++ us) → w.grownBy w' v.ownBlock → (∀ g, (Value.slice p' (n + m) c').ownBlock = some g → v.ownBlock = some g ∨ w.heap.size ≤ g) → wpList P ops Q rest (a.put o.dst (.slice p' (n + m) c')) w') : wpList P ops Q (o :: rest) a w := by
  refine wpList_plain hgd fun K hK => ?_
  obtain ⟨v', w', hr, h2, h3, h4⟩ := run_append_k (P := P) w base t o.type e i z k bytes ht hi hz hsize hk0 hby (by omega) hzs v n xs hown p m c us hus hrd hpn h1
    (Nat.le_trans (Nat.mul_le_mul hsz hb1) (by decide)) (by unfold maxLen; omega) hbase
  obtain ⟨p', c', rfl, -⟩ := own_rd h2
  unfold Oper.wp execOp
  simp only [ho, resolve, invoke, builtin, Sem.run_bind, Sem.run_pure, Result.andThen_ok, List.map_toArray, List.map_cons, List.map_nil, hs, hx, hr]
  exact hK _ _ (h p' c' w' h2 h3 h4)
end

end Go.Proofs.Ytcenmkcencdlcaa
