/-
  MEMORY of layer 11: rows of siblings; a world that has only drawn and grown ('Gr').
  No conditions but sizes.
-/
import Derived.Test.YtilkokhapcgolaaGreatQCmp
import Derived.Test.YtilkokhapcgolaaGreatSbMath
import Derived.Sort.Grow
import Derived.Deep.Draws
import Derived.Lib.SmallJoins
namespace Go.Proofs.YtilkokhapcgolaaGreat
open Go.RowKit

/-- nothing but draws and new blocks -/
def Gr (w w' : World) : Prop := ∃ q os, w' = Go.Sort.grow (w.drewN q) os
theorem Gr.refl (w : World) : Gr w w := ⟨0, #[], (Go.Sort.grow_empty _).symm⟩
theorem Gr.alloc {w w' : World} (h : Gr w w') (o : Obj) : Gr w (w'.alloc o) := by
  obtain ⟨q, os, rfl⟩ := h
  exact ⟨q, os ++ #[o], by rw [Go.Sort.alloc_eq_grow, Go.Sort.grow_grow]⟩
theorem Gr.drew {w w' : World} (h : Gr w w') : Gr w w'.drew := by
  obtain ⟨q, os, rfl⟩ := h
  exact ⟨q + 1, os, rfl⟩
theorem Gr.trans {a b c : World} (h : Gr a b) (k : Gr b c) : Gr a c := by
  obtain ⟨q, os, rfl⟩ := h
  obtain ⟨q', os', rfl⟩ := k
  exact ⟨q + q', os ++ os', by rw [← Go.Sort.grow_grow]; unfold Go.Sort.grow World.drewN; simp [Nat.add_assoc]⟩
theorem Gr.below {w w' : World} (h : Gr w w') : Below w.heap.size w w' := by
  obtain ⟨q, os, rfl⟩ := h
  refine ⟨rfl, rfl, rfl, ?_, fun k hk => ?_⟩
  · show w.heap.size ≤ (w.heap ++ os).size
    simp
  · show (w.heap ++ os)[k]? = w.heap[k]?
    exact Array.getElem?_append_left hk

/-- a sibling's cells -/
def sbC (x : Sbm.Sib) : List Value := [.string x.1, .int .i64 x.2.1, .int .i64 x.2.2]
def sbA (x : Sbm.Sib) : Array Value := #[.string x.1, .int .i64 x.2.1, .int .i64 x.2.2]
def sbV (x : Sbm.Sib) : Value := .agg #[.string x.1, .int .i64 x.2.1, .int .i64 x.2.2]
/-- the cells of a row of siblings -/
def sbCells (l : List Sbm.Sib) : List Value := l.flatMap sbC
theorem sbCells_length (l : List Sbm.Sib) : (sbCells l).length = l.length * 3 := by
  induction l with
  | nil => rfl
  | cons a l ih => simp only [sbCells, sbC, List.flatMap_cons, List.length_append, List.length_cons, List.length_nil] at ih ⊢; omega
theorem sbCells_append (l m : List Sbm.Sib) : sbCells (l ++ m) = sbCells l ++ sbCells m := by simp [sbCells]
theorem sbCells_cons (x : Sbm.Sib) (l : List Sbm.Sib) : sbCells (x :: l) = sbC x ++ sbCells l := by simp [sbCells]
theorem sbCells_one : ∀ {l : List Sbm.Sib}, ∀ u ∈ sbCells l, u.oneCell' = true := by
  intro l u hu
  obtain ⟨x, _, hx⟩ := List.mem_flatMap.1 hu
  simp [sbC] at hx
  rcases hx with rfl | rfl | rfl <;> rfl
theorem sbCells_get (l : List Sbm.Sib) (i : Nat) (h : i < l.length) : (sbCells l)[i * 3]? = some (.string (Sbm.sbOf l i).1) ∧ (sbCells l)[i * 3 + 1]? = some (.int .i64 (Sbm.sbOf l i).2.1) ∧ (sbCells l)[i * 3 + 2]? = some (.int .i64 (Sbm.sbOf l i).2.2) := by
  induction l generalizing i with
  | nil => simp at h
  | cons a l ih =>
    cases i with
    | zero => simp [sbCells, sbC, Sbm.sbOf]
    | succ i =>
      have := ih i (by simpa using h)
      have e : (i + 1) * 3 = i * 3 + 1 + 1 + 1 := by omega
      rw [e]
      simpa [sbCells, sbC, Sbm.sbOf] using this
theorem sbCells_take (l : List Sbm.Sib) (n : Nat) : (sbCells l).take (n * 3) = sbCells (l.take n) := by
  induction l generalizing n with
  | nil => simp [sbCells]
  | cons a l ih =>
    cases n with
    | zero => simp [sbCells]
    | succ i =>
      have := ih i
      have e : (i + 1) * 3 = i * 3 + 1 + 1 + 1 := by omega
      rw [e]
      simpa [sbCells, sbC] using this
theorem sbCells_drop (l : List Sbm.Sib) (n : Nat) : (sbCells l).drop (n * 3) = sbCells (l.drop n) := by
  induction l generalizing n with
  | nil => simp [sbCells]
  | cons a l ih =>
    cases n with
    | zero => simp [sbCells]
    | succ i =>
      have := ih i
      have e : (i + 1) * 3 = i * 3 + 1 + 1 + 1 := by omega
      rw [e]
      simpa [sbCells, sbC] using this
/-- a row of siblings, read at place i -/
theorem Rd.sb {w : World} {b o : Nat} {l : List Sbm.Sib} (h : Rd w (some ⟨b, o, none⟩) (sbCells l)) (i : Nat) (hi : i < l.length) :
    w.cell? ⟨b, o + i * 3, none⟩ = some (.string (Sbm.sbOf l i).1) ∧ w.cell? ⟨b, o + i * 3 + 1, none⟩ = some (.int .i64 (Sbm.sbOf l i).2.1) ∧ w.cell? ⟨b, o + i * 3 + 2, none⟩ = some (.int .i64 (Sbm.sbOf l i).2.2) := by
  obtain ⟨h0, h1, h2⟩ := sbCells_get l i hi
  exact ⟨h.cell h0, by rw [Nat.add_assoc]; exact h.cell h1, by rw [Nat.add_assoc]; exact h.cell h2⟩
theorem rd_sb1 (w : World) (x : Sbm.Sib) (E : TypeId) : Rd (w.alloc (.cells #[.string x.1, .int .i64 x.2.1, .int .i64 x.2.2] E)) (some ⟨w.heap.size, 0, none⟩) (sbCells [x]) := fun _ => ⟨_, 0, rfl, fun i u hu => by
  rw [Nat.zero_add, World.cell?_alloc_at _ _ _ _ rfl]
  rw [← hu]
  simp [sbCells, sbC]⟩
theorem take_sib {l : List Sbm.Sib} {k : Nat} (h : k < l.length) : l.take (k + 1) = l.take k ++ [Sbm.sbOf l k] := by
  rw [List.take_succ_eq_append_getElem h, Sbm.sbOf_lt h]
theorem rd_empty {w : World} {p : Option Addr} {l : List Sbm.Sib} (h : Rd w p (sbCells l)) (hp : p = none) : l = [] := by
  cases l with
  | nil => rfl
  | cons a l =>
    obtain ⟨b, o, e, -⟩ := h (by rw [sbCells_length]; simp)
    rw [hp] at e
    cases e

/-- the sizes of a list's keys: a key is no longer than K -/
def Keys (K : Nat) (l : List Sbm.Sib) : Prop := ∀ x ∈ l, x.1.size ≤ K
theorem Keys.at' {K : Nat} {l : List Sbm.Sib} (h : Keys K l) {k : Nat} (hk : k < l.length) : (Sbm.sbOf l k).1.size ≤ K := h _ (Sbm.sbOf_mem hk)
theorem Keys.perm {K : Nat} {l m : List Sbm.Sib} (h : Keys K l) (hp : m.Perm l) : Keys K m := fun x hx => h x (hp.mem_iff.1 hx)

theorem info_split {i? : Option TypeInfo} {z : Option Value} {s b : Nat} (h : i?.map (fun i => (i.zero, i.size, i.bytes)) = some (z, s, b)) : ∃ i, i? = some i ∧ i.zero = z ∧ i.size = s ∧ i.bytes = b := by
  cases i? with
  | none => cases h
  | some i =>
    simp only [Option.map_some, Option.some.injEq, Prod.mk.injEq] at h
    exact ⟨i, rfl, h.1, h.2.1, h.2.2⟩
theorem info_sib : (Tryz.prog.info? 54).map (fun i => (i.zero, i.size, i.bytes)) = some (some (.agg #[.string ⟨#[]⟩, .int .i64 0, .int .i64 0]), 3, 32) := by kernel_rfl

/-- APPEND onto a row of the call's own, inside a region that draws its order -/
theorem step_append_sb {P : Program} {w : World} {ops : Array Oper} {o : Oper} {a : Act} {K : Act → World → Prop} {Q : Exit → Act → World → Prop} {E : Prop} (hgd : o.guard = none) (s x : Operand) (t : TypeId)
    (ho : o.op = .call { callee := .builtin .append, args := #[s, x], argTypes := #[t, t] })
    (base : Nat) (e : TypeId) (i : TypeInfo) (z : Value) (k bytes : Nat) (ht : P.underlying t = some (.slice e)) (hi : P.info? e = some i) (hz : i.zero = some z)
    (hsize : i.size = k) (hk0 : 0 < k) (hby : i.bytes = bytes) (hb1 : bytes ≤ 1000) (hzs : z.cells.size = k)
    (v : Value) (n : Nat) (xs : List Value) (hs : a.eval s = v) (hown : w.ownsRow base e k v n xs)
    (p : Option Addr) (m c : Nat) (us : List Value) (hx : a.eval x = .slice p m c) (hus : us.length = m * k) (hrd : Rd w p us) (hpn : p = none → c = 0) (h1 : ∀ u ∈ us, u.oneCell' = true)
    (hsz : n + m ≤ 10000) (hbase : base ≤ w.heap.size)
    (h : ∀ p' c' w', w'.ownsRow base e k (.slice p' (n + m) c') (n + m) (xs ++ us) → w.grownBy w' v.ownBlock → (∀ g, (Value.slice p' (n + m) c').ownBlock = some g → v.ownBlock = some g ∨ w.heap.size ≤ g) → K (a.put o.dst (.slice p' (n + m) c')) w') :
    if Region.wanted o (yielded ops a.tmps) = true then Oper.wp P o a w K Q else E := by
  have hw : Region.wanted o (yielded ops a.tmps) = true := by simp [Region.wanted, hgd]
  rw [if_pos hw]
  obtain ⟨v', w', hr, h2, h3, h4⟩ := run_append_k (P := P) w base t o.type e i z k bytes ht hi hz hsize hk0 hby (by omega) hzs v n xs hown p m c us hus hrd hpn h1
    (Nat.le_trans (Nat.mul_le_mul hsz hb1) (by decide)) (by unfold maxLen; omega) hbase
  obtain ⟨p', c', rfl, -⟩ := own_rd h2
  unfold Oper.wp execOp
  simp only [ho, resolve, invoke, builtin, Sem.run_bind, Sem.run_pure, Result.andThen_ok, List.map_toArray, List.map_cons, List.map_nil, hs, hx, hr]
  exact h p' c' w' h2 h3 h4

/-- a boxed sibling, of whatever type -/
def SbAt (w : World) (k : Nat) (x : Sbm.Sib) : Prop := ∃ T, w.heap[k]? = some (.cells #[.string x.1, .int .i64 x.2.1, .int .i64 x.2.2] T (0, 0))
theorem SbAt.size {w : World} {k : Nat} {x : Sbm.Sib} (h : SbAt w k x) : k < w.heap.size := by
  obtain ⟨T, h⟩ := h
  exact (Array.getElem?_eq_some_iff.1 h).1
theorem SbAt.cell0 {w : World} {k : Nat} {x : Sbm.Sib} (h : SbAt w k x) : w.cell? ⟨k, 0, none⟩ = some (.string x.1) := by obtain ⟨T, h⟩ := h; rw [Go.Joins.cell_of_block h]; rfl
theorem SbAt.cell1 {w : World} {k : Nat} {x : Sbm.Sib} (h : SbAt w k x) : w.cell? ⟨k, 1, none⟩ = some (.int .i64 x.2.1) := by obtain ⟨T, h⟩ := h; rw [Go.Joins.cell_of_block h]; rfl
theorem SbAt.cell2 {w : World} {k : Nat} {x : Sbm.Sib} (h : SbAt w k x) : w.cell? ⟨k, 2, none⟩ = some (.int .i64 x.2.2) := by obtain ⟨T, h⟩ := h; rw [Go.Joins.cell_of_block h]; rfl
theorem SbAt.start (w : World) (x : Sbm.Sib) (T : TypeId) : SbAt (w.alloc (.cells #[.string x.1, .int .i64 x.2.1, .int .i64 x.2.2] T)) w.heap.size x := ⟨T, heap_alloc_new w _⟩
theorem SbAt.kept {w w' : World} {k : Nat} {x : Sbm.Sib} (h : SbAt w k x) (hb : Below w.heap.size w w') : SbAt w' k x := by
  obtain ⟨T, h'⟩ := h
  exact ⟨T, (hb.block k (SbAt.size ⟨T, h'⟩)).trans h'⟩
theorem SbAt.alloc {w : World} {k : Nat} {x : Sbm.Sib} (h : SbAt w k x) (o : Obj) : SbAt (w.alloc o) k x := h.kept ((Below.refl _ _).alloc (Nat.le_refl _) _)

/-- what a call that answers a row of siblings in new memory leaves -/
def SbOut (S : List Sbm.Sib → Prop) (w : World) (e : Ending) (w' : World) : Prop :=
  ∃ p c m, S m ∧ e = .returned (.slice p m.length c) ∧ w'.ownsRow w.heap.size 54 3 (.slice p m.length c) m.length (sbCells m) ∧ Below w.heap.size w w'

end Go.Proofs.YtilkokhapcgolaaGreat
