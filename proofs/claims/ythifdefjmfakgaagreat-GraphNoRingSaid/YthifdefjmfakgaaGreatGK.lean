/-
  SIBLINGS, PLAINLY: which stands ahead, rows, what a place's key is, and that a sibling with it stands there.
  No conditions.
  MEMORY of layer 11: rows of siblings; a world that has only drawn and grown ('Gr').
  No conditions but sizes.
  ROWS OF STRUCTS, of whatever type: their cells, parts, loads, and appends inside a region that draws its order.
  No conditions but sizes.
  ROWS OF STRUCTS: cells of an element of an own row are written; a new row of one element.
  No conditions but sizes.
-/
import Derived.Test.YthifdefjmfakgaaGreatGG
import Derived.Test.YthifdefjmfakgaaGreatGQ
import Derived.Sort.Grow
import Derived.Deep.Draws
import Derived.Lib.SmallJoins
import Derived.Deep.MidRow
namespace Go.Proofs.YthifdefjmfakgaaGreat.Sbm

/-- a sibling: its key, its node -/
abbrev Sib := ByteArray × Qm.St
/-- does a stand ahead of b? -/
def ltB (a b : Sib) : Prop := Op.bytesLess a.1.data.toList b.1.data.toList = true ∨ (a.1 = b.1 ∧ Qm.ltS a.2 b.2)
instance (a b : Sib) : Decidable (ltB a b) := by unfold ltB; exact inferInstance

theorem key_ext {a b : ByteArray} (h : a.data.toList = b.data.toList) : a = b := by
  cases a with
  | mk x =>
    cases b with
    | mk y => rw [show x = y from Array.toList_inj.1 h]
theorem key_tri (a b : ByteArray) : Op.bytesLess a.data.toList b.data.toList = true ∨ a = b ∨ Op.bytesLess b.data.toList a.data.toList = true := by
  by_cases e : a = b
  · exact Or.inr (Or.inl e)
  · cases h : Op.bytesLess a.data.toList b.data.toList with
    | true => exact Or.inl rfl
    | false => exact Or.inr (Or.inr (Km.less_total _ _ (fun h => e (key_ext h)) h))
theorem key_irrefl (a : ByteArray) : ¬ Op.bytesLess a.data.toList a.data.toList = true := by rw [Km.less_irrefl]; simp
theorem key_asymm {a b : ByteArray} (h : Op.bytesLess a.data.toList b.data.toList = true) : ¬ Op.bytesLess b.data.toList a.data.toList = true := by rw [Km.less_asymm _ _ h]; simp

theorem ltB_irrefl (a : Sib) : ¬ ltB a a := by
  rintro (h | ⟨-, h⟩)
  · exact key_irrefl _ h
  · exact Qm.ltS_irrefl _ h
theorem ltB_trans {a b c : Sib} (h : ltB a b) (k : ltB b c) : ltB a c := by
  rcases h with h | ⟨e, h⟩
  · rcases k with k | ⟨e2, -⟩
    · exact Or.inl (Km.less_trans _ _ _ h k)
    · exact Or.inl (by rw [← e2]; exact h)
  · rcases k with k | ⟨e2, k⟩
    · exact Or.inl (by rw [e]; exact k)
    · exact Or.inr ⟨e.trans e2, Qm.ltS_trans h k⟩
theorem ltB_tri (a b : Sib) : ltB a b ∨ a = b ∨ ltB b a := by
  rcases key_tri a.1 b.1 with h | h | h
  · exact Or.inl (Or.inl h)
  · rcases Qm.ltS_tri a.2 b.2 with k | k | k
    · exact Or.inl (Or.inr ⟨h, k⟩)
    · exact Or.inr (Or.inl (Prod.ext h k))
    · exact Or.inr (Or.inr (Or.inr ⟨h.symm, k⟩))
  · exact Or.inr (Or.inr (Or.inl h))
theorem ltB_le {a b c : Sib} (h : ¬ ltB b a) (k : ¬ ltB c b) : ¬ ltB c a := fun m => by
  rcases ltB_tri a b with e | e | e
  · exact k (ltB_trans m e)
  · subst e; exact k m
  · exact h e
/-- how two siblings stand -/
def cmpB (a b : Sib) : Int := if ltB a b then -1 else if ltB b a then 1 else 0
theorem cmpB_lt (a b : Sib) : cmpB a b < 0 ↔ ltB a b := by
  unfold cmpB
  split
  · simp_all
  · split <;> simp_all

/-- sorted; a row -/
def Srt (l : List Sib) : Prop := l.Pairwise fun a b => ¬ ltB b a
def Row (l : List Sib) : Prop := l.Pairwise ltB
/-- the sibling at a place -/
def sbOf (l : List Sib) (k : Nat) : Sib := l.getD k (⟨#[]⟩, (0, 0))
theorem sbOf_lt {l : List Sib} {k : Nat} (h : k < l.length) : sbOf l k = l[k] := by simp [sbOf, List.getD, h]
theorem sbOf_mem {l : List Sib} {k : Nat} (h : k < l.length) : sbOf l k ∈ l := by rw [sbOf_lt h]; exact List.getElem_mem h
theorem srt_of {l : List Sib} (h : ∀ i j, i < j → j < l.length → ¬ ltB (sbOf l j) (sbOf l i)) : Srt l :=
  List.pairwise_iff_getElem.2 fun i j hi hj hij => by have := h i j hij hj; rwa [sbOf_lt hi, sbOf_lt hj] at this
theorem Row.lt {l : List Sib} (h : Row l) {i j : Nat} (hij : i < j) (hj : j < l.length) : ltB (sbOf l i) (sbOf l j) := by
  rw [sbOf_lt (by omega : i < l.length), sbOf_lt hj]
  exact List.pairwise_iff_getElem.1 h i j (by omega) hj hij
instance (l : List Sib) : Decidable (Row l) := by unfold Row; exact inferInstance

/-- the keys beside a place; an error -/
def ends (l : List Sib) (at' : Int) : ByteArray × ByteArray × Int :=
  if ¬ Row l ∨ at' < 0 ∨ (l.length : Int) < at' then (⟨#[]⟩, ⟨#[]⟩, 1)
  else if at' = l.length then (if 0 < at' then (sbOf l (at' - 1).toNat).1 else ⟨#[]⟩, ⟨#[]⟩, 0)
  else if 0 < at' ∧ (sbOf l (at' - 1).toNat).1 = (sbOf l at'.toNat).1 then (⟨#[]⟩, ⟨#[]⟩, 32)
  else if (sbOf l at'.toNat).1 = ⟨#[]⟩ then (⟨#[]⟩, ⟨#[]⟩, 1)
  else (if 0 < at' then (sbOf l (at' - 1).toNat).1 else ⟨#[]⟩, (sbOf l at'.toNat).1, 0)

/-- the key of a further one -/
def keyOf (l : List Sib) (at' : Int) : List UInt8 × Int :=
  if (ends l at').2.2 = 0 then Km.betw (ends l at').1.data.toList (ends l at').2.1.data.toList else ([], (ends l at').2.2)

end Go.Proofs.YthifdefjmfakgaaGreat.Sbm

namespace Go.Proofs.YthifdefjmfakgaaGreat
open Go.RowKit

/-- nothing but draws and new blocks -/
def Gr (w w' : World) : Prop := ∃ q os, w' = Go.Sort.grow (w.drewN q) os
theorem Gr.refl (w : World) : Gr w w := ⟨0, #[], (Go.Sort.grow_empty _).symm⟩
theorem Gr.alloc {w w' : World} (h : Gr w w') (o : Obj) : Gr w (w'.alloc o) := by
  obtain ⟨q, os, rfl⟩ := h
  exact ⟨q, os ++ #[o], by rw [Go.Sort.alloc_eq_grow, Go.Sort.grow_grow]⟩
theorem Gr.drew {w w' : World} (h : Gr w w') : Gr w w'.drew := by
  obtain ⟨q, os, rfl⟩ := h
  exact ⟨q + 1, os, rfl⟩
theorem Gr.trans {a b c : World} (h : Gr a b) (k : Gr b c) : Gr a c := by
  obtain ⟨q, os, rfl⟩ := h
  obtain ⟨q', os', rfl⟩ := k
  exact ⟨q + q', os ++ os', by rw [← Go.Sort.grow_grow]; unfold Go.Sort.grow World.drewN; simp [Nat.add_assoc]⟩
theorem Gr.below {w w' : World} (h : Gr w w') : Below w.heap.size w w' := by
  obtain ⟨q, os, rfl⟩ := h
  refine ⟨rfl, rfl, rfl, ?_, fun k hk => ?_⟩
  · show w.heap.size ≤ (w.heap ++ os).size
    simp
  · show (w.heap ++ os)[k]? = w.heap[k]?
    exact Array.getElem?_append_left hk

/-- a sibling's cells -/
def sbC (x : Sbm.Sib) : List Value := [.string x.1, .int .i64 x.2.1, .int .i64 x.2.2]
def sbV (x : Sbm.Sib) : Value := .agg #[.string x.1, .int .i64 x.2.1, .int .i64 x.2.2]
/-- the cells of a row of siblings -/
def sbCells (l : List Sbm.Sib) : List Value := l.flatMap sbC
theorem sbCells_length (l : List Sbm.Sib) : (sbCells l).length = l.length * 3 := by
  induction l with
  | nil => rfl
  | cons a l ih => simp only [sbCells, sbC, List.flatMap_cons, List.length_append, List.length_cons, List.length_nil] at ih ⊢; omega
theorem sbCells_append (l m : List Sbm.Sib) : sbCells (l ++ m) = sbCells l ++ sbCells m := by simp [sbCells]
theorem sbCells_one : ∀ {l : List Sbm.Sib}, ∀ u ∈ sbCells l, u.oneCell' = true := by
  intro l u hu
  obtain ⟨x, _, hx⟩ := List.mem_flatMap.1 hu
  simp [sbC] at hx
  rcases hx with rfl | rfl | rfl <;> rfl
theorem sbCells_get (l : List Sbm.Sib) (i : Nat) (h : i < l.length) : (sbCells l)[i * 3]? = some (.string (Sbm.sbOf l i).1) ∧ (sbCells l)[i * 3 + 1]? = some (.int .i64 (Sbm.sbOf l i).2.1) ∧ (sbCells l)[i * 3 + 2]? = some (.int .i64 (Sbm.sbOf l i).2.2) := by
  induction l generalizing i with
  | nil => simp at h
  | cons a l ih =>
    cases i with
    | zero => simp [sbCells, sbC, Sbm.sbOf]
    | succ i =>
      have := ih i (by simpa using h)
      have e : (i + 1) * 3 = i * 3 + 1 + 1 + 1 := by omega
      rw [e]
      simpa [sbCells, sbC, Sbm.sbOf] using this
/-- a row of siblings, read at place i -/
theorem Rd.sb {w : World} {b o : Nat} {l : List Sbm.Sib} (h : Rd w (some ⟨b, o, none⟩) (sbCells l)) (i : Nat) (hi : i < l.length) :
    w.cell? ⟨b, o + i * 3, none⟩ = some (.string (Sbm.sbOf l i).1) ∧ w.cell? ⟨b, o + i * 3 + 1, none⟩ = some (.int .i64 (Sbm.sbOf l i).2.1) ∧ w.cell? ⟨b, o + i * 3 + 2, none⟩ = some (.int .i64 (Sbm.sbOf l i).2.2) := by
  obtain ⟨h0, h1, h2⟩ := sbCells_get l i hi
  exact ⟨h.cell h0, by rw [Nat.add_assoc]; exact h.cell h1, by rw [Nat.add_assoc]; exact h.cell h2⟩
theorem rd_sb1 (w : World) (x : Sbm.Sib) (E : TypeId) : Rd (w.alloc (.cells #[.string x.1, .int .i64 x.2.1, .int .i64 x.2.2] E)) (some ⟨w.heap.size, 0, none⟩) (sbCells [x]) := fun _ => ⟨_, 0, rfl, fun i u hu => by
  rw [Nat.zero_add, World.cell?_alloc_at _ _ _ _ rfl]
  rw [← hu]
  simp [sbCells, sbC]⟩
theorem rd_empty {w : World} {p : Option Addr} {l : List Sbm.Sib} (h : Rd w p (sbCells l)) (hp : p = none) : l = [] := by
  cases l with
  | nil => rfl
  | cons a l =>
    obtain ⟨b, o, e, -⟩ := h (by rw [sbCells_length]; simp)
    rw [hp] at e
    cases e

/-- the sizes of a list's keys: a key is no longer than K -/
def Keys (K : Nat) (l : List Sbm.Sib) : Prop := ∀ x ∈ l, x.1.size ≤ K
theorem Keys.at' {K : Nat} {l : List Sbm.Sib} (h : Keys K l) {k : Nat} (hk : k < l.length) : (Sbm.sbOf l k).1.size ≤ K := h _ (Sbm.sbOf_mem hk)
theorem Keys.perm {K : Nat} {l m : List Sbm.Sib} (h : Keys K l) (hp : m.Perm l) : Keys K m := fun x hx => h x (hp.mem_iff.1 hx)

theorem info_split {i? : Option TypeInfo} {z : Option Value} {s b : Nat} (h : i?.map (fun i => (i.zero, i.size, i.bytes)) = some (z, s, b)) : ∃ i, i? = some i ∧ i.zero = z ∧ i.size = s ∧ i.bytes = b := by
  cases i? with
  | none => cases h
  | some i =>
    simp only [Option.map_some, Option.some.injEq, Prod.mk.injEq] at h
    exact ⟨i, rfl, h.1, h.2.1, h.2.2⟩
theorem info_sib : (Tryz.prog.info? 86).map (fun i => (i.zero, i.size, i.bytes)) = some (some (.agg #[.string ⟨#[]⟩, .int .i64 0, .int .i64 0]), 3, 32) := by kernel_rfl

/-- APPEND onto a row of the call's own, inside a region that draws its order -/
theorem step_append_sb {P : Program} {w : World} {ops : Array Oper} {o : Oper} {a : Act} {K : Act → World → Prop} {Q : Exit → Act → World → Prop} {E : Prop} (hgd : o.guard = none) (s x : Operand) (t : TypeId)
    (ho : o.op = .call { callee := .builtin .append, args := #[s, x], argTypes := #[t, t] })
    (base : Nat) (e : TypeId) (i : TypeInfo) (z : Value) (k bytes : Nat) (ht : P.underlying t = some (.slice e)) (hi : P.info? e = some i) (hz : i.zero = some z)
    (hsize : i.size = k) (hk0 : 0 < k) (hby : i.bytes = bytes) (hb1 : bytes ≤ 1000) (hzs : z.cells.size = k)
    (v : Value) (n : Nat) (xs : List Value) (hs : a.eval s = v) (hown : w.ownsRow base e k v n xs)
    (p : Option Addr) (m c : Nat) (us : List Value) (hx : a.eval x = .slice p m c) (hus : us.length = m * k) (hrd : Rd w p us) (hpn : p = none → c = 0) (h1 : ∀ u ∈ us, u.oneCell' = true)
    (hsz : n + m ≤ 10000) (hbase : base ≤ w.heap.size)
    (h : ∀ p' c' w', w'.ownsRow base e k (.slice p' (n + m) c') (n + m) (xs ++ us) → w.grownBy w' v.ownBlock → (∀ g, (Value.slice p' (n + m) c').ownBlock = some g → v.ownBlock = some g ∨ w.heap.size ≤ g) → K (a.put o.dst (.slice p' (n + m) c')) w') :
    if Region.wanted o (yielded ops a.tmps) = true then Oper.wp P o a w K Q else E := by
  have hw : Region.wanted o (yielded ops a.tmps) = true := by simp [Region.wanted, hgd]
  rw [if_pos hw]
  obtain ⟨v', w', hr, h2, h3, h4⟩ := run_append_k (P := P) w base t o.type e i z k bytes ht hi hz hsize hk0 hby (by omega) hzs v n xs hown p m c us hus hrd hpn h1
    (Nat.le_trans (Nat.mul_le_mul hsz hb1) (by decide)) (by unfold maxLen; omega) hbase
  obtain ⟨p', c', rfl, -⟩ := own_rd h2
  unfold Oper.wp execOp
  simp only [ho, resolve, invoke, builtin, Sem.run_bind, Sem.run_pure, Result.andThen_ok, List.map_toArray, List.map_cons, List.map_nil, hs, hx, hr]
  exact h p' c' w' h2 h3 h4

/-- a boxed sibling, of whatever type -/
def SbAt (w : World) (k : Nat) (x : Sbm.Sib) : Prop := ∃ T, w.heap[k]? = some (.cells #[.string x.1, .int .i64 x.2.1, .int .i64 x.2.2] T (0, 0))
theorem SbAt.size {w : World} {k : Nat} {x : Sbm.Sib} (h : SbAt w k x) : k < w.heap.size := by
  obtain ⟨T, h⟩ := h
  exact (Array.getElem?_eq_some_iff.1 h).1
theorem SbAt.cell0 {w : World} {k : Nat} {x : Sbm.Sib} (h : SbAt w k x) : w.cell? ⟨k, 0, none⟩ = some (.string x.1) := by obtain ⟨T, h⟩ := h; rw [Go.Joins.cell_of_block h]; rfl
theorem SbAt.cell1 {w : World} {k : Nat} {x : Sbm.Sib} (h : SbAt w k x) : w.cell? ⟨k, 1, none⟩ = some (.int .i64 x.2.1) := by obtain ⟨T, h⟩ := h; rw [Go.Joins.cell_of_block h]; rfl
theorem SbAt.cell2 {w : World} {k : Nat} {x : Sbm.Sib} (h : SbAt w k x) : w.cell? ⟨k, 2, none⟩ = some (.int .i64 x.2.2) := by obtain ⟨T, h⟩ := h; rw [Go.Joins.cell_of_block h]; rfl
theorem SbAt.start (w : World) (x : Sbm.Sib) (T : TypeId) : SbAt (w.alloc (.cells #[.string x.1, .int .i64 x.2.1, .int .i64 x.2.2] T)) w.heap.size x := ⟨T, heap_alloc_new w _⟩
theorem SbAt.kept {w w' : World} {k : Nat} {x : Sbm.Sib} (h : SbAt w k x) (hb : Below w.heap.size w w') : SbAt w' k x := by
  obtain ⟨T, h'⟩ := h
  exact ⟨T, (hb.block k (SbAt.size ⟨T, h'⟩)).trans h'⟩
theorem SbAt.alloc {w : World} {k : Nat} {x : Sbm.Sib} (h : SbAt w k x) (o : Obj) : SbAt (w.alloc o) k x := h.kept ((Below.refl _ _).alloc (Nat.le_refl _) _)

/-- what a call that answers a row of siblings in new memory leaves -/
def SbOut (S : List Sbm.Sib → Prop) (w : World) (e : Ending) (w' : World) : Prop :=
  ∃ p c m, S m ∧ e = .returned (.slice p m.length c) ∧ w'.ownsRow w.heap.size 86 3 (.slice p m.length c) m.length (sbCells m) ∧ Below w.heap.size w w'

end Go.Proofs.YthifdefjmfakgaaGreat

namespace Go.Proofs.YthifdefjmfakgaaGreat
open Go.RowKit

/-- what the type tables say of a row: its elements are structs of k cells, by_ bytes -/
structure RK {α : Type} (E SE : TypeId) (k by_ : Nat) (ce : α → List Value) : Prop where
  und : Tryz.prog.underlying SE = some (.slice E)
  elem : Tryz.prog.elem SE = E
  size : ∀ W, (sizeOf E).run Tryz.prog W = .ok k W
  info : ∃ i z, Tryz.prog.info? E = some i ∧ i.zero = some z ∧ i.size = k ∧ i.bytes = by_ ∧ z.cells.size = k
  row : ∃ d, Tryz.prog.underlying E = some (.struct d)
  len : ∀ x, (ce x).length = k
  one : ∀ x, ∀ u ∈ ce x, u.oneCell' = true
  pos : 0 < k
  small : by_ ≤ 1000

section
variable {α : Type} {E SE : TypeId} {k by_ : Nat} {ce : α → List Value}
theorem RK.length (V : RK E SE k by_ ce) (l : List α) : (l.flatMap ce).length = l.length * k := by
  induction l with
  | nil => simp
  | cons a l ih => rw [List.flatMap_cons, List.length_append, ih, V.len, List.length_cons, Nat.add_mul]; omega
theorem RK.ones (V : RK E SE k by_ ce) (l : List α) : ∀ u ∈ l.flatMap ce, u.oneCell' = true := fun u hu => by
  obtain ⟨x, _, hx⟩ := List.mem_flatMap.1 hu
  exact V.one x u hx
theorem RK.get (V : RK E SE k by_ ce) : ∀ (l : List α) (i j : Nat) (x : α), l[i]? = some x → j < k → (l.flatMap ce)[i * k + j]? = (ce x)[j]?
  | [], i, j, x, h, _ => by simp at h
  | a :: l, 0, j, x, h, hj => by
    simp at h
    subst h
    rw [List.flatMap_cons, Nat.zero_mul, Nat.zero_add, List.getElem?_append_left (by rw [V.len]; exact hj)]
  | a :: l, i + 1, j, x, h, hj => by
    have h' : l[i]? = some x := by simpa using h
    rw [List.flatMap_cons, List.getElem?_append_right (by rw [V.len, Nat.add_mul]; omega), V.len, show (i + 1) * k + j - k = i * k + j from by rw [Nat.add_mul]; omega]
    exact V.get l i j x h' hj
theorem RK.drop (V : RK E SE k by_ ce) : ∀ (l : List α) (i : Nat), (l.flatMap ce).drop (i * k) = (l.drop i).flatMap ce
  | [], i => by simp
  | a :: l, 0 => by simp
  | a :: l, i + 1 => by
    rw [List.flatMap_cons, List.drop_succ_cons, ← V.drop l i, Nat.add_mul, Nat.one_mul, Nat.add_comm (i * k) k, ← List.drop_drop, List.drop_left' (V.len a)]
theorem RK.range (V : RK E SE k by_ ce) {w : World} {b s i : Nat} {l : List α} {x : α} (h : Rd w (some ⟨b, s, none⟩) (l.flatMap ce)) (hi : l[i]? = some x) : w.rangeAt b (s + i * k) (ce x) := by
  intro j v hv
  have hj : j < k := by have := (List.getElem?_eq_some_iff.1 hv).1; rw [V.len] at this; exact this
  have := V.get l i j x hi hj
  rw [hv] at this
  rw [Nat.add_assoc]
  exact h.cell this
theorem RK.isz (V : RK E SE k by_ ce) (x : α) : (Tryz.prog.info? E).map (·.size) = some (ce x).length := by
  obtain ⟨i, z, h1, -, h2, -⟩ := V.info
  rw [h1, V.len]
  exact congrArg some h2
/-- an element, loaded whole -/
theorem RK.load (V : RK E SE k by_ ce) {c : Act} {o : Oper} {x : Operand} {w : World} (ho : o.op = .load E x) {b s i : Nat} (hx : c.eval x = .pointer (some ⟨b, s + i * k, none⟩)) {l : List α} {y : α} (hrd : Rd w (some ⟨b, s, none⟩) (l.flatMap ce)) (hi : l[i]? = some y) :
    (execOp c.eval o).run Tryz.prog w = .ok (.value (.agg (ce y).toArray)) w := by
  obtain ⟨d, hu⟩ := V.row
  unfold execOp
  simp only [ho, hx, Sem.run_bind, run_loadAt_mid w b (s + i * k) _ (ce y) _ (V.range hrd hi) hu rfl (V.isz y), Result.andThen_ok, Sem.run_pure]
/-- a part of an element that is a struct of its own, loaded whole -/
theorem RK.loadPart (V : RK E SE k by_ ce) {t : TypeId} {d : Array Field} (hu : Tryz.prog.underlying t = some (.struct d)) {c : Act} {o : Oper} {x : Operand} {w : World} (ho : o.op = .load t x) {b s i off : Nat} (hx : c.eval x = .pointer (some ⟨b, s + i * k + off, none⟩)) {l : List α} {y : α} (cs : List Value) (hrd : Rd w (some ⟨b, s, none⟩) (l.flatMap ce)) (hi : l[i]? = some y) (hc : ∀ j v, cs[j]? = some v → (ce y)[off + j]? = some v) (hn : (Tryz.prog.info? t).map (·.size) = some cs.length) :
    (execOp c.eval o).run Tryz.prog w = .ok (.value (.agg cs.toArray)) w := by
  have h1 : w.rangeAt b (s + i * k + off) cs := fun j v hv => by
    rw [Nat.add_assoc (s + i * k)]
    exact V.range hrd hi (off + j) v (hc j v hv)
  unfold execOp
  simp only [ho, hx, Sem.run_bind, run_loadAt_mid w b (s + i * k + off) t cs _ h1 hu rfl hn, Result.andThen_ok, Sem.run_pure]

/-! ### parts of a row -/
def drA (k : Nat) (p : Option Addr) (c i : Nat) : Option Addr := if c = i then p else p.map (·.add (i * k))
theorem RK.take (V : RK E SE k by_ ce) {a : Act} {w : World} {o : Oper} {x y : Operand} (ho : o.op = .slice SE x none (some y) none) {p : Option Addr} {n c i : Nat} (hx : a.eval x = .slice p n c) (hy : a.eval y = .int .i64 (i : Int)) (hi : i ≤ c) :
    (execOp a.eval o).run Tryz.prog w = .ok (.value (.slice p i c)) w := by
  have hu : Tryz.prog.underlying SE = some (.slice (Tryz.prog.elem SE)) := by rw [V.elem]; exact V.und
  have hr : (Instr.sliceAt SE (.slice p n c) none (some (.int .i64 (i : Int))) none).run Tryz.prog w = .ok (.slice p i c) w := by
    rw [run_sliceAt_slice (h := hu), run_slice_h (ht := hu) (h0 := by omega) (h2 := by omega), V.elem, V.size]
    cases p <;> simp [Result.andThen_ok, sliced, Addr.add]
  unfold execOp
  simp only [ho, hx, hy, Option.map_some, Option.map_none, Sem.run_bind, hr, Result.andThen_ok, Sem.run_pure]
theorem RK.dropE (V : RK E SE k by_ ce) {a : Act} {w : World} {o : Oper} {x y : Operand} (ho : o.op = .slice SE x (some y) none none) {p : Option Addr} {n c i : Nat} (hx : a.eval x = .slice p n c) (hy : a.eval y = .int .i64 (i : Int)) (hi : i ≤ n) :
    (execOp a.eval o).run Tryz.prog w = .ok (.value (.slice (drA k p c i) (n - i) (c - i))) w := by
  have hu : Tryz.prog.underlying SE = some (.slice (Tryz.prog.elem SE)) := by rw [V.elem]; exact V.und
  have hr : (Instr.sliceAt SE (.slice p n c) (some (.int .i64 (i : Int))) none none).run Tryz.prog w = .ok (.slice (drA k p c i) (n - i) (c - i)) w := by
    rw [run_sliceAt_slice (h := hu), run_slice_l (ht := hu) (h0 := by omega) (h1 := by omega), V.elem, V.size]
    simp only [Result.andThen_ok, sliced, drA, Int.toNat_natCast]
  unfold execOp
  simp only [ho, hx, hy, Option.map_some, Option.map_none, Sem.run_bind, hr, Result.andThen_ok, Sem.run_pure]
/-! ### appends -/
theorem RK.empty (_ : RK E SE k by_ ce) {w1 w : World} {B : Nat} (_ : Below B w1 w) (h : B ≤ w.heap.size) : (w.alloc (.cells #[] E)).ownsRow B E k (.slice (some ⟨w.heap.size, 0, none⟩) ([] : List α).length 0) ([] : List α).length (([] : List α).flatMap ce) :=
  World.ownsRow_lit (base := B) (e := E) (size := k) w #[] 0 h (by simp [maxLen]) (by simp)
theorem own_rdK {w : World} {B : Nat} {p : Option Addr} {c : Nat} {l : List α} (h : w.ownsRow B E k (.slice p l.length c) l.length (l.flatMap ce)) : Rd w p (l.flatMap ce) ∧ (p = none → c = 0) ∧ l.length ≤ c ∧ (∀ a, p = some a → B ≤ a.block) := by
  obtain ⟨p2, c2, hv, hrd, hlc, -, hn, hb⟩ := own_rd h
  cases hv
  exact ⟨hrd, hn, hlc, fun a ha => (hb a ha).1⟩
theorem RK.append (V : RK E SE k by_ ce) {w : World} {ops : Array Oper} {o : Oper} {a : Act} {K : Act → World → Prop} {Q : Exit → Act → World → Prop} {X : Prop} (hgd : o.guard = none) (s x : Operand)
    (ho : o.op = .call { callee := .builtin .append, args := #[s, x], argTypes := #[SE, SE] })
    (base : Nat) (xs ys zs : List α) (hz : xs ++ ys = zs) {p : Option Addr} {c : Nat} (hs : a.eval s = .slice p xs.length c) (hown : w.ownsRow base E k (.slice p xs.length c) xs.length (xs.flatMap ce))
    (q : Option Addr) (d : Nat) (hx : a.eval x = .slice q ys.length d) (hrd : Rd w q (ys.flatMap ce)) (hpn : q = none → d = 0) (hsz : xs.length + ys.length ≤ 10000) (hbase : base ≤ w.heap.size)
    (h : ∀ p' c' w', w'.ownsRow base E k (.slice p' zs.length c') zs.length (zs.flatMap ce) → w.grownBy w' (Value.slice p xs.length c).ownBlock → K (a.put o.dst (.slice p' zs.length c')) w') :
    if Region.wanted o (yielded ops a.tmps) = true then Oper.wp Tryz.prog o a w K Q else X := by
  obtain ⟨i0, z, hi, hz0, hz1, hz2, hz3⟩ := V.info
  refine step_append_sb hgd s x SE ho base E i0 z k by_ V.und hi hz0 hz1 V.pos hz2 V.small hz3 _ xs.length (xs.flatMap ce) hs hown q ys.length d (ys.flatMap ce) hx (V.length ys) hrd hpn (V.ones ys) hsz hbase ?_
  intro p' c' w' h1 h2 _
  have e : xs.length + ys.length = zs.length := by rw [← hz, List.length_append]
  rw [← List.flatMap_append, hz, e] at h1
  have := h p' c' w' h1 h2
  rwa [e]
end
end Go.Proofs.YthifdefjmfakgaaGreat

namespace Go.Proofs.YthifdefjmfakgaaGreat
open Go.RowKit

def setL (xs : List Value) : Nat → List Value → List Value
  | _, [] => xs
  | o, v :: vs => setL (xs.set o v) (o + 1) vs
theorem setL_length : ∀ (vs xs : List Value) (o : Nat), (setL xs o vs).length = xs.length
  | [], _, _ => rfl
  | v :: vs, xs, o => by rw [setL, setL_length vs]; simp
theorem setL_get : ∀ (vs xs : List Value) (o : Nat), o + vs.length ≤ xs.length → ∀ i, (setL xs o vs)[i]? = if o ≤ i ∧ i < o + vs.length then vs[i - o]? else xs[i]?
  | [], xs, o, _, i => by rw [setL, if_neg (by simp)]
  | v :: vs, xs, o, h, i => by
    rw [setL, setL_get vs _ _ (by simp at h ⊢; omega) i]
    simp only [List.length_cons] at h ⊢
    by_cases h1 : o + 1 ≤ i ∧ i < o + 1 + vs.length
    · rw [if_pos h1, if_pos (by omega)]
      obtain ⟨d, rfl⟩ : ∃ d, i = o + 1 + d := ⟨i - (o + 1), by omega⟩
      rw [show o + 1 + d - (o + 1) = d from by omega, show o + 1 + d - o = d + 1 from by omega]
      rfl
    · rw [if_neg h1]
      by_cases h2 : i = o
      · subst h2
        rw [if_pos (by omega), List.getElem?_set_self (by omega), Nat.sub_self]
        rfl
      · rw [if_neg (by omega), List.getElem?_set_ne (fun e => h2 e.symm)]
theorem own_setCells : ∀ (vs : List Value) (w : World) {B k g n cap : Nat} {E : TypeId} {xs : List Value} (o : Nat), w.ownsRow B E k (.slice (some ⟨g, 0, none⟩) n cap) n xs →
    (w.setCells g o vs).ownsRow B E k (.slice (some ⟨g, 0, none⟩) n cap) n (setL xs o vs) ∧ w.grownBy (w.setCells g o vs) (some g)
  | [], w, _, _, _, _, _, _, _, _, h => ⟨h, ⟨rfl, rfl, rfl, Nat.le_refl _, fun _ _ _ => rfl⟩⟩
  | v :: vs, w, _, _, _, _, _, _, _, o, h => by
    obtain ⟨h1, g1⟩ := h.stored o v
    obtain ⟨h2, g2⟩ := own_setCells vs (w.setCell ⟨_, o, none⟩ v) (o + 1) h1
    exact ⟨h2, ⟨g2.os.trans g1.os, g2.tape.trans g1.tape, g2.output.trans g1.output, Nat.le_trans g1.size g2.size, fun k hk hn => (g2.block k (Nat.lt_of_lt_of_le hk g1.size) hn).trans (g1.block k hk hn)⟩⟩
theorem own_there {w : World} {B k g n cap : Nat} {E : TypeId} {xs : List Value} (h : w.ownsRow B E k (.slice (some ⟨g, 0, none⟩) n cap) n xs) (o m : Nat) (hm : o + m ≤ xs.length) : w.there g o m := fun j hj => by
  refine ⟨?_, h.frozenAt _⟩
  rw [h.cellAt (o + j) (by have := h.1; omega)]
  simp
  omega
section
variable {α : Type} {E SE : TypeId} {k by_ : Nat} {ce : α → List Value}
/-- a part of an element, written -/
theorem RK.setL (V : RK E SE k by_ ce) (l : List α) (i off : Nat) (x y : α) (cs : List Value) (h : l[i]? = some x) (hoff : off + cs.length ≤ k)
    (hcs : ∀ j, j < k → (ce y)[j]? = if off ≤ j ∧ j < off + cs.length then cs[j - off]? else (ce x)[j]?) : Go.Proofs.YthifdefjmfakgaaGreat.setL (l.flatMap ce) (i * k + off) cs = (l.set i y).flatMap ce := by
  have hi : i < l.length := (List.getElem?_eq_some_iff.1 h).1
  have hk := V.pos
  have hik : i * k + k ≤ l.length * k := by
    have := Nat.mul_le_mul_right k (show i + 1 ≤ l.length by omega)
    rw [Nat.add_mul, Nat.one_mul] at this
    exact this
  apply List.ext_getElem?
  intro j
  rw [setL_get _ _ _ (by rw [V.length]; omega)]
  by_cases hj : j < l.length * k
  · have hb : j % k < k := Nat.mod_lt _ hk
    have hd : j / k < l.length := Nat.div_lt_of_lt_mul (by rw [Nat.mul_comm]; exact hj)
    have e : j = j / k * k + j % k := by have := Nat.div_add_mod j k; rw [Nat.mul_comm] at this; omega
    generalize j / k = a at *
    generalize j % k = b at *
    subst e
    by_cases q : a = i
    · subst q
      rw [V.get (l.set a y) a b y (by rw [List.getElem?_set_self hd]) hb, hcs b hb, V.get l a b x h hb]
      by_cases hr : off ≤ b ∧ b < off + cs.length
      · rw [if_pos (by omega), if_pos hr, show a * k + b - (a * k + off) = b - off from by omega]
      · rw [if_neg (by omega), if_neg hr]
    · have hne : ¬ (i * k + off ≤ a * k + b ∧ a * k + b < i * k + off + cs.length) := by
        rintro ⟨h1, h2⟩
        rcases Nat.lt_or_gt_of_ne q with h3 | h3
        · have := Nat.mul_le_mul_right k (show a + 1 ≤ i by omega)
          rw [Nat.add_mul, Nat.one_mul] at this
          omega
        · have := Nat.mul_le_mul_right k (show i + 1 ≤ a by omega)
          rw [Nat.add_mul, Nat.one_mul] at this
          omega
      rw [if_neg hne, V.get l a b l[a] (List.getElem?_eq_getElem hd) hb, V.get (l.set i y) a b l[a] (by rw [List.getElem?_set_ne (fun e => q e.symm)]; exact List.getElem?_eq_getElem hd) hb]
  · rw [if_neg (by omega), List.getElem?_eq_none (by rw [V.length]; omega), List.getElem?_eq_none (by rw [V.length, List.length_set]; omega)]
end
end Go.Proofs.YthifdefjmfakgaaGreat
