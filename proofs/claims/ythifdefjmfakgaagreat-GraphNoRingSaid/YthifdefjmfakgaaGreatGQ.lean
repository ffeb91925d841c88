/-
  PLAIN MATHEMATICS of layer 5 (queue): the order of items, heaps in lists, rising rows: lists of integers alone; no program, no world.
  No conditions.
  MEMORY of layer 5: what a call turns ('Turns F': blocks of F, and new ones), rows of stamps and of items, the row under a heap.
  No conditions but sizes.
  THE ORDER of stamps and items: Compare and Before, the program's and the document's: what they answer, of any numbers; nothing below the call's own memory turns.
  No conditions.
-/
import Init
import Derived.Test.YthifdefjmfakgaaGreatGC
import Derived.Laws.OwnMore
import Derived.Deep.RegionWith
namespace Go.Proofs.YthifdefjmfakgaaGreat.Qm

abbrev St := Int × Int
abbrev It := (Int × Int) × Int

/-- how two stamps stand -/
def ltS (a b : St) : Prop := a.1 < b.1 ∨ (a.1 = b.1 ∧ a.2 < b.2)
instance (a b : St) : Decidable (ltS a b) := by unfold ltS; exact inferInstance
/-- does item a stand ahead of b? -/
def ltI (a b : It) : Prop := ltS a.1 b.1 ∨ (a.1 = b.1 ∧ a.2 < b.2)
instance (a b : It) : Decidable (ltI a b) := by unfold ltI; exact inferInstance

theorem ltS_irrefl (a : St) : ¬ ltS a a := by unfold ltS; omega
theorem ltS_trans {a b c : St} (h : ltS a b) (k : ltS b c) : ltS a c := by unfold ltS at *; omega
theorem ltS_tri (a b : St) : ltS a b ∨ a = b ∨ ltS b a := by
  obtain ⟨x, y⟩ := a
  obtain ⟨z, u⟩ := b
  simp only [ltS, Prod.mk.injEq]
  omega
theorem ltS_le {a b c : St} (h : ¬ ltS b a) (k : ¬ ltS c b) : ¬ ltS c a := by unfold ltS at *; omega
theorem ltS_asymm {a b : St} (h : ltS a b) : ¬ ltS b a := by unfold ltS at *; omega
theorem eq_of_ltS {a b : St} (h : ¬ ltS a b) (k : ¬ ltS b a) : a = b := by
  rcases ltS_tri a b with h1 | h1 | h1
  · exact absurd h1 h
  · exact h1
  · exact absurd h1 k

theorem ltI_irrefl (a : It) : ¬ ltI a a := by
  unfold ltI
  rintro (h | ⟨_, h⟩)
  · exact ltS_irrefl _ h
  · omega
theorem ltI_tri (a b : It) : ltI a b ∨ a = b ∨ ltI b a := by
  obtain ⟨a, x⟩ := a
  obtain ⟨b, y⟩ := b
  simp only [ltI, Prod.mk.injEq]
  rcases ltS_tri a b with h | h | h
  · exact Or.inl (Or.inl h)
  · subst h
    have : x < y ∨ x = y ∨ y < x := by omega
    rcases this with h | h | h
    · exact Or.inl (Or.inr ⟨rfl, h⟩)
    · exact Or.inr (Or.inl ⟨rfl, h⟩)
    · exact Or.inr (Or.inr (Or.inr ⟨rfl, h⟩))
  · exact Or.inr (Or.inr (Or.inl h))
theorem ltI_trans {a b c : It} (h : ltI a b) (k : ltI b c) : ltI a c := by
  unfold ltI at *
  rcases h with h | ⟨h1, h2⟩ <;> rcases k with k | ⟨k1, k2⟩
  · exact Or.inl (ltS_trans h k)
  · exact Or.inl (k1 ▸ h)
  · exact Or.inl (h1 ▸ k)
  · exact Or.inr ⟨h1.trans k1, by omega⟩
theorem ltI_asymm {a b : It} (h : ltI a b) : ¬ ltI b a := fun k => ltI_irrefl _ (ltI_trans h k)
theorem eq_of_ltI {a b : It} (h : ¬ ltI a b) (k : ¬ ltI b a) : a = b := by
  rcases ltI_tri a b with h1 | h1 | h1
  · exact absurd h1 h
  · exact h1
  · exact absurd h1 k
/-- at most -/
theorem leI_trans {a b c : It} (h : ¬ ltI b a) (k : ¬ ltI c b) : ¬ ltI c a := by
  intro hc
  rcases ltI_tri a b with h1 | rfl | h1
  · rcases ltI_tri b c with h2 | rfl | h2
    · exact ltI_irrefl _ (ltI_trans hc (ltI_trans h1 h2))
    · exact ltI_asymm h1 hc
    · exact k h2
  · exact k hc
  · exact h h1

/-- item k of a list -/
def itAt (d : List It) (k : Nat) : It := d.getD k ((0, 0), 0)
theorem itAt_set {d : List It} {i : Nat} (x : It) (h : i < d.length) (k : Nat) : itAt (d.set i x) k = if k = i then x else itAt d k := by
  unfold itAt
  by_cases hk : k = i
  · subst hk; simp [List.getD, h]
  · simp [List.getD, hk, Ne.symm hk]
/-- two change places -/
def sw (d : List It) (i j : Nat) : List It := (d.set i (itAt d j)).set j (itAt d i)
theorem sw_at {d : List It} {i j : Nat} (hi : i < d.length) (hj : j < d.length) (k : Nat) : itAt (sw d i j) k = if k = j then itAt d i else if k = i then itAt d j else itAt d k := by
  unfold sw
  rw [itAt_set _ (by simpa using hj), itAt_set _ hi]
/-- the first n are a heap from lo on: who has a parent at or behind lo does not stand ahead of it -/
def HeapF (d : List It) (n lo : Nat) : Prop := ∀ k, 0 < k → k < n → lo ≤ (k - 1) / 2 → ¬ ltI (itAt d k) (itAt d ((k - 1) / 2))
/-- .. but for those below i -/
def DownI (d : List It) (n lo i : Nat) : Prop :=
  (∀ k, 0 < k → k < n → lo ≤ (k - 1) / 2 → (k - 1) / 2 ≠ i → ¬ ltI (itAt d k) (itAt d ((k - 1) / 2))) ∧
  (∀ k, 0 < k → k < n → (k - 1) / 2 = i → 0 < i → lo ≤ (i - 1) / 2 → ¬ ltI (itAt d k) (itAt d ((i - 1) / 2)))
/-- .. but for j itself -/
def UpI (d : List It) (n j : Nat) : Prop :=
  (∀ k, 0 < k → k < n → k ≠ j → ¬ ltI (itAt d k) (itAt d ((k - 1) / 2))) ∧
  (∀ k, 0 < k → k < n → (k - 1) / 2 = j → 0 < j → ¬ ltI (itAt d k) (itAt d ((j - 1) / 2)))

theorem DownI.init {d : List It} {n i : Nat} (h : HeapF d n (i + 1)) : DownI d n i i :=
  ⟨fun k h0 hn hl hne => h k h0 hn (by omega), fun k _ _ _ h0 hl => by omega⟩
theorem HeapF.none {d : List It} {n lo : Nat} (h : n ≤ 2 * lo + 1) : HeapF d n lo := fun k h0 hn hl => by omega
theorem HeapF.mono {d : List It} {n m lo : Nat} (h : HeapF d n lo) (hm : m ≤ n) : HeapF d m lo := fun k h0 hn hl => h k h0 (by omega) hl
theorem HeapF.congr {d e : List It} {n lo : Nat} (h : HeapF d n lo) (he : ∀ k, k < n → itAt e k = itAt d k) : HeapF e n lo := fun k h0 hn hl => by
  rw [he k hn, he _ (by omega)]
  exact h k h0 hn hl

/-- no child, or none that stands ahead -/
theorem DownI.stop {d : List It} {n lo i : Nat} (h : DownI d n lo i) (hc : ∀ k, 0 < k → k < n → (k - 1) / 2 = i → ¬ ltI (itAt d k) (itAt d i)) : HeapF d n lo := by
  intro k h0 hn hl
  by_cases e : (k - 1) / 2 = i
  · rw [e]; exact hc k h0 hn e
  · exact h.1 k h0 hn hl e
/-- the smaller child goes up -/
theorem DownI.step {d : List It} {n lo i j : Nat} (h : DownI d n lo i) (hd : n ≤ d.length) (hjn : j < n) (hj0 : 0 < j) (hji : (j - 1) / 2 = i) (hlo : lo ≤ i) (hlt : ltI (itAt d j) (itAt d i))
    (hc : ∀ k, 0 < k → k < n → (k - 1) / 2 = i → ¬ ltI (itAt d k) (itAt d j)) : DownI (sw d i j) n lo j := by
  have hi : i < d.length := by omega
  have hj : j < d.length := by omega
  have hij : i ≠ j := by omega
  have A := sw_at hi hj
  constructor
  · intro k h0 hn hl hne
    rw [A k, A ((k - 1) / 2), if_neg hne]
    by_cases kj : k = j
    · subst kj
      rw [if_pos rfl, hji, if_pos rfl]
      exact ltI_asymm hlt
    · rw [if_neg kj]
      by_cases ki : k = i
      · subst ki
        rw [if_pos rfl, if_neg (by omega)]
        exact h.2 j hj0 hjn hji (by omega) hl
      · rw [if_neg ki]
        by_cases kp : (k - 1) / 2 = i
        · rw [if_pos kp]
          exact hc k h0 hn kp
        · rw [if_neg kp]
          exact h.1 k h0 hn hl kp
  · intro k h0 hn hk hj' hl
    rw [A k, A ((j - 1) / 2), if_neg (by omega), if_neg (by omega), if_neg (by omega), hji, if_pos rfl]
    have := h.1 k h0 hn (by omega) (by omega)
    rw [hk] at this
    exact this

theorem UpI.start {d : List It} {n : Nat} (h : HeapF d n 0) : UpI d (n + 1) n :=
  ⟨fun k h0 hn hne => h k h0 (by omega) (Nat.zero_le _), fun k h0 hn hk hj => by omega⟩
theorem UpI.stop {d : List It} {n j : Nat} (h : UpI d n j) (hc : 0 < j → ¬ ltI (itAt d j) (itAt d ((j - 1) / 2))) : HeapF d n 0 := by
  intro k h0 hn _
  by_cases e : k = j
  · subst e; exact hc h0
  · exact h.1 k h0 hn e
theorem UpI.step {d : List It} {n j : Nat} (h : UpI d n j) (hd : n ≤ d.length) (hjn : j < n) (hj0 : 0 < j) (hlt : ltI (itAt d j) (itAt d ((j - 1) / 2))) : UpI (sw d ((j - 1) / 2) j) n ((j - 1) / 2) := by
  have hi : (j - 1) / 2 < d.length := by omega
  have hj : j < d.length := by omega
  have A := sw_at hi hj
  constructor
  · intro k h0 hn hne
    rw [A k, A ((k - 1) / 2), if_neg hne]
    by_cases kj : k = j
    · subst kj
      rw [if_pos rfl, if_neg (by omega), if_pos rfl]
      exact ltI_asymm hlt
    · rw [if_neg kj]
      by_cases kp : (k - 1) / 2 = j
      · rw [if_pos kp]
        exact h.2 k h0 hn kp hj0
      · rw [if_neg kp]
        by_cases kq : (k - 1) / 2 = (j - 1) / 2
        · rw [if_pos kq]
          have h1 := h.1 k h0 hn kj
          rw [kq] at h1
          exact leI_trans (ltI_asymm hlt) h1
        · rw [if_neg kq]
          exact h.1 k h0 hn kj
  · intro k h0 hn hk hj' 
    rw [A k, A (((j - 1) / 2 - 1) / 2), if_neg (by omega : ((j - 1) / 2 - 1) / 2 ≠ j), if_neg (by omega : ((j - 1) / 2 - 1) / 2 ≠ (j - 1) / 2)]
    have h2 := h.1 ((j - 1) / 2) hj' (by omega) (by omega)
    by_cases kj : k = j
    · rw [if_pos kj]; exact h2
    · rw [if_neg kj, if_neg (by omega)]
      have h1 := h.1 k h0 hn kj
      rw [hk] at h1
      exact leI_trans h2 h1

/-- the first one stands behind none -/
theorem HeapF.first {d : List It} {n : Nat} (h : HeapF d n 0) : ∀ k, k < n → ¬ ltI (itAt d k) (itAt d 0) := by
  intro k
  induction k using Nat.strongRecOn with
  | _ k ih =>
    intro hk
    rcases Nat.eq_zero_or_pos k with rfl | h0
    · exact ltI_irrefl _
    · exact leI_trans (ih ((k - 1) / 2) (by omega) (by omega)) (h k h0 hk (Nat.zero_le _))

/-- m stands behind none of them -/
def Least (m : It) (l : List It) : Prop := m ∈ l ∧ ∀ x, x ∈ l → ¬ ltI x m
theorem Least.perm {m : It} {l k : List It} (h : Least m l) (hp : l.Perm k) : Least m k := ⟨hp.mem_iff.1 h.1, fun x hx => h.2 x (hp.mem_iff.2 hx)⟩
theorem Least.uniq {m n : It} {l : List It} (h : Least m l) (k : Least n l) : m = n := eq_of_ltI (k.2 _ h.1) (h.2 _ k.1)

/-- RISING rows of stamps -/
def Rising (l : List St) : Prop := l.Pairwise ltS
def stOf (l : List St) (k : Nat) : St := l.getD k (0, 0)
theorem stOf_lt {l : List St} {k : Nat} (h : k < l.length) : stOf l k = l[k] := by simp [stOf, List.getD, h]
/-- what is kept of the first n: each that is not the one ahead of it -/
def cp (l : List St) : Nat → List St
  | 0 => []
  | n + 1 => if n = 0 then [stOf l 0] else if stOf l n = stOf l (n - 1) then cp l n else cp l n ++ [stOf l n]
theorem cp_succ (l : List St) {n : Nat} (h : 0 < n) : cp l (n + 1) = if stOf l n = stOf l (n - 1) then cp l n else cp l n ++ [stOf l n] := by
  rw [cp, if_neg (by omega)]
theorem cp_one (l : List St) : cp l 1 = [stOf l 0] := rfl
/-- nothing is left out as long as no two that stand beside each other are one -/
theorem cp_take (l : List St) (n : Nat) (h : n ≤ l.length) (hne : ∀ k, 0 < k → k < n → stOf l k ≠ stOf l (k - 1)) : cp l n = l.take n := by
  induction n with
  | zero => simp [cp]
  | succ n ih =>
    have hts : l.take (n + 1) = l.take n ++ [stOf l n] := by rw [List.take_succ_eq_append_getElem (by omega), stOf_lt (by omega)]
    rcases Nat.eq_zero_or_pos n with rfl | h0
    · rw [cp_one, hts]; simp
    · rw [cp_succ l h0, if_neg (hne n h0 (by omega)), ih (by omega) (fun k a b => hne k a (by omega)), hts]

/-- the document's With: s put into a rising row -/
def below (l : List St) (s : St) : Nat := (l.takeWhile fun x => decide (ltS x s)).length
end Go.Proofs.YthifdefjmfakgaaGreat.Qm

namespace Go.Proofs.YthifdefjmfakgaaGreat
open Go.RowKit

/-- of what was there nothing turns but blocks of F -/
structure Turns (F : Nat → Prop) (w w' : World) : Prop where
  os : w'.os = w.os
  tape : w'.tape = w.tape
  output : w'.output = w.output
  size : w.heap.size ≤ w'.heap.size
  block : ∀ k, k < w.heap.size → ¬ F k → w'.heap[k]? = w.heap[k]?
theorem Turns.refl (F : Nat → Prop) (w : World) : Turns F w w := ⟨rfl, rfl, rfl, Nat.le_refl _, fun _ _ _ => rfl⟩
theorem Turns.trans {F : Nat → Prop} {a b c : World} (h : Turns F a b) (k : Turns (fun i => F i ∨ a.heap.size ≤ i) b c) : Turns F a c :=
  ⟨k.os.trans h.os, k.tape.trans h.tape, k.output.trans h.output, Nat.le_trans h.size k.size, fun i hi hf => (k.block i (Nat.lt_of_lt_of_le hi h.size) (fun x => x.elim hf fun y => by omega)).trans (h.block i hi hf)⟩
theorem Turns.mono {F G : Nat → Prop} {a b : World} (h : Turns F a b) (hm : ∀ k, k < a.heap.size → F k → G k) : Turns G a b := ⟨h.os, h.tape, h.output, h.size, fun k hk hg => h.block k hk fun hf => hg (hm k hk hf)⟩
theorem Turns.of_below {F : Nat → Prop} {w w' : World} (h : Below w.heap.size w w') : Turns F w w' := ⟨h.os, h.tape, h.output, h.size, fun k hk _ => h.block k hk⟩
theorem Turns.of_base {B : Nat} {w w' : World} (h : Below B w w') : Turns (fun k => B ≤ k) w w' := ⟨h.os, h.tape, h.output, h.size, fun k _ hf => h.block k (by omega)⟩
theorem Turns.below {F : Nat → Prop} {w w' : World} (h : Turns F w w') {B : Nat} (hF : ∀ k, k < w.heap.size → F k → B ≤ k) (hB : B ≤ w.heap.size) : Below B w w' :=
  ⟨h.os, h.tape, h.output, h.size, fun k hk => h.block k (by omega) fun hf => by have := hF k (by omega) hf; omega⟩
theorem Turns.of_grown {w w' : World} {row : Option Nat} (h : w.grownBy w' row) : Turns (fun k => row = some k) w w' := ⟨h.os, h.tape, h.output, h.size, fun k hk hf => h.block k hk fun e => hf e.symm⟩
theorem Turns.cell {F : Nat → Prop} {w w' : World} (h : Turns F w w') {p : Addr} {v : Value} (hc : w.cell? p = some v) (hf : ¬ F p.block) : w'.cell? p = some v := by
  rw [World.cell?_of_block (w := w) (h.block p.block (cell_lt hc) hf)]; exact hc
theorem Turns.frozen {F : Nat → Prop} {w w' : World} (h : Turns F w w') {p : Addr} (hl : p.block < w.heap.size) (hf : ¬ F p.block) : w'.frozen? p = w.frozen? p :=
  World.frozen?_of_block (w := w) (h.block p.block hl hf)
theorem Turns.own {F : Nat → Prop} {w w' : World} (h : Turns F w w') {B : Nat} {E : TypeId} {k : Nat} {v : Value} {n : Nat} {xs : List Value} (ho : w.ownsRow B E k v n xs) (hf : ∀ g, v.ownBlock = some g → ¬ F g) : w'.ownsRow B E k v n xs := by
  refine ⟨ho.1, ?_⟩
  rcases ho.2 with h2 | ⟨g, cap, cur, hv, hg, hh, r⟩
  · exact Or.inl h2
  · refine Or.inr ⟨g, cap, cur, hv, hg, ?_, r⟩
    rw [h.block g (Array.getElem?_eq_some_iff.1 hh).1 (hf g (by rw [hv]; rfl))]
    exact hh
theorem Turns.rd {F : Nat → Prop} {w w' : World} (h : Turns F w w') {p : Option Addr} {us : List Value} (hr : Rd w p us) (hf : ∀ a, p = some a → ¬ F a.block) : Rd w' p us := by
  intro h0
  obtain ⟨b, o, rfl, hc⟩ := hr h0
  exact ⟨b, o, rfl, fun i u hu => h.cell (hc i u hu) (hf ⟨b, o, none⟩ rfl)⟩
theorem Rd.below {w w' : World} {p : Option Addr} {us : List Value} (h : Rd w p us) (hb : Below w.heap.size w w') : Rd w' p us :=
  (Turns.of_below (F := fun _ => False) hb).rd h fun _ _ h => h
theorem Rd.base {w w' : World} {p : Option Addr} {us : List Value} {B : Nat} (h : Rd w p us) (hb : Below B w w') (hp : ∀ a, p = some a → a.block < B) : Rd w' p us :=
  (Turns.of_base hb).rd h fun a ha => by have := hp a ha; omega
theorem Rd.cell {w : World} {b o : Nat} {us : List Value} (h : Rd w (some ⟨b, o, none⟩) us) {i : Nat} {u : Value} (hi : us[i]? = some u) : w.cell? ⟨b, o + i, none⟩ = some u := by
  obtain ⟨b', o', e, hc⟩ := h (Nat.lt_of_le_of_lt (Nat.zero_le _) (List.getElem?_eq_some_iff.1 hi).1)
  simp only [Option.some.injEq, Addr.mk.injEq] at e
  obtain ⟨rfl, rfl, -⟩ := e
  exact hc i u hi
theorem Rd.nil (w : World) (p : Option Addr) : Rd w p [] := fun h => absurd h (Nat.lt_irrefl 0)
theorem Rd.addr {w : World} {p : Option Addr} {us : List Value} (h : Rd w p us) (h0 : 0 < us.length) : ∃ b o, p = some ⟨b, o, none⟩ ∧ b < w.heap.size := by
  obtain ⟨b, o, rfl, hc⟩ := h h0
  exact ⟨b, o, rfl, cell_lt (hc 0 _ (List.getElem?_eq_getElem h0))⟩

/-- the cells of a row of stamps -/
def stCells (l : List Qm.St) : List Value := l.flatMap fun x => [.int .i64 x.1, .int .i64 x.2]
/-- the cells of a row of items -/
def itCells (l : List Qm.It) : List Value := l.flatMap fun x => [.int .i64 x.1.1, .int .i64 x.1.2, .int .i64 x.2]
theorem stCells_length (l : List Qm.St) : (stCells l).length = l.length * 2 := by
  induction l with
  | nil => rfl
  | cons a l ih => simp only [stCells, List.flatMap_cons, List.length_append, List.length_cons, List.length_nil] at ih ⊢; omega
theorem stCells_append (l m : List Qm.St) : stCells (l ++ m) = stCells l ++ stCells m := by simp [stCells]
theorem stCells_one : ∀ {l : List Qm.St}, ∀ u ∈ stCells l, u.oneCell' = true := by
  intro l u hu
  obtain ⟨x, _, hx⟩ := List.mem_flatMap.1 hu
  simp at hx
  rcases hx with rfl | rfl <;> rfl
theorem stCells_get (l : List Qm.St) (i : Nat) (h : i < l.length) : (stCells l)[i * 2]? = some (.int .i64 (Qm.stOf l i).1) ∧ (stCells l)[i * 2 + 1]? = some (.int .i64 (Qm.stOf l i).2) := by
  induction l generalizing i with
  | nil => simp at h
  | cons a l ih =>
    cases i with
    | zero => simp [stCells, Qm.stOf]
    | succ i =>
      have := ih i (by simpa using h)
      have e : (i + 1) * 2 = i * 2 + 1 + 1 := by omega
      rw [e]
      simpa [stCells, Qm.stOf] using this
theorem itCells_get (l : List Qm.It) (i : Nat) (h : i < l.length) : (itCells l)[i * 3]? = some (.int .i64 (Qm.itAt l i).1.1) ∧ (itCells l)[i * 3 + 1]? = some (.int .i64 (Qm.itAt l i).1.2) ∧ (itCells l)[i * 3 + 2]? = some (.int .i64 (Qm.itAt l i).2) := by
  induction l generalizing i with
  | nil => simp at h
  | cons a l ih =>
    cases i with
    | zero => simp [itCells, Qm.itAt]
    | succ i =>
      have := ih i (by simpa using h)
      have e : (i + 1) * 3 = i * 3 + 1 + 1 + 1 := by omega
      rw [e]
      simpa [itCells, Qm.itAt] using this
/-- a row of stamps, read at place i -/
theorem Rd.st {w : World} {b o : Nat} {l : List Qm.St} (h : Rd w (some ⟨b, o, none⟩) (stCells l)) (i : Nat) (hi : i < l.length) :
    w.cell? ⟨b, o + i * 2, none⟩ = some (.int .i64 (Qm.stOf l i).1) ∧ w.cell? ⟨b, o + i * 2 + 1, none⟩ = some (.int .i64 (Qm.stOf l i).2) := by
  obtain ⟨h0, h1⟩ := stCells_get l i hi
  exact ⟨h.cell h0, by rw [Nat.add_assoc]; exact h.cell h1⟩
/-- a row of items, read at place i -/
theorem Rd.it {w : World} {b o : Nat} {l : List Qm.It} (h : Rd w (some ⟨b, o, none⟩) (itCells l)) (i : Nat) (hi : i < l.length) :
    w.cell? ⟨b, o + i * 3, none⟩ = some (.int .i64 (Qm.itAt l i).1.1) ∧ w.cell? ⟨b, o + i * 3 + 1, none⟩ = some (.int .i64 (Qm.itAt l i).1.2) ∧ w.cell? ⟨b, o + i * 3 + 2, none⟩ = some (.int .i64 (Qm.itAt l i).2) := by
  obtain ⟨h0, h1, h2⟩ := itCells_get l i hi
  exact ⟨h.cell h0, by rw [Nat.add_assoc]; exact h.cell h1, by rw [Nat.add_assoc]; exact h.cell h2⟩
theorem Rd.take {w : World} {p : Option Addr} {us : List Value} (h : Rd w p us) (n : Nat) : Rd w p (us.take n) := by
  intro h0
  obtain ⟨b, o, rfl, hc⟩ := h (by simp at h0; omega)
  refine ⟨b, o, rfl, fun i u hu => hc i u ?_⟩
  rw [List.getElem?_take] at hu
  split at hu
  · exact hu
  · cases hu
theorem Rd.drop {w : World} {b o : Nat} {us : List Value} (h : Rd w (some ⟨b, o, none⟩) us) (n : Nat) : Rd w (some ⟨b, o + n, none⟩) (us.drop n) := by
  intro _
  refine ⟨b, o + n, rfl, fun i u hu => ?_⟩
  rw [List.getElem?_drop] at hu
  rw [Nat.add_assoc]
  exact h.cell hu

/-- an own row as a slice that reads as its cells -/
theorem own_rd {w : World} {B : Nat} {E : TypeId} {k : Nat} {v : Value} {n : Nat} {xs : List Value} (h : w.ownsRow B E k v n xs) :
    ∃ p c, v = .slice p n c ∧ Rd w p xs ∧ n ≤ c ∧ c ≤ maxLen ∧ (p = none → c = 0) ∧ (∀ a, p = some a → B ≤ a.block ∧ a.block < w.heap.size ∧ v.ownBlock = some a.block ∧ a = ⟨a.block, 0, none⟩) := by
  rcases h.2 with ⟨rfl, rfl⟩ | ⟨g, cap, cur, rfl, hg, hh, hnc, hcm, -, -⟩
  · refine ⟨none, 0, rfl, fun h0 => ?_, by omega, by simp [maxLen], fun _ => rfl, fun a ha => by cases ha⟩
    rw [h.1] at h0; omega
  · refine ⟨_, cap, rfl, fun _ => ⟨g, 0, rfl, fun i u hu => ?_⟩, hnc, hcm, (fun e => by cases e), fun a ha => ?_⟩
    · rw [Nat.zero_add, h.cellAt i (by have := (List.getElem?_eq_some_iff.1 hu).1; rw [h.1] at this; exact this)]
      exact hu
    · cases ha
      exact ⟨hg, (Array.getElem?_eq_some_iff.1 hh).1, rfl, rfl⟩
section
variable {P : Program} (w : World)

/-- APPEND, of elements of k cells each, onto a row of the call's own, from whatever slice. -/
theorem run_append_k (base : Nat) (t ty e : TypeId) (i : TypeInfo) (z : Value) (k bytes : Nat) (ht : P.underlying t = some (.slice e)) (hi : P.info? e = some i) (hz : i.zero = some z)
    (hsize : i.size = k) (hk0 : 0 < k) (hby : i.bytes = bytes) (hb1 : bytes ≤ 1000000000) (hzs : z.cells.size = k)
    (v : Value) (n : Nat) (xs : List Value) (hown : w.ownsRow base e k v n xs)
    (p : Option Addr) (m c : Nat) (us : List Value) (hus : us.length = m * k) (hrd : Rd w p us) (hpn : p = none → c = 0) (h1 : ∀ u ∈ us, u.oneCell' = true)
    (hbytes : (n + m) * bytes ≤ 211106232532992) (h63 : n + m ≤ maxLen) (hbase : base ≤ w.heap.size) :
    ∃ v' w', (Builtin.append_ #[t, t] ty #[v, .slice p m c]).run P w = .ok v' w' ∧ w'.ownsRow base e k v' (n + m) (xs ++ us) ∧ w.grownBy w' v.ownBlock ∧ (∀ g, v'.ownBlock = some g → v.ownBlock = some g ∨ w.heap.size ≤ g) := by
  rcases Nat.eq_zero_or_pos m with hm0 | hm0
  · subst hm0
    obtain rfl : us = [] := List.eq_nil_of_length_eq_zero (by simpa using hus)
    simp only [Nat.add_zero, List.append_nil]
    have hself : w.grownBy w v.ownBlock := ⟨rfl, rfl, rfl, Nat.le_refl _, fun _ _ _ => rfl⟩
    cases p with
    | none =>
      have hc := hpn rfl
      subst hc
      exact ⟨v, w, run_append_owned_none (P := P) (w := w) base t ty e i k ht hi v n xs hown, hown, hself, fun g hg => Or.inl hg⟩
    | some a =>
      refine ⟨v, w, ?_, hown, hself, fun g hg => Or.inl hg⟩
      rcases hown.2 with ⟨rfl, rfl⟩ | ⟨g, cap, cur, rfl, hbg, hg, hnc, hcm, hcs, htake⟩
      · simp [Builtin.append_, run_underlying ht, sizeOf, typeInfo, hi, Builtin.lenOf, Builtin.firstCells, loadCells, loadCellsFrom]
      · simp [Builtin.append_, run_underlying ht, sizeOf, typeInfo, hi, Builtin.lenOf, Builtin.firstCells, loadCells, loadCellsFrom, hnc, storeCells]
  · have hmk : 0 < m * k := Nat.mul_pos hm0 hk0
    obtain ⟨b, o, rfl, hcell⟩ := hrd (by omega)
    have hnews : ∀ j u, us[j]? = some u → w.cell? ((⟨b, o, none⟩ : Addr).add j) = some u := by
      intro j u hu
      have hadd : (⟨b, o, none⟩ : Addr).add j = ⟨b, o + j, none⟩ := by unfold Addr.add; split <;> simp_all
      rw [hadd]
      exact hcell j u hu
    have hmax : (maxLen : Nat) = 9223372036854775807 := by decide
    have h63m : ((n + m : Nat) : Int) ≤ 9223372036854775807 := by omega
    have hxl : xs.length = n * k := hown.1
    have hlen : (xs ++ us).length = (n + m) * k := by rw [List.length_append, hxl, hus, Nat.add_mul]
    have grown : ∀ (old : Nat), old < n + m → ∀ (row : Option Nat),
        (w.drew.alloc (.cells (xs.toArray ++ us.toArray ++ Builtin.zeroCells z.cells (grownCap w (n + m) old e - (n + m))) e)).ownsRow base e k
          (.slice (some ⟨w.heap.size, 0, none⟩) (n + m) (grownCap w (n + m) old e)) (n + m) (xs ++ us) ∧
        w.grownBy (w.drew.alloc (.cells (xs.toArray ++ us.toArray ++ Builtin.zeroCells z.cells (grownCap w (n + m) old e - (n + m))) e)) row := by
      intro old ho row
      have hge := grownCap_ge w (n + m) old e
      have hcm : grownCap w (n + m) old e ≤ maxLen := grownCap_le_maxLen w (n + m) old e h63
      refine ⟨⟨hlen, .inr ⟨w.heap.size, _, _, rfl, hbase, heap_alloc_new w.drew _, hge, hcm, ?_, ?_⟩⟩, ⟨rfl, rfl, rfl, by simp, fun k hk _ => Below.heap_alloc w.drew _ k hk⟩⟩
      · simp only [Array.size_append, List.size_toArray, size_zeroCells, hzs]
        have e1 : xs.length + us.length = (n + m) * k := by rw [← List.length_append]; exact hlen
        rw [e1, ← Nat.add_mul, Nat.add_sub_cancel' hge]
      · simp only [Array.toList_append, List.append_assoc]
        rw [← List.append_assoc, ← hlen]
        exact List.take_left
    rcases hown.2 with ⟨rfl, rfl⟩ | ⟨g, cap, cur, rfl, hbg, hg, hnc, hcm, hcs, htake⟩
    · have hx : xs = [] := List.eq_nil_of_length_eq_zero (by simpa using hxl)
      subst hx
      have hr := run_append_nil (P := P) w t ty e i z ht hi hz ⟨b, o, none⟩ m c us (by rw [hsize]; exact hus) hnews hm0 (by omega) (by rw [hby]; have hb := hbytes; simp only [Nat.zero_add] at hb; omega)
      have hgr := grown 0 (by omega) (Value.ownBlock (.slice none 0 0))
      simp only [Nat.zero_add, List.nil_append, Array.empty_append] at hgr ⊢
      exact ⟨_, _, hr, hgr.1, hgr.2, fun g hg => Or.inr (by cases hg; exact Nat.le_refl _)⟩
    · by_cases hroom : n + m ≤ cap
      · obtain ⟨w', hr, ho, hgr⟩ := run_append_fits (P := P) w base t ty e i k ht hi hsize g n cap xs hown ⟨b, o, none⟩ m c us hus hnews h1 hroom
        exact ⟨_, _, hr, ho, hgr, fun g hg => Or.inl hg⟩
      · have holds : ∀ j u, xs[j]? = some u → w.cell? ((⟨g, 0, none⟩ : Addr).add j) = some u := hown.cells (g := g) rfl
        have hr := run_append_grow (P := P) w t ty e i z ht hi hz ⟨g, 0, none⟩ n cap xs (by rw [hsize]; exact hxl) holds ⟨b, o, none⟩ m c us (by rw [hsize]; exact hus) hnews (by omega) h63m (by rw [hby]; exact grow_fits (by omega) hbytes hb1)
        have hgr := grown cap (by omega) (Value.ownBlock (.slice (some ⟨g, 0, none⟩) n cap))
        exact ⟨_, _, hr, hgr.1, hgr.2, fun g hg => Or.inr (by cases hg; exact Nat.le_refl _)⟩

/-- THE OPERATION, for the walk. -/
theorem wpList_append_k {w : World} {ops : Array Oper} {rest : List Oper} {o : Oper} {a : Act} {Q : Exit → Act → World → Prop} (hgd : o.guard = none) (s x : Operand) (t : TypeId)
    (ho : o.op = .call { callee := .builtin .append, args := #[s, x], argTypes := #[t, t] })
    (base : Nat) (e : TypeId) (i : TypeInfo) (z : Value) (k bytes : Nat) (ht : P.underlying t = some (.slice e)) (hi : P.info? e = some i) (hz : i.zero = some z)
    (hsize : i.size = k) (hk0 : 0 < k) (hby : i.bytes = bytes) (hb1 : bytes ≤ 1000) (hzs : z.cells.size = k)
    (v : Value) (n : Nat) (xs : List Value) (hs : a.eval s = v) (hown : w.ownsRow base e k v n xs)
    (p : Option Addr) (m c : Nat) (us : List Value) (hx : a.eval x = .slice p m c) (hus : us.length = m * k) (hrd : Rd w p us) (hpn : p = none → c = 0) (h1 : ∀ u ∈ us, u.oneCell' = true)
    (hsz : n + m ≤ 10000) (hbase : base ≤ w.heap.size)
    (h : ∀ p' c' w', w'.ownsRow base e k (.slice p' (n + m) c') (n + m) (xs ++ us) → w.grownBy w' v.ownBlock → (∀ g, (Value.slice p' (n + m) c').ownBlock = some g → v.ownBlock = some g ∨ w.heap.size ≤ g) → wpList P ops Q rest (a.put o.dst (.slice p' (n + m) c')) w') : wpList P ops Q (o :: rest) a w := by
  refine wpList_plain hgd fun K hK => ?_
  obtain ⟨v', w', hr, h2, h3, h4⟩ := run_append_k (P := P) w base t o.type e i z k bytes ht hi hz hsize hk0 hby (by omega) hzs v n xs hown p m c us hus hrd hpn h1
    (Nat.le_trans (Nat.mul_le_mul hsz hb1) (by decide)) (by unfold maxLen; omega) hbase
  obtain ⟨p', c', rfl, -⟩ := own_rd h2
  unfold Oper.wp execOp
  simp only [ho, resolve, invoke, builtin, Sem.run_bind, Sem.run_pure, Result.andThen_ok, List.map_toArray, List.map_cons, List.map_nil, hs, hx, hr]
  exact hK _ _ (h p' c' w' h2 h3 h4)
end

end Go.Proofs.YthifdefjmfakgaaGreat

namespace Go.Proofs.YthifdefjmfakgaaGreat
open Go.RowKit

theorem qcell_same {w : World} {a : Addr} {u v : Value} (h : w.cell? a = some u) : (w.setCell a v).cell? a = some v := World.cell?_setCell_same' w a v (by rw [h]; rfl)
theorem qcell_other {w : World} {a b : Addr} {v : Value} (h : a ≠ b) : (w.setCell a v).cell? b = w.cell? b := by
  apply World.cell?_setCell_other
  exact h

/-- how two stamps stand -/
def qcmpS (t r t' r' : Int) : Int := if t = t' then (if r = r' then 0 else if r < r' then -1 else 1) else if t < t' then -1 else 1

set_option maxRecDepth 100000 in
set_option maxHeartbeats 1000000 in
theorem qcompare_any (t r t' r' : Int) (w : World) :
    Calls Tryz.prog 76 #[.agg #[.int .i64 t, .int .i64 r], .agg #[.int .i64 t', .int .i64 r']] w fun e w' => e = .returned (.int .i64 (qcmpS t r t' r')) ∧ Below w.heap.size w w' := by
  have hb := ((Below.refl w.heap.size w).alloc (Nat.le_refl _) (.cells #[.int .i64 t, .int .i64 r] 35)).alloc (by simp) (.cells #[.int .i64 t', .int .i64 r'] 35)
  have HB := Lib.hid hb
  clear hb
  by_cases h0 : t = t'
  · subst h0
    by_cases h1 : r = r'
    · subst h1
      have HR := Lib.hid (show qcmpS t r t r = 0 from by simp [qcmpS])
      go_enter Tryz.func76, Tryz.ntmps76
      go_wp2
      go_ret
      rw [HR.out]
      exact ⟨rfl, HB.out⟩
    · have e1 : ((r == r') : Bool) = false := by simpa using h1
      by_cases h2 : r < r'
      · have HR := Lib.hid (show qcmpS t r t r' = -1 from by simp [qcmpS, h1, h2])
        go_enter Tryz.func76, Tryz.ntmps76
        go_wp2
        go_ret
        rw [HR.out]
        exact ⟨rfl, HB.out⟩
      · have d2 : decide (r < r') = false := decide_eq_false h2
        have HR := Lib.hid (show qcmpS t r t r' = 1 from by simp [qcmpS, h1, h2])
        go_enter Tryz.func76, Tryz.ntmps76
        go_wp2
        go_ret
        rw [HR.out]
        exact ⟨rfl, HB.out⟩
  · have e1 : ((t == t') : Bool) = false := by simpa using h0
    by_cases h2 : t < t'
    · have HR := Lib.hid (show qcmpS t r t' r' = -1 from by simp [qcmpS, h0, h2])
      go_enter Tryz.func76, Tryz.ntmps76
      go_wp2
      go_ret
      rw [HR.out]
      exact ⟨rfl, HB.out⟩
    · have d2 : decide (t < t') = false := decide_eq_false h2
      have HR := Lib.hid (show qcmpS t r t' r' = 1 from by simp [qcmpS, h0, h2])
      go_enter Tryz.func76, Tryz.ntmps76
      go_wp2
      go_ret
      rw [HR.out]
      exact ⟨rfl, HB.out⟩

/-- how two stamps stand, as a number -/
def cmpV (a b : Qm.St) : Int := qcmpS a.1 a.2 b.1 b.2
theorem cmpV_lt {a b : Qm.St} (h : Qm.ltS a b) : cmpV a b = -1 := by
  obtain ⟨a, x⟩ := a
  obtain ⟨b, y⟩ := b
  unfold Qm.ltS at h
  dsimp only at h
  unfold cmpV qcmpS
  dsimp only
  repeat' split
  all_goals omega
theorem cmpV_gt {a b : Qm.St} (h : Qm.ltS b a) : cmpV a b = 1 := by
  obtain ⟨a, x⟩ := a
  obtain ⟨b, y⟩ := b
  unfold Qm.ltS at h
  dsimp only at h
  unfold cmpV qcmpS
  dsimp only
  repeat' split
  all_goals omega
theorem cmpV_eq (a : Qm.St) : cmpV a a = 0 := by simp [cmpV, qcmpS]

end Go.Proofs.YthifdefjmfakgaaGreat
