/-
  PLAIN MATHEMATICS of layer 5 (queue): the order of items, heaps in lists, rising rows: lists of integers alone; no program, no world.
  No conditions.
-/
import Init
namespace Go.Proofs.Ytcenmkcencdlcaa.Qm

abbrev St := Int × Int
abbrev It := (Int × Int) × Int

/-- how two stamps stand -/
def ltS (a b : St) : Prop := a.1 < b.1 ∨ (a.1 = b.1 ∧ a.2 < b.2)
instance (a b : St) : Decidable (ltS a b) := by unfold ltS; exact inferInstance
/-- does item a stand ahead of b? -/
def ltI (a b : It) : Prop := ltS a.1 b.1 ∨ (a.1 = b.1 ∧ a.2 < b.2)
instance (a b : It) : Decidable (ltI a b) := by unfold ltI; exact inferInstance

theorem ltS_irrefl (a : St) : ¬ ltS a a := by unfold ltS; omega
theorem ltS_trans {a b c : St} (h : ltS a b) (k : ltS b c) : ltS a c := by unfold ltS at *; omega
theorem ltS_tri (a b : St) : ltS a b ∨ a = b ∨ ltS b a := by
  obtain ⟨x, y⟩ := a
  obtain ⟨z, u⟩ := b
  simp only [ltS, Prod.mk.injEq]
  omega
theorem ltS_le {a b c : St} (h : ¬ ltS b a) (k : ¬ ltS c b) : ¬ ltS c a := by unfold ltS at *; omega
theorem ltS_asymm {a b : St} (h : ltS a b) : ¬ ltS b a := by unfold ltS at *; omega
theorem eq_of_ltS {a b : St} (h : ¬ ltS a b) (k : ¬ ltS b a) : a = b := by
  rcases ltS_tri a b with h1 | h1 | h1
  · exact absurd h1 h
  · exact h1
  · exact absurd h1 k

theorem ltI_irrefl (a : It) : ¬ ltI a a := by
  unfold ltI
  rintro (h | ⟨_, h⟩)
  · exact ltS_irrefl _ h
  · omega
theorem ltI_tri (a b : It) : ltI a b ∨ a = b ∨ ltI b a := by
  obtain ⟨a, x⟩ := a
  obtain ⟨b, y⟩ := b
  simp only [ltI, Prod.mk.injEq]
  rcases ltS_tri a b with h | h | h
  · exact Or.inl (Or.inl h)
  · subst h
    have : x < y ∨ x = y ∨ y < x := by omega
    rcases this with h | h | h
    · exact Or.inl (Or.inr ⟨rfl, h⟩)
    · exact Or.inr (Or.inl ⟨rfl, h⟩)
    · exact Or.inr (Or.inr (Or.inr ⟨rfl, h⟩))
  · exact Or.inr (Or.inr (Or.inl h))
theorem ltI_trans {a b c : It} (h : ltI a b) (k : ltI b c) : ltI a c := by
  unfold ltI at *
  rcases h with h | ⟨h1, h2⟩ <;> rcases k with k | ⟨k1, k2⟩
  · exact Or.inl (ltS_trans h k)
  · exact Or.inl (k1 ▸ h)
  · exact Or.inl (h1 ▸ k)
  · exact Or.inr ⟨h1.trans k1, by omega⟩
theorem ltI_asymm {a b : It} (h : ltI a b) : ¬ ltI b a := fun k => ltI_irrefl _ (ltI_trans h k)
theorem eq_of_ltI {a b : It} (h : ¬ ltI a b) (k : ¬ ltI b a) : a = b := by
  rcases ltI_tri a b with h1 | h1 | h1
  · exact absurd h1 h
  · exact h1
  · exact absurd h1 k
/-- at most -/
theorem leI_trans {a b c : It} (h : ¬ ltI b a) (k : ¬ ltI c b) : ¬ ltI c a := by
  intro hc
  rcases ltI_tri a b with h1 | rfl | h1
  · rcases ltI_tri b c with h2 | rfl | h2
    · exact ltI_irrefl _ (ltI_trans hc (ltI_trans h1 h2))
    · exact ltI_asymm h1 hc
    · exact k h2
  · exact k hc
  · exact h h1

/-- item k of a list -/
def itAt (d : List It) (k : Nat) : It := d.getD k ((0, 0), 0)
theorem itAt_set {d : List It} {i : Nat} (x : It) (h : i < d.length) (k : Nat) : itAt (d.set i x) k = if k = i then x else itAt d k := by
  unfold itAt
  by_cases hk : k = i
  · subst hk; simp [List.getD, h]
  · simp [List.getD, hk, Ne.symm hk]
theorem itAt_mem {d : List It} {k : Nat} (h : k < d.length) : itAt d k ∈ d := by simp [itAt, List.getD, h]
theorem mem_itAt {d : List It} {x : It} (h : x ∈ d) : ∃ k, k < d.length ∧ itAt d k = x := by
  obtain ⟨k, hk, e⟩ := List.getElem_of_mem h
  exact ⟨k, hk, by simp [itAt, List.getD, hk, e]⟩
theorem itAt_append {d e : List It} {k : Nat} (h : k < d.length) : itAt (d ++ e) k = itAt d k := by
  simp [itAt, List.getD, List.getElem?_append_left h]
theorem itAt_append_right (d : List It) (x : It) : itAt (d ++ [x]) d.length = x := by simp [itAt, List.getD]
theorem itAt_take {d : List It} {n k : Nat} (h : k < n) : itAt (d.take n) k = itAt d k := by
  simp [itAt, List.getD, h]

/-- two change places -/
def sw (d : List It) (i j : Nat) : List It := (d.set i (itAt d j)).set j (itAt d i)
theorem sw_length (d : List It) (i j : Nat) : (sw d i j).length = d.length := by simp [sw]
theorem sw_at {d : List It} {i j : Nat} (hi : i < d.length) (hj : j < d.length) (k : Nat) : itAt (sw d i j) k = if k = j then itAt d i else if k = i then itAt d j else itAt d k := by
  unfold sw
  rw [itAt_set _ (by simpa using hj), itAt_set _ hi]
theorem sw_perm {d : List It} {i j : Nat} (hi : i < d.length) (hj : j < d.length) : (sw d i j).Perm d := by
  have h := Array.swap_perm (xs := d.toArray) (i := i) (j := j) (by simpa using hi) (by simpa using hj)
  have h2 := Array.perm_iff_toList_perm.1 h
  have e : (d.toArray.swap i j (by simpa using hi) (by simpa using hj)).toList = sw d i j := by
    simp [Array.swap, sw, itAt, List.getD, hi, hj]
  rw [e] at h2
  exact h2

/-- the first n are a heap from lo on: who has a parent at or behind lo does not stand ahead of it -/
def HeapF (d : List It) (n lo : Nat) : Prop := ∀ k, 0 < k → k < n → lo ≤ (k - 1) / 2 → ¬ ltI (itAt d k) (itAt d ((k - 1) / 2))
/-- .. but for those below i -/
def DownI (d : List It) (n lo i : Nat) : Prop :=
  (∀ k, 0 < k → k < n → lo ≤ (k - 1) / 2 → (k - 1) / 2 ≠ i → ¬ ltI (itAt d k) (itAt d ((k - 1) / 2))) ∧
  (∀ k, 0 < k → k < n → (k - 1) / 2 = i → 0 < i → lo ≤ (i - 1) / 2 → ¬ ltI (itAt d k) (itAt d ((i - 1) / 2)))
/-- .. but for j itself -/
def UpI (d : List It) (n j : Nat) : Prop :=
  (∀ k, 0 < k → k < n → k ≠ j → ¬ ltI (itAt d k) (itAt d ((k - 1) / 2))) ∧
  (∀ k, 0 < k → k < n → (k - 1) / 2 = j → 0 < j → ¬ ltI (itAt d k) (itAt d ((j - 1) / 2)))

theorem DownI.init {d : List It} {n i : Nat} (h : HeapF d n (i + 1)) : DownI d n i i :=
  ⟨fun k h0 hn hl hne => h k h0 hn (by omega), fun k _ _ _ h0 hl => by omega⟩
theorem HeapF.none {d : List It} {n lo : Nat} (h : n ≤ 2 * lo + 1) : HeapF d n lo := fun k h0 hn hl => by omega
theorem HeapF.mono {d : List It} {n m lo : Nat} (h : HeapF d n lo) (hm : m ≤ n) : HeapF d m lo := fun k h0 hn hl => h k h0 (by omega) hl
theorem HeapF.congr {d e : List It} {n lo : Nat} (h : HeapF d n lo) (he : ∀ k, k < n → itAt e k = itAt d k) : HeapF e n lo := fun k h0 hn hl => by
  rw [he k hn, he _ (by omega)]
  exact h k h0 hn hl

/-- no child, or none that stands ahead -/
theorem DownI.stop {d : List It} {n lo i : Nat} (h : DownI d n lo i) (hc : ∀ k, 0 < k → k < n → (k - 1) / 2 = i → ¬ ltI (itAt d k) (itAt d i)) : HeapF d n lo := by
  intro k h0 hn hl
  by_cases e : (k - 1) / 2 = i
  · rw [e]; exact hc k h0 hn e
  · exact h.1 k h0 hn hl e
/-- the smaller child goes up -/
theorem DownI.step {d : List It} {n lo i j : Nat} (h : DownI d n lo i) (hd : n ≤ d.length) (hjn : j < n) (hj0 : 0 < j) (hji : (j - 1) / 2 = i) (hlo : lo ≤ i) (hlt : ltI (itAt d j) (itAt d i))
    (hc : ∀ k, 0 < k → k < n → (k - 1) / 2 = i → ¬ ltI (itAt d k) (itAt d j)) : DownI (sw d i j) n lo j := by
  have hi : i < d.length := by omega
  have hj : j < d.length := by omega
  have hij : i ≠ j := by omega
  have A := sw_at hi hj
  constructor
  · intro k h0 hn hl hne
    rw [A k, A ((k - 1) / 2), if_neg hne]
    by_cases kj : k = j
    · subst kj
      rw [if_pos rfl, hji, if_pos rfl]
      exact ltI_asymm hlt
    · rw [if_neg kj]
      by_cases ki : k = i
      · subst ki
        rw [if_pos rfl, if_neg (by omega)]
        exact h.2 j hj0 hjn hji (by omega) hl
      · rw [if_neg ki]
        by_cases kp : (k - 1) / 2 = i
        · rw [if_pos kp]
          exact hc k h0 hn kp
        · rw [if_neg kp]
          exact h.1 k h0 hn hl kp
  · intro k h0 hn hk hj' hl
    rw [A k, A ((j - 1) / 2), if_neg (by omega), if_neg (by omega), if_neg (by omega), hji, if_pos rfl]
    have := h.1 k h0 hn (by omega) (by omega)
    rw [hk] at this
    exact this

theorem UpI.start {d : List It} {n : Nat} (h : HeapF d n 0) : UpI d (n + 1) n :=
  ⟨fun k h0 hn hne => h k h0 (by omega) (Nat.zero_le _), fun k h0 hn hk hj => by omega⟩
theorem UpI.stop {d : List It} {n j : Nat} (h : UpI d n j) (hc : 0 < j → ¬ ltI (itAt d j) (itAt d ((j - 1) / 2))) : HeapF d n 0 := by
  intro k h0 hn _
  by_cases e : k = j
  · subst e; exact hc h0
  · exact h.1 k h0 hn e
theorem UpI.step {d : List It} {n j : Nat} (h : UpI d n j) (hd : n ≤ d.length) (hjn : j < n) (hj0 : 0 < j) (hlt : ltI (itAt d j) (itAt d ((j - 1) / 2))) : UpI (sw d ((j - 1) / 2) j) n ((j - 1) / 2) := by
  have hi : (j - 1) / 2 < d.length := by omega
  have hj : j < d.length := by omega
  have A := sw_at hi hj
  constructor
  · intro k h0 hn hne
    rw [A k, A ((k - 1) / 2), if_neg hne]
    by_cases kj : k = j
    · subst kj
      rw [if_pos rfl, if_neg (by omega), if_pos rfl]
      exact ltI_asymm hlt
    · rw [if_neg kj]
      by_cases kp : (k - 1) / 2 = j
      · rw [if_pos kp]
        exact h.2 k h0 hn kp hj0
      · rw [if_neg kp]
        by_cases kq : (k - 1) / 2 = (j - 1) / 2
        · rw [if_pos kq]
          have h1 := h.1 k h0 hn kj
          rw [kq] at h1
          exact leI_trans (ltI_asymm hlt) h1
        · rw [if_neg kq]
          exact h.1 k h0 hn kj
  · intro k h0 hn hk hj' 
    rw [A k, A (((j - 1) / 2 - 1) / 2), if_neg (by omega : ((j - 1) / 2 - 1) / 2 ≠ j), if_neg (by omega : ((j - 1) / 2 - 1) / 2 ≠ (j - 1) / 2)]
    have h2 := h.1 ((j - 1) / 2) hj' (by omega) (by omega)
    by_cases kj : k = j
    · rw [if_pos kj]; exact h2
    · rw [if_neg kj, if_neg (by omega)]
      have h1 := h.1 k h0 hn kj
      rw [hk] at h1
      exact leI_trans h2 h1

/-- the first one stands behind none -/
theorem HeapF.first {d : List It} {n : Nat} (h : HeapF d n 0) : ∀ k, k < n → ¬ ltI (itAt d k) (itAt d 0) := by
  intro k
  induction k using Nat.strongRecOn with
  | _ k ih =>
    intro hk
    rcases Nat.eq_zero_or_pos k with rfl | h0
    · exact ltI_irrefl _
    · exact leI_trans (ih ((k - 1) / 2) (by omega) (by omega)) (h k h0 hk (Nat.zero_le _))

/-- m stands behind none of them -/
def Least (m : It) (l : List It) : Prop := m ∈ l ∧ ∀ x, x ∈ l → ¬ ltI x m
theorem HeapF.least {d : List It} (h : HeapF d d.length 0) (h0 : 0 < d.length) : Least (itAt d 0) d :=
  ⟨itAt_mem h0, fun x hx => by obtain ⟨k, hk, rfl⟩ := mem_itAt hx; exact h.first k hk⟩
theorem Least.perm {m : It} {l k : List It} (h : Least m l) (hp : l.Perm k) : Least m k := ⟨hp.mem_iff.1 h.1, fun x hx => h.2 x (hp.mem_iff.2 hx)⟩
theorem Least.uniq {m n : It} {l : List It} (h : Least m l) (k : Least n l) : m = n := eq_of_ltI (k.2 _ h.1) (h.2 _ k.1)

/-- the last one is taken behind a change of places with the first -/
theorem take_last (d : List It) (h : 0 < d.length) : d.take (d.length - 1) ++ [itAt d (d.length - 1)] = d := by
  have e : d.length = d.length - 1 + 1 := by omega
  have h1 := List.take_succ_eq_append_getElem (l := d) (i := d.length - 1) (by omega)
  rw [← e, List.take_length] at h1
  rw [show itAt d (d.length - 1) = d[d.length - 1] from by simp [itAt, List.getD, show d.length - 1 < d.length from by omega]]
  exact h1.symm

/-- a list without place i -/
theorem erase_perm {l : List It} {i : Nat} (h : i < l.length) : (itAt l i :: (l.take i ++ l.drop (i + 1))).Perm l := by
  have e : l.take i ++ itAt l i :: l.drop (i + 1) = l := by
    rw [show itAt l i = l[i] from by simp [itAt, List.getD, h], List.getElem_cons_drop h, List.take_append_drop]
  conv => rhs; rw [← e]
  exact (List.perm_middle).symm

/-- RISING rows of stamps -/
def Rising (l : List St) : Prop := l.Pairwise ltS
def stOf (l : List St) (k : Nat) : St := l.getD k (0, 0)
theorem stOf_lt {l : List St} {k : Nat} (h : k < l.length) : stOf l k = l[k] := by simp [stOf, List.getD, h]
theorem rising_iff (l : List St) : Rising l ↔ ∀ k, 0 < k → k < l.length → ltS (stOf l (k - 1)) (stOf l k) := by
  constructor
  · intro h k h0 hk
    rw [stOf_lt hk, stOf_lt (by omega)]
    exact (List.pairwise_iff_getElem.1 h) (k - 1) k (by omega) hk (by omega)
  · intro h
    refine List.pairwise_iff_getElem.2 fun i j hi hj hij => ?_
    have key : ∀ m, i + m + 1 < l.length → ltS (stOf l i) (stOf l (i + m + 1)) := by
      intro m
      induction m with
      | zero => intro hm; exact h (i + 1) (by omega) hm
      | succ m ih => intro hm; exact ltS_trans (ih (by omega)) (h (i + (m + 1) + 1) (by omega) hm)
    have := key (j - i - 1) (by omega)
    rw [show i + (j - i - 1) + 1 = j from by omega, stOf_lt hi, stOf_lt hj] at this
    exact this
/-- a rising row is told by what is in it -/
theorem rising_uniq : ∀ {l m : List St}, Rising l → Rising m → (∀ x, x ∈ l ↔ x ∈ m) → l = m
  | [], [], _, _, _ => rfl
  | [], b :: m, _, _, h => absurd ((h b).2 (by simp)) (by simp)
  | a :: l, [], _, _, h => absurd ((h a).1 (by simp)) (by simp)
  | a :: l, b :: m, hl, hm, h => by
    have hl1 := List.pairwise_cons.1 hl
    have hm1 := List.pairwise_cons.1 hm
    have hab : a = b := by
      rcases List.mem_cons.1 ((h a).1 (by simp)) with e | e
      · exact e
      · rcases List.mem_cons.1 ((h b).2 (by simp)) with e2 | e2
        · exact e2.symm
        · exact absurd (hl1.1 b e2) (ltS_asymm (hm1.1 a e))
    subst hab
    have : l = m := rising_uniq hl1.2 hm1.2 fun x => by
      have := h x
      simp only [List.mem_cons] at this
      constructor
      · intro hx
        rcases this.1 (Or.inr hx) with rfl | e
        · exact absurd (hl1.1 _ hx) (ltS_irrefl _)
        · exact e
      · intro hx
        rcases this.2 (Or.inr hx) with rfl | e
        · exact absurd (hm1.1 _ hx) (ltS_irrefl _)
        · exact e
    rw [this]

/-- what is kept of the first n: each that is not the one ahead of it -/
def cp (l : List St) : Nat → List St
  | 0 => []
  | n + 1 => if n = 0 then [stOf l 0] else if stOf l n = stOf l (n - 1) then cp l n else cp l n ++ [stOf l n]
theorem cp_succ (l : List St) {n : Nat} (h : 0 < n) : cp l (n + 1) = if stOf l n = stOf l (n - 1) then cp l n else cp l n ++ [stOf l n] := by
  rw [cp, if_neg (by omega)]
theorem cp_one (l : List St) : cp l 1 = [stOf l 0] := rfl
theorem cp_length_le (l : List St) (n : Nat) : (cp l n).length ≤ n := by
  induction n with
  | zero => simp [cp]
  | succ n ih =>
    rw [cp]
    split
    · simp
    · split
      · omega
      · simp; omega
/-- .. of a row that stands in order: rising, and all of it -/
theorem cp_rising (l : List St) (hs : ∀ k, 0 < k → k < l.length → ¬ ltS (stOf l k) (stOf l (k - 1))) (n : Nat) (h : n ≤ l.length) :
    Rising (cp l n) ∧ (∀ x, x ∈ cp l n ↔ x ∈ l.take n) ∧ (0 < n → ∀ x, x ∈ cp l n → ¬ ltS (stOf l (n - 1)) x) := by
  induction n with
  | zero => simp [cp, Rising]
  | succ n ih =>
    obtain ⟨i1, i2, i3⟩ := ih (by omega)
    have hts : l.take (n + 1) = l.take n ++ [stOf l n] := by rw [List.take_succ_eq_append_getElem (by omega), stOf_lt (by omega)]
    rcases Nat.eq_zero_or_pos n with rfl | h0
    · rw [cp_one, hts]
      refine ⟨by simp [Rising], by simp, fun _ x hx => ?_⟩
      rw [List.mem_singleton.1 hx]
      exact ltS_irrefl _
    · rw [cp_succ l h0, hts]
      by_cases e : stOf l n = stOf l (n - 1)
      · rw [if_pos e]
        refine ⟨i1, fun x => ?_, fun _ x hx => ?_⟩
        · rw [i2 x]
          simp only [List.mem_append, List.mem_singleton]
          constructor
          · exact Or.inl
          · rintro (h | rfl)
            · exact h
            · rw [e, stOf_lt (by omega)]
              exact List.mem_take_iff_getElem.2 ⟨n - 1, by omega, rfl⟩
        · show ¬ ltS (stOf l n) x
          rw [e]; exact i3 h0 x hx
      · rw [if_neg e]
        have hlt : ltS (stOf l (n - 1)) (stOf l n) := by
          rcases ltS_tri (stOf l (n - 1)) (stOf l n) with h1 | h1 | h1
          · exact h1
          · exact absurd h1.symm e
          · exact absurd h1 (hs n h0 (by omega))
        have hall : ∀ x, x ∈ cp l n → ltS x (stOf l n) := fun x hx => by
          rcases ltS_tri x (stOf l (n - 1)) with h1 | h1 | h1
          · exact ltS_trans h1 hlt
          · rw [h1]; exact hlt
          · exact absurd h1 (i3 h0 x hx)
        refine ⟨?_, fun x => ?_, fun _ x hx => ?_⟩
        · exact List.pairwise_append.2 ⟨i1, by simp, fun a ha b hb => by rw [List.mem_singleton.1 hb]; exact hall a ha⟩
        · simp only [List.mem_append, List.mem_singleton]
          rw [i2 x]
        · show ¬ ltS (stOf l n) x
          rcases List.mem_append.1 hx with h1 | h1
          · exact ltS_asymm (hall x h1)
          · rw [List.mem_singleton.1 h1]; exact ltS_irrefl _
/-- nothing is left out as long as no two that stand beside each other are one -/
theorem cp_take (l : List St) (n : Nat) (h : n ≤ l.length) (hne : ∀ k, 0 < k → k < n → stOf l k ≠ stOf l (k - 1)) : cp l n = l.take n := by
  induction n with
  | zero => simp [cp]
  | succ n ih =>
    have hts : l.take (n + 1) = l.take n ++ [stOf l n] := by rw [List.take_succ_eq_append_getElem (by omega), stOf_lt (by omega)]
    rcases Nat.eq_zero_or_pos n with rfl | h0
    · rw [cp_one, hts]; simp
    · rw [cp_succ l h0, if_neg (hne n h0 (by omega)), ih (by omega) (fun k a b => hne k a (by omega)), hts]

/-- the document's With: s put into a rising row -/
def below (l : List St) (s : St) : Nat := (l.takeWhile fun x => decide (ltS x s)).length
def withS (l : List St) (s : St) (k : Nat) : List St := if k < l.length ∧ stOf l k = s then l else l.take k ++ [s] ++ l.drop k
theorem with_rising {l : List St} {s : St} {k : Nat} (hl : Rising l) (hk : k ≤ l.length) (hb : ∀ i, i < k → ltS (stOf l i) s) (ha : k < l.length → ¬ ltS (stOf l k) s) :
    Rising (withS l s k) ∧ ∀ x, x ∈ withS l s k ↔ x ∈ l ∨ x = s := by
  unfold withS
  by_cases e : k < l.length ∧ stOf l k = s
  · rw [if_pos e]
    refine ⟨hl, fun x => ⟨Or.inl, ?_⟩⟩
    rintro (h | rfl)
    · exact h
    · rw [← e.2, stOf_lt e.1]; exact List.getElem_mem _
  · rw [if_neg e]
    have hp := List.pairwise_iff_getElem.1 hl
    have h1 : ∀ a, a ∈ l.take k → ltS a s := fun a ha => by
      obtain ⟨i, hi, rfl⟩ := List.mem_take_iff_getElem.1 ha
      have := hb i (by omega)
      rw [stOf_lt (by omega)] at this
      exact this
    have h2 : ∀ a, a ∈ l.drop k → ltS s a := fun a ha' => by
      obtain ⟨i, hi, rfl⟩ := List.mem_drop_iff_getElem.1 ha'
      have hk1 : k < l.length := by omega
      have h3 : ltS s (stOf l k) := by
        rcases ltS_tri s (stOf l k) with h | h | h
        · exact h
        · exact absurd ⟨hk1, h.symm⟩ e
        · exact absurd h (ha hk1)
      rw [stOf_lt hk1] at h3
      rcases Nat.eq_zero_or_pos i with rfl | h0
      · simpa using h3
      · exact ltS_trans h3 (hp k (k + i) hk1 (by omega) (by omega))
    refine ⟨?_, fun x => ?_⟩
    · refine List.pairwise_append.2 ⟨List.pairwise_append.2 ⟨hl.sublist (List.take_sublist _ _), by simp, fun a ha b hb' => ?_⟩, hl.sublist (List.drop_sublist _ _), fun a ha b hb' => ?_⟩
      · rw [List.mem_singleton.1 hb']; exact h1 a ha
      · rcases List.mem_append.1 ha with h | h
        · exact ltS_trans (h1 a h) (h2 b hb')
        · rw [List.mem_singleton.1 h]; exact h2 b hb'
    · simp only [List.mem_append, List.mem_singleton]
      constructor
      · rintro ((h | h) | h)
        · exact Or.inl (List.mem_of_mem_take h)
        · exact Or.inr h
        · exact Or.inl (List.mem_of_mem_drop h)
      · rintro (h | h)
        · rw [← List.take_append_drop k l] at h
          rcases List.mem_append.1 h with h | h
          · exact Or.inl (Or.inl h)
          · exact Or.inr h
        · exact Or.inl (Or.inr h)

/-- the place of s: told by what stands ahead -/
theorem place_uniq {l : List St} {s : St} {j k : Nat} (hj : j ≤ l.length) (hk : k ≤ l.length) (hb : ∀ i, i < j → ltS (stOf l i) s) (ha : j < l.length → ¬ ltS (stOf l j) s)
    (hb' : ∀ i, i < k → ltS (stOf l i) s) (ha' : k < l.length → ¬ ltS (stOf l k) s) : j = k := by
  rcases Nat.lt_trichotomy j k with h | h | h
  · exact absurd (hb' j h) (ha (by omega))
  · exact h
  · exact absurd (hb k h) (ha' (by omega))

end Go.Proofs.Ytcenmkcencdlcaa.Qm
