/-
  PLAIN MATHEMATICS of layer 4 (poskey): keys as fractions, the key between two, rows of keys: lists of bytes alone; no program, no world.
  No conditions.
  MAY A KEY BE (the program's Right).
  No conditions but sizes.
-/
import Derived.Lib.Bytes
import Derived.Lib.Bytealg
import Derived.Lib.Small
import Derived.Test.YthifdefjmfakgaaGreatGA
namespace Go.Proofs.YthifdefjmfakgaaGreat.Km

/-- byte i of a list, as a number; 0 behind its end -/
def dg (l : List UInt8) (i : Nat) : Nat := (l.getD i 0).toNat
theorem dg_lt (l : List UInt8) (i : Nat) : dg l i < 256 := (l.getD i 0).toNat_lt
theorem dg_get (l : List UInt8) (i : Nat) (h : i < l.length) : dg l i = l[i].toNat := by simp [dg, List.getD, List.getElem?_eq_getElem h]
theorem dg_end (l : List UInt8) (i : Nat) (h : l.length ≤ i) : dg l i = 0 := by simp [dg, List.getD, List.getElem?_eq_none h]
theorem dg_zero (c : UInt8) (l : List UInt8) : dg (c :: l) 0 = c.toNat := by simp [dg]
theorem dg_succ (c : UInt8) (l : List UInt8) (i : Nat) : dg (c :: l) (i + 1) = dg l i := by simp [dg]
theorem dg_nil (i : Nat) : dg [] i = 0 := by simp [dg]
theorem dg_drop (l : List UInt8) (n i : Nat) : dg (l.drop n) i = dg l (n + i) := by simp [dg, List.getD]
theorem dg_pos {l : List UInt8} {i : Nat} (h : 0 < dg l i) : i < l.length := by
  apply Classical.byContradiction
  intro hn
  rw [dg_end l i (by omega)] at h
  omega

/-- the order of fractions, digit by digit -/
def fracLt (f g : Nat → Nat) : Prop := ∃ i, (∀ k, k < i → f k = g k) ∧ f i < g i

theorem first_of {p : Nat → Prop} (i : Nat) (h : p i) : ∃ j, j ≤ i ∧ p j ∧ ∀ k, k < j → ¬ p k := by
  induction i using Nat.strongRecOn with
  | _ i ih =>
    by_cases hk : ∃ k, k < i ∧ p k
    · obtain ⟨k, hk, hp⟩ := hk
      obtain ⟨j, hj, h1, h2⟩ := ih k hk hp
      exact ⟨j, by omega, h1, h2⟩
    · exact ⟨i, Nat.le_refl _, h, fun k hk' hp => hk ⟨k, hk', hp⟩⟩

theorem fracLt_of_first {f g : Nat → Nat} (i : Nat) (hi : f i ≠ g i) (h : ∀ k, k ≤ i → (∀ m, m < k → f m = g m) → f k ≠ g k → f k < g k) : fracLt f g := by
  obtain ⟨j, hj, h1, h2⟩ := first_of (p := fun k => f k ≠ g k) i hi
  have h3 : ∀ m, m < j → f m = g m := fun m hm => Classical.byContradiction fun hn => h2 m hm hn
  exact ⟨j, h3, h j hj h3 h1⟩

theorem fracLt_le {f f' g : Nat → Nat} (hl : ∀ k, f' k ≤ f k) (h : fracLt f g) : fracLt f' g := by
  obtain ⟨i, he, hi⟩ := h
  have h0 := hl i
  refine fracLt_of_first i (by omega) fun k hk hm hne => ?_
  have h1 := hl k
  by_cases hki : k = i
  · subst hki; omega
  · have := he k (by omega); omega

theorem fracLt_asymm {f g : Nat → Nat} (h : fracLt f g) (h' : fracLt g f) : False := by
  obtain ⟨i, he, hi⟩ := h
  obtain ⟨j, he', hj⟩ := h'
  rcases Nat.lt_trichotomy i j with hl | rfl | hl
  · have := he' i hl; omega
  · omega
  · have := he j hl; omega
theorem fracLt_trans {f g h : Nat → Nat} (a : fracLt f g) (b : fracLt g h) : fracLt f h := by
  obtain ⟨i, he, hi⟩ := a
  obtain ⟨j, he', hj⟩ := b
  refine ⟨min i j, fun k hk => ?_, ?_⟩
  · have h1 := he k (by omega); have h2 := he' k (by omega); omega
  · rcases Nat.lt_trichotomy i j with hl | rfl | hl
    · rw [Nat.min_eq_left (by omega)]; have := he' i hl; omega
    · rw [Nat.min_self]; omega
    · rw [Nat.min_eq_right (by omega)]; have := he j hl; omega

/-- the order of texts -/
theorem less_iff : ∀ (a b : List UInt8), Op.bytesLess a b = true ↔ ∃ i, i < b.length ∧ i ≤ a.length ∧ (∀ k, k < i → dg a k = dg b k) ∧ (i = a.length ∨ dg a i < dg b i)
  | a, [] => by simp [Op.bytesLess]
  | [], c :: b => by
    simp only [Op.bytesLess, true_iff]
    exact ⟨0, by simp, by simp, fun k hk => absurd hk (Nat.not_lt_zero _), Or.inl rfl⟩
  | d :: a, c :: b => by
    have ih := less_iff a b
    simp only [Op.bytesLess, Bool.or_eq_true, decide_eq_true_eq, Bool.and_eq_true, beq_iff_eq]
    constructor
    · rintro (h | ⟨rfl, h⟩)
      · refine ⟨0, by simp, by simp, fun k hk => absurd hk (Nat.not_lt_zero _), Or.inr ?_⟩
        rw [dg_zero, dg_zero]; exact h
      · obtain ⟨i, h1, h2, h3, h4⟩ := ih.1 h
        refine ⟨i + 1, by simpa using h1, by simpa using h2, fun k hk => ?_, ?_⟩
        · cases k with
          | zero => rw [dg_zero, dg_zero]
          | succ k => rw [dg_succ, dg_succ]; exact h3 k (by omega)
        · rw [dg_succ, dg_succ]; simpa using h4
    · rintro ⟨i, h1, h2, h3, h4⟩
      cases i with
      | zero =>
        rw [dg_zero, dg_zero] at h4
        rcases h4 with h4 | h4
        · simp at h4
        · exact Or.inl h4
      | succ i =>
        have e := h3 0 (by omega)
        rw [dg_zero, dg_zero] at e
        refine Or.inr ⟨UInt8.toNat_inj.1 e, ih.2 ⟨i, by simpa using h1, by simpa using h2, fun k hk => ?_, ?_⟩⟩
        · have := h3 (k + 1) (by omega)
          rwa [dg_succ, dg_succ] at this
        · rw [dg_succ, dg_succ] at h4; simpa using h4

/-- what is ahead as a fraction is ahead as a text -/
theorem less_of_frac {a b : List UInt8} (h : fracLt (dg a) (dg b)) : Op.bytesLess a b = true := by
  obtain ⟨i, he, hi⟩ := h
  have hb : i < b.length := dg_pos (by omega)
  rw [less_iff]
  by_cases ha : i ≤ a.length
  · exact ⟨i, hb, ha, he, Or.inr hi⟩
  · exact ⟨a.length, by omega, Nat.le_refl _, fun k hk => he k (by omega), Or.inl rfl⟩
/-- and the other way round, where the greater one does not end in 0 -/
theorem frac_of_less {a b : List UInt8} (h : Op.bytesLess a b = true) (hb : 0 < dg b (b.length - 1)) : fracLt (dg a) (dg b) := by
  obtain ⟨i, h1, h2, h3, h4⟩ := (less_iff a b).1 h
  rcases h4 with h4 | h4
  · subst h4
    refine fracLt_of_first (b.length - 1) (by rw [dg_end a _ (by omega)]; omega) fun k hk hm hne => ?_
    have : a.length ≤ k := Classical.byContradiction fun hn => hne (h3 k (by omega))
    rw [dg_end a k this] at hne ⊢
    omega
  · exact ⟨i, h3, h4⟩

theorem dg_ext : ∀ (a b : List UInt8), a.length = b.length → (∀ k, k < a.length → dg a k = dg b k) → a = b
  | [], [], _, _ => rfl
  | [], _ :: _, h, _ => by simp at h
  | _ :: _, [], h, _ => by simp at h
  | c :: a, d :: b, h, hk => by
    have h0 := hk 0 (by simp)
    rw [dg_zero, dg_zero] at h0
    rw [UInt8.toNat_inj.1 h0, dg_ext a b (by simpa using h) fun k hk' => by
      have := hk (k + 1) (by simpa using hk')
      rwa [dg_succ, dg_succ] at this]

/-- what strings.Compare answers -/
theorem compare_less : ∀ (a b : List UInt8), Lib.compareBytes a b = if a = b then 0 else if Op.bytesLess a b = true then -1 else 1
  | [], [] => by simp [Lib.compareBytes]
  | [], c :: b => by simp [Lib.compareBytes, Op.bytesLess]
  | c :: a, [] => by simp [Lib.compareBytes, Op.bytesLess]
  | c :: a, d :: b => by
    have ih := compare_less a b
    simp only [Lib.compareBytes, Op.bytesLess]
    by_cases h1 : c < d
    · rw [if_pos h1]
      have : ¬ c = d := by rintro rfl; exact absurd h1 (UInt8.lt_irrefl c)
      simp [h1, this]
    · rw [if_neg h1]
      by_cases h2 : d < c
      · rw [if_pos h2]
        have : ¬ c = d := by rintro rfl; exact absurd h2 (UInt8.lt_irrefl c)
        simp [h1, this]
      · rw [if_neg h2]
        have : c = d := UInt8.le_antisymm (UInt8.not_lt.1 h2) (UInt8.not_lt.1 h1)
        subst this
        rw [ih]
        simp [h1]
theorem less_irrefl : ∀ a : List UInt8, Op.bytesLess a a = false
  | [] => rfl
  | c :: a => by simp [Op.bytesLess, less_irrefl a, UInt8.lt_irrefl]
theorem less_total : ∀ a b : List UInt8, a ≠ b → Op.bytesLess a b = false → Op.bytesLess b a = true
  | [], [], h, _ => absurd rfl h
  | [], _ :: _, _, h => by simp [Op.bytesLess] at h
  | _ :: _, [], _, _ => by simp [Op.bytesLess]
  | c :: a, d :: b, hne, h => by
    simp only [Op.bytesLess, Bool.or_eq_false_iff, decide_eq_false_iff_not, Bool.and_eq_false_iff, beq_eq_false_iff_ne] at h
    simp only [Op.bytesLess, Bool.or_eq_true, decide_eq_true_eq, Bool.and_eq_true, beq_iff_eq]
    obtain ⟨h1, h2⟩ := h
    by_cases e : c = d
    · subst e
      refine Or.inr ⟨rfl, less_total a b (fun e => hne (by rw [e])) ?_⟩
      rcases h2 with h2 | h2
      · exact absurd rfl h2
      · exact h2
    · exact Or.inl (Classical.byContradiction fun h3 => e (UInt8.le_antisymm (UInt8.not_lt.1 h3) (UInt8.not_lt.1 h1)))
theorem less_trans : ∀ a b c : List UInt8, Op.bytesLess a b = true → Op.bytesLess b c = true → Op.bytesLess a c = true
  | _, [], _, h, _ => by simp [Op.bytesLess] at h
  | _, _ :: _, [], _, h => by simp [Op.bytesLess] at h
  | [], _ :: _, _ :: _, _, _ => by simp [Op.bytesLess]
  | x :: a, y :: b, z :: c, h, k => by
    have ih := less_trans a b c
    simp only [Op.bytesLess, Bool.or_eq_true, decide_eq_true_eq, Bool.and_eq_true, beq_iff_eq] at *
    rcases h with h | ⟨rfl, h⟩ <;> rcases k with k | ⟨rfl, k⟩
    · exact Or.inl (UInt8.lt_trans h k)
    · exact Or.inl h
    · exact Or.inl k
    · exact Or.inr ⟨rfl, ih h k⟩
theorem less_asymm (a b : List UInt8) (h : Op.bytesLess a b = true) : Op.bytesLess b a = false := by
  cases k : Op.bytesLess b a
  · rfl
  · have := less_trans a b a h k
    rw [less_irrefl] at this; cases this

/-- the order of two texts, place by place -/
theorem cmp_lt {a b : List UInt8} {k : Nat} (h2 : k < b.length) (he : ∀ m, m < k → dg a m = dg b m) (h1 : k ≤ a.length) (hl : k = a.length ∨ dg a k < dg b k) : Lib.compareBytes a b = -1 := by
  have h : Op.bytesLess a b = true := (less_iff a b).2 ⟨k, h2, h1, he, hl⟩
  rw [compare_less, if_neg (by rintro rfl; rw [less_irrefl] at h; cases h), if_pos h]
theorem cmp_gt {a b : List UInt8} {k : Nat} (h2 : k < a.length) (he : ∀ m, m < k → dg a m = dg b m) (h1 : k ≤ b.length) (hl : k = b.length ∨ dg b k < dg a k) : Lib.compareBytes a b = 1 := by
  have h : Op.bytesLess b a = true := (less_iff b a).2 ⟨k, h2, h1, fun m hm => (he m hm).symm, hl⟩
  rw [compare_less, if_neg (by rintro rfl; rw [less_irrefl] at h; cases h), if_neg (by rw [less_asymm b a h]; simp)]
theorem cmp_eq {a b : List UInt8} (hl : a.length = b.length) (he : ∀ m, m < a.length → dg a m = dg b m) : Lib.compareBytes a b = 0 := by
  rw [compare_less, if_pos (dg_ext a b hl he)]
theorem cmp_neg (a b : List UInt8) : Lib.compareBytes b a = - Lib.compareBytes a b := by
  rw [compare_less, compare_less]
  by_cases h : a = b
  · subst h; simp
  · rw [if_neg h, if_neg (fun e => h e.symm)]
    cases k : Op.bytesLess a b
    · rw [if_pos (less_total a b h k)]; simp
    · rw [less_asymm a b k]; simp
theorem cmp_less (a b : List UInt8) : Lib.compareBytes a b < 0 ↔ Op.bytesLess a b = true := by
  rw [compare_less]
  by_cases h : a = b
  · subst h; simp [less_irrefl]
  · rw [if_neg h]
    cases k : Op.bytesLess a b <;> simp
theorem cmp_zero (a b : List UInt8) : Lib.compareBytes a b = 0 ↔ a = b := by
  rw [compare_less]
  by_cases h : a = b
  · subst h; simp
  · rw [if_neg h]
    cases k : Op.bytesLess a b <;> simp [h]

/-- may a key be? -/
def rightB (k : List UInt8) : Bool := @decide (1 ≤ k.length ∧ k.length ≤ 24 ∧ 0 < dg k (k.length - 1)) inferInstance
theorem rightB_iff (k : List UInt8) : rightB k = true ↔ 1 ≤ k.length ∧ k.length ≤ 24 ∧ 0 < dg k (k.length - 1) := by simp [rightB]
/-- may there be keys between two ends? -/
def endsB (a b : List UInt8) : Bool := @decide ((a = [] ∨ rightB a = true) ∧ (b = [] ∨ rightB b = true) ∧ (a = [] ∨ b = [] ∨ Op.bytesLess a b = true)) inferInstance
theorem endsB_iff (a b : List UInt8) : endsB a b = true ↔ (a = [] ∨ rightB a = true) ∧ (b = [] ∨ rightB b = true) ∧ (a = [] ∨ b = [] ∨ Op.bytesLess a b = true) := by simp [endsB]

theorem ends_frac {a b : List UInt8} (h : endsB a b = true) (hb : b ≠ []) : 0 < dg b (b.length - 1) ∧ b.length ≤ 24 ∧ fracLt (dg a) (dg b) := by
  obtain ⟨-, h2, h3⟩ := (endsB_iff a b).1 h
  have h4 : rightB b = true := h2.elim (fun h => absurd h hb) id
  obtain ⟨k1, k2, k3⟩ := (rightB_iff b).1 h4
  refine ⟨k3, k2, ?_⟩
  rcases h3 with h3 | h3 | h3
  · subst h3
    exact frac_of_less (by cases b with | nil => exact absurd rfl hb | cons c b => rfl) k3
  · exact absurd h3 hb
  · exact frac_of_less h3 k3
theorem ends_len {a b : List UInt8} (h : endsB a b = true) : a.length ≤ 24 ∧ b.length ≤ 24 := by
  obtain ⟨h1, h2, -⟩ := (endsB_iff a b).1 h
  constructor
  · rcases h1 with rfl | h1
    · simp
    · exact ((rightB_iff a).1 h1).2.1
  · rcases h2 with rfl | h2
    · simp
    · exact ((rightB_iff b).1 h2).2.1

/-- a key's first bytes, zeros behind it -/
def low (a : List UInt8) : List UInt8 := a ++ List.replicate (24 - a.length) 0
theorem low_length (a : List UInt8) (h : a.length ≤ 24) : (low a).length = 24 := by simp [low]; omega
theorem dg_low (a : List UInt8) (i : Nat) : dg (low a) i = dg a i := by
  unfold low dg
  congr 1
  simp only [List.getD]
  by_cases h : i < a.length
  · rw [List.getElem?_append_left h]
  · rw [List.getElem?_append_right (by omega), List.getElem?_eq_none (by omega : a.length ≤ i)]
    by_cases h' : i - a.length < 24 - a.length
    · rw [List.getElem?_eq_getElem (by simpa using h')]; simp
    · rw [List.getElem?_eq_none (by simp; omega)]
theorem dg_take (l : List UInt8) (n i : Nat) (h : i < n) : dg (l.take n) i = dg l i := by simp [dg, List.getD, h]
theorem dg_app_l (l m : List UInt8) (i : Nat) (h : i < l.length) : dg (l ++ m) i = dg l i := by simp [dg, List.getD, List.getElem?_append_left h]
theorem dg_app_r (l m : List UInt8) (i : Nat) (h : l.length ≤ i) : dg (l ++ m) i = dg m (i - l.length) := by simp [dg, List.getD, List.getElem?_append_right h]

/-- is what stands ahead of place n the beginning of b? -/
def headB (a b : List UInt8) (n : Nat) : Bool := Lib.hasPrefix b ((low a).take n)
theorem headB_iff (a b : List UInt8) (n : Nat) (ha : a.length ≤ 24) (hn : n ≤ 24) : headB a b n = true ↔ n ≤ b.length ∧ ∀ k, k < n → dg a k = dg b k := by
  have hl : ((low a).take n).length = n := by rw [List.length_take, low_length a ha]; omega
  unfold headB Lib.hasPrefix
  constructor
  · intro h
    have h : (low a).take n <+: b := by simpa using h
    obtain ⟨t, rfl⟩ := h
    refine ⟨by rw [List.length_append, hl]; omega, fun k hk => ?_⟩
    rw [dg_app_l _ _ _ (by omega), dg_take _ _ _ hk, dg_low]
  · rintro ⟨h1, h2⟩
    have : (low a).take n = b.take n := dg_ext _ _ (by rw [hl, List.length_take]; omega) fun k hk => by
      rw [hl] at hk
      rw [dg_take _ _ _ hk, dg_take _ _ _ hk, dg_low]; exact h2 k hk
    rw [this]
    simpa using List.take_prefix n b

/-- the greatest last byte at place n -/
def mo (a b : List UInt8) (n : Nat) : Nat := if b = [] ∨ headB a b n = false then 255 else if n + 1 < b.length then dg b n else dg b n - 1
theorem mo_le (a b : List UInt8) (n : Nat) : mo a b n ≤ 255 := by
  have := dg_lt b n
  unfold mo
  repeat' split
  all_goals omega
/-- is there a key with n + 1 bytes? -/
def okB (a b : List UInt8) (n : Nat) : Bool := @decide (dg a n + 1 ≤ mo a b n) inferInstance
theorem okB_iff (a b : List UInt8) (n : Nat) : okB a b n = true ↔ dg a n + 1 ≤ mo a b n := by simp [okB]
/-- the key with n + 1 bytes -/
def keyAt (a b : List UInt8) (n : Nat) : List UInt8 := (low a).take n ++ [UInt8.ofNat ((dg a n + 1 + mo a b n) / 2)]
/-- the key between, and the error's number: for ends that may be -/
def betwIn (a b : List UInt8) : List UInt8 × Int := match (List.range 24).find? (okB a b) with
  | some n => (keyAt a b n, 0)
  | none => ([], 32)
/-- the key between any two, and the error's number -/
def betw (a b : List UInt8) : List UInt8 × Int := if endsB a b = true then betwIn a b else ([], 1)

theorem betwIn_some {a b : List UInt8} {n : Nat} (hn : n < 24) (h : okB a b n = true) (h' : ∀ m, m < n → okB a b m = false) : betwIn a b = (keyAt a b n, 0) := by
  have : (List.range 24).find? (okB a b) = some n := by
    rw [List.find?_range_eq_some]
    exact ⟨h, by simpa using hn, fun j hj => by rw [h' j hj]; rfl⟩
  unfold betwIn
  rw [this]
theorem betwIn_none {a b : List UInt8} (h' : ∀ m, m < 24 → okB a b m = false) : betwIn a b = ([], 32) := by
  have : (List.range 24).find? (okB a b) = none := by
    rw [List.find?_range_eq_none]
    exact fun j hj => by rw [h' j hj]; rfl
  unfold betwIn
  rw [this]
theorem betwIn_cases (a b : List UInt8) : (∃ n, n < 24 ∧ okB a b n = true ∧ (∀ m, m < n → okB a b m = false) ∧ betwIn a b = (keyAt a b n, 0)) ∨ ((∀ m, m < 24 → okB a b m = false) ∧ betwIn a b = ([], 32)) := by
  by_cases h : ∃ n, n < 24 ∧ okB a b n = true
  · obtain ⟨n, hn, hk⟩ := h
    obtain ⟨j, hj, h1, h2⟩ := first_of (p := fun k => okB a b k = true) n hk
    have h3 : ∀ m, m < j → okB a b m = false := fun m hm => by simpa using h2 m hm
    exact Or.inl ⟨j, by omega, h1, h3, betwIn_some (by omega) h1 h3⟩
  · have h3 : ∀ m, m < 24 → okB a b m = false := fun m hm => by
      cases e : okB a b m
      · rfl
      · exact absurd ⟨m, hm, e⟩ h
    exact Or.inr ⟨h3, betwIn_none h3⟩

/-- the digits of what has n bytes as a has, then c -/
def fD (a : List UInt8) (n c : Nat) (k : Nat) : Nat := if k < n then dg a k else if k = n then c else 0

/-- THE STEP: with c as the last byte it is below b just if c is at most the greatest -/
theorem step_iff {a b : List UInt8} (he : endsB a b = true) (n c : Nat) (hn : n < 24) (hc : dg a n + 1 ≤ c) (hc2 : c ≤ 255) : (b = [] ∨ fracLt (fD a n c) (dg b)) ↔ c ≤ mo a b n := by
  by_cases hb : b = []
  · subst hb
    simp [mo]; omega
  · obtain ⟨g1, g2, g3⟩ := ends_frac he hb
    obtain ⟨la, -⟩ := ends_len he
    have hh := headB_iff a b n la (by omega)
    simp only [hb, false_or]
    unfold mo
    simp only [hb, false_or]
    by_cases hp : headB a b n = true
    · obtain ⟨p1, p2⟩ := hh.1 hp
      rw [if_neg (by simp [hp])]
      have hnb : n < b.length := by
        obtain ⟨i, e1, e2⟩ := g3
        have : n ≤ i := Classical.byContradiction fun hni => by have := p2 i (by omega); omega
        have := dg_pos (l := b) (i := i) (by omega)
        omega
      have feq : ∀ k, k < n → fD a n c k = dg b k := fun k hk => by unfold fD; rw [if_pos hk]; exact p2 k hk
      have fn : fD a n c n = c := by unfold fD; simp
      have fz : ∀ k, n < k → fD a n c k = 0 := fun k hk => by unfold fD; rw [if_neg (by omega), if_neg (by omega)]
      constructor
      · rintro ⟨i, e1, e2⟩
        rcases Nat.lt_trichotomy i n with hl | rfl | hl
        · have := feq i hl; omega
        · rw [fn] at e2
          split <;> omega
        · have := e1 n hl
          rw [fn] at this
          rw [fz i hl] at e2
          have := dg_pos e2
          rw [if_pos (by omega)]
          omega
      · intro hle
        by_cases hcn : c < dg b n
        · exact ⟨n, feq, by rw [fn]; exact hcn⟩
        · have hlen : n + 1 < b.length := Classical.byContradiction fun hni => by
            rw [if_neg hni] at hle
            omega
          rw [if_pos hlen] at hle
          have hcn' : c = dg b n := by omega
          refine fracLt_of_first (b.length - 1) (by rw [fz _ (by omega)]; omega) fun k hk hm hne => ?_
          rcases Nat.lt_trichotomy k n with hl | rfl | hl
          · exact absurd (feq k hl) hne
          · rw [fn] at hne; exact absurd hcn' hne
          · rw [fz k hl] at hne ⊢; omega
    · have hp' : headB a b n = false := by simpa using hp
      rw [if_pos hp']
      refine iff_of_true ?_ hc2
      obtain ⟨i, e1, e2⟩ := g3
      have hin : i < n := Classical.byContradiction fun hni => by
        have hbl := dg_pos (l := b) (i := i) (by omega)
        exact hp (hh.2 ⟨by omega, fun k hk => e1 k (by omega)⟩)
      exact ⟨i, fun k hk => by unfold fD; rw [if_pos (by omega)]; exact e1 k hk, by unfold fD; rw [if_pos hin]; exact e2⟩

/-- what has been carried over at an earlier place is not below b, if nothing fits there -/
theorem carried {a b : List UInt8} (he : endsB a b = true) (j : Nat) (hj : j < 24) (h : okB a b j = false) (h2 : dg a j < 255) (f : Nat → Nat) (hf : ∀ k, fD a j (dg a j + 1) k ≤ f k) : ¬ (b = [] ∨ fracLt f (dg b)) := by
  have h1 := step_iff he j (dg a j + 1) hj (Nat.le_refl _) (by omega)
  have h3 : ¬ (dg a j + 1 ≤ mo a b j) := by
    intro h4
    rw [(okB_iff a b j).2 h4] at h; cases h
  rintro (h4 | h4)
  · exact h3 (h1.1 (Or.inl h4))
  · exact h3 (h1.1 (Or.inr (fracLt_le hf h4)))

theorem dg_keyAt (a b : List UInt8) (n : Nat) (ha : a.length ≤ 24) (hn : n < 24) (k : Nat) : dg (keyAt a b n) k = fD a n ((dg a n + 1 + mo a b n) / 2) k := by
  have hl : ((low a).take n).length = n := by rw [List.length_take, low_length a ha]; omega
  have := mo_le a b n
  have := dg_lt a n
  unfold keyAt fD
  by_cases h : k < n
  · rw [if_pos h, dg_app_l _ _ _ (by omega), dg_take _ _ _ h, dg_low]
  · rw [if_neg h, dg_app_r _ _ _ (by omega), hl]
    by_cases h2 : k = n
    · subst h2
      rw [if_pos rfl, Nat.sub_self, dg_zero]
      simp; omega
    · rw [if_neg h2, show k - n = (k - n - 1) + 1 from by omega, dg_succ, dg_nil]
theorem keyAt_length (a b : List UInt8) (n : Nat) (ha : a.length ≤ 24) (hn : n < 24) : (keyAt a b n).length = n + 1 := by
  unfold keyAt
  rw [List.length_append, List.length_take, low_length a ha]
  simp; omega

/-- A KEY BETWEEN STANDS BETWEEN, AND MAY BE -/
theorem lies {a b : List UInt8} (he : endsB a b = true) (n : Nat) (hn : n < 24) (hok : okB a b n = true) : rightB (keyAt a b n) = true ∧ fracLt (dg a) (dg (keyAt a b n)) ∧ (b = [] ∨ fracLt (dg (keyAt a b n)) (dg b)) := by
  obtain ⟨la, -⟩ := ends_len he
  have hd := dg_keyAt a b n la hn
  have hl := keyAt_length a b n la hn
  have h1 := (okB_iff a b n).1 hok
  have h2 := mo_le a b n
  have hs := (step_iff he n ((dg a n + 1 + mo a b n) / 2) hn (by omega) (by omega)).2 (by omega)
  have hn' : dg (keyAt a b n) n = (dg a n + 1 + mo a b n) / 2 := by rw [hd]; simp [fD]
  refine ⟨?_, ⟨n, fun k hk => ?_, ?_⟩, ?_⟩
  · rw [rightB_iff, hl]
    refine ⟨by omega, by omega, ?_⟩
    rw [Nat.add_sub_cancel, hn']; omega
  · rw [hd, fD, if_pos hk]
  · rw [hn']; omega
  · rcases hs with hs | hs
    · exact Or.inl hs
    · refine Or.inr ?_
      rw [show dg (keyAt a b n) = fD a n ((dg a n + 1 + mo a b n) / 2) from funext hd]; exact hs
/-- WITH ROOM THERE IS ONE -/
theorem roomy {a b : List UInt8} (he : endsB a b = true) (n : Nat) (hn : n < 24) (h1 : a.length ≤ n) (h2 : b.length ≤ n) : okB a b n = true := by
  obtain ⟨la, -⟩ := ends_len he
  rw [okB_iff, dg_end a n h1]
  have : mo a b n = 255 := by
    unfold mo
    by_cases hb : b = []
    · rw [if_pos (Or.inl hb)]
    · refine if_pos (Or.inr ?_)
      cases hp : headB a b n
      · rfl
      · obtain ⟨p1, p2⟩ := (headB_iff a b n la (by omega)).1 hp
        obtain ⟨-, -, i, e1, e2⟩ := ends_frac he hb
        have := dg_pos (l := b) (i := i) (by omega)
        have := p2 i (by omega)
        omega
  omega

/-- all that is asked of a key between -/
theorem betw_lies {a b : List UInt8} (he : endsB a b = true) (h0 : (betwIn a b).2 = 0) : rightB (betwIn a b).1 = true ∧ Op.bytesLess a (betwIn a b).1 = true ∧ (b = [] ∨ Op.bytesLess (betwIn a b).1 b = true) ∧ (betwIn a b).1.length ≤ 24 := by
  rcases betwIn_cases a b with ⟨n, hn, hok, -, e⟩ | ⟨-, e⟩
  · rw [e]
    obtain ⟨l1, l2, l3⟩ := lies he n hn hok
    refine ⟨l1, less_of_frac l2, ?_, by rw [keyAt_length a b n (ends_len he).1 hn]; omega⟩
    rcases l3 with l3 | l3
    · exact Or.inl l3
    · exact Or.inr (less_of_frac l3)
  · rw [e] at h0; simp at h0
theorem betw_room {a b : List UInt8} (he : endsB a b = true) (h : max a.length b.length ≤ 23) : (betwIn a b).2 = 0 ∧ (betwIn a b).1.length ≤ max a.length b.length + 1 := by
  have hr := roomy he (max a.length b.length) (by omega) (by omega) (by omega)
  rcases betwIn_cases a b with ⟨n, hn, hok, hm, e⟩ | ⟨hm, e⟩
  · rw [e]
    refine ⟨rfl, ?_⟩
    rw [keyAt_length a b n (ends_len he).1 hn]
    have : n ≤ max a.length b.length := Classical.byContradiction fun hni => by
      rw [hm _ (by omega)] at hr; cases hr
    omega
  · rw [hm _ (by omega)] at hr; cases hr
theorem betw_err (a b : List UInt8) : (betwIn a b).2 = 0 ∨ betwIn a b = ([], 32) := by
  rcases betwIn_cases a b with ⟨n, hn, hok, hm, e⟩ | ⟨hm, e⟩
  · rw [e]; exact Or.inl rfl
  · exact Or.inr e
/-- the ends on either side of a key between may be ends -/
theorem ends_left {a b k : List UInt8} (he : endsB a b = true) (h1 : rightB k = true) (h2 : Op.bytesLess a k = true) : endsB a k = true := by
  obtain ⟨e1, -, -⟩ := (endsB_iff a b).1 he
  exact (endsB_iff a k).2 ⟨e1, Or.inr h1, Or.inr (Or.inr h2)⟩
theorem ends_right {a b k : List UInt8} (he : endsB a b = true) (h1 : rightB k = true) (h2 : b = [] ∨ Op.bytesLess k b = true) : endsB k b = true := by
  obtain ⟨-, e2, -⟩ := (endsB_iff a b).1 he
  exact (endsB_iff k b).2 ⟨Or.inr h1, e2, Or.inr h2⟩

end Go.Proofs.YthifdefjmfakgaaGreat.Km

namespace Go.Proofs.YthifdefjmfakgaaGreat
open Go.RowKit

theorem size_list (k : ByteArray) : k.data.toList.length = k.size := by rw [Array.length_toList]; rfl
theorem dg_at (k : ByteArray) (i : Nat) (h : i < k.size) : Km.dg k.data.toList i = k[i].toNat := by
  rw [Km.dg_get _ _ (by rw [size_list]; exact h)]
  rfl
theorem right_size {k : ByteArray} : Km.rightB k.data.toList = true ↔ 1 ≤ k.size ∧ k.size ≤ 24 ∧ 0 < Km.dg k.data.toList (k.size - 1) := by
  rw [Km.rightB_iff, size_list]
theorem right_no {k : ByteArray} (h : ¬ (1 ≤ k.size ∧ k.size ≤ 24 ∧ 0 < Km.dg k.data.toList (k.size - 1))) : Km.rightB k.data.toList = false := by
  cases e : Km.rightB k.data.toList
  · rfl
  · exact absurd (right_size.1 e) h

theorem right_last {k : ByteArray} (h0 : 0 < k.size) (h1 : k.size ≤ 24) : Km.rightB k.data.toList = (((k[k.size - 1]'(by omega)).toNat : Int) != 0) := by
  have hd := dg_at k (k.size - 1) (by omega)
  by_cases h2 : 0 < Km.dg k.data.toList (k.size - 1)
  · rw [right_size.2 ⟨by omega, h1, h2⟩]
    rw [hd] at h2
    symm
    rw [bne_iff_ne]
    omega
  · rw [right_no (by omega)]
    rw [hd] at h2
    symm
    rw [bne_eq_false_iff_eq]
    omega
theorem ret_bool {a b : Bool} (h : a = b) : Ending.returned (.bool a) = .returned (.bool b) := by rw [h]

set_option maxHeartbeats 400000 in
theorem kright_any (k : ByteArray) (w : World) (_ : k.size ≤ 140737488355328) : Calls Tryz.prog 115 #[.string k] w fun e w' => e = .returned (.bool (Km.rightB k.data.toList)) ∧ w = w' := by
  by_cases h0 : k.size = 0
  · have HR := Lib.hid (right_no (k := k) (by omega))
    go_enter Tryz.func115, Tryz.ntmps115
    go_wp2
    go_ret
    exact ⟨ret_bool HR.out.symm, rfl⟩
  · by_cases h1 : k.size ≤ 24
    · have HR := Lib.hid (right_last (k := k) (by omega) h1)
      go_enter Tryz.func115, Tryz.ntmps115
      go_wp2
      go_ret
      exact ⟨ret_bool HR.out.symm, rfl⟩
    · have HR := Lib.hid (right_no (k := k) (by omega))
      go_enter Tryz.func115, Tryz.ntmps115
      go_wp2
      go_ret
      exact ⟨ret_bool HR.out.symm, rfl⟩

end Go.Proofs.YthifdefjmfakgaaGreat
