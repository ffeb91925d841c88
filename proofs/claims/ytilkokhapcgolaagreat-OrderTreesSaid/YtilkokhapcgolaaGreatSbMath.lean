/-
  SIBLINGS, PLAINLY: which stands ahead, rows, what a place's key is, and that a sibling with it stands there.
  No conditions.
-/
import Derived.Test.YtilkokhapcgolaaGreatKMath
import Derived.Test.YtilkokhapcgolaaGreatQMath
namespace Go.Proofs.YtilkokhapcgolaaGreat.Sbm

/-- a sibling: its key, its node -/
abbrev Sib := ByteArray × Qm.St
/-- does a stand ahead of b? -/
def ltB (a b : Sib) : Prop := Op.bytesLess a.1.data.toList b.1.data.toList = true ∨ (a.1 = b.1 ∧ Qm.ltS a.2 b.2)
instance (a b : Sib) : Decidable (ltB a b) := by unfold ltB; exact inferInstance

theorem key_ext {a b : ByteArray} (h : a.data.toList = b.data.toList) : a = b := by
  cases a with
  | mk x =>
    cases b with
    | mk y => rw [show x = y from Array.toList_inj.1 h]
theorem key_tri (a b : ByteArray) : Op.bytesLess a.data.toList b.data.toList = true ∨ a = b ∨ Op.bytesLess b.data.toList a.data.toList = true := by
  by_cases e : a = b
  · exact Or.inr (Or.inl e)
  · cases h : Op.bytesLess a.data.toList b.data.toList with
    | true => exact Or.inl rfl
    | false => exact Or.inr (Or.inr (Km.less_total _ _ (fun h => e (key_ext h)) h))
theorem key_irrefl (a : ByteArray) : ¬ Op.bytesLess a.data.toList a.data.toList = true := by rw [Km.less_irrefl]; simp
theorem key_asymm {a b : ByteArray} (h : Op.bytesLess a.data.toList b.data.toList = true) : ¬ Op.bytesLess b.data.toList a.data.toList = true := by rw [Km.less_asymm _ _ h]; simp

theorem ltB_irrefl (a : Sib) : ¬ ltB a a := by
  rintro (h | ⟨-, h⟩)
  · exact key_irrefl _ h
  · exact Qm.ltS_irrefl _ h
theorem ltB_trans {a b c : Sib} (h : ltB a b) (k : ltB b c) : ltB a c := by
  rcases h with h | ⟨e, h⟩
  · rcases k with k | ⟨e2, -⟩
    · exact Or.inl (Km.less_trans _ _ _ h k)
    · exact Or.inl (by rw [← e2]; exact h)
  · rcases k with k | ⟨e2, k⟩
    · exact Or.inl (by rw [e]; exact k)
    · exact Or.inr ⟨e.trans e2, Qm.ltS_trans h k⟩
theorem ltB_tri (a b : Sib) : ltB a b ∨ a = b ∨ ltB b a := by
  rcases key_tri a.1 b.1 with h | h | h
  · exact Or.inl (Or.inl h)
  · rcases Qm.ltS_tri a.2 b.2 with k | k | k
    · exact Or.inl (Or.inr ⟨h, k⟩)
    · exact Or.inr (Or.inl (Prod.ext h k))
    · exact Or.inr (Or.inr (Or.inr ⟨h.symm, k⟩))
  · exact Or.inr (Or.inr (Or.inl h))
theorem ltB_asymm {a b : Sib} (h : ltB a b) : ¬ ltB b a := fun k => ltB_irrefl _ (ltB_trans h k)
theorem ltB_le {a b c : Sib} (h : ¬ ltB b a) (k : ¬ ltB c b) : ¬ ltB c a := fun m => by
  rcases ltB_tri a b with e | e | e
  · exact k (ltB_trans m e)
  · subst e; exact k m
  · exact h e
theorem eq_of_ltB {a b : Sib} (h : ¬ ltB a b) (k : ¬ ltB b a) : a = b := by
  rcases ltB_tri a b with e | e | e
  · exact absurd e h
  · exact e
  · exact absurd e k

/-- how two siblings stand -/
def cmpB (a b : Sib) : Int := if ltB a b then -1 else if ltB b a then 1 else 0
theorem cmpB_lt (a b : Sib) : cmpB a b < 0 ↔ ltB a b := by
  unfold cmpB
  split
  · simp_all
  · split <;> simp_all

/-- sorted; a row -/
def Srt (l : List Sib) : Prop := l.Pairwise fun a b => ¬ ltB b a
def Row (l : List Sib) : Prop := l.Pairwise ltB
theorem Row.srt {l : List Sib} (h : Row l) : Srt l := List.Pairwise.imp (fun h => ltB_asymm h) h
theorem srt_uniq : ∀ (l m : List Sib), l.Perm m → Srt l → Srt m → l = m
  | [], m, hp, _, _ => (List.nil_perm.1 hp).symm
  | a :: l, [], hp, _, _ => by have := hp.length_eq; simp at this
  | a :: l, b :: m, hp, h1, h2 => by
    have ha := List.pairwise_cons.1 h1
    have hb := List.pairwise_cons.1 h2
    have e : a = b := by
      have h3 : ¬ ltB b a := by
        rcases List.mem_cons.1 (hp.mem_iff.2 (List.mem_cons_self ..)) with h | h
        · subst h; exact ltB_irrefl _
        · exact ha.1 b h
      have h4 : ¬ ltB a b := by
        rcases List.mem_cons.1 (hp.mem_iff.1 (List.mem_cons_self ..)) with h | h
        · subst h; exact ltB_irrefl _
        · exact hb.1 a h
      exact eq_of_ltB h4 h3
    subst e
    rw [srt_uniq l m ((List.perm_cons a).1 hp) ha.2 hb.2]

/-- the sibling at a place -/
def sbOf (l : List Sib) (k : Nat) : Sib := l.getD k (⟨#[]⟩, (0, 0))
theorem sbOf_lt {l : List Sib} {k : Nat} (h : k < l.length) : sbOf l k = l[k] := by simp [sbOf, List.getD, h]
theorem sbOf_mem {l : List Sib} {k : Nat} (h : k < l.length) : sbOf l k ∈ l := by rw [sbOf_lt h]; exact List.getElem_mem h
theorem srt_of {l : List Sib} (h : ∀ i j, i < j → j < l.length → ¬ ltB (sbOf l j) (sbOf l i)) : Srt l :=
  List.pairwise_iff_getElem.2 fun i j hi hj hij => by have := h i j hij hj; rwa [sbOf_lt hi, sbOf_lt hj] at this
theorem row_of {l : List Sib} (h : ∀ k, 0 < k → k < l.length → ltB (sbOf l (k - 1)) (sbOf l k)) : Row l := by
  refine List.pairwise_iff_getElem.2 fun i j hi hj hij => ?_
  have key : ∀ d, ∀ j (hj : j < l.length), i < j → j - i = d → ltB (sbOf l i) (sbOf l j) := by
    intro d
    induction d with
    | zero => intro j hj hij hd; omega
    | succ d ih =>
      intro j hj hij hd
      have h1 := h j (by omega) hj
      by_cases e : i = j - 1
      · rw [e]; exact h1
      · exact ltB_trans (ih (j - 1) (by omega) (by omega) (by omega)) h1
  have := key _ j hj hij rfl
  rwa [sbOf_lt hi, sbOf_lt hj] at this
theorem Row.lt {l : List Sib} (h : Row l) {i j : Nat} (hij : i < j) (hj : j < l.length) : ltB (sbOf l i) (sbOf l j) := by
  rw [sbOf_lt (by omega : i < l.length), sbOf_lt hj]
  exact List.pairwise_iff_getElem.1 h i j (by omega) hj hij
theorem row_iff (l : List Sib) : Row l ↔ ∀ k, 0 < k → k < l.length → ltB (sbOf l (k - 1)) (sbOf l k) := ⟨fun h k h0 hk => h.lt (by omega) hk, row_of⟩
instance (l : List Sib) : Decidable (Row l) := by unfold Row; exact inferInstance

/-- the keys beside a place; an error -/
def ends (l : List Sib) (at' : Int) : ByteArray × ByteArray × Int :=
  if ¬ Row l ∨ at' < 0 ∨ (l.length : Int) < at' then (⟨#[]⟩, ⟨#[]⟩, 1)
  else if at' = l.length then (if 0 < at' then (sbOf l (at' - 1).toNat).1 else ⟨#[]⟩, ⟨#[]⟩, 0)
  else if 0 < at' ∧ (sbOf l (at' - 1).toNat).1 = (sbOf l at'.toNat).1 then (⟨#[]⟩, ⟨#[]⟩, 32)
  else if (sbOf l at'.toNat).1 = ⟨#[]⟩ then (⟨#[]⟩, ⟨#[]⟩, 1)
  else (if 0 < at' then (sbOf l (at' - 1).toNat).1 else ⟨#[]⟩, (sbOf l at'.toNat).1, 0)

/-- the key of a further one -/
def keyOf (l : List Sib) (at' : Int) : List UInt8 × Int :=
  if (ends l at').2.2 = 0 then Km.betw (ends l at').1.data.toList (ends l at').2.1.data.toList else ([], (ends l at').2.2)

theorem empty_list (a : ByteArray) : a.data.toList = [] ↔ a = ⟨#[]⟩ := ⟨fun h => key_ext h, fun h => by subst h; rfl⟩

theorem keyOf_err {l : List Sib} {at' : Int} (h : (keyOf l at').2 ≠ 0) : (keyOf l at').1 = [] := by
  unfold keyOf at *
  by_cases h0 : (ends l at').2.2 = 0
  · rw [if_pos h0] at *
    unfold Km.betw at *
    split
    · rename_i he
      rw [if_pos he] at h
      rcases Km.betw_err (ends l at').1.data.toList (ends l at').2.1.data.toList with h1 | h1
      · exact absurd h1 h
      · rw [h1]
    · rfl
  · rw [if_neg h0]

/-- THE STAGE's THEOREM, plainly: a sibling with the key stands at the place -/
theorem stands {l : List Sib} {at' : Int} (h0 : (keyOf l at').2 = 0) (hf : ∀ x ∈ l, Km.rightB x.1.data.toList = true) (s : Qm.St) :
    Row l ∧ 0 ≤ at' ∧ at' ≤ l.length ∧ Row (l.take at'.toNat ++ (⟨(keyOf l at').1.toArray⟩, s) :: l.drop at'.toNat) := by
  have hne : ∀ x ∈ l, x.1 ≠ ⟨#[]⟩ := fun x hx e => by
    have h1 := (Km.rightB_iff _).1 (hf x hx)
    rw [e] at h1
    simp at h1
  by_cases hb : ¬ Row l ∨ at' < 0 ∨ (l.length : Int) < at'
  · unfold keyOf ends at h0
    rw [if_pos hb] at h0
    simp at h0
  · have hrow : Row l := Classical.byContradiction fun h => hb (Or.inl h)
    have ha0 : 0 ≤ at' := by omega
    have ha1 : at' ≤ l.length := by omega
    refine ⟨hrow, ha0, ha1, ?_⟩
    obtain ⟨n, rfl⟩ : ∃ n : Nat, at' = (n : Int) := ⟨at'.toNat, by omega⟩
    have hn : n ≤ l.length := by omega
    have pred : (((n : Int) - 1).toNat) = n - 1 := by omega
    -- what the answer's key lies between
    have key : (n = 0 ∨ Op.bytesLess (sbOf l (n - 1)).1.data.toList (keyOf l n).1 = true) ∧ (n = l.length ∨ Op.bytesLess (keyOf l n).1 (sbOf l n).1.data.toList = true) := by
      have hbt : ∀ a b : ByteArray, (n = 0 ∨ a = (sbOf l (n - 1)).1) → (n = l.length ∨ b = (sbOf l n).1) → keyOf l n = Km.betw a.data.toList b.data.toList →
          (n = 0 ∨ Op.bytesLess (sbOf l (n - 1)).1.data.toList (keyOf l n).1 = true) ∧ (n = l.length ∨ Op.bytesLess (keyOf l n).1 (sbOf l n).1.data.toList = true) := by
        intro a b h1 h2 hk
        rw [hk] at h0 ⊢
        unfold Km.betw at h0 ⊢
        by_cases he : Km.endsB a.data.toList b.data.toList = true
        · rw [if_pos he] at h0 ⊢
          obtain ⟨-, k1, k2, -⟩ := Km.betw_lies he h0
          refine ⟨h1.imp id (fun e => by rw [← e]; exact k1), ?_⟩
          by_cases en : n = l.length
          · exact Or.inl en
          · right
            rcases h2 with h2 | h2
            · exact absurd h2 en
            · rw [← h2]
              rcases k2 with k2 | k2
              · exact absurd ((empty_list b).1 k2) (by rw [h2]; exact hne _ (sbOf_mem (by omega)))
              · exact k2
        · rw [if_neg he] at h0
          simp at h0
      have hends : (ends l n).2.2 = 0 := by
        unfold keyOf at h0
        by_cases h : (ends l n).2.2 = 0
        · exact h
        · rw [if_neg h] at h0; exact absurd h0 h
      have hk : keyOf l n = Km.betw (ends l n).1.data.toList (ends l n).2.1.data.toList := by unfold keyOf; rw [if_pos hends]
      refine hbt (ends l n).1 (ends l n).2.1 ?_ ?_ hk
      · by_cases h : n = 0
        · exact Or.inl h
        · right
          unfold ends at hends ⊢
          rw [if_neg hb] at hends ⊢
          by_cases h2 : (n : Int) = l.length
          · rw [if_pos h2, if_pos (by omega), pred]
          · rw [if_neg h2] at hends ⊢
            by_cases h3 : 0 < (n : Int) ∧ (sbOf l ((n : Int) - 1).toNat).1 = (sbOf l (n : Int).toNat).1
            · rw [if_pos h3] at hends; simp at hends
            · rw [if_neg h3] at hends ⊢
              by_cases h4 : (sbOf l (n : Int).toNat).1 = ⟨#[]⟩
              · rw [if_pos h4] at hends; simp at hends
              · rw [if_neg h4, if_pos (by omega), pred]
      · by_cases h2 : n = l.length
        · exact Or.inl h2
        · right
          unfold ends at hends ⊢
          rw [if_neg hb] at hends ⊢
          rw [if_neg (by omega)] at hends ⊢
          by_cases h3 : 0 < (n : Int) ∧ (sbOf l ((n : Int) - 1).toNat).1 = (sbOf l (n : Int).toNat).1
          · rw [if_pos h3] at hends; simp at hends
          · rw [if_neg h3] at hends ⊢
            by_cases h4 : (sbOf l (n : Int).toNat).1 = ⟨#[]⟩
            · rw [if_pos h4] at hends; simp at hends
            · rw [if_neg h4, Int.toNat_natCast]
    show Row (l.take n ++ _ :: l.drop n)
    have hlo : ∀ x ∈ l.take n, Op.bytesLess x.1.data.toList (keyOf l n).1 = true := by
      intro x hx
      obtain ⟨i, hi, rfl⟩ := List.getElem_of_mem hx
      rw [List.length_take] at hi
      rw [List.getElem_take, ← sbOf_lt (by omega)]
      rcases key.1 with h | h
      · omega
      · by_cases e : i = n - 1
        · rw [e]; exact h
        · rcases hrow.lt (i := i) (j := n - 1) (by omega) (by omega) with k | ⟨k, -⟩
          · exact Km.less_trans _ _ _ k h
          · rw [k]; exact h
    have hhi : ∀ x ∈ l.drop n, Op.bytesLess (keyOf l n).1 x.1.data.toList = true := by
      intro x hx
      obtain ⟨i, hi, rfl⟩ := List.getElem_of_mem hx
      rw [List.length_drop] at hi
      rw [List.getElem_drop, ← sbOf_lt (by omega)]
      rcases key.2 with h | h
      · omega
      · by_cases e : i = 0
        · subst e; exact h
        · rcases hrow.lt (i := n) (j := n + i) (by omega) (by omega) with k | ⟨k, -⟩
          · exact Km.less_trans _ _ _ h k
          · rw [← k]; exact h
    have hta : Row (l.take n) := List.Pairwise.sublist (List.take_sublist n l) hrow
    have hdr : Row (l.drop n) := List.Pairwise.sublist (List.drop_sublist n l) hrow
    refine List.pairwise_append.2 ⟨hta, List.pairwise_cons.2 ⟨fun x hx => Or.inl (hhi x hx), hdr⟩, fun x hx y hy => ?_⟩
    rcases List.mem_cons.1 hy with rfl | hy
    · exact Or.inl (hlo x hx)
    · exact Or.inl (Km.less_trans _ _ _ (hlo x hx) (hhi y hy))

/-- so what is sorted with it is the row with it at that place -/
theorem stands_sorted {l m : List Sib} {at' : Int} (h0 : (keyOf l at').2 = 0) (hf : ∀ x ∈ l, Km.rightB x.1.data.toList = true) (s : Qm.St) (hp : m.Perm (l ++ [(⟨(keyOf l at').1.toArray⟩, s)])) (hm : Srt m) :
    0 ≤ at' ∧ at' ≤ l.length ∧ m = l.take at'.toNat ++ (⟨(keyOf l at').1.toArray⟩, s) :: l.drop at'.toNat := by
  obtain ⟨-, h1, h2, h3⟩ := stands h0 hf s
  refine ⟨h1, h2, srt_uniq _ _ (hp.trans ?_) hm h3.srt⟩
  generalize ((⟨(keyOf l at').1.toArray⟩, s) : Sib) = x
  generalize at'.toNat = n
  refine List.perm_append_comm.trans ?_
  rw [List.singleton_append]
  conv => lhs; rw [← List.take_append_drop n l]
  exact List.perm_middle.symm

end Go.Proofs.YtilkokhapcgolaaGreat.Sbm
