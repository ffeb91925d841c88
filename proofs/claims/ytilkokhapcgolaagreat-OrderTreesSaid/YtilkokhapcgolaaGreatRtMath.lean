/-
  THE DOCUMENT's TREE, PLAINLY: rows by rising nodes, which tell what the program's tree tells.
  No conditions.
-/
import Derived.Test.YtilkokhapcgolaaGreatTMath
import Derived.Test.YtilkokhapcgolaaGreatSbMath
namespace Go.Proofs.YtilkokhapcgolaaGreat.Rtm
open Tm

/-- by rising nodes -/
def Ris (R : Tr) : Prop := R.Pairwise fun a b => Qm.ltS a.1 b.1
theorem Ris.nd {R : Tr} (h : Ris R) : (R.map Prod.fst).Nodup := by
  unfold List.Nodup
  rw [List.pairwise_map]
  exact List.Pairwise.imp (fun {a b} hlt e => by rw [e] at hlt; exact Qm.ltS_irrefl _ hlt) h
/-- what find tells -/
structure Found (R : Tr) (n : Qm.St) (i : Nat) (b : Bool) : Prop where
  le : i ≤ R.length
  low : ∀ j e, j < i → R[j]? = some e → Qm.ltS e.1 n
  yes : b = true → ∃ s, R[i]? = some (n, s)
  no : b = false → ∀ e, R[i]? = some e → Qm.ltS n e.1
theorem Found.high {R : Tr} {n : Qm.St} {i : Nat} (h : Found R n i false) (hr : Ris R) : ∀ j e, i ≤ j → R[j]? = some e → Qm.ltS n e.1 := fun j e hj he => by
  have hjl : j < R.length := (List.getElem?_eq_some_iff.1 he).1
  have hil : i < R.length := by omega
  have h1 := h.no rfl R[i] (List.getElem?_eq_getElem hil)
  by_cases e2 : i = j
  · subst e2; exact h.no rfl e he
  · have h2 := List.pairwise_iff_getElem.1 hr i j hil hjl (by omega)
    rw [(List.getElem?_eq_some_iff.1 he).2] at h2
    exact Qm.ltS_trans h1 h2
theorem Found.look {R : Tr} {n : Qm.St} {i : Nat} {b : Bool} (h : Found R n i b) (hr : Ris R) : (Tm.look R n).isSome = b ∧ (b = true → ∃ s, R[i]? = some (n, s) ∧ Tm.look R n = some s) := by
  cases b with
  | true =>
    obtain ⟨s, hs⟩ := h.yes rfl
    have := look_some hr.nd (List.mem_of_getElem? hs)
    exact ⟨by rw [this]; rfl, fun _ => ⟨s, hs, this⟩⟩
  | false =>
    have : Tm.look R n = none := look_none.2 fun e he heq => by
      obtain ⟨j, hj, rfl⟩ := List.getElem_of_mem he
      by_cases hji : j < i
      · have := h.low j _ hji (List.getElem?_eq_getElem hj)
        rw [heq] at this
        exact Qm.ltS_irrefl _ this
      · have := h.high hr j _ (by omega) (List.getElem?_eq_getElem hj)
        rw [heq] at this
        exact Qm.ltS_irrefl _ this
    exact ⟨by rw [this]; rfl, fun h => by cases h⟩

/-- a row more; a row set -/
def ins (R : Tr) (i : Nat) (n : Qm.St) (s : Sp) : Tr := (R.take i ++ [(n, s)]) ++ R.drop i
theorem ins_eq (R : Tr) (i : Nat) (n : Qm.St) (s : Sp) : ins R i n s = R.take i ++ (n, s) :: R.drop i := by
  unfold ins
  rw [List.append_assoc]
  rfl
theorem ins_ris {R : Tr} {n : Qm.St} {i : Nat} (h : Found R n i false) (hr : Ris R) (s : Sp) : Ris (ins R i n s) := by
  unfold Ris
  rw [ins_eq]
  refine List.pairwise_append.2 ⟨List.Pairwise.sublist (List.take_sublist i R) hr, ?_, fun x hx y hy => ?_⟩
  · refine List.pairwise_cons.2 ⟨fun y hy => ?_, List.Pairwise.sublist (List.drop_sublist i R) hr⟩
    obtain ⟨j, hj, rfl⟩ := List.getElem_of_mem hy
    rw [List.getElem_drop]
    exact h.high hr (i + j) _ (by omega) (List.getElem?_eq_getElem _)
  · have hx2 : Qm.ltS x.1 n := by
      obtain ⟨j, hj, rfl⟩ := List.getElem_of_mem hx
      rw [List.getElem_take]
      rw [List.length_take] at hj
      exact h.low j _ (by omega) (List.getElem?_eq_getElem _)
    rcases List.mem_cons.1 hy with rfl | hy
    · exact hx2
    · obtain ⟨j, hj, rfl⟩ := List.getElem_of_mem hy
      rw [List.getElem_drop]
      exact Qm.ltS_trans hx2 (h.high hr (i + j) _ (by omega) (List.getElem?_eq_getElem _))
theorem ins_perm (R : Tr) (i : Nat) (n : Qm.St) (s : Sp) : (ins R i n s).Perm (put R n s) := by
  unfold put
  rw [ins_eq]
  refine (List.perm_middle (l₁ := R.take i)).trans ?_
  refine List.Perm.trans ?_ (List.perm_append_comm (l₁ := [(n, s)]) (l₂ := R))
  rw [List.take_append_drop]
  exact List.Perm.refl _
theorem set_split {R : Tr} {i : Nat} {n : Qm.St} {was s : Sp} (h : R[i]? = some (n, was)) : R = R.take i ++ (n, was) :: R.drop (i + 1) ∧ R.set i (n, s) = R.take i ++ (n, s) :: R.drop (i + 1) := by
  obtain ⟨hi, he⟩ := List.getElem?_eq_some_iff.1 h
  constructor
  · conv => lhs; rw [← List.take_append_drop i R]
    rw [List.drop_eq_getElem_cons hi, he]
  · rw [List.set_eq_take_append_cons_drop, if_pos hi]
theorem set_ris {R : Tr} {i : Nat} {n : Qm.St} {was s : Sp} (h : R[i]? = some (n, was)) (hr : Ris R) : Ris (R.set i (n, s)) := by
  obtain ⟨h1, h2⟩ := set_split (s := s) h
  unfold Ris at *
  rw [h2]
  rw [h1] at hr
  obtain ⟨a, b, c⟩ := List.pairwise_append.1 hr
  obtain ⟨b1, b2⟩ := List.pairwise_cons.1 b
  refine List.pairwise_append.2 ⟨a, List.pairwise_cons.2 ⟨fun y hy => b1 y hy, b2⟩, fun x hx y hy => ?_⟩
  rcases List.mem_cons.1 hy with rfl | hy
  · exact c x hx (n, was) (List.mem_cons_self ..)
  · exact c x hx y (List.mem_cons_of_mem _ hy)
theorem set_perm {R : Tr} {i : Nat} {n : Qm.St} {was s : Sp} (h : R[i]? = some (n, was)) (hr : Ris R) : (R.set i (n, s)).Perm (put (cut R n) n s) := by
  obtain ⟨h1, h2⟩ := set_split (s := s) h
  have hc : cut R n = R.take i ++ R.drop (i + 1) := by
    have hne : ∀ e ∈ R.take i ++ R.drop (i + 1), e.1 ≠ n := by
      unfold Ris at hr
      rw [h1] at hr
      obtain ⟨-, b, c⟩ := List.pairwise_append.1 hr
      obtain ⟨b1, -⟩ := List.pairwise_cons.1 b
      intro e he heq
      rcases List.mem_append.1 he with he | he
      · have := c e he _ (List.mem_cons_self ..)
        rw [heq] at this
        exact Qm.ltS_irrefl _ this
      · have := b1 e he
        rw [heq] at this
        exact Qm.ltS_irrefl _ this
    conv => lhs; rw [h1]
    rw [show R.take i ++ (n, was) :: R.drop (i + 1) = R.take i ++ ([(n, was)] ++ R.drop (i + 1)) from rfl, cut_append, cut_append]
    have e1 : cut [(n, was)] n = [] := by simp [cut]
    have e2 : cut (R.take i) n = R.take i := cut_none (look_none.2 fun e he => hne e (List.mem_append_left _ he))
    have e3 : cut (R.drop (i + 1)) n = R.drop (i + 1) := cut_none (look_none.2 fun e he => hne e (List.mem_append_right _ he))
    rw [e1, e2, e3, List.nil_append]
  rw [h2, hc]
  unfold put
  refine (List.perm_middle (l₁ := R.take i)).trans ?_
  exact List.perm_append_comm (l₁ := [(n, s)])

/-- the two trees tell the same -/
structure Twin (R T : Tr) : Prop where
  perm : R.Perm T
  ris : Ris R
theorem Twin.nil : Twin [] [] := ⟨List.Perm.nil, List.Pairwise.nil⟩
theorem Twin.nd {R T : Tr} (h : Twin R T) : (T.map Prod.fst).Nodup := (h.perm.map Prod.fst).nodup_iff.1 h.ris.nd
theorem Twin.look {R T : Tr} (h : Twin R T) (n : Qm.St) : Tm.look R n = Tm.look T n := by
  cases hl : Tm.look T n with
  | none => exact look_none.2 fun e he => look_none.1 hl e (h.perm.mem_iff.1 he)
  | some s => exact look_some h.ris.nd (h.perm.mem_iff.2 (look_mem hl))
theorem Twin.len {R T : Tr} (h : Twin R T) : R.length = T.length := h.perm.length_eq
theorem Twin.has {R T : Tr} (h : Twin R T) (p : Qm.St) : Tm.has R p = Tm.has T p := by unfold Tm.has; rw [h.look]
theorem Twin.climb {R T : Tr} (h : Twin R T) : ∀ (g : Nat) (n : Qm.St), Tm.climb g R n = Tm.climb g T n
  | 0, _ => rfl
  | g + 1, n => by
    rw [Tm.climb, Tm.climb, h.look]
    cases Tm.look T n with
    | none => rfl
    | some s => simp only; rw [h.climb g]
theorem Twin.chain {R T : Tr} (h : Twin R T) (n : Qm.St) : Tm.chain R n = Tm.chain T n := by unfold Tm.chain; rw [h.len, h.climb]
theorem Twin.within {R T : Tr} (h : Twin R T) (p n : Qm.St) : Tm.within R p n = Tm.within T p n := by unfold Tm.within; rw [h.look, h.chain]
theorem Twin.up {R T : Tr} (h : Twin R T) {n : Qm.St} {l : List Qm.St} (hu : Up T n l) : Up R n l := up_same hu fun x _ => h.look x
theorem cut_perm {R T : Tr} (h : R.Perm T) (n : Qm.St) : (cut R n).Perm (cut T n) := h.filter _
theorem put_perm {R T : Tr} (h : R.Perm T) (n : Qm.St) (s : Sp) : (put R n s).Perm (put T n s) := List.Perm.append_right _ h

/-- what the document's Add and Move make of the rows -/
def addR (R : Tr) (i : Nat) (n : Qm.St) (s : Sp) : Tr := if (addT R n s).2 = 0 then ins R i n s else R
def movR (R : Tr) (i : Nat) (n : Qm.St) (s : Sp) : Tr := if (moveT R n s).2.2 = 0 then R.set i (n, s) else R
theorem Twin.addT {R T : Tr} (h : Twin R T) (n : Qm.St) (s : Sp) : (Tm.addT R n s).2 = (Tm.addT T n s).2 := by
  unfold Tm.addT
  rw [h.look, h.has, h.len]
  repeat' split
  all_goals rfl
theorem Twin.moveT {R T : Tr} (h : Twin R T) (n : Qm.St) (s : Sp) : (Tm.moveT R n s).2.2 = (Tm.moveT T n s).2.2 := by
  unfold Tm.moveT
  rw [h.look, h.has, h.within]
  split
  · rfl
  · cases Tm.look T n with
    | none => rfl
    | some was =>
      dsimp only
      repeat' split
      all_goals rfl
theorem addT_zero {T : Tr} {n : Qm.St} {s : Sp} : ((Tm.addT T n s).2 = 0 → (Tm.addT T n s).1 = put T n s) ∧ ((Tm.addT T n s).2 ≠ 0 → (Tm.addT T n s).1 = T) := by
  unfold Tm.addT
  repeat' split
  all_goals simp
theorem moveT_zero {T : Tr} {n : Qm.St} {s : Sp} : ((Tm.moveT T n s).2.2 = 0 → (Tm.moveT T n s).1 = put (cut T n) n s ∧ (Tm.look T n).isSome = true) ∧ ((Tm.moveT T n s).2.2 ≠ 0 → (Tm.moveT T n s).1 = T) := by
  unfold Tm.moveT
  split
  · simp
  · cases hl : Tm.look T n with
    | none => simp
    | some was =>
      dsimp only
      repeat' split
      all_goals simp
theorem Twin.add {R T : Tr} (h : Twin R T) {n : Qm.St} {i : Nat} {b : Bool} (hf : Found R n i b) (s : Sp) : Twin (addR R i n s) (Tm.addT T n s).1 := by
  unfold addR
  by_cases h0 : (Tm.addT R n s).2 = 0
  · rw [if_pos h0]
    have h1 : (Tm.addT T n s).2 = 0 := by rw [← h.addT]; exact h0
    rw [addT_zero.1 h1]
    have hb : b = false := by
      cases b with
      | false => rfl
      | true =>
        have hl := (hf.look h.ris).1
        unfold Tm.addT at h0
        by_cases hk : (okN n && rightSp s) = false
        · rw [if_pos hk] at h0; simp at h0
        · rw [if_neg hk, if_pos hl] at h0; simp at h0
    subst hb
    exact ⟨(ins_perm R i n s).trans (put_perm h.perm n s), ins_ris hf h.ris s⟩
  · rw [if_neg h0]
    have h1 : (Tm.addT T n s).2 ≠ 0 := by rw [← h.addT]; exact h0
    rw [addT_zero.2 h1]
    exact h
theorem Twin.move {R T : Tr} (h : Twin R T) {n : Qm.St} {i : Nat} {b : Bool} (hf : Found R n i b) (s : Sp) : Twin (movR R i n s) (Tm.moveT T n s).1 := by
  unfold movR
  by_cases h0 : (Tm.moveT R n s).2.2 = 0
  · rw [if_pos h0]
    have h1 : (Tm.moveT T n s).2.2 = 0 := by rw [← h.moveT]; exact h0
    obtain ⟨-, h3⟩ := moveT_zero.1 h0
    rw [(moveT_zero.1 h1).1]
    obtain ⟨h4, h5⟩ := hf.look h.ris
    obtain ⟨was, hw, -⟩ := h5 (by rw [← h4]; exact h3)
    exact ⟨(set_perm hw h.ris).trans (put_perm (cut_perm h.perm n) n s), set_ris hw h.ris⟩
  · rw [if_neg h0]
    have h1 : (Tm.moveT T n s).2.2 ≠ 0 := by rw [← h.moveT]; exact h0
    rw [moveT_zero.2 h1]
    exact h

/-- the siblings below a place, in the rows' order -/
def sibs (R : Tr) (p : Qm.St) : List Sbm.Sib := (R.filter fun e => e.2.1 == p).map fun e => (e.2.2, e.1)
theorem sibs_perm {R T : Tr} (h : R.Perm T) (p : Qm.St) : (sibs R p).Perm (sibs T p) := (h.filter _).map _
theorem sibs_nil (p : Qm.St) : sibs [] p = [] := rfl
theorem sibs_append (R U : Tr) (p : Qm.St) : sibs (R ++ U) p = sibs R p ++ sibs U p := by simp [sibs]
theorem sibs_one (e : Qm.St × Sp) (p : Qm.St) : sibs [e] p = if e.2.1 = p then [(e.2.2, e.1)] else [] := by
  unfold sibs
  by_cases h : e.2.1 = p
  · rw [if_pos h]; simp [h]
  · rw [if_neg h]; simp [h]
theorem sibs_len (R : Tr) (p : Qm.St) : (sibs R p).length ≤ R.length := by
  unfold sibs
  rw [List.length_map]
  exact List.length_filter_le _ _
/-- out of the nodes below, each at its spot -/
theorem sibs_kids {T : Tr} (nd : (T.map Prod.fst).Nodup) (p : Qm.St) {m : List Qm.St} (hp : m.Perm (kids T p)) (key : Qm.St → ByteArray) (hk : ∀ n s, Tm.look T n = some s → key n = s.2) : (m.map fun n => (key n, n)).Perm (sibs T p) := by
  refine (hp.map _).trans (List.Perm.of_eq ?_)
  unfold kids sibs
  rw [List.map_map]
  refine List.map_congr_left fun e he => ?_
  have he2 := (List.mem_filter.1 he).1
  show (key e.1, e.1) = (e.2.2, e.1)
  rw [hk e.1 e.2 (look_some nd he2)]
end Go.Proofs.YtilkokhapcgolaaGreat.Rtm
