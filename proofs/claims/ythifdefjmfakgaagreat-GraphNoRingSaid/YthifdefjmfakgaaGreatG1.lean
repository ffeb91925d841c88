/-
  GRAPHS, PLAINLY: where nodes are and which masters they point to, as functions; steps up and steps down; what an op makes of it; no ring ever.
  No conditions.
  A SEARCH along steps, plainly: what was seen, what waits; found, or nothing leads there. OPS IN A ROW, plainly: where one more comes, and that the row does not hang on the order in which they came.
  No conditions.
  WHAT A TREE's ACTS MAKE, seen as where nodes are: an op tried, and taken back; plainly.
  No conditions.
-/
import Derived.Test.YthifdefjmfakgaaGreatGT
namespace Go.Proofs.YthifdefjmfakgaaGreat.Gm
open Go.Proofs.YthifdefjmfakgaaGreat

/-- what there is -/
structure G where
  s : Qm.St → Option Tm.Sp
  m : Qm.St → Option Qm.St
def upd {α : Type} (f : Qm.St → Option α) (n : Qm.St) (v : Option α) : Qm.St → Option α := fun x => if x = n then v else f x
section
variable {α : Type} {f : Qm.St → Option α} {n x : Qm.St} {v u : Option α}
theorem upd_self : upd f n v n = v := if_pos rfl
theorem upd_ne (h : x ≠ n) : upd f n v x = f x := if_neg h
theorem upd_upd : upd (upd f n v) n u = upd f n u := by
  funext x
  by_cases h : x = n
  · subst h; rw [upd_self, upd_self]
  · rw [upd_ne h, upd_ne h, upd_ne h]
theorem upd_was (h : f n = v) : upd f n v = f := by
  funext x
  by_cases e : x = n
  · subst e; rw [upd_self, h]
  · rw [upd_ne e]
end
def nil : G := ⟨fun _ => none, fun _ => none⟩
def has (g : G) (p : Qm.St) : Bool := (g.s p).isSome || Tm.top p
def UpS (g : G) (a b : Qm.St) : Prop := (∃ k, g.s a = some (b, k)) ∨ g.m a = some b
def DnS (g : G) (a b : Qm.St) : Prop := (∃ k, g.s b = some (a, k)) ∨ g.m a = some b

/-! ### ways -/
inductive Rc {α : Type} (R : α → α → Prop) : α → α → Prop
  | refl (a : α) : Rc R a a
  | step {a b c : α} : R a b → Rc R b c → Rc R a c
def Ac {α : Type} (R : α → α → Prop) : Prop := ∀ a b, R a b → ¬ Rc R b a
section
variable {α : Type} {R S : α → α → Prop} {a b c : α}
theorem Rc.one (h : R a b) : Rc R a b := .step h (.refl b)
theorem Rc.trans (h : Rc R a b) (k : Rc R b c) : Rc R a c := by
  induction h with
  | refl _ => exact k
  | step h1 _ ih => exact .step h1 (ih k)
theorem Rc.snoc (h : Rc R a b) (k : R b c) : Rc R a c := h.trans (.one k)
theorem Rc.mono (h : Rc R a b) (hs : ∀ x y, R x y → S x y) : Rc S a b := by
  induction h with
  | refl _ => exact .refl _
  | step h1 _ ih => exact .step (hs _ _ h1) ih
theorem Rc.flip (h : Rc R a b) : Rc (fun x y => R y x) b a := by
  induction h with
  | refl _ => exact .refl _
  | step h1 _ ih => exact ih.snoc h1
theorem rc_flip : Rc (fun x y => R y x) b a ↔ Rc R a b := ⟨fun h => h.flip, fun h => h.flip⟩
theorem Ac.flip (h : Ac R) : Ac (fun x y => R y x) := fun x y hxy hr => h y x hxy hr.flip
/-- what is closed under steps holds all that is reached -/
theorem Rc.closed {V : α → Prop} (h : Rc R a b) (ha : V a) (hc : ∀ x y, V x → R x y → V y) : V b := by
  induction h with
  | refl _ => exact ha
  | step h1 _ ih => exact ih (hc _ _ ha h1)
theorem Ac.ne (h : Ac R) (k : R a b) : a ≠ b := fun e => h a b k (by subst e; exact .refl _)
/-- one step more -/
theorem rc_add (hs : ∀ x y, S x y → R x y ∨ (x = a ∧ y = b)) {x y : α} (h : Rc S x y) : Rc R x y ∨ (Rc R x a ∧ Rc R b y) := by
  induction h with
  | refl _ => exact Or.inl (.refl _)
  | step h1 _ ih =>
    rcases hs _ _ h1 with h2 | ⟨rfl, rfl⟩
    · rcases ih with h3 | ⟨h3, h4⟩
      · exact Or.inl (.step h2 h3)
      · exact Or.inr ⟨.step h2 h3, h4⟩
    · rcases ih with h3 | ⟨_, h4⟩
      · exact Or.inr ⟨.refl _, h3⟩
      · exact Or.inr ⟨.refl _, h4⟩
theorem Ac.add (h : Ac R) (hs : ∀ x y, S x y → R x y ∨ (x = a ∧ y = b)) (hn : ¬ Rc R b a) : Ac S := by
  intro x y hxy hr
  rcases hs _ _ hxy with h1 | ⟨rfl, rfl⟩
  · rcases rc_add hs hr with h2 | ⟨h2, h3⟩
    · exact h x y h1 h2
    · exact hn ((h3.snoc h1).trans h2)
  · rcases rc_add hs hr with h2 | ⟨h2, _⟩
    · exact hn h2
    · exact hn h2
theorem Ac.less (h : Ac R) (hs : ∀ x y, S x y → R x y) : Ac S := fun x y hxy hr => h x y (hs _ _ hxy) (hr.mono hs)
/-- a way that is not empty has a first step -/
theorem Rc.first (h : Rc R a b) (hne : a ≠ b) : ∃ c, R a c ∧ Rc R c b := by
  cases h with
  | refl _ => exact absurd rfl hne
  | step h1 h2 => exact ⟨_, h1, h2⟩
end

/-! ### ops -/
def node (x : Opp) : Qm.St := (x.nt, x.nr)
def ref (x : Opp) : Qm.St := (x.rt, x.rr)
def okX (w : Pm.Wr) : Bool := Pm.okW w && (w.x.k == 1 || w.x.k == 2 || w.x.k == 5)
theorem okX_iff {w : Pm.Wr} : okX w = true ↔ Tm.okN w.s = true ∧ rightO w.x = true ∧ (w.x.k = 1 ∨ w.x.k = 2 ∨ w.x.k = 5) := by
  unfold okX Pm.okW Tm.okN
  rw [Bool.and_eq_true, Bool.and_eq_true, Bool.or_eq_true, Bool.or_eq_true, beq_iff_eq, beq_iff_eq, beq_iff_eq]
  constructor
  · rintro ⟨⟨h1, h2⟩, h3⟩; exact ⟨h1, h2, by omega⟩
  · rintro ⟨h1, h2, h3⟩; exact ⟨⟨h1, h2⟩, by omega⟩
theorem right_create {x : Opp} (h : rightO x = true) (hk : x.k = 1) : Tm.rightSp (ref x, x.key) = true := by
  have h1 := (Pm.rightO_fit h).1
  rw [hk] at h1
  simp [fitO, prt] at h1
  unfold Tm.rightSp ref
  rw [Bool.and_eq_true]
  exact h1
theorem right_move {x : Opp} (h : rightO x = true) (hk : x.k = 2) : Tm.okN (node x) = true ∧ Tm.rightSp (ref x, x.key) = true := by
  have h1 := (Pm.rightO_fit h).1
  rw [hk] at h1
  simp [fitO, prt] at h1
  unfold Tm.rightSp ref Tm.okN node
  rw [Bool.and_eq_true]
  exact h1
theorem right_point {x : Opp} (h : rightO x = true) (hk : x.k = 5) : Tm.okN (node x) = true ∧ (Tm.okN (ref x) = true ∨ ref x = (0, 0)) := by
  have h1 := (Pm.rightO_fit h).1
  rw [hk] at h1
  simp [fitO, prt, isZ] at h1
  unfold Tm.okN node ref
  exact ⟨h1.1, h1.2.imp id fun h => by rw [h.1, h.2]⟩
theorem right_bare {x : Opp} (h : rightO x = true) (hk : x.k = 1 ∨ x.k = 2 ∨ x.k = 5) : x.path = [] := by
  have h1 := (Pm.rightO_fit h).2
  rcases hk with hk | hk | hk <;> rw [hk] at h1 <;> simp [aloneO, prt] at h1
  · exact h1.1.1.2
  · exact h1.1.1
  · exact h1.1.1.2
theorem rightSp_trash {p : Qm.St} {k : ByteArray} (h : Tm.rightSp (p, k) = true) : Tm.rightSp ((0, 1), k) = true := by
  unfold Tm.rightSp at h ⊢
  rw [Bool.and_eq_true] at h ⊢
  exact ⟨show okPlace 0 1 = true from by decide, h.2⟩
theorem has_top {g : G} {p : Qm.St} (h : Tm.top p = true) : has g p = true := by unfold has; rw [h, Bool.or_true]
theorem has_node {g : G} {n : Qm.St} (h : Tm.okN n = true) : has g n = (g.s n).isSome := by unfold has; rw [Tm.not_top h, Bool.or_false]
theorem top_root : Tm.top (0, 0) = true := by decide
theorem top_trash : Tm.top (0, 1) = true := by decide

def closes (g : G) (x : Opp) : Prop :=
  if x.k = 2 then Rc (UpS g) (ref x) (node x) ∨ Rc (DnS g) (node x) (ref x)
  else ref x ≠ (0, 0) ∧ (Rc (UpS g) (ref x) (node x) ∨ Rc (DnS g) (ref x) (node x))
open Classical in
/-- what an op makes of it; nothing, if it is passed over -/
noncomputable def tryG (g : G) (w : Pm.Wr) : Option G :=
  if w.x.k = 1 then some ⟨upd g.s w.s (some (if has g (ref w.x) = true then ref w.x else (0, 1), w.x.key)), g.m⟩
  else if has g (node w.x) = false ∨ has g (ref w.x) = false ∨ closes g w.x then none
  else if w.x.k = 2 then some ⟨upd g.s (node w.x) (some (ref w.x, w.x.key)), g.m⟩
  else some ⟨g.s, upd g.m (node w.x) (if ref w.x = (0, 0) then none else some (ref w.x))⟩
noncomputable def aft (g : G) (w : Pm.Wr) : G := (tryG g w).getD g
noncomputable def run (l : List Pm.Wr) : G := l.foldl aft nil
theorem run_snoc (l : List Pm.Wr) (w : Pm.Wr) : run (l ++ [w]) = aft (run l) w := by simp [run, List.foldl_append]

structure Good (g : G) : Prop where
  node : ∀ n s, g.s n = some s → Tm.okN n = true ∧ Tm.rightSp s = true ∧ has g s.1 = true
  mas : ∀ n m, g.m n = some m → (g.s n).isSome = true ∧ (g.s m).isSome = true
  up : Ac (UpS g)
  dn : Ac (DnS g)
theorem Good.nil : Good nil := by
  refine ⟨fun _ _ h => (by cases h), fun _ _ h => (by cases h), fun a b h => ?_, fun a b h => ?_⟩
  · rcases h with ⟨_, h⟩ | h <;> cases h
  · rcases h with ⟨_, h⟩ | h <;> cases h
section
variable {g : G}
theorem Good.stepUp (h : Good g) {a b : Qm.St} (hs : UpS g a b) : (g.s a).isSome = true ∧ has g b = true := by
  rcases hs with ⟨k, hs⟩ | hs
  · exact ⟨by rw [hs]; rfl, (h.node _ _ hs).2.2⟩
  · have := h.mas _ _ hs
    exact ⟨this.1, by unfold has; rw [this.2]; rfl⟩
theorem Good.stepDn (h : Good g) {a b : Qm.St} (hs : DnS g a b) : has g a = true ∧ (g.s b).isSome = true := by
  rcases hs with ⟨k, hs⟩ | hs
  · exact ⟨(h.node _ _ hs).2.2, by rw [hs]; rfl⟩
  · have := h.mas _ _ hs
    exact ⟨by unfold has; rw [this.1]; rfl, this.2⟩
theorem Good.reachUp (h : Good g) {a b : Qm.St} (hr : Rc (UpS g) a b) (ha : has g a = true) : has g b = true := hr.closed (V := fun x => has g x = true) ha fun _ _ _ hs => (h.stepUp hs).2
/-- a node more -/
theorem Good.create (h : Good g) {n : Qm.St} {s : Tm.Sp} (h1 : Tm.okN n = true) (h2 : Tm.rightSp s = true) (h3 : g.s n = none) (h4 : has g s.1 = true) : Good ⟨upd g.s n (some s), g.m⟩ := by
  have hno : has g n = false := by rw [has_node h1, h3]; rfl
  have hmn : g.m n = none := by
    cases e : g.m n with
    | none => rfl
    | some m => have := (h.mas _ _ e).1; rw [h3] at this; cases this
  have hhas : ∀ p, has g p = true → has (⟨upd g.s n (some s), g.m⟩ : G) p = true := fun p hp => by
    unfold has at hp ⊢
    by_cases e : p = n
    · subst e
      simp only [upd_self]
      rfl
    · simp only [upd_ne e]
      exact hp
  refine ⟨fun x t hx => ?_, fun x m hx => ?_, ?_, ?_⟩
  · simp only at hx
    by_cases e : x = n
    · subst e
      rw [upd_self] at hx
      cases hx
      exact ⟨h1, h2, hhas _ h4⟩
    · rw [upd_ne e] at hx
      have := h.node _ _ hx
      exact ⟨this.1, this.2.1, hhas _ this.2.2⟩
  · simp only at hx
    have := h.mas _ _ hx
    have k1 : x ≠ n := fun e => by subst e; rw [h3] at this; cases this.1
    have k2 : m ≠ n := fun e => by subst e; rw [h3] at this; cases this.2
    simp only [upd_ne k1, upd_ne k2]
    exact this
  · refine h.up.add (a := n) (b := s.1) (fun x y hs => ?_) fun hr => ?_
    · rcases hs with ⟨k, hs⟩ | hs
      · simp only at hs
        by_cases e : x = n
        · subst e
          rw [upd_self] at hs
          cases hs
          exact Or.inr ⟨rfl, rfl⟩
        · rw [upd_ne e] at hs
          exact Or.inl (Or.inl ⟨k, hs⟩)
      · exact Or.inl (Or.inr hs)
    · have := h.reachUp hr h4
      rw [hno] at this
      cases this
  · refine h.dn.add (a := s.1) (b := n) (fun x y hs => ?_) fun hr => ?_
    · rcases hs with ⟨k, hs⟩ | hs
      · simp only at hs
        by_cases e : y = n
        · subst e
          rw [upd_self] at hs
          cases hs
          exact Or.inr ⟨rfl, rfl⟩
        · rw [upd_ne e] at hs
          exact Or.inl (Or.inl ⟨k, hs⟩)
      · exact Or.inl (Or.inr hs)
    · by_cases e : n = s.1
      · rw [← e] at h4
        rw [hno] at h4
        cases h4
      · obtain ⟨c, hc, _⟩ := hr.first e
        have := (h.stepDn hc).1
        rw [hno] at this
        cases this
theorem Good.move (h : Good g) {n : Qm.St} {s : Tm.Sp} (h1 : Tm.okN n = true) (h2 : Tm.rightSp s = true) (h3 : (g.s n).isSome = true) (h4 : has g s.1 = true) (hu : ¬ Rc (UpS g) s.1 n) (hd : ¬ Rc (DnS g) n s.1) : Good ⟨upd g.s n (some s), g.m⟩ := by
  have hhas : ∀ p, has g p = true → has (⟨upd g.s n (some s), g.m⟩ : G) p = true := fun p hp => by
    unfold has at hp ⊢
    by_cases e : p = n
    · subst e
      simp only [upd_self]
      rfl
    · simp only [upd_ne e]
      exact hp
  have hsome : ∀ p, (g.s p).isSome = true → (upd g.s n (some s) p).isSome = true := fun p hp => by
    by_cases e : p = n
    · subst e; rw [upd_self]; rfl
    · rw [upd_ne e]; exact hp
  refine ⟨fun x t hx => ?_, fun x m hx => ?_, ?_, ?_⟩
  · simp only at hx
    by_cases e : x = n
    · subst e
      rw [upd_self] at hx
      cases hx
      exact ⟨h1, h2, hhas _ h4⟩
    · rw [upd_ne e] at hx
      have := h.node _ _ hx
      exact ⟨this.1, this.2.1, hhas _ this.2.2⟩
  · have := h.mas _ _ hx
    exact ⟨hsome _ this.1, hsome _ this.2⟩
  · refine h.up.add (a := n) (b := s.1) (fun x y hs => ?_) hu
    rcases hs with ⟨k, hs⟩ | hs
    · simp only at hs
      by_cases e : x = n
      · subst e
        rw [upd_self] at hs
        cases hs
        exact Or.inr ⟨rfl, rfl⟩
      · rw [upd_ne e] at hs
        exact Or.inl (Or.inl ⟨k, hs⟩)
    · exact Or.inl (Or.inr hs)
  · refine h.dn.add (a := s.1) (b := n) (fun x y hs => ?_) hd
    rcases hs with ⟨k, hs⟩ | hs
    · simp only at hs
      by_cases e : y = n
      · subst e
        rw [upd_self] at hs
        cases hs
        exact Or.inr ⟨rfl, rfl⟩
      · rw [upd_ne e] at hs
        exact Or.inl (Or.inl ⟨k, hs⟩)
    · exact Or.inl (Or.inr hs)
theorem Good.point (h : Good g) {n m : Qm.St} (h3 : (g.s n).isSome = true) (h4 : (g.s m).isSome = true) (hu : ¬ Rc (UpS g) m n) (hd : ¬ Rc (DnS g) m n) : Good ⟨g.s, upd g.m n (some m)⟩ := by
  refine ⟨h.node, fun x t hx => ?_, ?_, ?_⟩
  · simp only at hx
    by_cases e : x = n
    · subst e
      rw [upd_self] at hx
      cases hx
      exact ⟨h3, h4⟩
    · rw [upd_ne e] at hx
      exact h.mas _ _ hx
  · refine h.up.add (a := n) (b := m) (fun x y hs => ?_) hu
    rcases hs with hs | hs
    · exact Or.inl (Or.inl hs)
    · simp only at hs
      by_cases e : x = n
      · subst e
        rw [upd_self] at hs
        cases hs
        exact Or.inr ⟨rfl, rfl⟩
      · rw [upd_ne e] at hs
        exact Or.inl (Or.inr hs)
  · refine h.dn.add (a := n) (b := m) (fun x y hs => ?_) hd
    rcases hs with hs | hs
    · exact Or.inl (Or.inl hs)
    · simp only at hs
      by_cases e : x = n
      · subst e
        rw [upd_self] at hs
        cases hs
        exact Or.inr ⟨rfl, rfl⟩
      · rw [upd_ne e] at hs
        exact Or.inl (Or.inr hs)
theorem Good.unpoint (h : Good g) {n : Qm.St} : Good ⟨g.s, upd g.m n none⟩ := by
  have hm : ∀ x t, upd g.m n none x = some t → g.m x = some t := fun x t hx => by
    by_cases e : x = n
    · subst e; rw [upd_self] at hx; cases hx
    · rw [upd_ne e] at hx; exact hx
  refine ⟨h.node, fun x t hx => h.mas _ _ (hm _ _ hx), h.up.less fun x y hs => ?_, h.dn.less fun x y hs => ?_⟩
  · exact hs.imp id (hm _ _)
  · exact hs.imp id (hm _ _)
/-- whatever is tried -/
theorem Good.tried (h : Good g) {w : Pm.Wr} (hw : okX w = true) (hn : g.s w.s = none) {g' : G} (ht : tryG g w = some g') : Good g' := by
  obtain ⟨k1, k2, k3⟩ := okX_iff.1 hw
  unfold tryG at ht
  split at ht
  · next hk =>
    cases ht
    refine h.create k1 ?_ hn ?_
    · split
      · exact right_create k2 hk
      · exact rightSp_trash (right_create k2 hk)
    · simp only
      split
      · assumption
      · exact has_top top_trash
  · next hk =>
    split at ht
    · cases ht
    · next hc =>
      have c1 : has g (Gm.node w.x) = true := by
        cases e : has g (Gm.node w.x) with
        | true => rfl
        | false => exact absurd (Or.inl e) hc
      have c2 : has g (ref w.x) = true := by
        cases e : has g (ref w.x) with
        | true => rfl
        | false => exact absurd (Or.inr (Or.inl e)) hc
      have c3 : ¬ closes g w.x := fun e => hc (Or.inr (Or.inr e))
      split at ht
      · next hk2 =>
        cases ht
        have r := right_move k2 hk2
        unfold closes at c3
        rw [if_pos hk2] at c3
        exact h.move r.1 r.2 (by rw [← has_node r.1]; exact c1) c2 (fun e => c3 (Or.inl e)) fun e => c3 (Or.inr e)
      · next hk2 =>
        cases ht
        have r := right_point k2 (by omega)
        unfold closes at c3
        rw [if_neg hk2] at c3
        split
        · exact h.unpoint
        · next hz =>
          have r2 := r.2.resolve_right hz
          exact h.point (by rw [← has_node r.1]; exact c1) (by rw [← has_node r2]; exact c2) (fun e => c3 ⟨hz, Or.inl e⟩) fun e => c3 ⟨hz, Or.inr e⟩
/-- only a Create brings a node -/
theorem try_dom {w : Pm.Wr} {g' : G} (ht : tryG g w = some g') (n : Qm.St) (hs : (g'.s n).isSome = true) (hw : okX w = true) : (g.s n).isSome = true ∨ (n = w.s ∧ w.x.k = 1) := by
  obtain ⟨k1, k2, k3⟩ := okX_iff.1 hw
  unfold tryG at ht
  split at ht
  · next hk =>
    cases ht
    simp only at hs
    by_cases e : n = w.s
    · exact Or.inr ⟨e, hk⟩
    · rw [upd_ne e] at hs; exact Or.inl hs
  · split at ht
    · cases ht
    · next hc =>
      have c1 : has g (Gm.node w.x) = true := by
        cases e : has g (Gm.node w.x) with
        | true => rfl
        | false => exact absurd (Or.inl e) hc
      split at ht
      · next hk2 =>
        cases ht
        simp only at hs
        have r := right_move k2 hk2
        by_cases e : n = Gm.node w.x
        · rw [e, ← has_node r.1]; exact Or.inl c1
        · rw [upd_ne e] at hs; exact Or.inl hs
      · cases ht; exact Or.inl hs
end
/-- ops as a graph holds them: each may be, their stamps rise -/
structure Ops (l : List Pm.Wr) : Prop where
  ok : ∀ w ∈ l, okX w = true
  up : l.Pairwise fun a b => Qm.ltS a.s b.s
theorem Ops.nil : Ops [] := ⟨fun _ h => (by cases h), List.Pairwise.nil⟩
theorem Ops.pre {l k : List Pm.Wr} (h : Ops (l ++ k)) : Ops l := ⟨fun w hw => h.ok w (List.mem_append_left _ hw), (List.pairwise_append.1 h.up).1⟩
theorem Ops.take {l : List Pm.Wr} (h : Ops l) (k : Nat) : Ops (l.take k) := Ops.pre (k := l.drop k) (by rw [List.take_append_drop]; exact h)
theorem snoc_ind {α : Type} {P : List α → Prop} (h0 : P []) (h1 : ∀ l a, P l → P (l ++ [a])) (l : List α) : P l := by
  have : ∀ m : List α, P m.reverse := fun m => by
    induction m with
    | nil => exact h0
    | cons a m ih => rw [List.reverse_cons]; exact h1 _ _ ih
  have h := this l.reverse
  rwa [List.reverse_reverse] at h
theorem Ops.run_dom {l : List Pm.Wr} : Ops l → Good (run l) ∧ ∀ n, ((run l).s n).isSome = true → ∃ w ∈ l, w.s = n ∧ w.x.k = 1 := by
  refine snoc_ind (P := fun l => Ops l → Good (run l) ∧ ∀ n, ((run l).s n).isSome = true → ∃ w ∈ l, w.s = n ∧ w.x.k = 1) ?_ ?_ l
  · exact fun _ => ⟨Good.nil, fun n hn => by cases hn⟩
  · intro l w ih h
    obtain ⟨g1, d1⟩ := ih h.pre
    have hw := h.ok w (by simp)
    have hno : (run l).s w.s = none := by
      cases e : (run l).s w.s with
      | none => rfl
      | some s =>
        obtain ⟨x, hx, hxs, _⟩ := d1 w.s (by rw [e]; rfl)
        have := (List.pairwise_append.1 h.up).2.2 x hx w (by simp)
        rw [hxs] at this
        exact absurd this (Qm.ltS_irrefl _)
    rw [run_snoc]
    unfold aft
    cases e : tryG (run l) w with
    | none => exact ⟨g1, fun n hn => by obtain ⟨x, hx, hh⟩ := d1 n hn; exact ⟨x, List.mem_append_left _ hx, hh⟩⟩
    | some g' =>
      refine ⟨g1.tried hw hno e, fun n hn => ?_⟩
      rcases try_dom e n hn hw with h2 | ⟨h2, h3⟩
      · obtain ⟨x, hx, hh⟩ := d1 n h2
        exact ⟨x, List.mem_append_left _ hx, hh⟩
      · exact ⟨w, by simp, h2.symm, h3⟩
theorem Ops.good {l : List Pm.Wr} (h : Ops l) : Good (run l) := h.run_dom.1
theorem Ops.new {l : List Pm.Wr} {w : Pm.Wr} (h : Ops (l ++ [w])) : (run l).s w.s = none := by
  cases e : (run l).s w.s with
  | none => rfl
  | some s =>
    obtain ⟨x, hx, hxs, _⟩ := h.pre.run_dom.2 w.s (by rw [e]; rfl)
    have := (List.pairwise_append.1 h.up).2.2 x hx w (by simp)
    rw [hxs] at this
    exact absurd this (Qm.ltS_irrefl _)
end Go.Proofs.YthifdefjmfakgaaGreat.Gm

namespace Go.Proofs.YthifdefjmfakgaaGreat.Gm
open Go.Proofs.YthifdefjmfakgaaGreat

/-- a search from n for m: seen are marked, all of V are behind us, Q waits -/
structure Srch (R : Qm.St → Qm.St → Prop) (n m : Qm.St) (seen V Q : List Qm.St) : Prop where
  sub : ∀ x ∈ seen, x ∈ V
  nd : V.Nodup
  miss : m ∉ V
  come : ∀ x, x ∈ V ∨ x ∈ Q → Rc R n x
  start : n ∈ V ∨ n ∈ Q
  cl : ∀ v ∈ V, ∀ b, R v b → b ∈ V ∨ b ∈ Q
  un : ∀ u ∈ V, u ∉ seen → ∀ x ∈ Q, u ≠ x ∧ Rc R u x
section
variable {R : Qm.St → Qm.St → Prop} {n m x : Qm.St} {seen V Q Q' : List Qm.St}
theorem Srch.init (R : Qm.St → Qm.St → Prop) (n m : Qm.St) : Srch R n m [] [] [n] :=
  ⟨fun _ h => (by cases h), List.nodup_nil, fun h => (by cases h), fun x h => by
    rcases h with h | h
    · cases h
    · rw [List.mem_singleton.1 h]; exact .refl _, Or.inr (by simp), fun _ h => (by cases h), fun _ h => (by cases h)⟩
theorem Srch.perm (h : Srch R n m seen V Q) (hq : ∀ y, y ∈ Q ↔ y ∈ Q') : Srch R n m seen V Q' :=
  ⟨h.sub, h.nd, h.miss, fun x hx => h.come x (hx.imp id (hq x).2), h.start.imp id (hq n).1, fun v hv b hb => (h.cl v hv b hb).imp id (hq b).1, fun u hu hs x hx => h.un u hu hs x ((hq x).2 hx)⟩
/-- what waited was seen -/
theorem Srch.skip (h : Srch R n m seen V (x :: Q)) (hx : x ∈ seen) : Srch R n m seen V Q := by
  have hv := h.sub x hx
  refine ⟨h.sub, h.nd, h.miss, fun y hy => h.come y (hy.imp id (List.mem_cons_of_mem _)), ?_, fun v hv' b hb => ?_, fun u hu hs y hy => h.un u hu hs y (List.mem_cons_of_mem _ hy)⟩
  · rcases h.start with h1 | h1
    · exact Or.inl h1
    · rcases List.mem_cons.1 h1 with rfl | h1
      · exact Or.inl hv
      · exact Or.inr h1
  · rcases h.cl v hv' b hb with h1 | h1
    · exact Or.inl h1
    · rcases List.mem_cons.1 h1 with rfl | h1
      · exact Or.inl hv
      · exact Or.inr h1
theorem Srch.fresh (h : Srch R n m seen V (x :: Q)) (hx : x ∉ seen) : x ∉ V := fun hv => (h.un x hv hx x (List.mem_cons_self ..)).1 rfl
/-- one more is behind us -/
theorem Srch.expand (ac : Ac R) (h : Srch R n m seen V (x :: Q)) (hx : x ∉ seen) (hm : x ≠ m) {Q' seen' : List Qm.St} (hq : ∀ y ∈ Q', y ∈ Q ∨ R x y) (hq1 : ∀ y ∈ Q, y ∈ Q') (hq2 : ∀ y, R x y → y ∈ Q')
    (hs1 : ∀ y ∈ seen', y = x ∨ y ∈ seen) (hs2 : ∀ y ∈ seen, y ∈ seen') (hs3 : x ∈ seen' ∨ ∀ y ∈ Q', R x y) : Srch R n m seen' (x :: V) Q' := by
  have hxv := h.fresh hx
  have hnx := h.come x (Or.inr (List.mem_cons_self ..))
  refine ⟨fun y hy => ?_, List.nodup_cons.2 ⟨hxv, h.nd⟩, ?_, fun y hy => ?_, ?_, fun v hv b hb => ?_, fun u hu hs y hy => ?_⟩
  · rcases hs1 y hy with rfl | h1
    · exact List.mem_cons_self ..
    · exact List.mem_cons_of_mem _ (h.sub y h1)
  · intro hc
    rcases List.mem_cons.1 hc with h1 | h1
    · exact hm h1.symm
    · exact h.miss h1
  · rcases hy with hy | hy
    · rcases List.mem_cons.1 hy with rfl | hy
      · exact hnx
      · exact h.come y (Or.inl hy)
    · rcases hq y hy with h1 | h1
      · exact h.come y (Or.inr (List.mem_cons_of_mem _ h1))
      · exact hnx.snoc h1
  · rcases h.start with h1 | h1
    · exact Or.inl (List.mem_cons_of_mem _ h1)
    · rcases List.mem_cons.1 h1 with rfl | h1
      · exact Or.inl (List.mem_cons_self ..)
      · exact Or.inr (hq1 _ h1)
  · rcases List.mem_cons.1 hv with rfl | hv
    · exact Or.inr (hq2 b hb)
    · rcases h.cl v hv b hb with h1 | h1
      · exact Or.inl (List.mem_cons_of_mem _ h1)
      · rcases List.mem_cons.1 h1 with rfl | h1
        · exact Or.inl (List.mem_cons_self ..)
        · exact Or.inr (hq1 _ h1)
  · rcases List.mem_cons.1 hu with rfl | hu
    · have h1 := (hs3.resolve_left hs) y hy
      exact ⟨ac.ne h1, .one h1⟩
    · have hus : u ∉ seen := fun h1 => hs (hs2 u h1)
      rcases hq y hy with h1 | h1
      · exact h.un u hu hus y (List.mem_cons_of_mem _ h1)
      · have h2 := (h.un u hu hus x (List.mem_cons_self ..)).2
        exact ⟨fun e => ac x y h1 (by rw [← e]; exact h2), h2.snoc h1⟩
theorem Srch.found (h : Srch R n m seen V (m :: Q)) : Rc R n m := h.come m (Or.inr (List.mem_cons_self ..))
theorem Srch.over (h : Srch R n m seen V []) : ¬ Rc R n m := fun hr => h.miss (hr.closed (V := fun y => y ∈ V) (h.start.resolve_right (by simp)) fun a b ha hb => (h.cl a ha b hb).resolve_right (by simp))
/-- there are no more behind us than there are places -/
theorem Srch.len (h : Srch R n m seen V Q) {D : List Qm.St} (hd : ∀ y, Rc R n y → y ∈ D) : V.length ≤ D.length := Tm.len_le h.nd fun y hy => hd y (h.come y (Or.inl hy))
theorem Srch.lt (h : Srch R n m seen V (x :: Q)) (hx : x ∉ seen) {D : List Qm.St} (hd : ∀ y, Rc R n y → y ∈ D) : V.length + 1 ≤ D.length :=
  Tm.len_le (a := x :: V) (List.nodup_cons.2 ⟨h.fresh hx, h.nd⟩) fun y hy => hd y (h.come y (by
    rcases List.mem_cons.1 hy with rfl | hy
    · exact Or.inr (List.mem_cons_self ..)
    · exact Or.inl hy))
end

/-! ### ops in a row -/
def stOf (l : List Pm.Wr) : List Qm.St := l.map (·.s)
/-- the op with a stamp more, behind those ahead of it -/
def insAt (l : List Pm.Wr) (i : Nat) (w : Pm.Wr) : List Pm.Wr := l.take i ++ w :: l.drop i
theorem mem_insAt {l : List Pm.Wr} {i : Nat} {w x : Pm.Wr} : x ∈ insAt l i w ↔ x = w ∨ x ∈ l := by
  unfold insAt
  rw [List.mem_append, List.mem_cons]
  have : x ∈ l ↔ x ∈ l.take i ∨ x ∈ l.drop i := by rw [← List.mem_append, List.take_append_drop]
  rw [this]
  constructor
  · rintro (h | h | h)
    · exact Or.inr (Or.inl h)
    · exact Or.inl h
    · exact Or.inr (Or.inr h)
  · rintro (h | h | h)
    · exact Or.inr (Or.inl h)
    · exact Or.inl h
    · exact Or.inr (Or.inr h)
theorem insAt_length {l : List Pm.Wr} {i : Nat} {w : Pm.Wr} : (insAt l i w).length = l.length + 1 := by
  unfold insAt
  rw [List.length_append, List.length_cons, List.length_take, List.length_drop]
  omega
theorem insAt_take {l : List Pm.Wr} {i : Nat} {w : Pm.Wr} (h : i ≤ l.length) (k : Nat) (hk : k ≤ i) : (insAt l i w).take k = l.take k := by
  unfold insAt
  rw [List.take_append_of_le_length (by rw [List.length_take]; omega), List.take_take, Nat.min_eq_left hk]
/-- where an op's place is: those ahead of it are smaller, those behind it greater -/
structure Spot (l : List Pm.Wr) (s : Qm.St) (i : Nat) : Prop where
  le : i ≤ l.length
  lo : ∀ x ∈ l.take i, Qm.ltS x.s s
  hi : ∀ x ∈ l.drop i, Qm.ltS s x.s
theorem Ops.ins {l : List Pm.Wr} (h : Ops l) {w : Pm.Wr} (hw : okX w = true) {i : Nat} (hs : Spot l w.s i) : Ops (insAt l i w) := by
  refine ⟨fun x hx => ?_, ?_⟩
  · rcases mem_insAt.1 hx with rfl | hx
    · exact hw
    · exact h.ok x hx
  · have hu := h.up
    rw [← List.take_append_drop i l, List.pairwise_append] at hu
    unfold insAt
    refine List.pairwise_append.2 ⟨hu.1, List.pairwise_cons.2 ⟨hs.hi, hu.2.1⟩, fun a ha b hb => ?_⟩
    rcases List.mem_cons.1 hb with rfl | hb
    · exact hs.lo a ha
    · exact hu.2.2 a ha b hb
/-- rising rows that hold the same are the same -/
theorem Ops.uniq {l k : List Pm.Wr} (h : l.Pairwise fun a b => Qm.ltS a.s b.s) (h' : k.Pairwise fun a b => Qm.ltS a.s b.s) (hm : ∀ x, x ∈ l ↔ x ∈ k) : l = k := by
  induction l generalizing k with
  | nil =>
    cases k with
    | nil => rfl
    | cons b k => exact absurd ((hm b).2 (List.mem_cons_self ..)) (by simp)
  | cons a l ih =>
    cases k with
    | nil => exact absurd ((hm a).1 (List.mem_cons_self ..)) (by simp)
    | cons b k =>
      rw [List.pairwise_cons] at h h'
      have e : a = b := by
        rcases List.mem_cons.1 ((hm a).1 (List.mem_cons_self ..)) with e | h1
        · exact e
        · rcases List.mem_cons.1 ((hm b).2 (List.mem_cons_self ..)) with e | h2
          · exact e.symm
          · exact absurd (Qm.ltS_trans (h.1 b h2) (h'.1 a h1)) (Qm.ltS_irrefl _)
      subst e
      rw [ih h.2 h'.2 fun x => ⟨fun hx => ?_, fun hx => ?_⟩]
      · rcases List.mem_cons.1 ((hm x).1 (List.mem_cons_of_mem _ hx)) with e | h1
        · subst e; exact absurd (h.1 _ hx) (Qm.ltS_irrefl _)
        · exact h1
      · rcases List.mem_cons.1 ((hm x).2 (List.mem_cons_of_mem _ hx)) with e | h1
        · subst e; exact absurd (h'.1 _ hx) (Qm.ltS_irrefl _)
        · exact h1
/-- one insert more, plainly: the place of a stamp in a rising row, whether it is there -/
def place (l : List Pm.Wr) (s : Qm.St) : Nat := (l.takeWhile fun x => decide (x.s.1 < s.1 ∨ (x.s.1 = s.1 ∧ x.s.2 < s.2))).length
def there (l : List Pm.Wr) (s : Qm.St) : Bool := l.any fun x => x.s == s
theorem there_iff {l : List Pm.Wr} {s : Qm.St} : there l s = true ↔ ∃ x ∈ l, x.s = s := by
  unfold there
  rw [List.any_eq_true]
  simp
theorem place_spot {l : List Pm.Wr} (h : l.Pairwise fun a b => Qm.ltS a.s b.s) {s : Qm.St} (ht : there l s = false) : Spot l s (place l s) := by
  induction l with
  | nil => exact ⟨Nat.zero_le _, fun _ h => (by cases h), fun _ h => (by cases h)⟩
  | cons a l ih =>
    rw [List.pairwise_cons] at h
    have ht2 : there l s = false := by
      cases e : there l s with
      | false => rfl
      | true =>
        obtain ⟨x, hx, he⟩ := there_iff.1 e
        rw [there_iff.2 ⟨x, List.mem_cons_of_mem _ hx, he⟩] at ht
        cases ht
    have ih := ih h.2 ht2
    unfold place at ih ⊢
    by_cases hl : Qm.ltS a.s s
    · have hd : decide (a.s.1 < s.1 ∨ (a.s.1 = s.1 ∧ a.s.2 < s.2)) = true := decide_eq_true hl
      rw [List.takeWhile_cons, hd, if_pos rfl]
      refine ⟨by simpa using ih.le, fun x hx => ?_, fun x hx => ih.hi x hx⟩
      rw [List.length_cons, List.take_succ_cons] at hx
      rcases List.mem_cons.1 hx with rfl | hx
      · exact hl
      · exact ih.lo x hx
    · have hd : decide (a.s.1 < s.1 ∨ (a.s.1 = s.1 ∧ a.s.2 < s.2)) = false := decide_eq_false hl
      rw [List.takeWhile_cons, hd]
      have hs : Qm.ltS s a.s := by
        rcases Qm.ltS_tri a.s s with h1 | h1 | h1
        · exact absurd h1 hl
        · rw [there_iff.2 ⟨a, List.mem_cons_self .., h1⟩] at ht; cases ht
        · exact h1
      refine ⟨Nat.zero_le _, fun x hx => by simp at hx, fun x hx => ?_⟩
      rcases List.mem_cons.1 (by simpa using hx) with rfl | hx
      · exact hs
      · exact Qm.ltS_trans hs (h.1 x hx)
/-- places are one -/
theorem Spot.uniq {l : List Pm.Wr} {s : Qm.St} {i j : Nat} (h : Spot l s i) (k : Spot l s j) : i = j := by
  have key : ∀ {i j : Nat}, Spot l s i → Spot l s j → ¬ i < j := fun {i j} h k hlt => by
    have hl : i < l.length := by have := k.le; omega
    have h1 := h.hi l[i] (by rw [List.drop_eq_getElem_cons hl]; exact List.mem_cons_self ..)
    have h2 := k.lo l[i] (by rw [List.mem_take_iff_getElem]; exact ⟨i, by omega, rfl⟩)
    exact Qm.ltS_irrefl _ (Qm.ltS_trans h1 h2)
  have := key h k
  have := key k h
  omega
end Go.Proofs.YthifdefjmfakgaaGreat.Gm

namespace Go.Proofs.YthifdefjmfakgaaGreat.Gm
open Go.Proofs.YthifdefjmfakgaaGreat

theorem up_rc {T : Tm.Tr} {g : G} (hs : ∀ n, Tm.look T n = g.s n) {a n : Qm.St} {l : List Qm.St} (h : Tm.Up T a l) (hn : n ∈ l) : Rc (UpS g) a n := by
  induction h with
  | stop _ => cases hn
  | @step x s l h1 h2 ih =>
    have h3 : UpS g x s.1 := Or.inl ⟨s.2, by rw [← hs, h1]⟩
    rcases List.mem_cons.1 hn with rfl | hn
    · exact .one h3
    · exact .step h3 (ih hn)
theorem rc_avoid {α : Type} {R : α → α → Prop} {a n : α} (h : Rc R a n) : Rc (fun x y => R x y ∧ x ≠ n) a n := by
  induction h with
  | refl _ => exact .refl _
  | @step a b c h1 _ ih =>
    by_cases e : a = c
    · subst e; exact .refl _
    · exact .step ⟨h1, e⟩ ih
theorem not_within {T : Tm.Tr} {g : G} (ok : Tm.Ok T) (hs : ∀ n, Tm.look T n = g.s n) {n p : Qm.St} (hn : ¬ Rc (UpS g) p n) : Tm.within T n p = false := by
  unfold Tm.within
  by_cases e : n = p
  · subst e; exact absurd (.refl _) hn
  · rw [if_neg e]
    cases h : (Tm.chain T p).contains n with
    | false => rfl
    | true => exact absurd (up_rc hs (ok.chain p) (by simpa using h)) hn
section
variable {T : Tm.Tr} {g : G}
theorem hasEq (hs : ∀ n, Tm.look T n = g.s n) (p : Qm.St) : Tm.has T p = has g p := by unfold Tm.has has; rw [hs]
/-- a node more -/
theorem add_eq (hs : ∀ n, Tm.look T n = g.s n) {n : Qm.St} {s : Tm.Sp} (h1 : Tm.okN n = true) (h2 : Tm.rightSp s = true) (h3 : g.s n = none) (h4 : has g s.1 = true) (hl : T.length ≤ 60) :
    Tm.addT T n s = (Tm.put T n s, 0) ∧ ∀ m, Tm.look (Tm.put T n s) m = upd g.s n (some s) m := by
  have h5 : Tm.look T n = none := (hs n).trans h3
  refine ⟨?_, fun m => ?_⟩
  · unfold Tm.addT
    rw [h1, h2, if_neg (by simp), h5, if_neg (by simp), hasEq hs, h4, if_neg (by simp), if_neg (by omega)]
  · rw [Tm.look_put h5]
    unfold upd
    by_cases e : n = m
    · rw [if_pos e, if_pos e.symm]
    · rw [if_neg e, if_neg (fun h => e h.symm), hs]
/-- a node elsewhere -/
theorem move_eq (ok : Tm.Ok T) (hs : ∀ n, Tm.look T n = g.s n) {n : Qm.St} {s was : Tm.Sp} (h1 : Tm.okN n = true) (h2 : Tm.rightSp s = true) (h3 : g.s n = some was) (h4 : has g s.1 = true) (h5 : ¬ Rc (UpS g) s.1 n) :
    Tm.moveT T n s = (Tm.put (Tm.cut T n) n s, was, 0) ∧ (∀ m, Tm.look (Tm.put (Tm.cut T n) n s) m = upd g.s n (some s) m) ∧ Tm.Ok (Tm.put (Tm.cut T n) n s) := by
  have h6 : Tm.look T n = some was := (hs n).trans h3
  refine ⟨?_, fun m => ?_, ok.move h1 h2 (by rw [h6]; rfl) (by rw [hasEq hs]; exact h4) (not_within ok hs h5)⟩
  · unfold Tm.moveT
    rw [h1, h2, if_neg (by simp), h6]
    dsimp only
    rw [hasEq hs, h4, if_neg (by simp), not_within ok hs h5, if_neg (by simp)]
  · rw [Tm.look_set]
    unfold upd
    by_cases e : n = m
    · rw [if_pos e, if_pos e.symm]
    · rw [if_neg e, if_neg (fun h => e h.symm), hs]
/-- .. and where it was -/
theorem back_eq (gd : Good g) (ok : Tm.Ok T) {n : Qm.St} {s was : Tm.Sp} (hs : ∀ m, Tm.look T m = upd g.s n (some s) m) (h3 : g.s n = some was) :
    ∃ z, Tm.moveT T n was = (Tm.put (Tm.cut T n) n was, z, 0) ∧ (∀ m, Tm.look (Tm.put (Tm.cut T n) n was) m = g.s m) ∧ Tm.Ok (Tm.put (Tm.cut T n) n was) := by
  have k := gd.node _ _ h3
  have hup : UpS g n was.1 := Or.inl ⟨was.2, h3⟩
  obtain ⟨h1, h2, h4⟩ := move_eq (g := ⟨upd g.s n (some s), g.m⟩) (T := T) ok hs (n := n) (s := was) (was := s) k.1 k.2.1 (by exact upd_self) (by
    unfold has
    have hh : ((g.s was.1).isSome || Tm.top was.1) = true := k.2.2
    rw [Bool.or_eq_true] at hh
    rcases hh with h | h
    · simp only [upd]
      split
      · rfl
      · rw [h]; rfl
    · rw [h, Bool.or_true]) (fun hr => by
    refine gd.up _ _ hup ((rc_avoid hr).mono fun x y hxy => ?_)
    rcases hxy.1 with ⟨c, hc⟩ | hc
    · simp only [upd_ne hxy.2] at hc
      exact Or.inl ⟨c, hc⟩
    · exact Or.inr hc)
  refine ⟨s, h1, fun m => ?_, h4⟩
  rw [h2 m]
  show upd (upd g.s n (some s)) n (some was) m = g.s m
  rw [upd_upd, upd_was h3]
/-- a node that came goes -/
theorem drop_eq (gd : Good g) (ok : Tm.Ok T) {n : Qm.St} {s : Tm.Sp} (h1 : Tm.okN n = true) (hs : ∀ m, Tm.look T m = upd g.s n (some s) m) (h3 : g.s n = none) (h4 : has g s.1 = true) :
    ∃ z, Tm.dropT T n = (Tm.cut T n, z, 0) ∧ (∀ m, Tm.look (Tm.cut T n) m = g.s m) ∧ Tm.Ok (Tm.cut T n) := by
  have hno : has g n = false := by rw [has_node h1, h3]; rfl
  have hk : ∀ e ∈ T, e.2.1 ≠ n := fun e he hh => by
    have h5 := Tm.look_some ok.nd (n := e.1) (s := e.2) he
    rw [hs] at h5
    by_cases e2 : e.1 = n
    · rw [e2, upd_self] at h5
      cases h5
      rw [hh, hno] at h4
      cases h4
    · rw [upd_ne e2] at h5
      have := (gd.node _ _ h5).2.2
      rw [hh, hno] at this
      cases this
  refine ⟨s, ?_, fun m => ?_, ok.drop hk⟩
  · unfold Tm.dropT
    rw [hs, upd_self]
    dsimp only
    rw [if_pos (Tm.kids_nil.2 hk)]
  · rw [Tm.look_cut, hs]
    by_cases e : n = m
    · subst e; rw [if_pos rfl, h3]
    · rw [if_neg e, upd_ne (fun h => e h.symm)]
end
end Go.Proofs.YthifdefjmfakgaaGreat.Gm
