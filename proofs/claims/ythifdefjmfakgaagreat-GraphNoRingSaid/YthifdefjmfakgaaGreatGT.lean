/-
  STAMPS THAT MAY BE, nodes and places (the program's calls): they lie in OSmall, ClockX and OMath.
  No conditions.
  A TREE, PLAINLY: a list of nodes with their spots; the way up; what Add, Move and Drop make of it; from each node the way up ends, and tells none twice.
  No conditions.
  REGISTERS, PLAINLY: names, what a write leaves, no order; the document's list of all that was written.
  No conditions.
-/
import Derived.Test.YthifdefjmfakgaaGreatGI
import Derived.Test.YthifdefjmfakgaaGreatGC
import Derived.Deep.RegionWith
import Derived.Lib.SmallJoins
import Derived.Test.YthifdefjmfakgaaGreatGQ
import Derived.Test.YthifdefjmfakgaaGreatGG
import Derived.Test.YthifdefjmfakgaaGreatOMath


namespace Go.Proofs.YthifdefjmfakgaaGreat
namespace Tm

/-- a spot: its Parent, its Key -/
abbrev Sp := Qm.St × ByteArray
/-- a tree -/
abbrev Tr := List (Qm.St × Sp)
def okN (n : Qm.St) : Bool := okNode n.1 n.2
def top (p : Qm.St) : Bool := okPlace p.1 p.2 && !okNode p.1 p.2
def rightSp (s : Sp) : Bool := okPlace s.1.1 s.1.2 && Km.rightB s.2.data.toList
theorem top_iff {p : Qm.St} : top p = true ↔ p = (0, 0) ∨ p = (0, 1) := by
  obtain ⟨a, b⟩ := p
  constructor
  · intro h
    simp only [top, okPlace, isZ, isT, Bool.and_eq_true, Bool.or_eq_true, Bool.not_eq_true', beq_iff_eq] at h
    rcases h with ⟨(h1 | h1) | h1, h2⟩
    · rw [h1] at h2; cases h2
    · exact Or.inl (by rw [h1.1, h1.2])
    · exact Or.inr (by rw [h1.1, h1.2])
  · rintro (h | h) <;> cases h <;> decide
theorem not_top {p : Qm.St} (h : okN p = true) : top p = false := by
  unfold okN at h
  simp [top, h]
def look (T : Tr) (n : Qm.St) : Option Sp := (T.find? fun e => e.1 == n).map (·.2)
def has (T : Tr) (p : Qm.St) : Bool := (look T p).isSome || top p
theorem look_mem {T : Tr} {n : Qm.St} {s : Sp} (h : look T n = some s) : (n, s) ∈ T := by
  unfold look at h
  obtain ⟨e, he, rfl⟩ := Option.map_eq_some_iff.1 h
  have h1 := List.find?_some he
  have h2 := List.mem_of_find?_eq_some he
  have h3 : e.1 = n := by simpa using h1
  subst h3
  exact h2
theorem look_none {T : Tr} {n : Qm.St} : look T n = none ↔ ∀ e ∈ T, e.1 ≠ n := by
  unfold look
  rw [Option.map_eq_none_iff, List.find?_eq_none]
  simp
theorem look_some {T : Tr} (nd : (T.map Prod.fst).Nodup) {n : Qm.St} {s : Sp} (h : (n, s) ∈ T) : look T n = some s := by
  induction T with
  | nil => cases h
  | cons a T ih =>
    rw [List.map_cons, List.nodup_cons] at nd
    unfold look
    rw [List.find?_cons]
    by_cases e : a.1 = n
    · rw [show (a.1 == n) = true by simpa using e]
      rcases List.mem_cons.1 h with rfl | h
      · rfl
      · exact absurd (List.mem_map.2 ⟨_, h, rfl⟩) (by rw [e] at nd; exact nd.1)
    · rw [show (a.1 == n) = false by simpa using e]
      rcases List.mem_cons.1 h with rfl | h
      · exact absurd rfl e
      · exact ih nd.2 h
theorem look_append {T U : Tr} {n : Qm.St} : look (T ++ U) n = (look T n).or (look U n) := by
  unfold look
  rw [List.find?_append]
  cases List.find? (fun e => e.1 == n) T <;> rfl
theorem look_sing {n m : Qm.St} {s : Sp} : look [(n, s)] m = if n = m then some s else none := by
  unfold look
  by_cases h : n = m
  · simp [h]
  · simp [h]
/-- without n -/
def cut (T : Tr) (n : Qm.St) : Tr := T.filter fun e => !(e.1 == n)
theorem look_cut {T : Tr} {n m : Qm.St} : look (cut T n) m = if n = m then none else look T m := by
  by_cases h : n = m
  · subst h
    rw [if_pos rfl, look_none]
    intro e he
    have := (List.mem_filter.1 he).2
    simpa using this
  · rw [if_neg h]
    unfold look cut
    rw [List.find?_filter]
    congr 2
    funext e
    by_cases h2 : e.1 = m
    · have h4 : ¬ m = n := fun h3 => h h3.symm
      simp [h2, h4]
    · simp [h2]
theorem mem_cut {T : Tr} {n : Qm.St} {e : Qm.St × Sp} : e ∈ cut T n ↔ e ∈ T ∧ e.1 ≠ n := by
  unfold cut
  rw [List.mem_filter]
  simp
theorem cut_none {T : Tr} {n : Qm.St} (h : look T n = none) : cut T n = T := by
  unfold cut
  rw [List.filter_eq_self]
  intro e he
  simpa using look_none.1 h e he
theorem cut_append {T U : Tr} {n : Qm.St} : cut (T ++ U) n = cut T n ++ cut U n := by simp [cut]

/-! ### the way up -/
inductive Up (T : Tr) : Qm.St → List Qm.St → Prop
  | stop {n : Qm.St} : look T n = none → Up T n []
  | step {n : Qm.St} {s : Sp} {l : List Qm.St} : look T n = some s → Up T s.1 l → Up T n (s.1 :: l)
theorem up_det {T : Tr} {n : Qm.St} {l l' : List Qm.St} (h : Up T n l) (h' : Up T n l') : l = l' := by
  induction h generalizing l' with
  | stop h =>
    cases h' with
    | stop _ => rfl
    | step h2 _ => rw [h] at h2; cases h2
  | step h1 h2 ih =>
    cases h' with
    | stop h3 => rw [h1] at h3; cases h3
    | step h3 h4 =>
      rw [h1] at h3
      cases h3
      rw [ih h4]
theorem up_mem {T : Tr} {n m : Qm.St} {l : List Qm.St} (h : Up T n l) (hm : m ∈ l) : ∃ l', Up T m l' ∧ l'.length < l.length ∧ ∀ x ∈ l', x ∈ l := by
  induction h with
  | stop h => cases hm
  | step h1 h2 ih =>
    rcases List.mem_cons.1 hm with rfl | hm
    · exact ⟨_, h2, by simp, fun x hx => List.mem_cons_of_mem _ hx⟩
    · obtain ⟨l', h3, h4, h5⟩ := ih hm
      exact ⟨l', h3, by simp; omega, fun x hx => List.mem_cons_of_mem _ (h5 x hx)⟩
theorem up_self {T : Tr} {n : Qm.St} {l : List Qm.St} (h : Up T n l) : n ∉ l := fun hm => by
  obtain ⟨l', h1, h2, -⟩ := up_mem h hm
  rw [up_det h h1] at h2
  exact Nat.lt_irrefl _ h2
theorem up_nodup {T : Tr} {n : Qm.St} {l : List Qm.St} (h : Up T n l) : (n :: l).Nodup := by
  induction h with
  | stop h => simp
  | step h1 h2 ih => exact List.nodup_cons.2 ⟨up_self (Up.step h1 h2), ih⟩
theorem up_keys {T : Tr} {n : Qm.St} {l : List Qm.St} (h : Up T n l) : ∀ x ∈ (n :: l).dropLast, (look T x).isSome = true := by
  induction h with
  | stop h => intro x hx; cases hx
  | step h1 h2 ih =>
    intro x hx
    rw [List.dropLast_cons_of_ne_nil (by simp)] at hx
    rcases List.mem_cons.1 hx with rfl | hx
    · rw [h1]; rfl
    · exact ih x hx
theorem len_le {α : Type} [DecidableEq α] {a b : List α} (nd : a.Nodup) (h : ∀ x ∈ a, x ∈ b) : a.length ≤ b.length := by
  induction a generalizing b with
  | nil => exact Nat.zero_le _
  | cons x a ih =>
    obtain ⟨h1, h2⟩ := List.nodup_cons.1 nd
    have hx := h x (List.mem_cons_self ..)
    have := ih (b := b.erase x) h2 fun y hy => (List.mem_erase_of_ne (fun e => h1 (by rw [← e]; exact hy))).2 (h y (List.mem_cons_of_mem _ hy))
    rw [List.length_erase_of_mem hx] at this
    have h3 := List.length_pos_of_mem hx
    simp only [List.length_cons]
    omega
theorem up_len {T : Tr} {n : Qm.St} {l : List Qm.St} (h : Up T n l) : l.length ≤ T.length := by
  have h1 : (n :: l).dropLast.Nodup := (List.dropLast_sublist (n :: l)).nodup (up_nodup h)
  have h2 := len_le (b := T.map Prod.fst) h1 fun x hx => by
    have := up_keys h x hx
    obtain ⟨s, hs⟩ := Option.isSome_iff_exists.1 this
    exact List.mem_map.2 ⟨_, look_mem hs, rfl⟩
  simpa using h2
theorem up_last {T : Tr} {n : Qm.St} {l : List Qm.St} (h : Up T n l) (hl : l ≠ []) (hp : ∀ e ∈ T, has T e.2.1 = true) : top (l.getLast hl) = true := by
  induction h with
  | stop h => exact absurd rfl hl
  | @step n s l h1 h2 ih =>
    by_cases e : l = []
    · subst e
      have h3 := hp _ (look_mem h1)
      have h4 : look T s.1 = none := by
        cases h2 with
        | stop h => exact h
      simpa [has, h4] using h3
    · rw [List.getLast_cons e]
      exact ih e

/-- as many steps at most -/
def climb : Nat → Tr → Qm.St → List Qm.St
  | 0, _, _ => []
  | g + 1, T, n => match look T n with
    | none => []
    | some s => s.1 :: climb g T s.1
theorem up_climb {T : Tr} {n : Qm.St} {l : List Qm.St} (h : Up T n l) {g : Nat} (hg : l.length ≤ g) : climb g T n = l := by
  induction h generalizing g with
  | stop h =>
    cases g with
    | zero => rfl
    | succ g => rw [climb, h]
  | step h1 h2 ih =>
    obtain ⟨g, rfl⟩ : ∃ k, g = k + 1 := ⟨g - 1, by simp at hg; omega⟩
    rw [climb, h1]
    simp only
    rw [ih (by simp at hg; omega)]
/-- Above -/
def chain (T : Tr) (n : Qm.St) : List Qm.St := climb T.length T n
/-- Within -/
def within (T : Tr) (p n : Qm.St) : Bool := if p = n then (look T n).isSome else (chain T n).contains p

/-- a tree that acts made -/
structure Ok (T : Tr) : Prop where
  nd : (T.map Prod.fst).Nodup
  node : ∀ e ∈ T, okN e.1 = true
  sp : ∀ e ∈ T, rightSp e.2 = true
  par : ∀ e ∈ T, has T e.2.1 = true
  up : ∀ n, ∃ l, Up T n l
theorem Ok.chain {T : Tr} (h : Ok T) (n : Qm.St) : Up T n (chain T n) := by
  obtain ⟨l, hl⟩ := h.up n
  rw [Tm.chain, up_climb hl (up_len hl)]
  exact hl
theorem Ok.nil : Ok [] := ⟨List.nodup_nil, fun _ h => (by cases h), fun _ h => (by cases h), fun _ h => (by cases h), fun n => ⟨[], Up.stop rfl⟩⟩
theorem Ok.chainEq {T : Tr} (h : Ok T) {n : Qm.St} {l : List Qm.St} (hl : Up T n l) : Tm.chain T n = l := up_det (h.chain n) hl
theorem not_within {T : Tr} {n p : Qm.St} (hn : (look T n).isSome = true) (hw : within T n p = false) : n ≠ p ∧ n ∉ Tm.chain T p := by
  unfold within at hw
  by_cases e : n = p
  · subst e
    rw [if_pos rfl, hn] at hw
    cases hw
  · rw [if_neg e] at hw
    exact ⟨e, by simpa using hw⟩

/-- a spot more -/
def put (T : Tr) (n : Qm.St) (s : Sp) : Tr := T ++ [(n, s)]
theorem look_put {T : Tr} {n m : Qm.St} {s : Sp} (h : look T n = none) : look (put T n s) m = if n = m then some s else look T m := by
  unfold put
  rw [look_append, look_sing]
  by_cases e : n = m
  · subst e
    rw [h, if_pos rfl]
    rfl
  · rw [if_neg e, if_neg e]
    cases look T m <;> rfl
theorem look_set {T : Tr} {n m : Qm.St} {s : Sp} : look (put (cut T n) n s) m = if n = m then some s else look T m := by
  rw [look_put (by rw [look_cut, if_pos rfl]), look_cut]
  by_cases e : n = m
  · rw [if_pos e, if_pos e]
  · rw [if_neg e, if_neg e, if_neg e]
theorem has_of {T U : Tr} {p : Qm.St} (h : has T p = true) (hk : (look T p).isSome = true → (look U p).isSome = true) : has U p = true := by
  unfold has at h ⊢
  rw [Bool.or_eq_true] at h ⊢
  exact h.imp hk id
/-- the way up where nothing of it has turned -/
theorem up_same {T U : Tr} {n : Qm.St} {l : List Qm.St} (h : Up T n l) (hk : ∀ x, x = n ∨ x ∈ l → look U x = look T x) : Up U n l := by
  induction h with
  | stop h => exact Up.stop (by rw [hk _ (Or.inl rfl)]; exact h)
  | step h1 h2 ih => exact Up.step (by rw [hk _ (Or.inl rfl)]; exact h1) (ih fun x hx => hk x (Or.inr (by rcases hx with rfl | hx; exact List.mem_cons_self ..; exact List.mem_cons_of_mem _ hx)))
theorem Ok.keys_put {T : Tr} {n : Qm.St} {s : Sp} (nd : (T.map Prod.fst).Nodup) (hn : look T n = none) : ((put T n s).map Prod.fst).Nodup := by
  unfold put
  rw [List.map_append]
  refine List.nodup_append.2 ⟨nd, by simp, fun a ha b hb e => ?_⟩
  obtain ⟨x, hx, rfl⟩ := List.mem_map.1 ha
  have : b = n := by simpa using hb
  subst this
  exact look_none.1 hn x hx e
theorem Ok.add {T : Tr} (h : Ok T) {n : Qm.St} {s : Sp} (h1 : okN n = true) (h2 : rightSp s = true) (h3 : look T n = none) (h4 : has T s.1 = true) : Ok (put T n s) := by
  have hno : has T n = false := by unfold has; rw [h3, not_top h1]; rfl
  have hlk : ∀ m, m ≠ n → look (put T n s) m = look T m := fun m hm => by rw [look_put h3, if_neg (fun e => hm e.symm)]
  have hup : ∀ m, has T m = true ∨ m ≠ n → ∃ l, Up (put T n s) m l := fun m hm => by
    obtain ⟨l, hl⟩ := h.up m
    refine ⟨l, up_same hl fun x hx => hlk x fun e => ?_⟩
    subst e
    rcases hx with rfl | hx
    · rcases hm with hm | hm
      · rw [hno] at hm; cases hm
      · exact hm rfl
    · clear hm
      have : has T x = true := by
        induction hl with
        | stop _ => cases hx
        | step k1 k2 ih =>
          rcases List.mem_cons.1 hx with rfl | hx
          · exact h.par _ (look_mem k1)
          · exact ih hx
      rw [hno] at this
      cases this
  refine ⟨Ok.keys_put h.nd h3, fun e he => ?_, fun e he => ?_, fun e he => ?_, fun m => ?_⟩
  · rcases List.mem_append.1 he with he | he
    · exact h.node e he
    · obtain rfl := List.mem_singleton.1 he
      exact h1
  · rcases List.mem_append.1 he with he | he
    · exact h.sp e he
    · obtain rfl := List.mem_singleton.1 he
      exact h2
  · have hp : has T e.2.1 = true := by
      rcases List.mem_append.1 he with he | he
      · exact h.par e he
      · obtain rfl := List.mem_singleton.1 he
        exact h4
    refine has_of hp fun hk => ?_
    by_cases e2 : e.2.1 = n
    · rw [e2, look_put h3, if_pos rfl]
      rfl
    · rw [hlk _ e2]
      exact hk
  · by_cases e : m = n
    · subst e
      obtain ⟨l, hl⟩ := hup s.1 (Or.inl h4)
      exact ⟨_, Up.step (by rw [look_put h3, if_pos rfl]) hl⟩
    · exact hup m (Or.inr e)
theorem keys_cut {T : Tr} (nd : (T.map Prod.fst).Nodup) (n : Qm.St) : ((cut T n).map Prod.fst).Nodup := (List.filter_sublist.map Prod.fst).nodup nd
theorem Ok.move {T : Tr} (h : Ok T) {n : Qm.St} {s : Sp} (h1 : okN n = true) (h2 : rightSp s = true) (h3 : (look T n).isSome = true) (h4 : has T s.1 = true) (h5 : within T n s.1 = false) : Ok (put (cut T n) n s) := by
  obtain ⟨k1, k2⟩ := not_within h3 h5
  have hlk : ∀ m, m ≠ n → look (put (cut T n) n s) m = look T m := fun m hm => by rw [look_set, if_neg (fun e => hm e.symm)]
  have hn : Up (put (cut T n) n s) n (s.1 :: Tm.chain T s.1) := Up.step (by rw [look_set, if_pos rfl]) (up_same (h.chain s.1) fun x hx => hlk x fun e => by
    subst e
    rcases hx with hx | hx
    · exact k1 hx
    · exact k2 hx)
  refine ⟨Ok.keys_put (keys_cut h.nd n) (by rw [look_cut, if_pos rfl]), fun e he => ?_, fun e he => ?_, fun e he => ?_, fun m => ?_⟩
  · rcases List.mem_append.1 he with he | he
    · exact h.node e (mem_cut.1 he).1
    · obtain rfl := List.mem_singleton.1 he
      exact h1
  · rcases List.mem_append.1 he with he | he
    · exact h.sp e (mem_cut.1 he).1
    · obtain rfl := List.mem_singleton.1 he
      exact h2
  · have hp : has T e.2.1 = true := by
      rcases List.mem_append.1 he with he | he
      · exact h.par e (mem_cut.1 he).1
      · obtain rfl := List.mem_singleton.1 he
        exact h4
    refine has_of hp fun hk => ?_
    by_cases e2 : e.2.1 = n
    · rw [e2, look_set, if_pos rfl]
      rfl
    · rw [hlk _ e2]
      exact hk
  · obtain ⟨l, hl⟩ := h.up m
    clear h2 h4 h5 k1 k2
    induction hl with
    | @stop x hx =>
      by_cases e : x = n
      · subst e; rw [hx] at h3; cases h3
      · exact ⟨[], Up.stop (by rw [hlk _ e]; exact hx)⟩
    | @step x s' l hx _ ih =>
      by_cases e : x = n
      · subst e; exact ⟨_, hn⟩
      · obtain ⟨l', hl'⟩ := ih
        exact ⟨_, Up.step (by rw [hlk _ e]; exact hx) hl'⟩
theorem Ok.drop {T : Tr} (h : Ok T) {n : Qm.St} (h4 : ∀ e ∈ T, e.2.1 ≠ n) : Ok (cut T n) := by
  have hlk : ∀ m, m ≠ n → look (cut T n) m = look T m := fun m hm => by rw [look_cut, if_neg (fun e => hm e.symm)]
  refine ⟨keys_cut h.nd n, fun e he => h.node e (mem_cut.1 he).1, fun e he => h.sp e (mem_cut.1 he).1, fun e he => ?_, fun m => ?_⟩
  · have he' := (mem_cut.1 he).1
    refine has_of (h.par e he') fun hk => ?_
    rw [hlk _ (h4 e he')]
    exact hk
  · obtain ⟨l, hl⟩ := h.up m
    induction hl with
    | @stop x hx => exact ⟨[], Up.stop (by rw [look_cut]; split; rfl; exact hx)⟩
    | @step x s' l hx _ ih =>
      by_cases e : x = n
      · exact ⟨[], Up.stop (by rw [look_cut, if_pos e.symm])⟩
      · obtain ⟨l', hl'⟩ := ih
        exact ⟨_, Up.step (by rw [hlk _ e]; exact hx) hl'⟩

/-! ### the acts -/
def addT (T : Tr) (n : Qm.St) (s : Sp) : Tr × Int :=
  if (okN n && rightSp s) = false then (T, 1) else if (look T n).isSome = true then (T, 4) else if has T s.1 = false then (T, 3) else if 65536 ≤ T.length then (T, 7) else (put T n s, 0)
def moveT (T : Tr) (n : Qm.St) (s : Sp) : Tr × Sp × Int :=
  if (okN n && rightSp s) = false then (T, ((0, 0), ⟨#[]⟩), 1) else
    match look T n with
    | none => (T, ((0, 0), ⟨#[]⟩), 3)
    | some was => if has T s.1 = false then (T, ((0, 0), ⟨#[]⟩), 3) else if within T n s.1 = true then (T, ((0, 0), ⟨#[]⟩), 41) else (put (cut T n) n s, was, 0)
def kids (T : Tr) (p : Qm.St) : List Qm.St := (T.filter fun e => e.2.1 == p).map Prod.fst
def dropT (T : Tr) (n : Qm.St) : Tr × Sp × Int :=
  match look T n with
  | none => (T, ((0, 0), ⟨#[]⟩), 3)
  | some was => if kids T n = [] then (cut T n, was, 0) else (T, ((0, 0), ⟨#[]⟩), 4)
theorem kids_mem {T : Tr} {p n : Qm.St} : n ∈ kids T p ↔ ∃ s, (n, s) ∈ T ∧ s.1 = p := by
  unfold kids
  rw [List.mem_map]
  constructor
  · rintro ⟨⟨a, s⟩, h, rfl⟩
    obtain ⟨h1, h2⟩ := List.mem_filter.1 h
    exact ⟨s, h1, by simpa using h2⟩
  · rintro ⟨s, h, e⟩
    exact ⟨(n, s), List.mem_filter.2 ⟨h, by simpa using e⟩, rfl⟩
theorem kids_nil {T : Tr} {p : Qm.St} : kids T p = [] ↔ ∀ e ∈ T, e.2.1 ≠ p := by
  unfold kids
  rw [List.map_eq_nil_iff, List.filter_eq_nil_iff]
  simp
theorem kids_nodup {T : Tr} (nd : (T.map Prod.fst).Nodup) (p : Qm.St) : (kids T p).Nodup := (List.filter_sublist.map Prod.fst).nodup nd
theorem Ok.addT {T : Tr} (h : Ok T) (n : Qm.St) (s : Sp) : Ok (addT T n s).1 := by
  unfold Tm.addT
  split
  · exact h
  · rename_i h1
    split
    · exact h
    · rename_i h2
      split
      · exact h
      · rename_i h3
        split
        · exact h
        · rw [Bool.not_eq_false, Bool.and_eq_true] at h1
          rw [Bool.not_eq_true, Option.isSome_eq_false_iff, Option.isNone_iff_eq_none] at h2
          rw [Bool.not_eq_false] at h3
          exact h.add h1.1 h1.2 h2 h3
theorem Ok.moveT {T : Tr} (h : Ok T) (n : Qm.St) (s : Sp) : Ok (moveT T n s).1 := by
  unfold Tm.moveT
  split
  · exact h
  · rename_i h1
    split
    · exact h
    · rename_i was h2
      split
      · exact h
      · rename_i h3
        split
        · exact h
        · rename_i h4
          rw [Bool.not_eq_false, Bool.and_eq_true] at h1
          rw [Bool.not_eq_false] at h3
          rw [Bool.not_eq_true] at h4
          exact h.move h1.1 h1.2 (by rw [h2]; rfl) h3 h4
theorem Ok.dropT {T : Tr} (h : Ok T) (n : Qm.St) : Ok (dropT T n).1 := by
  unfold Tm.dropT
  split
  · exact h
  · rename_i was h2
    split
    · rename_i h3
      exact h.drop (kids_nil.1 h3)
    · exact h
/-! ### back -/
/-- the same nodes at the same spots -/
def Alike (T U : Tr) : Prop := T.length = U.length ∧ ∀ n, look T n = look U n
theorem Alike.refl (T : Tr) : Alike T T := ⟨rfl, fun _ => rfl⟩
theorem cut_len_eq {T : Tr} (nd : (T.map Prod.fst).Nodup) {n : Qm.St} (h : (look T n).isSome = true) : (cut T n).length + 1 = T.length := by
  induction T with
  | nil => cases h
  | cons a T ih =>
    rw [List.map_cons, List.nodup_cons] at nd
    by_cases e : a.1 = n
    · have h1 : cut (a :: T) n = T := by
        have : look T n = none := look_none.2 fun x hx h2 => nd.1 (by rw [e, ← h2]; exact List.mem_map.2 ⟨x, hx, rfl⟩)
        have h3 := cut_none this
        unfold cut at h3 ⊢
        rw [List.filter_cons_of_neg (by simpa using e), h3]
      rw [h1]
      rfl
    · have h1 : cut (a :: T) n = a :: cut T n := by
        unfold cut
        rw [List.filter_cons_of_pos (by simpa using e)]
      have h2 : look (a :: T) n = look T n := by
        unfold look
        rw [List.find?_cons, show (a.1 == n) = false by simpa using e]
      rw [h1, List.length_cons, List.length_cons, ih nd.2 (by rw [← h2]; exact h)]
theorem Ok.back {T : Tr} (h : Ok T) {n : Qm.St} {s was : Sp} (h1 : okN n = true) (h3 : look T n = some was) :
    Tm.moveT (put (cut T n) n s) n was = (put (cut (put (cut T n) n s) n) n was, s, 0) ∧ Alike (put (cut (put (cut T n) n s) n) n was) T := by
  have hsome : (look T n).isSome = true := by rw [h3]; rfl
  have hch : Up T n (was.1 :: Tm.chain T was.1) := Up.step h3 (h.chain was.1)
  have hnd := up_self hch
  have hlk : ∀ m, m ≠ n → look (put (cut T n) n s) m = look T m := fun m hm => by rw [look_set, if_neg (fun e => hm e.symm)]
  have hne : was.1 ≠ n := fun e => hnd (by rw [← e]; exact List.mem_cons_self ..)
  have hup : Up (put (cut T n) n s) was.1 (Tm.chain T was.1) := up_same (h.chain was.1) fun x hx => hlk x fun e => by
    subst e
    rcases hx with hx | hx
    · exact hne hx.symm
    · exact hnd (List.mem_cons_of_mem _ hx)
  have hlen : (put (cut T n) n s).length = T.length := by
    have := cut_len_eq h.nd hsome
    simpa [put] using this
  refine ⟨?_, ?_, fun m => ?_⟩
  · unfold Tm.moveT
    rw [if_neg (by rw [h1, h.sp _ (look_mem h3)]; simp), look_set, if_pos rfl]
    dsimp only
    rw [if_neg, if_neg]
    · unfold within
      rw [if_neg (fun e => hne e.symm), Tm.chain, up_climb hup (up_len hup)]
      simpa using fun hh => hnd (List.mem_cons_of_mem _ hh)
    · rw [Bool.not_eq_false]
      refine has_of (h.par _ (look_mem h3)) fun hk => ?_
      rw [hlk _ hne]
      exact hk
  · have := cut_len_eq (T := put (cut T n) n s) (Ok.keys_put (keys_cut h.nd n) (by rw [look_cut, if_pos rfl])) (n := n) (by rw [look_set, if_pos rfl]; rfl)
    rw [hlen] at this
    simpa [put] using this
  · rw [look_set, look_set]
    by_cases e : n = m
    · subst e
      rw [if_pos rfl, h3]
    · rw [if_neg e, if_neg e]
/-! ### below -/
theorem Ok.kid {T : Tr} (h : Ok T) {p n : Qm.St} (hk : n ∈ kids T p) : ∃ s, look T n = some s ∧ s.1 = p ∧ within T n n = true ∧ within T p n = true := by
  obtain ⟨s, hs, rfl⟩ := kids_mem.1 hk
  have hl := look_some h.nd hs
  refine ⟨s, hl, rfl, by unfold within; rw [if_pos rfl, hl]; rfl, ?_⟩
  have hu : Up T n (s.1 :: Tm.chain T s.1) := Up.step hl (h.chain s.1)
  unfold within
  by_cases e : s.1 = n
  · exact absurd (by rw [e]; exact List.mem_cons_self ..) (up_self hu)
  · rw [if_neg e, h.chainEq hu]
    simp
end Tm
end Go.Proofs.YthifdefjmfakgaaGreat

namespace Go.Proofs.YthifdefjmfakgaaGreat.Pm
open Go.Proofs.YthifdefjmfakgaaGreat

abbrev Nm := List Int
abbrev Vl := Int × Int × ByteArray
/-- a write: a stamp, an op -/
structure Wr where
  s : Qm.St
  x : Opp
def Wr.zero : Wr := ⟨(0, 0), Opp.zero⟩
/-- registers of one kind -/
abbrev Rg (V : Type) := Nm → Qm.St × V
def z0 : Vl := (0, 0, ⟨#[]⟩)
def Rg.zero {V : Type} (d : V) : Rg V := fun _ => ((0, 0), d)
/-- a write into one -/
def put {V : Type} (f : Rg V) (n : Nm) (s : Qm.St) (v : V) : Rg V := fun y => if y = n then (if Qm.ltS (f n).1 s then (s, v) else f n) else f y
/-- one step: what is hit is written -/
def step {V : Type} (h : Wr → Option (Nm × V)) (f : Rg V) (w : Wr) : Rg V :=
  match h w with
  | none => f
  | some (n, v) => put f n w.s v
def all {V : Type} (h : Wr → Option (Nm × V)) (d : V) (l : List Wr) : Rg V := l.foldl (step h) (Rg.zero d)

section
variable {V : Type} {h : Wr → Option (Nm × V)} {d : V}
theorem step_none {f : Rg V} {w : Wr} (e : h w = none) : step h f w = f := by unfold step; rw [e]
theorem step_some {f : Rg V} {w : Wr} {n : Nm} {v : V} (e : h w = some (n, v)) : step h f w = put f n w.s v := by unfold step; rw [e]
/-- what stands: the greatest -/
def Top (h : Wr → Option (Nm × V)) (d : V) (l : List Wr) (f : Rg V) : Prop :=
  ∀ n, (f n = ((0, 0), d) ∧ ∀ w ∈ l, ∀ v, h w ≠ some (n, v)) ∨
    ∃ w ∈ l, ∃ v, h w = some (n, v) ∧ f n = (w.s, v) ∧ ∀ w' ∈ l, ∀ v', h w' = some (n, v') → ¬ Qm.ltS w.s w'.s
theorem Top.nil : Top h d [] (Rg.zero d) := fun n => Or.inl ⟨rfl, fun _ h => (by cases h)⟩
theorem Top.step {l : List Wr} {f : Rg V} (t : Top h d l f) (w : Wr) (hp : ∀ n v, h w = some (n, v) → Qm.ltS (0, 0) w.s) : Top h d (l ++ [w]) (step h f w) := by
  intro n
  cases e : h w with
  | none =>
    rw [step_none e]
    rcases t n with ⟨h1, h2⟩ | ⟨w0, hm, v, h1, h2, h3⟩
    · refine Or.inl ⟨h1, fun x hx v hv => ?_⟩
      rcases List.mem_append.1 hx with hx | hx
      · exact h2 x hx v hv
      · rw [List.mem_singleton.1 hx, e] at hv; cases hv
    · refine Or.inr ⟨w0, List.mem_append_left _ hm, v, h1, h2, fun x hx v' hv => ?_⟩
      rcases List.mem_append.1 hx with hx | hx
      · exact h3 x hx v' hv
      · rw [List.mem_singleton.1 hx, e] at hv; cases hv
  | some p =>
    obtain ⟨m, u⟩ := p
    rw [step_some e]
    unfold put
    by_cases hn : n = m
    · subst hn
      rw [if_pos rfl]
      have hp' := hp _ _ e
      by_cases hlt : Qm.ltS (f n).1 w.s
      · rw [if_pos hlt]
        refine Or.inr ⟨w, by simp, u, e, rfl, fun x hx v' hv => ?_⟩
        rcases List.mem_append.1 hx with hx | hx
        · rcases t n with ⟨h1, h2⟩ | ⟨w0, hm, v, h1, h2, h3⟩
          · exact absurd hv (h2 x hx v')
          · rw [h2] at hlt
            exact fun hc => h3 x hx v' hv (Qm.ltS_trans hlt hc)
        · rw [List.mem_singleton.1 hx]; exact Qm.ltS_irrefl _
      · rw [if_neg hlt]
        rcases t n with ⟨h1, h2⟩ | ⟨w0, hm, v, h1, h2, h3⟩
        · rw [h1] at hlt; exact absurd hp' hlt
        · refine Or.inr ⟨w0, List.mem_append_left _ hm, v, h1, h2, fun x hx v' hv => ?_⟩
          rcases List.mem_append.1 hx with hx | hx
          · exact h3 x hx v' hv
          · rw [List.mem_singleton.1 hx]
            rw [h2] at hlt
            exact hlt
    · rw [if_neg hn]
      rcases t n with ⟨h1, h2⟩ | ⟨w0, hm, v, h1, h2, h3⟩
      · refine Or.inl ⟨h1, fun x hx v hv => ?_⟩
        rcases List.mem_append.1 hx with hx | hx
        · exact h2 x hx v hv
        · rw [List.mem_singleton.1 hx, e] at hv
          cases hv
          exact hn rfl
      · refine Or.inr ⟨w0, List.mem_append_left _ hm, v, h1, h2, fun x hx v' hv => ?_⟩
        rcases List.mem_append.1 hx with hx | hx
        · exact h3 x hx v' hv
        · rw [List.mem_singleton.1 hx, e] at hv
          cases hv
          exact absurd rfl hn
theorem Top.run (hp : ∀ w n v, h w = some (n, v) → Qm.ltS (0, 0) w.s) : ∀ (k l : List Wr) (f : Rg V), Top h d l f → Top h d (l ++ k) (k.foldl (Pm.step h) f)
  | [], l, f, t => by simpa using t
  | w :: k, l, f, t => by
    have := Top.run hp k (l ++ [w]) _ (t.step w (hp w))
    rw [List.append_assoc] at this
    exact this
/-- no two have one stamp -/
def Apart (l : List Wr) : Prop := ∀ a ∈ l, ∀ b ∈ l, a.s = b.s → a = b
/-- what stands does not hang on the order, nor on how often -/
theorem Top.one {l k : List Wr} {f g : Rg V} (t : Top h d l f) (t' : Top h d k g) (hs : ∀ w, w ∈ l ↔ w ∈ k) (ha : Apart l) : f = g := by
  funext n
  rcases t n with ⟨h1, h2⟩ | ⟨w, hm, v, h1, h2, h3⟩
  · rcases t' n with ⟨g1, g2⟩ | ⟨w', hm', v', g1, g2, g3⟩
    · rw [h1, g1]
    · exact absurd g1 (h2 w' ((hs w').2 hm') v')
  · rcases t' n with ⟨g1, g2⟩ | ⟨w', hm', v', g1, g2, g3⟩
    · exact absurd h1 (g2 w ((hs w).1 hm) v)
    · have e : w.s = w'.s := Qm.eq_of_ltS (h3 w' ((hs w').2 hm') v' g1) (g3 w ((hs w).1 hm) v h1)|> fun h => h
      have e2 : w = w' := ha w hm w' ((hs w').2 hm') e
      subst e2
      rw [h1] at g1
      cases g1
      rw [h2, g2]
end

/-! ### the three kinds -/
def nameV (n : Qm.St) (p : Int) : Nm := [n.1, n.2, p]
def nameM (n : Qm.St) : Nm := [n.1, n.2]
def okW (w : Wr) : Bool := okNode w.s.1 w.s.2 && rightO w.x
def hV (w : Wr) : Option (Nm × Vl) := if okW w = true ∧ w.x.k = 3 then some (nameV (w.x.nt, w.x.nr) w.x.p, (w.x.vk, w.x.vn, w.x.vt)) else none
def hM (w : Wr) : Option (Nm × Bool) := if okW w = true ∧ w.x.k = 4 then some (nameM (w.x.nt, w.x.nr), w.x.on) else none
/-- all registers -/
structure Rs where
  v : Rg Vl
  m : Rg Bool
  o : Rg Vl
def Rs.zero : Rs := ⟨Rg.zero z0, Rg.zero false, Rg.zero z0⟩
def doE (w : Wr) : Int := if okW w = true then (if w.x.k = 3 ∨ w.x.k = 4 ∨ w.x.k = 6 then 0 else 42) else 1
/-- do all registers have the same values? -/
def Same (r q : Rs) : Prop := (∀ n, (r.v n).2 = (q.v n).2) ∧ (∀ n, (r.m n).2 = (q.m n).2) ∧ ∀ n, (r.o n).2 = (q.o n).2
theorem Same.refl (r : Rs) : Same r r := ⟨fun _ => rfl, fun _ => rfl, fun _ => rfl⟩
/-! ### names -/
/-! ### the document's list -/
/-- what the document keeps -/
def kept (w : Wr) : Bool := doE w == 0
theorem rightO_fit {x : Opp} (h : rightO x = true) : fitO (prt x.k) x = true ∧ aloneO (prt x.k) x = true := by
  unfold rightO at h
  rw [Bool.and_eq_true, Bool.and_eq_true] at h
  exact ⟨h.1.2, h.2⟩
end Go.Proofs.YthifdefjmfakgaaGreat.Pm
