/-
  REGISTERS, PLAINLY: names, what a write leaves, no order; the document's list of all that was written.
  No conditions.
  MAPS by the steps of a walk; a whole struct into a new block: beside what BtMem has.
  No conditions.
  MAPS WHOSE KEYS ARE ROWS OF NUMBERS (structs of integers, flat), whatever they hold: look-ups, stores, a range over one.
  No conditions.
  THE REGISTERS' NAMES AS KEYS: a node and a property; a node; a node, a path and a property; what the tables say of the three maps.
  No conditions.
-/
import Derived.Test.YtcenmkcencdlcaaGH
import Derived.Test.YtcenmkcencdlcaaBtMem
import Derived.Deep.MidRow
import Derived.Deep.RegionHeld
import Derived.Deep.RegionHeld3
import Derived.Laws.Tables
import Derived.Maps.Views
import Derived.Maps.OwnOps
import Derived.DeepKeys4
import Derived.Laws.IdiomRangeMap
namespace Go.Proofs.Ytcenmkcencdlcaa.Pm
open Go.Proofs.Ytcenmkcencdlcaa

abbrev Nm := List Int
abbrev Vl := Int × Int × ByteArray
/-- a write: a stamp, an op -/
structure Wr where
  s : Qm.St
  x : Opp
def Wr.zero : Wr := ⟨(0, 0), Opp.zero⟩
/-- registers of one kind -/
abbrev Rg (V : Type) := Nm → Qm.St × V
def z0 : Vl := (0, 0, ⟨#[]⟩)
def Rg.zero {V : Type} (d : V) : Rg V := fun _ => ((0, 0), d)
/-- a write into one -/
def put {V : Type} (f : Rg V) (n : Nm) (s : Qm.St) (v : V) : Rg V := fun y => if y = n then (if Qm.ltS (f n).1 s then (s, v) else f n) else f y
/-- one step: what is hit is written -/
def step {V : Type} (h : Wr → Option (Nm × V)) (f : Rg V) (w : Wr) : Rg V :=
  match h w with
  | none => f
  | some (n, v) => put f n w.s v
def all {V : Type} (h : Wr → Option (Nm × V)) (d : V) (l : List Wr) : Rg V := l.foldl (step h) (Rg.zero d)

section
variable {V : Type} {h : Wr → Option (Nm × V)} {d : V}
theorem step_none {f : Rg V} {w : Wr} (e : h w = none) : step h f w = f := by unfold step; rw [e]
theorem step_some {f : Rg V} {w : Wr} {n : Nm} {v : V} (e : h w = some (n, v)) : step h f w = put f n w.s v := by unfold step; rw [e]
theorem all_snoc (l : List Wr) (w : Wr) : all h d (l ++ [w]) = step h (all h d l) w := by simp [all, List.foldl_append]
/-- what stands: the greatest -/
def Top (h : Wr → Option (Nm × V)) (d : V) (l : List Wr) (f : Rg V) : Prop :=
  ∀ n, (f n = ((0, 0), d) ∧ ∀ w ∈ l, ∀ v, h w ≠ some (n, v)) ∨
    ∃ w ∈ l, ∃ v, h w = some (n, v) ∧ f n = (w.s, v) ∧ ∀ w' ∈ l, ∀ v', h w' = some (n, v') → ¬ Qm.ltS w.s w'.s
theorem Top.nil : Top h d [] (Rg.zero d) := fun n => Or.inl ⟨rfl, fun _ h => (by cases h)⟩
theorem Top.step {l : List Wr} {f : Rg V} (t : Top h d l f) (w : Wr) (hp : ∀ n v, h w = some (n, v) → Qm.ltS (0, 0) w.s) : Top h d (l ++ [w]) (step h f w) := by
  intro n
  cases e : h w with
  | none =>
    rw [step_none e]
    rcases t n with ⟨h1, h2⟩ | ⟨w0, hm, v, h1, h2, h3⟩
    · refine Or.inl ⟨h1, fun x hx v hv => ?_⟩
      rcases List.mem_append.1 hx with hx | hx
      · exact h2 x hx v hv
      · rw [List.mem_singleton.1 hx, e] at hv; cases hv
    · refine Or.inr ⟨w0, List.mem_append_left _ hm, v, h1, h2, fun x hx v' hv => ?_⟩
      rcases List.mem_append.1 hx with hx | hx
      · exact h3 x hx v' hv
      · rw [List.mem_singleton.1 hx, e] at hv; cases hv
  | some p =>
    obtain ⟨m, u⟩ := p
    rw [step_some e]
    unfold put
    by_cases hn : n = m
    · subst hn
      rw [if_pos rfl]
      have hp' := hp _ _ e
      by_cases hlt : Qm.ltS (f n).1 w.s
      · rw [if_pos hlt]
        refine Or.inr ⟨w, by simp, u, e, rfl, fun x hx v' hv => ?_⟩
        rcases List.mem_append.1 hx with hx | hx
        · rcases t n with ⟨h1, h2⟩ | ⟨w0, hm, v, h1, h2, h3⟩
          · exact absurd hv (h2 x hx v')
          · rw [h2] at hlt
            exact fun hc => h3 x hx v' hv (Qm.ltS_trans hlt hc)
        · rw [List.mem_singleton.1 hx]; exact Qm.ltS_irrefl _
      · rw [if_neg hlt]
        rcases t n with ⟨h1, h2⟩ | ⟨w0, hm, v, h1, h2, h3⟩
        · rw [h1] at hlt; exact absurd hp' hlt
        · refine Or.inr ⟨w0, List.mem_append_left _ hm, v, h1, h2, fun x hx v' hv => ?_⟩
          rcases List.mem_append.1 hx with hx | hx
          · exact h3 x hx v' hv
          · rw [List.mem_singleton.1 hx]
            rw [h2] at hlt
            exact hlt
    · rw [if_neg hn]
      rcases t n with ⟨h1, h2⟩ | ⟨w0, hm, v, h1, h2, h3⟩
      · refine Or.inl ⟨h1, fun x hx v hv => ?_⟩
        rcases List.mem_append.1 hx with hx | hx
        · exact h2 x hx v hv
        · rw [List.mem_singleton.1 hx, e] at hv
          cases hv
          exact hn rfl
      · refine Or.inr ⟨w0, List.mem_append_left _ hm, v, h1, h2, fun x hx v' hv => ?_⟩
        rcases List.mem_append.1 hx with hx | hx
        · exact h3 x hx v' hv
        · rw [List.mem_singleton.1 hx, e] at hv
          cases hv
          exact absurd rfl hn
theorem Top.run (hp : ∀ w n v, h w = some (n, v) → Qm.ltS (0, 0) w.s) : ∀ (k l : List Wr) (f : Rg V), Top h d l f → Top h d (l ++ k) (k.foldl (Pm.step h) f)
  | [], l, f, t => by simpa using t
  | w :: k, l, f, t => by
    have := Top.run hp k (l ++ [w]) _ (t.step w (hp w))
    rw [List.append_assoc] at this
    exact this
theorem top_all (hp : ∀ w n v, h w = some (n, v) → Qm.ltS (0, 0) w.s) (l : List Wr) : Top h d l (all h d l) := by
  have := Top.run (d := d) hp l [] _ Top.nil
  rwa [List.nil_append] at this
/-- no two have one stamp -/
def Apart (l : List Wr) : Prop := ∀ a ∈ l, ∀ b ∈ l, a.s = b.s → a = b
/-- what stands does not hang on the order, nor on how often -/
theorem Top.one {l k : List Wr} {f g : Rg V} (t : Top h d l f) (t' : Top h d k g) (hs : ∀ w, w ∈ l ↔ w ∈ k) (ha : Apart l) : f = g := by
  funext n
  rcases t n with ⟨h1, h2⟩ | ⟨w, hm, v, h1, h2, h3⟩
  · rcases t' n with ⟨g1, g2⟩ | ⟨w', hm', v', g1, g2, g3⟩
    · rw [h1, g1]
    · exact absurd g1 (h2 w' ((hs w').2 hm') v')
  · rcases t' n with ⟨g1, g2⟩ | ⟨w', hm', v', g1, g2, g3⟩
    · exact absurd h1 (g2 w ((hs w).1 hm) v)
    · have e : w.s = w'.s := Qm.eq_of_ltS (h3 w' ((hs w').2 hm') v' g1) (g3 w ((hs w).1 hm) v h1)|> fun h => h
      have e2 : w = w' := ha w hm w' ((hs w').2 hm') e
      subst e2
      rw [h1] at g1
      cases g1
      rw [h2, g2]
/-- done once more: nothing turns -/
theorem Top.again {l : List Wr} {f : Rg V} (t : Top h d l f) {w : Wr} (hw : w ∈ l) : Pm.step h f w = f := by
  cases e : h w with
  | none => exact step_none e
  | some p =>
    obtain ⟨n, v⟩ := p
    rw [step_some e]
    funext y
    unfold put
    split
    · next hy =>
      subst hy
      rcases t y with ⟨h1, h2⟩ | ⟨w0, hm, v0, h1, h2, h3⟩
      · exact absurd e (h2 w hw v)
      · rw [if_neg (by rw [h2]; exact h3 w hw v e)]
    · rfl
theorem all_filter (p : Wr → Bool) (hp : ∀ w, p w = false → h w = none) : ∀ (l : List Wr) (f : Rg V), (l.filter p).foldl (Pm.step h) f = l.foldl (Pm.step h) f
  | [], f => rfl
  | w :: l, f => by
    cases e : p w
    · rw [List.filter_cons_of_neg (by simp [e]), List.foldl_cons, step_none (hp w e)]
      exact all_filter p hp l f
    · rw [List.filter_cons_of_pos (by simpa using e), List.foldl_cons, List.foldl_cons]
      exact all_filter p hp l _
end

/-! ### the three kinds -/
def flat (l : List Qm.St) : Nm := l.flatMap fun s => [s.1, s.2]
def pad (l : List Qm.St) : Nm := flat (l.take 8) ++ List.replicate (16 - 2 * (l.take 8).length) 0
def nameV (n : Qm.St) (p : Int) : Nm := [n.1, n.2, p]
def nameM (n : Qm.St) : Nm := [n.1, n.2]
def nameO (n : Qm.St) (l : List Qm.St) (p : Int) : Nm := [n.1, n.2, p] ++ pad l ++ [(l.length : Int)]
def okW (w : Wr) : Bool := okNode w.s.1 w.s.2 && rightO w.x
def hV (w : Wr) : Option (Nm × Vl) := if okW w = true ∧ w.x.k = 3 then some (nameV (w.x.nt, w.x.nr) w.x.p, (w.x.vk, w.x.vn, w.x.vt)) else none
def hM (w : Wr) : Option (Nm × Bool) := if okW w = true ∧ w.x.k = 4 then some (nameM (w.x.nt, w.x.nr), w.x.on) else none
def hO (w : Wr) : Option (Nm × Vl) := if okW w = true ∧ w.x.k = 6 then some (nameO (w.x.nt, w.x.nr) w.x.path w.x.p, (w.x.vk, w.x.vn, w.x.vt)) else none
/-- all registers -/
structure Rs where
  v : Rg Vl
  m : Rg Bool
  o : Rg Vl
def Rs.zero : Rs := ⟨Rg.zero z0, Rg.zero false, Rg.zero z0⟩
def doR (r : Rs) (w : Wr) : Rs := ⟨step hV r.v w, step hM r.m w, step hO r.o w⟩
def doE (w : Wr) : Int := if okW w = true then (if w.x.k = 3 ∨ w.x.k = 4 ∨ w.x.k = 6 then 0 else 42) else 1
def allR (l : List Wr) : Rs := l.foldl doR Rs.zero
theorem doR_fold (l : List Wr) (r : Rs) : l.foldl doR r = ⟨l.foldl (step hV) r.v, l.foldl (step hM) r.m, l.foldl (step hO) r.o⟩ := by
  induction l generalizing r with
  | nil => rfl
  | cons w l ih => rw [List.foldl_cons, ih]; rfl
theorem allR_eq (l : List Wr) : allR l = ⟨all hV z0 l, all hM false l, all hO z0 l⟩ := doR_fold l _
theorem allR_snoc (l : List Wr) (w : Wr) : allR (l ++ [w]) = doR (allR l) w := by simp [allR, List.foldl_append]
/-- do all registers have the same values? -/
def Same (r q : Rs) : Prop := (∀ n, (r.v n).2 = (q.v n).2) ∧ (∀ n, (r.m n).2 = (q.m n).2) ∧ ∀ n, (r.o n).2 = (q.o n).2
theorem Same.refl (r : Rs) : Same r r := ⟨fun _ => rfl, fun _ => rfl, fun _ => rfl⟩
theorem okNode_pos {t r : Int} (h : okNode t r = true) : Qm.ltS (0, 0) (t, r) := by
  unfold okNode at h
  rw [Bool.and_eq_true, decide_eq_true_eq] at h
  exact Or.inl (by show (0 : Int) < t; omega)
theorem hV_ok {w : Wr} {p : Nm × Vl} (h : hV w = some p) : okW w = true ∧ w.x.k = 3 := by
  unfold hV at h
  split at h
  · assumption
  · cases h
theorem hM_ok {w : Wr} {p : Nm × Bool} (h : hM w = some p) : okW w = true ∧ w.x.k = 4 := by
  unfold hM at h
  split at h
  · assumption
  · cases h
theorem hO_ok {w : Wr} {p : Nm × Vl} (h : hO w = some p) : okW w = true ∧ w.x.k = 6 := by
  unfold hO at h
  split at h
  · assumption
  · cases h
theorem okW_pos {w : Wr} (h : okW w = true) : Qm.ltS (0, 0) w.s := by
  unfold okW at h
  rw [Bool.and_eq_true] at h
  exact okNode_pos h.1
theorem pV (w : Wr) (n : Nm) (v : Vl) (h : hV w = some (n, v)) : Qm.ltS (0, 0) w.s := okW_pos (hV_ok h).1
theorem pM (w : Wr) (n : Nm) (v : Bool) (h : hM w = some (n, v)) : Qm.ltS (0, 0) w.s := okW_pos (hM_ok h).1
theorem pO (w : Wr) (n : Nm) (v : Vl) (h : hO w = some (n, v)) : Qm.ltS (0, 0) w.s := okW_pos (hO_ok h).1

/-- P1204 -/
theorem any_order {l k : List Wr} (hs : ∀ w, w ∈ l ↔ w ∈ k) (ha : Apart l) : allR l = allR k := by
  rw [allR_eq, allR_eq, (top_all pV l).one (top_all pV k) hs ha, (top_all pM l).one (top_all pM k) hs ha, (top_all pO l).one (top_all pO k) hs ha]
theorem again {l : List Wr} {w : Wr} (hw : w ∈ l) : doR (allR l) w = allR l := by
  rw [allR_eq]
  unfold doR
  rw [(top_all pV l).again hw, (top_all pM l).again hw, (top_all pO l).again hw]
theorem doR_bad {r : Rs} {w : Wr} (h : doE w ≠ 0) : doR r w = r := by
  have e1 : hV w = none := by
    cases e : hV w with
    | none => rfl
    | some p => exact absurd (by unfold doE; rw [if_pos (hV_ok e).1, if_pos (Or.inl (hV_ok e).2)]) h
  have e2 : hM w = none := by
    cases e : hM w with
    | none => rfl
    | some p => exact absurd (by unfold doE; rw [if_pos (hM_ok e).1, if_pos (Or.inr (Or.inl (hM_ok e).2))]) h
  have e3 : hO w = none := by
    cases e : hO w with
    | none => rfl
    | some p => exact absurd (by unfold doE; rw [if_pos (hO_ok e).1, if_pos (Or.inr (Or.inr (hO_ok e).2))]) h
  unfold doR
  rw [step_none e1, step_none e2, step_none e3]

/-! ### names -/
theorem flat_length (l : List Qm.St) : (flat l).length = 2 * l.length := by
  induction l with
  | nil => rfl
  | cons a l ih => simp only [flat, List.flatMap_cons, List.length_append, List.length_cons, List.length_nil] at ih ⊢; omega
theorem flat_inj : ∀ {l k : List Qm.St}, flat l = flat k → l = k
  | [], [], _ => rfl
  | [], b :: k, h => by simp [flat] at h
  | a :: l, [], h => by simp [flat] at h
  | a :: l, b :: k, h => by
    have e1 : flat (a :: l) = [a.1, a.2] ++ flat l := by simp [flat]
    have e2 : flat (b :: k) = [b.1, b.2] ++ flat k := by simp [flat]
    rw [e1, e2] at h
    simp only [List.cons_append, List.nil_append, List.cons.injEq] at h
    rw [flat_inj h.2.2, show a = b from Prod.ext h.1 h.2.1]
theorem pad_length (l : List Qm.St) : (pad l).length = 16 := by
  unfold pad
  rw [List.length_append, List.length_replicate, flat_length, List.length_take]
  omega
theorem nameO_length (n : Qm.St) (l : List Qm.St) (p : Int) : (nameO n l p).length = 20 := by
  unfold nameO
  rw [List.length_append, List.length_append, pad_length]
  rfl
theorem nameO_inj {n m : Qm.St} {l k : List Qm.St} {p q : Int} (h8 : l.length ≤ 8) (h : nameO n l p = nameO m k q) : n = m ∧ l = k ∧ p = q := by
  unfold nameO at h
  obtain ⟨h1, h2⟩ := List.append_inj' h rfl
  obtain ⟨h3, h4⟩ := List.append_inj h1 rfl
  simp only [List.cons.injEq, and_true] at h2 h3
  have hk : k.length = l.length := by omega
  refine ⟨Prod.ext h3.1 h3.2.1, ?_, h3.2.2⟩
  unfold pad at h4
  have h5 := (List.append_inj h4 (by rw [flat_length, flat_length, List.length_take, List.length_take, hk])).1
  have h6 := flat_inj h5
  rwa [List.take_of_length_le h8, List.take_of_length_le (by omega)] at h6

/-! ### the document's list -/
/-- one op's own register: neither value nor on -/
def bare (x : Opp) : Opp := { x with vk := 0, vn := 0, vt := ⟨#[]⟩, on := false }
def sameN (a b : Opp) : Bool := sameO (bare a) (bare b)
def lastS (q : Opp) (a : Qm.St × Opp) (w : Wr) : Qm.St × Opp := if sameN w.x q = true ∧ Qm.ltS a.1 w.s then (w.s, w.x) else a
def lastR (l : List Wr) (q : Opp) : Qm.St × Opp := l.foldl (lastS q) ((0, 0), Opp.zero)
/-- what the document keeps -/
def kept (w : Wr) : Bool := doE w == 0
theorem kept_iff {w : Wr} : kept w = true ↔ okW w = true ∧ (w.x.k = 3 ∨ w.x.k = 4 ∨ w.x.k = 6) := by
  unfold kept doE
  by_cases h : okW w = true
  · rw [if_pos h]
    by_cases h2 : w.x.k = 3 ∨ w.x.k = 4 ∨ w.x.k = 6
    · rw [if_pos h2]; simp [h, h2]
    · rw [if_neg h2]; simp [h2]
  · rw [if_neg h]; simp [h]
theorem link {V : Type} (h : Wr → Option (Nm × V)) (d : V) (n : Nm) (val : Opp → V) (q : Opp) (hz : val Opp.zero = d) : ∀ (l : List Wr) (f : Rg V) (a : Qm.St × Opp),
    (∀ w ∈ l, (sameN w.x q = true → h w = some (n, val w.x)) ∧ (sameN w.x q = false → ∀ v, h w ≠ some (n, v))) → (f n).1 = a.1 → (f n).2 = val a.2 →
    (l.foldl (lastS q) a).1 = (l.foldl (step h) f n).1 ∧ val (l.foldl (lastS q) a).2 = (l.foldl (step h) f n).2
  | [], f, a, _, e1, e2 => ⟨e1.symm, e2.symm⟩
  | w :: l, f, a, hl, e1, e2 => by
    rw [List.foldl_cons, List.foldl_cons]
    have hl' : ∀ w ∈ l, (sameN w.x q = true → h w = some (n, val w.x)) ∧ (sameN w.x q = false → ∀ v, h w ≠ some (n, v)) := fun x hx => hl x (List.mem_cons_of_mem _ hx)
    obtain ⟨h1, h2⟩ := hl w (List.mem_cons_self ..)
    refine link h d n val q hz l _ _ hl' ?_ ?_
    · cases hs : sameN w.x q
      · unfold lastS
        rw [hs, if_neg (by simp)]
        cases e : h w with
        | none => rw [step_none e]; exact e1
        | some p =>
          obtain ⟨m, v⟩ := p
          rw [step_some e]
          unfold put
          rw [if_neg (fun hn => h2 hs v (by rw [e, hn]))]
          exact e1
      · unfold lastS
        rw [hs, step_some (h1 hs)]
        unfold put
        rw [if_pos rfl, e1]
        by_cases hlt : Qm.ltS a.1 w.s
        · rw [if_pos hlt, if_pos ⟨rfl, hlt⟩]
        · rw [if_neg hlt, if_neg (fun h => hlt h.2)]; exact e1
    · cases hs : sameN w.x q
      · unfold lastS
        rw [hs, if_neg (by simp)]
        cases e : h w with
        | none => rw [step_none e]; exact e2
        | some p =>
          obtain ⟨m, v⟩ := p
          rw [step_some e]
          unfold put
          rw [if_neg (fun hn => h2 hs v (by rw [e, hn]))]
          exact e2
      · unfold lastS
        rw [hs, step_some (h1 hs)]
        unfold put
        rw [if_pos rfl, e1]
        by_cases hlt : Qm.ltS a.1 w.s
        · rw [if_pos hlt, if_pos ⟨rfl, hlt⟩]
        · rw [if_neg hlt, if_neg (fun h => hlt h.2)]; exact e2
/-- what an op of each kind leaves at zero -/
structure QV (q : Opp) : Prop where
  k : q.k = 3
  rt : q.rt = 0
  rr : q.rr = 0
  key : q.key = ⟨#[]⟩
  path : q.path = []
structure QM (q : Opp) : Prop where
  k : q.k = 4
  rt : q.rt = 0
  rr : q.rr = 0
  key : q.key = ⟨#[]⟩
  path : q.path = []
  p : q.p = 0
structure QO (q : Opp) : Prop where
  k : q.k = 6
  rt : q.rt = 0
  rr : q.rr = 0
  key : q.key = ⟨#[]⟩
theorem rightO_fit {x : Opp} (h : rightO x = true) : fitO (prt x.k) x = true ∧ aloneO (prt x.k) x = true := by
  unfold rightO at h
  rw [Bool.and_eq_true, Bool.and_eq_true] at h
  exact ⟨h.1.2, h.2⟩
theorem okW_right {w : Wr} (h : okW w = true) : rightO w.x = true := by
  unfold okW at h
  rw [Bool.and_eq_true] at h
  exact h.2
theorem right_QV {x : Opp} (h : rightO x = true) (hk : x.k = 3) : QV x := by
  have h1 := (rightO_fit h).2
  rw [hk] at h1
  simp [aloneO, prt, isZ] at h1
  obtain ⟨⟨⟨⟨h1, h2⟩, h3⟩, h4⟩, -⟩ := h1
  exact ⟨hk, h1, h2, h3, by simpa using h4⟩
theorem right_QM {x : Opp} (h : rightO x = true) (hk : x.k = 4) : QM x := by
  have h1 := (rightO_fit h).2
  rw [hk] at h1
  simp [aloneO, prt, isZ] at h1
  obtain ⟨⟨⟨⟨h1, h2⟩, h3⟩, h4⟩, h5, -⟩ := h1
  exact ⟨hk, h1, h2, h3, by simpa using h4, h5⟩
theorem right_QO {x : Opp} (h : rightO x = true) (hk : x.k = 6) : QO x ∧ x.path.length ≤ 8 := by
  have h1 := (rightO_fit h).2
  have h0 := (rightO_fit h).1
  rw [hk] at h1 h0
  simp [aloneO, prt, isZ] at h1
  simp [fitO, prt, okPath] at h0
  obtain ⟨⟨⟨h1, h2⟩, h3⟩, -⟩ := h1
  exact ⟨⟨hk, h1, h2, h3⟩, h0.1.2.1.2⟩
theorem right_val {x : Opp} (h : rightO x = true) (hk : x.k = 3 ∨ x.k = 6) (h0 : x.vk = 0) : x.vn = 0 ∧ x.vt = ⟨#[]⟩ := by
  have h1 : right8V x.p x.vk x.vn x.vt.data.toList = true := by
    have := (rightO_fit h).1
    rcases hk with hk | hk
    · rw [hk] at this
      simp [fitO, prt] at this
      exact this.2
    · rw [hk] at this
      simp [fitO, prt] at this
      exact this.2
  unfold right8V at h1
  rw [h0, Vm.rightV_none, Bool.and_eq_true, Bool.and_eq_true, Bool.and_eq_true] at h1
  refine ⟨of_decide_eq_true h1.2.1.1, ?_⟩
  have h2 : x.vt.data.toList = [] := of_decide_eq_true h1.2.1.2
  have h3 : x.vt.data = #[] := by simpa using h2
  rw [← h3]
end Go.Proofs.Ytcenmkcencdlcaa.Pm

namespace Go.Proofs.Ytcenmkcencdlcaa
open Go.RowKit
open Go.Maps (Keyed)

theorem step_of {P : Program} {w : World} {ops : Array Oper} {o : Oper} {a : Act} {K : Act → World → Prop} {Q : Exit → Act → World → Prop} {E : Prop} (hgd : o.guard = none) (h : Oper.wp P o a w K Q) :
    if Region.wanted o (yielded ops a.tmps) = true then Oper.wp P o a w K Q else E := by
  have hw : Region.wanted o (yielded ops a.tmps) = true := by simp [Region.wanted, hgd]
  rw [if_pos hw]
  exact h
theorem wp_mapUpdate {P : Program} {w : World} {o : Oper} {a : Act} {K : Act → World → Prop} {Q : Exit → Act → World → Prop} (t : TypeId) (x y z : Operand) (ho : o.op = .mapUpdate t x y z) (u v n : Value) (hx : a.eval x = u) (hy : a.eval y = v) (hz : a.eval z = n) (w' : World)
    (hr : (Instr.mapUpdate t u v n).run P w = .ok () w') (h : K (a.put o.dst undef) w') : Oper.wp P o a w K Q := by
  unfold Oper.wp execOp
  simp only [ho, hx, hy, hz, Sem.run_bind, Sem.run_pure, hr, Result.andThen_ok]
  exact h
theorem wp_delete {P : Program} {w : World} {o : Oper} {a : Act} {K : Act → World → Prop} {Q : Exit → Act → World → Prop} (x y : Operand) (t k : TypeId) (ho : o.op = .call { callee := .builtin .delete, args := #[x, y], argTypes := #[t, k] }) (u v : Value) (hx : a.eval x = u) (hy : a.eval y = v) (w' : World)
    (hr : (Builtin.delete_ #[t, k] o.type #[u, v]).run P w = .ok (.tuple #[]) w') (h : K (a.put o.dst (.tuple #[])) w') : Oper.wp P o a w K Q := by
  unfold Oper.wp execOp
  simp only [ho, resolve, invoke, builtin, Sem.run_bind, Sem.run_pure, Result.andThen_ok, List.map_toArray, List.map_cons, List.map_nil, hx, hy, hr]
  exact h
theorem exec_lookup {P : Program} {c : Act} {w : World} {o : Oper} {t : TypeId} {x y : Operand} {ok : Bool} (ho : o.op = .lookup t x y ok) {u v z : Value} (hx : c.eval x = u) (hy : c.eval y = v) (hr : (Instr.lookup t u v ok).run P w = .ok z w) :
    (execOp c.eval o).run P w = .ok (.value z) w := by
  unfold execOp
  simp only [ho, hx, hy, Sem.run_bind, hr, Result.andThen_ok, Sem.run_pure]
theorem wp_store_newag {t : TypeId} {n : Nat} {A : Array Value} {w : World} (V : AgT t n) {T : TypeId} {o : Oper} {a : Act} {K : Act → World → Prop} {Q : Exit → Act → World → Prop} (x y : Operand) (ho : o.op = .store t x y)
    (hx : a.eval x = .pointer (some ⟨w.heap.size, 0, none⟩)) (u : Array Value) (hy : a.eval y = .agg A) (hu : u.size = n) (hn : A.size = n) (h1 : A.all (·.oneCell') = true)
    (h : ∀ w' : World, AgAt w' w.heap.size A → Below w.heap.size w w' → K (a.put o.dst undef) w') : Oper.wp Try.prog o a (w.alloc (.cells u T)) K Q := by
  have hv := heap_alloc_new w (.cells u T)
  have hr : (storeVar t ⟨w.heap.size, 0, none⟩ (.agg A)).run Try.prog (w.alloc (.cells u T)) = .ok () ((w.alloc (.cells u T)).setRow w.heap.size A) := run_storeVar_row _ w.heap.size T t u A hv (by rw [hn]; exact V.size) (by rw [hu, hn]) h1
  have hk : K (a.put o.dst undef) ((w.alloc (.cells u T)).setRow w.heap.size A) :=
    h _ ⟨T, setRow_heap _ w.heap.size _ _ T _ hv⟩ (((Below.refl _ _).alloc (Nat.le_refl _) _).trans ⟨rfl, rfl, rfl, by simp, fun k hk => setRow_other _ w.heap.size k _ (by omega)⟩)
  unfold Oper.wp execOp
  simp only [ho, hx, hy, Instr.storeAt, Instr.sureAddr, Sem.run_bind, Sem.run_pure, Result.andThen_ok, hr]
  exact hk

theorem set_turns (b : Nat) (w : World) (i : Nat) (v : Value) : Turns (fun k => k = b) w (w.setCell ⟨b, i, none⟩ v) := ⟨rfl, rfl, rfl, by simp, fun k _ hk => heap_setCell_other w ⟨b, i, none⟩ k v hk⟩
theorem stored_turns {w w' : World} {b : Nat} (hko : ∀ k, k ≠ b → w'.heap[k]? = w.heap[k]?) (hsz : w'.heap.size = w.heap.size) (hbn : ∀ B w0, Below B w0 w → B ≤ b → Below B w0 w') : Turns (fun k => k = b) w w' :=
  have h0 := hbn 0 _ (Below.refl 0 _) (Nat.zero_le _)
  ⟨h0.os, h0.tape, h0.output, by rw [hsz]; exact Nat.le_refl _, fun k _ hk => hko k hk⟩

theorem setBlock_turns {w : World} {M clock : Nat} {es : Array MapEntry} (hb : w.heap[M]? = some (.map es clock)) (o : Obj) : Turns (fun k => k = M) w (Go.ChangeMaps.setBlock w M o) :=
  ⟨rfl, rfl, rfl, by simp [Go.ChangeMaps.setBlock], fun k _ hk => Go.ChangeMaps.heap_setBlock_other hb _ (fun e => hk e)⟩
theorem wp_store_ag {t : TypeId} {n : Nat} {A : Array Value} {w : World} (V : AgT t n) {o : Oper} {a : Act} {K : Act → World → Prop} {Q : Exit → Act → World → Prop} (x y : Operand) (ho : o.op = .store t x y)
    (b : Nat) (hx : a.eval x = .pointer (some ⟨b, 0, none⟩)) (u : Array Value) (hv : AgAt w b u) (hy : a.eval y = .agg A) (hu : u.size = n) (hn : A.size = n) (h1 : A.all (·.oneCell') = true)
    (h : ∀ w' : World, AgAt w' b A → (∀ k, k ≠ b → w'.heap[k]? = w.heap[k]?) → w'.heap.size = w.heap.size → (∀ B w0, Below B w0 w → B ≤ b → Below B w0 w') → K (a.put o.dst undef) w') : Oper.wp Try.prog o a w K Q := by
  obtain ⟨T, hv⟩ := hv
  have hr : (storeVar t ⟨b, 0, none⟩ (.agg A)).run Try.prog w = .ok () (w.setRow b A) := run_storeVar_row w b T t u A hv (by rw [hn]; exact V.size) (by rw [hu, hn]) h1
  have hk : K (a.put o.dst undef) (w.setRow b A) := by
    refine h _ ⟨T, setRow_heap w b _ _ T _ hv⟩ (fun k hk => setRow_other w b k _ hk) (by simp) ?_
    intro B w0 hb hB
    exact hb.trans ⟨rfl, rfl, rfl, by simp, fun k hk => setRow_other w b k _ (by omega)⟩
  unfold Oper.wp execOp
  simp only [ho, hx, hy, Instr.storeAt, Instr.sureAddr, Sem.run_bind, Sem.run_pure, Result.andThen_ok, hr]
  exact hk
theorem Turns.call {G : Nat → Prop} {a b c : World} (h : Turns G a b) (hb : Below b.heap.size b c) : Turns G a c := h.trans (Turns.of_below hb)
end Go.Proofs.Ytcenmkcencdlcaa

namespace Go.Proofs.Ytcenmkcencdlcaa
open Go.RowKit
open Go.Maps (Keyed)

/-- a row of numbers as a value -/
abbrev kV (x : Pm.Nm) : Value := .agg (x.map fun i => Value.int .i64 i).toArray
/-- n numbers that words hold -/
def KWf (n : Nat) (x : Pm.Nm) : Prop := x.length = n ∧ ∀ i ∈ x, (Lit.int .i64 i).wf = true
theorem i64wf {n : Int} (h0 : -9223372036854775808 ≤ n) (h1 : n ≤ 9223372036854775807) : (Lit.int .i64 n).wf = true := by
  have e1 : IntKind.i64.min = -9223372036854775808 := by decide
  have e2 : IntKind.i64.max = 9223372036854775807 := by decide
  simp [Lit.wf, e1, e2]
  omega
theorem kV_inj {x y : Pm.Nm} (h : kV x = kV y) : x = y := by
  simp only [kV, Value.agg.injEq] at h
  have h4 := congrArg Array.toList h
  simp only at h4
  exact (List.map_inj_right (fun a b e => by cases e; rfl)).1 h4
/-- what the tables say of a key's type of n numbers -/
structure KT (kt : TypeId) (n : Nat) : Prop where
  law : Keyed Try.prog kt
  key : ∀ x, KWf n x → ∃ l, keyOf Try.prog kt (kV x) = some l

/-- what stands at x -/
def lk (l : List (Pm.Nm × Value)) (x : Pm.Nm) : Option Value := (l.find? fun e => e.1 == x).map (·.2)
theorem lk_none {l : List (Pm.Nm × Value)} {x : Pm.Nm} : lk l x = none ↔ ∀ e ∈ l, e.1 ≠ x := by
  unfold lk
  rw [Option.map_eq_none_iff, List.find?_eq_none]
  simp
theorem lk_some {l : List (Pm.Nm × Value)} (nd : (l.map Prod.fst).Nodup) {x : Pm.Nm} {v : Value} (h : (x, v) ∈ l) : lk l x = some v := by
  induction l with
  | nil => cases h
  | cons a T ih =>
    rw [List.map_cons, List.nodup_cons] at nd
    unfold lk
    rw [List.find?_cons]
    by_cases e : a.1 = x
    · rw [show (a.1 == x) = true by simpa using e]
      rcases List.mem_cons.1 h with rfl | h
      · rfl
      · exact absurd (List.mem_map.2 ⟨_, h, rfl⟩) (by rw [e] at nd; exact nd.1)
    · rw [show (a.1 == x) = false by simpa using e]
      rcases List.mem_cons.1 h with rfl | h
      · exact absurd rfl e
      · exact ih nd.2 h
theorem lk_mem {l : List (Pm.Nm × Value)} {x : Pm.Nm} {v : Value} (h : lk l x = some v) : (x, v) ∈ l := by
  unfold lk at h
  obtain ⟨e, he, rfl⟩ := Option.map_eq_some_iff.1 h
  have h1 := List.find?_some he
  have h2 := List.mem_of_find?_eq_some he
  have h3 : e.1 = x := by simpa using h1
  subst h3
  exact h2
theorem lk_map {α : Type} (f : α → Value) (l : List (Pm.Nm × α)) (x : Pm.Nm) : lk (l.map fun e => (e.1, f e.2)) x = ((l.find? fun e => e.1 == x).map (·.2)).map f := by
  unfold lk
  rw [List.find?_map]
  cases h : l.find? ((fun e : Pm.Nm × Value => e.1 == x) ∘ fun e => (e.1, f e.2)) with
  | none =>
    have : l.find? (fun e => e.1 == x) = none := h
    rw [this]
    rfl
  | some a =>
    have : l.find? (fun e => e.1 == x) = some a := h
    rw [this]
    rfl

/-- the entries are these -/
def EntsAre (es : List MapEntry) (l : List (Pm.Nm × Value)) : Prop := es.map (fun e => (e.key, e.val)) = l.map fun b => (kV b.1, b.2)
/-- block M is a map of these, in the order in which they came -/
def GMap (nk : Nat) (w : World) (M : Nat) (l : List (Pm.Nm × Value)) : Prop :=
  ∃ es clock, w.heap[M]? = some (.map es clock) ∧ EntsAre es.toList l ∧ (∀ b ∈ l, KWf nk b.1) ∧ (l.map Prod.fst).Nodup ∧ (∀ e ∈ es.toList, e.born < clock) ∧ (es.toList.map (·.born)).Nodup
section
variable {w w' : World} {M nk : Nat} {kt : TypeId} {l : List (Pm.Nm × Value)}
theorem GMap.lt (h : GMap nk w M l) : M < w.heap.size := by
  obtain ⟨es, clock, hb, -⟩ := h
  exact (Array.getElem?_eq_some_iff.1 hb).1
theorem GMap.block (h : GMap nk w M l) (e : w'.heap[M]? = w.heap[M]?) : GMap nk w' M l := by
  obtain ⟨es, clock, hb, h1⟩ := h
  exact ⟨es, clock, e.trans hb, h1⟩
theorem GMap.turns {G : Nat → Prop} (h : GMap nk w M l) (ht : Turns G w w') (hd : ¬ G M) : GMap nk w' M l := h.block (ht.block M h.lt hd)
theorem GMap.below (h : GMap nk w M l) (hb : Below w.heap.size w w') : GMap nk w' M l := h.block (hb.block M h.lt)
theorem GMap.made (nk : Nat) (w : World) : GMap nk (w.alloc (.map #[] 0)) w.heap.size [] := ⟨#[], 0, heap_alloc_new w _, rfl, fun _ h => (by cases h), List.nodup_nil, fun _ h => (by cases h), List.nodup_nil⟩
theorem GMap.nd (h : GMap nk w M l) : (l.map Prod.fst).Nodup := by obtain ⟨_, _, _, _, _, h, -⟩ := h; exact h
theorem GMap.wf (h : GMap nk w M l) : ∀ b ∈ l, KWf nk b.1 := by obtain ⟨_, _, _, _, h, -⟩ := h; exact h
theorem EntsAre.mem {es : List MapEntry} (he : EntsAre es l) {e0 : MapEntry} (hm : e0 ∈ es) : ∃ b ∈ l, e0.key = kV b.1 ∧ e0.val = b.2 := by
  have : (e0.key, e0.val) ∈ l.map fun b => (kV b.1, b.2) := by rw [← he]; exact List.mem_map.2 ⟨e0, hm, rfl⟩
  obtain ⟨b, hb, e'⟩ := List.mem_map.1 this
  simp only [Prod.mk.injEq] at e'
  exact ⟨b, hb, e'.1.symm, e'.2.symm⟩
theorem EntsAre.of {es : List MapEntry} (he : EntsAre es l) {b : Pm.Nm × Value} (hb : b ∈ l) : ∃ e0 ∈ es, e0.key = kV b.1 ∧ e0.val = b.2 := by
  have : (kV b.1, b.2) ∈ es.map fun e => (e.key, e.val) := by rw [he]; exact List.mem_map.2 ⟨b, hb, rfl⟩
  obtain ⟨e, hm, e'⟩ := List.mem_map.1 this
  simp only [Prod.mk.injEq] at e'
  exact ⟨e, hm, e'.1, e'.2⟩
theorem EntsAre.keys (K : KT kt nk) {es : List MapEntry} (he : EntsAre es l) (hw : ∀ b ∈ l, KWf nk b.1) : ∀ e ∈ es, ∃ k, keyOf Try.prog kt e.key = some k := by
  intro e hm
  obtain ⟨b, hb, h1, -⟩ := he.mem hm
  rw [h1]
  exact K.key _ (hw b hb)
/-- how finding goes -/
theorem GMap.find (K : KT kt nk) (h : GMap nk w M l) (x : Pm.Nm) (hx : KWf nk x) : ∃ es clock, w.heap[M]? = some (.map es clock) ∧ (∀ W em, (Instr.checkKey em 10000 kt (kV x)).run Try.prog W = .ok () W) ∧
    ((lk l x = none ∧ (Instr.findKey kt (kV x) es.toList).run Try.prog w = .ok none w) ∨
     ∃ v j, lk l x = some v ∧ (Instr.findKey kt (kV x) es.toList).run Try.prog w = .ok (some (j, v)) w) := by
  obtain ⟨es, clock, hb, he, hwf, hnd, -, -⟩ := h
  obtain ⟨kl, hkey⟩ := K.key x hx
  refine ⟨es, clock, hb, fun W em => K.law.check W em hkey, ?_⟩
  rcases K.law.find w hkey es.toList (he.keys K hwf) with ⟨h1, h2⟩ | ⟨j, e0, h1, h2, h3⟩
  · refine Or.inl ⟨lk_none.2 fun e hm hh => ?_, h1⟩
    obtain ⟨e0, h3, h4, -⟩ := he.of hm
    exact h2 e0 h3 (by rw [h4, hh])
  · obtain ⟨b, hb', h4, h5⟩ := he.mem (List.mem_of_getElem? h2)
    have hbx : b.1 = x := kV_inj (h4.symm.trans h3)
    subst hbx
    exact Or.inr ⟨e0.val, j, by rw [h5]; exact lk_some hnd hb', h1⟩
/-- what the tables say of a map's type -/
structure GT (kt : TypeId) (nk : Nat) (mt et : TypeId) (z : Value) : Prop where
  k : KT kt nk
  und : Try.prog.underlying mt = some (.map kt et)
  zero : ∀ w, (zeroValue et).run Try.prog w = .ok z w
variable {mt et : TypeId} {z : Value}
theorem GMap.look (h : GMap nk w M l) (T : GT kt nk mt et z) (x : Pm.Nm) (hx : KWf nk x) : (Instr.lookup mt (.map (some M)) (kV x) false).run Try.prog w = .ok ((lk l x).getD z) w := by
  obtain ⟨es, clock, hb, hc, h1 | ⟨v, j, h1, h2⟩⟩ := h.find T.k x hx
  · simp [Instr.lookup, run_underlying T.und, MapKept.run_getObj_map hb, hc, h1.1, h1.2, T.zero, Result.andThen]
  · simp [Instr.lookup, run_underlying T.und, MapKept.run_getObj_map hb, hc, h1, h2, Result.andThen]
theorem GMap.lookOk (h : GMap nk w M l) (T : GT kt nk mt et z) (x : Pm.Nm) (hx : KWf nk x) : (Instr.lookup mt (.map (some M)) (kV x) true).run Try.prog w = .ok (.tuple #[(lk l x).getD z, .bool (lk l x).isSome]) w := by
  obtain ⟨es, clock, hb, hc, h1 | ⟨v, j, h1, h2⟩⟩ := h.find T.k x hx
  · simp [Instr.lookup, run_underlying T.und, MapKept.run_getObj_map hb, hc, h1.1, h1.2, T.zero, Result.andThen]
  · simp [Instr.lookup, run_underlying T.und, MapKept.run_getObj_map hb, hc, h1, h2, Result.andThen]
theorem GMap.upd (h : GMap nk w M l) (T : GT kt nk mt et z) (x : Pm.Nm) (v : Value) (hx : KWf nk x) (hn : lk l x = none) :
    ∃ w', (Instr.mapUpdate mt (.map (some M)) (kV x) v).run Try.prog w = .ok () w' ∧ GMap nk w' M (l ++ [(x, v)]) ∧ Turns (fun k => k = M) w w' ∧ w'.heap.size = w.heap.size := by
  obtain ⟨es0, clock0, hb0, hc, h1 | ⟨v', j, h1, -⟩⟩ := h.find T.k x hx
  · obtain ⟨es, clock, hb, he, hwf, hnd, hf1, hf2⟩ := h
    obtain ⟨rfl, rfl⟩ : es0 = es ∧ clock0 = clock := by rw [hb] at hb0; cases hb0; exact ⟨rfl, rfl⟩
    refine ⟨Go.ChangeMaps.setBlock w M (.map (es0.push ⟨kV x, v, clock0⟩) (clock0 + 1)), ?_, ⟨_, _, Go.ChangeMaps.heap_setBlock_same hb _, ?_, ?_, ?_, ?_, ?_⟩, setBlock_turns hb _, by simp [Go.ChangeMaps.setBlock]⟩
    · simp [Instr.mapUpdate, run_underlying T.und, MapKept.run_getObj_map hb, hc, h1.2, MapKept.run_setObj_map _ hb, Result.andThen, Go.ChangeMaps.setBlock]
    · unfold EntsAre at he ⊢
      simp [he]
    · intro e hm
      rcases List.mem_append.1 hm with hm | hm
      · exact hwf e hm
      · obtain rfl := List.mem_singleton.1 hm
        exact hx
    · rw [List.map_append]
      refine List.nodup_append.2 ⟨hnd, by simp, fun a ha b hb e => ?_⟩
      obtain ⟨y, hy, rfl⟩ := List.mem_map.1 ha
      have : b = x := by simpa using hb
      subst this
      exact lk_none.1 hn y hy e
    · intro e hm
      rw [Array.toList_push] at hm
      rcases List.mem_append.1 hm with hm | hm
      · have := hf1 e hm
        omega
      · obtain rfl := List.mem_singleton.1 hm
        exact Nat.lt_succ_self _
    · rw [Array.toList_push, List.map_append]
      refine List.nodup_append.2 ⟨hf2, by simp, fun x hx y hy e => ?_⟩
      obtain ⟨q, hq, rfl⟩ := List.mem_map.1 hx
      have h1 := hf1 q hq
      have h2 : y = clock0 := by simpa using hy
      omega
  · rw [hn] at h1; cases h1
/-- another value at a place that is there -/
theorem GMap.set (h : GMap nk w M l) (T : GT kt nk mt et z) (x : Pm.Nm) (v : Value) (hx : KWf nk x) (hm : (lk l x).isSome = true) :
    ∃ w', (Instr.mapUpdate mt (.map (some M)) (kV x) v).run Try.prog w = .ok () w' ∧ GMap nk w' M (l.map fun e => if e.1 = x then (x, v) else e) ∧ Turns (fun k => k = M) w w' ∧ w'.heap.size = w.heap.size := by
  obtain ⟨es, clock, hb, he, hwf, hnd, hf1, hf2⟩ := h
  obtain ⟨kl, hkey⟩ := T.k.key x hx
  rcases T.k.law.find w hkey es.toList (he.keys T.k hwf) with ⟨h1, h2⟩ | ⟨j, e0, h1, h2, h3⟩
  · obtain ⟨u, hu⟩ := Option.isSome_iff_exists.1 hm
    obtain ⟨e0, h3, h4, -⟩ := he.of (lk_mem hu)
    exact absurd h4 (h2 e0 h3)
  · have hjl : j < es.toList.length := (List.getElem?_eq_some_iff.1 h2).1
    have hjs : j < es.size := by simpa using hjl
    have hll : l.length = es.toList.length := by have := congrArg List.length he; simpa using this.symm
    obtain ⟨a, hja⟩ : ∃ a, l[j]? = some a := ⟨_, List.getElem?_eq_getElem (by omega)⟩
    have hax : a.1 = x := by
      have h6 : (es.toList.map fun e => (e.key, e.val))[j]? = (l.map fun b => (kV b.1, b.2))[j]? := by rw [he]
      rw [List.getElem?_map, List.getElem?_map, h2, hja] at h6
      simp only [Option.map_some, Option.some.injEq, Prod.mk.injEq] at h6
      exact kV_inj (h6.1.symm.trans h3)
    have hj0 : es[j]? = some e0 := by rw [← Array.getElem?_toList]; exact h2
    refine ⟨Go.ChangeMaps.setBlock w M (.map (es.setIfInBounds j { e0 with val := v }) clock), ?_, ⟨_, _, Go.ChangeMaps.heap_setBlock_same hb _, ?_, ?_, ?_, ?_, ?_⟩, setBlock_turns hb _, by simp [Go.ChangeMaps.setBlock]⟩
    · have e1 : es.modify j (fun e => { key := kV x, val := v, born := e.born }) = es.setIfInBounds j { e0 with val := v } := by
        apply Array.toList_inj.1
        rw [Array.toList_modify, Array.toList_setIfInBounds, List.modify_eq_set, h2, ← h3]
        rfl
      have e2 : (Option.map (fun x : MapEntry => x.key) es[j]?).getD (kV x) = kV x := by rw [hj0]; exact h3
      simp [Instr.mapUpdate, run_underlying T.und, MapKept.run_getObj_map hb, T.k.law.check w _ hkey, h1, MapKept.run_setObj_map _ hb, Result.andThen, Go.ChangeMaps.setBlock, e1, e2, T.k.law.stays w hkey]
    · unfold EntsAre at he ⊢
      rw [Array.toList_setIfInBounds]
      apply List.ext_getElem?
      intro i
      rw [List.getElem?_map, List.getElem?_set, List.getElem?_map, List.getElem?_map]
      have h6 : (es.toList.map fun e => (e.key, e.val))[i]? = (l.map fun b => (kV b.1, b.2))[i]? := by rw [he]
      rw [List.getElem?_map, List.getElem?_map] at h6
      by_cases hij : j = i
      · subst hij
        rw [if_pos rfl, if_pos hjl, hja]
        simp only [Option.map_some, if_pos hax, h3]
      · rw [if_neg hij]
        cases hi : l[i]? with
        | none => rw [hi] at h6; exact h6
        | some b =>
          rw [hi] at h6
          rw [h6]
          have hne : ¬ b.1 = x := fun e => by
            obtain ⟨hil, hib⟩ := List.getElem?_eq_some_iff.1 hi
            obtain ⟨hjl2, hja2⟩ := List.getElem?_eq_some_iff.1 hja
            have hap := List.pairwise_iff_getElem.1 (List.pairwise_map.1 hnd)
            rcases Nat.lt_or_ge i j with hlt | hge
            · exact hap i j hil hjl2 hlt (by rw [hib, hja2, e, hax])
            · exact hap j i hjl2 hil (by omega) (by rw [hib, hja2, e, hax])
          simp only [Option.map_some, if_neg hne]
    · intro e hm'
      obtain ⟨b, hb', rfl⟩ := List.mem_map.1 hm'
      split
      · exact hx
      · exact hwf b hb'
    · rw [List.map_map]
      have e2 : (Prod.fst ∘ fun e : Pm.Nm × Value => if e.1 = x then (x, v) else e) = Prod.fst := by
        funext e
        simp only [Function.comp]
        split
        · next h => exact h.symm
        · rfl
      rw [e2]
      exact hnd
    · intro e hm'
      rw [Array.toList_setIfInBounds] at hm'
      rcases List.mem_or_eq_of_mem_set hm' with hm' | rfl
      · exact hf1 e hm'
      · exact hf1 e0 (List.mem_of_getElem? h2)
    · rw [Array.toList_setIfInBounds, List.map_set]
      have e3 : (es.toList.map (·.born)).set j e0.born = es.toList.map (·.born) := by
        apply List.ext_getElem?
        intro i
        rw [List.getElem?_set]
        split
        · next h =>
          subst h
          rw [List.length_map, if_pos hjl, List.getElem?_map, h2]
          rfl
        · rfl
      show ((es.toList.map (·.born)).set j e0.born).Nodup
      rw [e3]
      exact hf2
theorem lk_set (l : List (Pm.Nm × Value)) (x : Pm.Nm) (v : Value) (hm : (lk l x).isSome = true) (y : Pm.Nm) : lk (l.map fun e => if e.1 = x then (x, v) else e) y = if y = x then some v else lk l y := by
  induction l with
  | nil => cases hm
  | cons a l ih =>
    unfold lk at hm ih ⊢
    rw [List.map_cons, List.find?_cons]
    rw [List.find?_cons] at hm
    by_cases ha : a.1 = x
    · rw [if_pos ha]
      by_cases hy : y = x
      · subst hy
        rw [if_pos rfl]
        simp
      · rw [if_neg hy]
        have e1 : (x == y) = false := by simpa using fun e => hy (Eq.symm e)
        rw [show ((x, v).1 == y) = false from e1, List.find?_cons, show (a.1 == y) = false by rw [ha]; exact e1]
        have : ∀ k : List (Pm.Nm × Value), ((k.map fun e => if e.1 = x then (x, v) else e).find? fun e => e.1 == y).map (·.2) = (k.find? fun e => e.1 == y).map (·.2) := by
          intro k
          induction k with
          | nil => rfl
          | cons b k ihk =>
            rw [List.map_cons, List.find?_cons, List.find?_cons]
            by_cases hb : b.1 = x
            · rw [if_pos hb, show ((x, v).1 == y) = false from e1, show (b.1 == y) = false by rw [hb]; exact e1]
              exact ihk
            · rw [if_neg hb]
              cases b.1 == y
              · exact ihk
              · rfl
        exact this l
    · rw [if_neg ha, List.find?_cons]
      have e0 : (a.1 == x) = false := by simpa using ha
      rw [e0] at hm
      cases hay : a.1 == y with
      | false => exact ih hm
      | true =>
        have hy : ¬ y = x := fun e => by rw [← e] at ha; exact ha (by simpa using hay)
        rw [if_neg hy]
theorem lk_push (l : List (Pm.Nm × Value)) (x : Pm.Nm) (v : Value) (hn : lk l x = none) (y : Pm.Nm) : lk (l ++ [(x, v)]) y = if y = x then some v else lk l y := by
  unfold lk
  rw [List.find?_append]
  by_cases hy : y = x
  · subst hy
    unfold lk at hn
    rw [Option.map_eq_none_iff] at hn
    rw [hn, if_pos rfl]
    simp
  · rw [if_neg hy]
    have e1 : (x == y) = false := by simpa using fun e => hy (Eq.symm e)
    cases h : l.find? fun e => e.1 == y with
    | none => simp [e1]
    | some a => rfl
/-- a store, whether it was there or not -/
theorem GMap.store (h : GMap nk w M l) (T : GT kt nk mt et z) (x : Pm.Nm) (v : Value) (hx : KWf nk x) :
    ∃ w' l', (Instr.mapUpdate mt (.map (some M)) (kV x) v).run Try.prog w = .ok () w' ∧ GMap nk w' M l' ∧ (∀ y, lk l' y = if y = x then some v else lk l y) ∧ Turns (fun k => k = M) w w' ∧ w'.heap.size = w.heap.size := by
  cases hm : (lk l x).isSome
  · have hn : lk l x = none := by simpa using hm
    obtain ⟨w', h1, h2, h3, h4⟩ := h.upd T x v hx hn
    exact ⟨w', _, h1, h2, lk_push l x v hn, h3, h4⟩
  · obtain ⟨w', h1, h2, h3, h4⟩ := h.set T x v hx hm
    exact ⟨w', _, h1, h2, lk_set l x v hm, h3, h4⟩
end

/-! ### a range over one -/
/-- one step: nothing is left, or one that is left comes out, whichever -/
theorem run_next_at {P : Program} (w : World) (ty : TypeId) (r bm since c0 : Nat) (seen : Array Nat) (es : Array MapEntry) (clock : Nat) (hr : w.heap[r]? = some (.mapIter (some bm) since seen c0)) (hb : w.heap[bm]? = some (.map es clock))
    (hold : ∀ x ∈ es.toList, x.born < since) (hsc : since ≤ c0) :
    ((leftOf es seen).size = 0 ∧ (Instr.next (.pointer (some ⟨r, 0, none⟩)) false ty).run P w = .ok (.tuple #[.bool false]) w) ∨
    ∃ e ∈ (leftOf es seen).toList, ∃ w' : World, (Instr.next (.pointer (some ⟨r, 0, none⟩)) false ty).run P w = .ok (.tuple #[.bool true, e.key, e.val]) w' ∧ w'.heap[r]? = some (.mapIter (some bm) since (seen.push e.born) clock) ∧ Turns (fun k => k = r) w w' := by
  have hrl : r < w.heap.size := (Array.getElem?_eq_some_iff.1 hr).1
  simp only [Instr.next, getObj, Sem.run_bind, Sem.run, hr, hb, Result.andThen, next_test_false seen es since c0 hold hsc, Bool.false_eq_true, if_false]
  unfold leftOf
  have hmem : ∀ x ∈ (Array.filter (fun e => !seen.contains e.born) es).toList, x.born < since := fun x hx => hold x (by simp at hx ⊢; exact hx.1)
  generalize Array.filter (fun e => !seen.contains e.born) es = L at hmem ⊢
  have e1 : L.filter (fun x => decide (x.born < since)) = L := Array.filter_eq_self.2 (fun x hx => by simpa using hmem x (by simpa using hx))
  have e2 : L.filter (fun x => decide (x.born ≥ since)) = #[] := by
    rw [Array.filter_eq_empty_iff]
    intro x hx
    have := hmem x (by simpa using hx)
    simp
    omega
  simp only [e1, e2, Array.append_empty]
  by_cases h0 : L.size = 0
  · left
    have : L = #[] := Array.eq_empty_of_size_eq_zero h0
    subst this
    refine ⟨rfl, ?_⟩
    simp [choose, Sem.run, Question.forced]
  · right
    have hne : L.isEmpty = false := by simp [Array.isEmpty, h0]
    simp only [hne, Bool.false_eq_true, if_false, Array.empty_append, Array.size_map]
    have hch : ∃ (j : Nat) (w1 : World), j < L.size ∧ Turns (fun _ => False) w w1 ∧ w1.heap = w.heap ∧ (choose (Question.mapNext L.size)).run P w = .ok j w1 := by
      by_cases hf : L.size ≤ 1
      · exact ⟨0, w, by omega, Turns.refl _ _, rfl, by simp [choose, Sem.run, Question.forced, hf]⟩
      · exact ⟨_, w.drew, Nat.mod_lt _ (by omega), Turns.of_below (Below.drew (Below.refl _ _)), rfl, by
          simp only [choose, Sem.run, Question.forced, decide_eq_true_eq, hf, if_false, Question.cut]
          rfl⟩
    obtain ⟨j, w1, hj, ht, hh, hrun⟩ := hch
    refine ⟨L[j], by simp, Go.ChangeMaps.setBlock w1 r (.mapIter (some bm) since (seen.push L[j].born) clock), ?_, ?_, ?_⟩
    · have hset : ∀ o' : Obj, (setObj r o').run P w1 = .ok () (Go.ChangeMaps.setBlock w1 r o') := fun o' => by
        have hr1 : w1.heap[r]? = some (.mapIter (some bm) since seen c0) := by rw [hh]; exact hr
        simp only [setObj, Sem.run, hr1]
        rfl
      simp only [hrun, Array.getElem?_map, Array.getElem?_eq_getElem hj, Option.map_some, Sem.run_bind, Result.andThen, hset]
      rfl
    · show (w1.heap.setIfInBounds r _)[r]? = _
      rw [hh, Array.getElem?_setIfInBounds_self_of_lt hrl]
    · refine ⟨ht.os, ht.tape, ht.output, by simp [Go.ChangeMaps.setBlock, hh], fun k _ hk => ?_⟩
      show (w1.heap.setIfInBounds r _)[k]? = _
      rw [hh, Array.getElem?_setIfInBounds_ne (fun e => hk e.symm)]
/-- what came out, read -/
theorem run_entry_at {P : Program} (w : World) (r bm since : Nat) (seen : Array Nat) (es : Array MapEntry) (clock : Nat) (e : MapEntry) (hr : w.heap[r]? = some (.mapIter (some bm) since (seen.push e.born) clock)) (hb : w.heap[bm]? = some (.map es clock))
    (he : e ∈ es.toList) (hn : (es.toList.map (·.born)).Nodup) : (Instr.entry (.pointer (some ⟨r, 0, none⟩))).run P w = .ok (.tuple #[e.key, e.val]) w := by
  have hf : es.find? (·.born == e.born) = some e := by rw [← Array.find?_toList]; exact find_born e es.toList hn he
  simp only [Instr.entry, getObj, Sem.run_bind, Sem.run, hr, hb, Result.andThen, Array.back?_push, bne_self_eq_false, Bool.false_eq_true, if_false, hf]
  rfl
theorem left_step {es : Array MapEntry} {seen : Array Nat} {e : MapEntry} {j : Nat} (hn : (es.toList.map (·.born)).Nodup) (hj : (leftOf es seen).toList[j]? = some e) : (leftOf es (seen.push e.born)).toList = (leftOf es seen).toList.eraseIdx j := by
  have h1 : (leftOf es seen).toList = es.toList.filter fun x => !seen.contains x.born := by unfold leftOf; rw [Array.toList_filter]
  have h2 : (leftOf es (seen.push e.born)).toList = (leftOf es seen).toList.filter fun x => !(x.born == e.born) := by
    rw [h1, List.filter_filter]
    unfold leftOf
    rw [Array.toList_filter]
    apply List.filter_congr
    intro x _
    rw [contains_push]
    cases seen.contains x.born <;> cases x.born == e.born <;> rfl
  rw [h2]
  refine Go.ChangeMaps.filter_eq_eraseIdx (fun x : MapEntry => x.born == e.born) _ j e hj (by simp) ?_
  have h3 : ((leftOf es seen).toList.map (·.born)).Nodup := by rw [h1]; exact hn.sublist (List.filter_sublist.map _)
  refine (List.pairwise_map.1 h3).imp ?_
  intro a b hne ⟨k1, k2⟩
  exact hne ((beq_iff_eq.1 k1).trans (beq_iff_eq.1 k2).symm)
theorem cons_erase {α : Type} : ∀ (l : List α) (j : Nat) (h : j < l.length), (l[j] :: l.eraseIdx j).Perm l
  | a :: l, 0, _ => List.Perm.refl _
  | a :: l, j + 1, h => (List.Perm.swap _ _ _).trans ((cons_erase l j (by simpa using h)).cons a)
/-- block r is an iterator over the map of block M; these are left -/
def GIt (nk : Nat) (w : World) (r M : Nat) (l left : List (Pm.Nm × Value)) : Prop :=
  ∃ es clock seen c0, w.heap[M]? = some (.map es clock) ∧ w.heap[r]? = some (.mapIter (some M) clock seen c0) ∧ clock ≤ c0 ∧ EntsAre es.toList l ∧ EntsAre (leftOf es seen).toList left ∧ (∀ b ∈ l, KWf nk b.1) ∧ (l.map Prod.fst).Nodup ∧ (∀ e ∈ es.toList, e.born < clock) ∧ (es.toList.map (·.born)).Nodup
section
variable {w w' : World} {r M nk : Nat} {kt : TypeId} {l left : List (Pm.Nm × Value)}
theorem GIt.map (h : GIt nk w r M l left) : GMap nk w M l := by
  obtain ⟨es, clock, seen, c0, h1, h2, h3, h4, h5, h6, h7, h8, h9⟩ := h
  exact ⟨es, clock, h1, h4, h6, h7, h8, h9⟩
theorem GIt.ltR (h : GIt nk w r M l left) : r < w.heap.size := by
  obtain ⟨es, clock, seen, c0, h1, h2, -⟩ := h
  exact (Array.getElem?_eq_some_iff.1 h2).1
theorem GIt.turns {G : Nat → Prop} (h : GIt nk w r M l left) (ht : Turns G w w') (hr : ¬ G r) (hM : ¬ G M) : GIt nk w' r M l left := by
  have h0 := h.ltR
  have h01 := h.map.lt
  obtain ⟨es, clock, seen, c0, h1, h2, h3⟩ := h
  exact ⟨es, clock, seen, c0, (ht.block _ h01 hM).trans h1, (ht.block _ h0 hr).trans h2, h3⟩
theorem GIt.below (h : GIt nk w r M l left) (hb : Below w.heap.size w w') : GIt nk w' r M l left := h.turns (Turns.of_below (F := fun _ => False) hb) (fun h => h) fun h => h
theorem GMap.range (h : GMap nk w M l) {mt et : TypeId} {z : Value} (T : GT kt nk mt et z) :
    ∃ o, (Instr.range mt (.map (some M))).run Try.prog w = .ok (.pointer (some ⟨w.heap.size, 0, none⟩)) (w.alloc o) ∧ GIt nk (w.alloc o) w.heap.size M l l := by
  have hlt := h.lt
  obtain ⟨es, clock, hb, he, hwf, hnd, hf1, hf2⟩ := h
  refine ⟨.mapIter (some M) clock #[] clock, run_range_map (P := Try.prog) w mt _ _ M es clock T.und hb, es, clock, #[], clock, (Below.heap_alloc _ _ _ hlt).trans hb, heap_alloc_new w _, Nat.le_refl _, he, ?_, hwf, hnd, hf1, hf2⟩
  unfold leftOf EntsAre
  rw [Array.toList_filter]
  have : es.toList.filter (fun e => !(#[] : Array Nat).contains e.born) = es.toList := List.filter_eq_self.2 fun x _ => by simp
  rw [this]
  exact he
theorem GIt.next (h : GIt nk w r M l left) (ty : TypeId) :
    (left = [] ∧ (Instr.next (.pointer (some ⟨r, 0, none⟩)) false ty).run Try.prog w = .ok (.tuple #[.bool false]) w) ∨
    ∃ b left' w', (b :: left').Perm left ∧ (Instr.next (.pointer (some ⟨r, 0, none⟩)) false ty).run Try.prog w = .ok (.tuple #[.bool true, kV b.1, b.2]) w' ∧ Turns (fun k => k = r) w w' ∧ GIt nk w' r M l left' ∧
      (Instr.entry (.pointer (some ⟨r, 0, none⟩))).run Try.prog w' = .ok (.tuple #[kV b.1, b.2]) w' := by
  have hlr := h.ltR
  have hlm := h.map.lt
  obtain ⟨es, clock, seen, c0, hb, hr, hc, he, hl, hwf, hnd, hf1, hf2⟩ := h
  rcases run_next_at (P := Try.prog) w ty r M clock c0 seen es clock hr hb hf1 hc with ⟨h0, hnx⟩ | ⟨e, hm, w', hnx, hr', ht⟩
  · refine Or.inl ⟨?_, hnx⟩
    have := congrArg List.length hl
    simp only [List.length_map, Array.length_toList, h0] at this
    exact List.eq_nil_of_length_eq_zero this.symm
  · obtain ⟨j, hj, hje⟩ := List.getElem_of_mem hm
    have hll : (leftOf es seen).toList.length = left.length := by have := congrArg List.length hl; simpa using this
    have hjl : j < left.length := by omega
    have h1 : ((leftOf es seen).toList.map fun e => (e.key, e.val))[j]? = (left.map fun b => (kV b.1, b.2))[j]? := by rw [hl]
    rw [List.getElem?_map, List.getElem?_map, List.getElem?_eq_getElem hj, List.getElem?_eq_getElem hjl, hje] at h1
    simp only [Option.map_some, Option.some.injEq, Prod.mk.injEq] at h1
    have hne : M ≠ r := fun e => by rw [e, hr] at hb; cases hb
    have hb' : w'.heap[M]? = some (.map es clock) := (ht.block _ hlm hne).trans hb
    have hes : e ∈ es.toList := by
      unfold leftOf at hm
      rw [Array.toList_filter] at hm
      exact (List.mem_filter.1 hm).1
    refine Or.inr ⟨left[j], left.eraseIdx j, w', cons_erase left j hjl, by rw [← h1.1, ← h1.2]; exact hnx, ht, ⟨es, clock, seen.push e.born, clock, hb', hr', Nat.le_refl _, he, ?_, hwf, hnd, hf1, hf2⟩, by rw [← h1.1, ← h1.2]; exact run_entry_at (P := Try.prog) w' r M clock seen es clock e hr' hb' hes hf2⟩
    unfold EntsAre at hl ⊢
    rw [left_step hf2 (j := j) (by rw [List.getElem?_eq_getElem hj, hje]), Go.ChangeMaps.map_eraseIdx, hl, Go.ChangeMaps.map_eraseIdx]
end
end Go.Proofs.Ytcenmkcencdlcaa

namespace Go.Proofs.Ytcenmkcencdlcaa
open Go.RowKit
open Go.Maps (Keyed)

theorem laidB12 : laidOutB Try.prog = true := by kernel_rfl
theorem sizes12 : ∃ m, Try.prog.types.size = m + 6 := ⟨Try.prog.types.size - 6, by have : 6 ≤ Try.prog.types.size := of_decide_eq_true (by kernel_rfl); omega⟩
theorem kl_int (n : Nat) (a : Int) (h : (Lit.int .i64 a).wf = true) : Try.prog.keyLits (n + 1) 3 [.int .i64 a] = some [.int .i64 a] := by
  simp [Program.keyLits, Try.underlying3, h]
theorem kl_st (n : Nat) (a b : Int) (h : (Lit.int .i64 a).wf = true) (k : (Lit.int .i64 b).wf = true) : Try.prog.keyLits (n + 2) 32 [.int .i64 a, .int .i64 b] = some [.int .i64 a, .int .i64 b] := by
  have c2 : Try.prog.cellsOf 32 = 2 := by kernel_rfl
  have c3 : Try.prog.cellsOf 3 = 1 := by kernel_rfl
  unfold Program.keyLits
  simp only [Try.underlying32]
  rw [if_pos ⟨by rw [c2]; rfl, by kernel_rfl⟩]
  simp [c3, kl_int n a h, kl_int n b k]
theorem kl_pr (n : Nat) (a b c : Int) (h : (Lit.int .i64 a).wf = true) (k : (Lit.int .i64 b).wf = true) (l : (Lit.int .i64 c).wf = true) : Try.prog.keyLits (n + 3) 68 [.int .i64 a, .int .i64 b, .int .i64 c] = some [.int .i64 a, .int .i64 b, .int .i64 c] := by
  have c1 : Try.prog.cellsOf 68 = 3 := by kernel_rfl
  have c2 : Try.prog.cellsOf 32 = 2 := by kernel_rfl
  have c3 : Try.prog.cellsOf 3 = 1 := by kernel_rfl
  unfold Program.keyLits
  simp only [Try.underlying68]
  rw [if_pos ⟨by rw [c1]; rfl, by kernel_rfl⟩]
  simp [c2, c3, kl_st n a b h k, kl_int (n + 1) c l]
set_option maxRecDepth 100000 in
theorem kl_pa (n : Nat) (x : Fin 16 → Int) (h : ∀ i, (Lit.int .i64 (x i)).wf = true) : ∃ l, Try.prog.keyLits (n + 3) 71 [.int .i64 (x 0), .int .i64 (x 1), .int .i64 (x 2), .int .i64 (x 3), .int .i64 (x 4), .int .i64 (x 5), .int .i64 (x 6), .int .i64 (x 7), .int .i64 (x 8), .int .i64 (x 9), .int .i64 (x 10), .int .i64 (x 11), .int .i64 (x 12), .int .i64 (x 13), .int .i64 (x 14), .int .i64 (x 15)] = some l := by
  have c1 : Try.prog.cellsOf 71 = 16 := by kernel_rfl
  have c2 : Try.prog.cellsOf 32 = 2 := by kernel_rfl
  have r8 : List.range 8 = [0, 1, 2, 3, 4, 5, 6, 7] := rfl
  unfold Program.keyLits
  simp only [Try.underlying71]
  rw [if_pos (by rw [c1]; rfl)]
  simp [r8, c2, kl_st n _ _ (h _) (h _)]
set_option maxRecDepth 100000 in
theorem kl_ov (n : Nat) (a b c d : Int) (x : Fin 16 → Int) (ha : (Lit.int .i64 a).wf = true) (hb : (Lit.int .i64 b).wf = true) (hc : (Lit.int .i64 c).wf = true) (hd : (Lit.int .i64 d).wf = true) (h : ∀ i, (Lit.int .i64 (x i)).wf = true) : ∃ l, Try.prog.keyLits (n + 4) 73 [.int .i64 a, .int .i64 b, .int .i64 c, .int .i64 (x 0), .int .i64 (x 1), .int .i64 (x 2), .int .i64 (x 3), .int .i64 (x 4), .int .i64 (x 5), .int .i64 (x 6), .int .i64 (x 7), .int .i64 (x 8), .int .i64 (x 9), .int .i64 (x 10), .int .i64 (x 11), .int .i64 (x 12), .int .i64 (x 13), .int .i64 (x 14), .int .i64 (x 15), .int .i64 d] = some l := by
  have c0 : Try.prog.cellsOf 73 = 20 := by kernel_rfl
  have c1 : Try.prog.cellsOf 71 = 16 := by kernel_rfl
  have c2 : Try.prog.cellsOf 68 = 3 := by kernel_rfl
  have c3 : Try.prog.cellsOf 3 = 1 := by kernel_rfl
  obtain ⟨l, hl⟩ := kl_pa n x h
  unfold Program.keyLits
  simp only [Try.underlying73]
  rw [if_pos ⟨by rw [c0]; rfl, by kernel_rfl⟩]
  simp [c1, c2, c3, kl_pr n a b c ha hb hc, hl, kl_int (n + 2) d hd]
theorem list3i {x : Pm.Nm} (h : x.length = 3) : ∃ a b c, x = [a, b, c] := by match x, h with | [a, b, c], _ => exact ⟨a, b, c, rfl⟩
theorem list2i {x : Pm.Nm} (h : x.length = 2) : ∃ a b, x = [a, b] := by match x, h with | [a, b], _ => exact ⟨a, b, rfl⟩
theorem list20i {x : Pm.Nm} (h : x.length = 20) : ∃ a b c d, ∃ y : Fin 16 → Int, x = [a, b, c, y 0, y 1, y 2, y 3, y 4, y 5, y 6, y 7, y 8, y 9, y 10, y 11, y 12, y 13, y 14, y 15, d] ∧ ∀ i, y i ∈ x := by
  match x, h with
  | [a, b, c, y0, y1, y2, y3, y4, y5, y6, y7, y8, y9, y10, y11, y12, y13, y14, y15, d], _ =>
    refine ⟨a, b, c, d, fun i => [y0, y1, y2, y3, y4, y5, y6, y7, y8, y9, y10, y11, y12, y13, y14, y15].get (i.cast rfl), rfl, fun i => ?_⟩
    have : [y0, y1, y2, y3, y4, y5, y6, y7, y8, y9, y10, y11, y12, y13, y14, y15].get (i.cast rfl) ∈ [y0, y1, y2, y3, y4, y5, y6, y7, y8, y9, y10, y11, y12, y13, y14, y15] := List.get_mem _ _
    have h2 : ∀ z ∈ [y0, y1, y2, y3, y4, y5, y6, y7, y8, y9, y10, y11, y12, y13, y14, y15], z ∈ [a, b, c, y0, y1, y2, y3, y4, y5, y6, y7, y8, y9, y10, y11, y12, y13, y14, y15, d] := fun z hz => by
      have e : [a, b, c, y0, y1, y2, y3, y4, y5, y6, y7, y8, y9, y10, y11, y12, y13, y14, y15, d] = [a, b, c] ++ [y0, y1, y2, y3, y4, y5, y6, y7, y8, y9, y10, y11, y12, y13, y14, y15] ++ [d] := rfl
      rw [e]
      exact List.mem_append_left _ (List.mem_append_right _ hz)
    exact h2 _ this
theorem ktV : KT 68 3 where
  law := Keyed.of_law (deep_law_laid laidB12 (m := 3) (by omega) (of_decide_eq_true (by kernel_rfl)) (by kernel_rfl) (by kernel_rfl))
  key := fun x ⟨hl, hw⟩ => by
    obtain ⟨a, b, c, rfl⟩ := list3i hl
    obtain ⟨m, hm⟩ := sizes12
    have hkt : Try.prog.keyType 68 = true := by kernel_rfl
    have c2 : Try.prog.cellsOf 68 = 3 := by kernel_rfl
    obtain ⟨ls, hls⟩ : ∃ ls, Try.prog.keyLits (m + 6 + 1) 68 [.int .i64 a, .int .i64 b, .int .i64 c] = some ls := ⟨_, kl_pr (m + 4) a b c (hw a (by simp)) (hw b (by simp)) (hw c (by simp))⟩
    refine ⟨.string (keyBytes ls), ?_⟩
    unfold keyOf
    simp only [Try.underlying68]
    rw [if_pos (by simp [hkt, Value.formed, Try.underlying68, c2]), hm]
    rw [show (kV [a, b, c]).cells.toList = [.int .i64 a, .int .i64 b, .int .i64 c] from rfl, hls]
    rfl
theorem ktM : KT 32 2 where
  law := Keyed.of_law (deep_law_laid laidB12 (m := 2) (by omega) (of_decide_eq_true (by kernel_rfl)) (by kernel_rfl) (by kernel_rfl))
  key := fun x ⟨hl, hw⟩ => by
    obtain ⟨a, b, rfl⟩ := list2i hl
    obtain ⟨m, hm⟩ := sizes12
    have hkt : Try.prog.keyType 32 = true := by kernel_rfl
    have c2 : Try.prog.cellsOf 32 = 2 := by kernel_rfl
    obtain ⟨ls, hls⟩ : ∃ ls, Try.prog.keyLits (m + 6 + 1) 32 [.int .i64 a, .int .i64 b] = some ls := ⟨_, kl_st (m + 5) a b (hw a (by simp)) (hw b (by simp))⟩
    refine ⟨.string (keyBytes ls), ?_⟩
    unfold keyOf
    simp only [Try.underlying32]
    rw [if_pos (by simp [hkt, Value.formed, Try.underlying32, c2]), hm]
    rw [show (kV [a, b]).cells.toList = [.int .i64 a, .int .i64 b] from rfl, hls]
    rfl
set_option maxRecDepth 100000 in
theorem ktO : KT 73 20 where
  law := Keyed.of_law (deep_law_laid laidB12 (m := 4) (by omega) (of_decide_eq_true (by kernel_rfl)) (by kernel_rfl) (by kernel_rfl))
  key := fun x ⟨hl, hw⟩ => by
    obtain ⟨a, b, c, d, y, rfl, hy⟩ := list20i hl
    obtain ⟨m, hm⟩ := sizes12
    have hkt : Try.prog.keyType 73 = true := by kernel_rfl
    have c2 : Try.prog.cellsOf 73 = 20 := by kernel_rfl
    obtain ⟨ls, hls⟩ := kl_ov (m + 3) a b c d y (hw a (by simp)) (hw b (by simp)) (hw c (by simp)) (hw d (by simp)) (fun i => hw _ (hy i))
    refine ⟨.string (keyBytes ls), ?_⟩
    unfold keyOf
    simp only [Try.underlying73]
    rw [if_pos (by simp [hkt, Value.formed, Try.underlying73, c2]), hm]
    rw [show (kV [a, b, c, y 0, y 1, y 2, y 3, y 4, y 5, y 6, y 7, y 8, y 9, y 10, y 11, y 12, y 13, y 14, y 15, d]).cells.toList = [.int .i64 a, .int .i64 b, .int .i64 c, .int .i64 (y 0), .int .i64 (y 1), .int .i64 (y 2), .int .i64 (y 3), .int .i64 (y 4), .int .i64 (y 5), .int .i64 (y 6), .int .i64 (y 7), .int .i64 (y 8), .int .i64 (y 9), .int .i64 (y 10), .int .i64 (y 11), .int .i64 (y 12), .int .i64 (y 13), .int .i64 (y 14), .int .i64 (y 15), .int .i64 d] from rfl, hls]
    rfl
/-- a register's cells: what stands, with its stamp -/
abbrev rvA (r : Qm.St × Pm.Vl) : Array Value := #[.int .i64 r.1.1, .int .i64 r.1.2, .int .i64 r.2.1, .int .i64 r.2.2.1, .string r.2.2.2]
abbrev rmA (r : Qm.St × Bool) : Array Value := #[.int .i64 r.1.1, .int .i64 r.1.2, .bool r.2]
theorem gtV : GT 68 3 54 84 (.agg (rvA ((0, 0), Pm.z0))) := ⟨ktV, Try.underlying54, fun _ => by kernel_rfl⟩
theorem gtM : GT 32 2 56 87 (.agg (rmA ((0, 0), false))) := ⟨ktM, Try.underlying56, fun _ => by kernel_rfl⟩
theorem gtO : GT 73 20 58 84 (.agg (rvA ((0, 0), Pm.z0))) := ⟨ktO, Try.underlying58, fun _ => by kernel_rfl⟩
end Go.Proofs.Ytcenmkcencdlcaa
