/-
  A REGION THAT DRAWS ITS ORDER AND ENDS IN A STORE INTO WHAT IT READ: the condition S holds behind every operation but that last one.
  No conditions.
  turn: a node gets its master, or none.
  No conditions but sizes.
-/
import Derived.Deep.RegionHeld
import Derived.StillTail
import Derived.Test.YthifdefjmfakgaaGreatGA
import Derived.Test.YthifdefjmfakgaaGreatGrMem
import Derived.Test.YthifdefjmfakgaaGreatTWay
namespace Go.Proofs.YthifdefjmfakgaaGreat

section
variable {P : Program} {ops : Array Oper} {Q : Exit → Act → World → Prop} {md : Region.Mode} {S : World → Prop} {m : Nat}

/-- whatever order is picked; behind every operation but number m S holds -/
def wpAnyL (P : Program) (md : Region.Mode) (ops : Array Oper) (Q : Exit → Act → World → Prop) (S : World → Prop) (m : Nat) : Nat → Array Bool → Act → World → Prop
  | 0, listed, a, w => Region.ready md ops listed = [] ∧ Q .normal a w
  | fuel + 1, listed, a, w =>
    (Region.ready md ops listed = [] → Q .normal a w) ∧
    ∀ i ∈ Region.ready md ops listed, wpOp P ops Q i (fun a' w' => (i ≠ m → S w') ∧ wpAnyL P md ops Q S m fuel (listed.setIfInBounds i true) a' w') a w
theorem wpAny_of_last : ∀ (fuel : Nat) (listed : Array Bool) (a : Act) (w : World), wpAnyL P md ops Q S m fuel listed a w → wpAny P md ops Q fuel listed a w
  | 0, _, _, _, h => h
  | fuel + 1, _, _, _, h => ⟨h.1, fun i hi => wpOp_mono (fun a' w' h' => wpAny_of_last fuel _ a' w' h'.2) (h.2 i hi)⟩
/-- an operation that yields its value wherever S holds, and that number m waits for, may be taken first -/
theorem wpAnyL_first {i : Nat} {oi : Oper} {v : Value} (hi : ops[i]? = some oi) (hsel : ∀ (j : Nat) (o : Oper) cs b, ops[j]? = some o → o.op ≠ .select cs b)
    (hQ : ∀ c a w, Q (.panic c) (a.put oi.dst v) w → Q (.panic c) a w) (hm : ∃ om, ops[m]? = some om ∧ ∃ e ∈ om.after, Region.binds md e = true ∧ e.on = i) :
    ∀ (fuel : Nat) (listed : Array Bool) (a : Act) (w : World),
      (∀ j oj, ops[j]? = some oj → j ≠ i → listed.getD j true = false → (∀ e ∈ oj.after, Region.binds md e = true → e.on ≠ i) → oi.apart ops oj = true) →
      i ∈ Region.ready md ops listed → YieldsIf P ops S oi v a → S w →
      wpAnyL P md ops Q S m fuel (listed.setIfInBounds i true) (a.put oi.dst v) w → wpAnyL P md ops Q S m (fuel + 1) listed a w := by
  intro fuel
  induction fuel with
  | zero =>
    intro listed a w _ hr hy hS H
    refine ⟨fun h => (by rw [h] at hr; cases hr), fun j hj => ?_⟩
    by_cases hji : j = i
    · subst hji; exact hy.wpOp hi hS ⟨fun _ => hS, H⟩
    · have := ready_mono hj hji
      rw [H.1] at this
      cases this
  | succ fuel ih =>
    intro listed a w hfree hr hy hS H
    refine ⟨fun h => (by rw [h] at hr; cases hr), fun j hj => ?_⟩
    by_cases hji : j = i
    · subst hji; exact hy.wpOp hi hS ⟨fun _ => hS, H⟩
    · have h1 := H.2 j (ready_mono hj hji)
      obtain ⟨hjun, oj, hoj, hall⟩ := mem_ready.1 hj
      have hnot : ∀ e ∈ oj.after, Region.binds md e = true → e.on ≠ i := fun e he hb heq => by
        have h1 := hall e he hb
        have h0 := (mem_ready.1 hr).1
        rw [heq] at h1
        rcases Nat.lt_or_ge i listed.size with h' | h'
        · simp [h'] at h0 h1; rw [h0] at h1; cases h1
        · simp [Array.getElem?_eq_none h'] at h1
      have hjm : j ≠ m := fun e => by
        subst e
        obtain ⟨om, ho, e, he, hb, heq⟩ := hm
        rw [hoj] at ho
        cases ho
        exact hnot e he hb heq
      have h2 := wpOp_putIf hoj (hfree j oj hoj hji hjun hnot) (fun cs b => hsel i oi cs b hi) (fun cs b => hsel j oj cs b hoj) hQ hy h1
      have hfree' : ∀ k ok, ops[k]? = some ok → k ≠ i → (listed.setIfInBounds j true).getD k true = false →
          (∀ e ∈ ok.after, Region.binds md e = true → e.on ≠ i) → oi.apart ops ok = true := fun k ok hk hki hun hno => by
        refine hfree k ok hk hki ?_ hno
        by_cases hjk : j = k
        · subst hjk; exact hjun
        · rw [getD_set_ne true hjk] at hun; exact hun
      refine wpOp_mono (fun a' w' h3 => ⟨h3.2.1, ih (listed.setIfInBounds j true) a' w' hfree' (ready_mono hr (Ne.symm hji)) h3.1 (h3.2.1 hjm) ?_⟩) h2
      rw [Array.setIfInBounds_comm _ _ hji]
      exact h3.2.2
theorem wpAnyL_take {i : Nat} {oi : Oper} {v : Value} {fuel : Nat} {listed : Array Bool} {a : Act} {w : World} (hi : ops[i]? = some oi)
    (hs : Region.noSelect ops = true) (hf : Region.free md ops listed i = true) (hr : (Region.ready md ops listed).contains i = true)
    (hQ : ∀ c a w, Q (.panic c) (a.put oi.dst v) w → Q (.panic c) a w) (hy : YieldsIf P ops S oi v a) (hS : S w) (hm : Region.waitsFor md ops m i = true)
    (h : wpAnyL P md ops Q S m fuel (listed.setIfInBounds i true) (a.put oi.dst v) w) : wpAnyL P md ops Q S m (fuel + 1) listed a w :=
  wpAnyL_first hi (Region.noSelect_spec hs) hQ (Region.waitsFor_spec hm) fuel listed a w (Region.free_spec hi hf) (by simpa using hr) hy hS h
def AllReadyL (P : Program) (md : Region.Mode) (ops : Array Oper) (Q : Exit → Act → World → Prop) (S : World → Prop) (m : Nat) (fuel : Nat) (listed : Array Bool) (a : Act) (w : World) (rs : List Nat) : Prop :=
  ∀ i ∈ rs, wpOp P ops Q i (fun a' w' => (i ≠ m → S w') ∧ wpAnyL P md ops Q S m fuel (listed.setIfInBounds i true) a' w') a w
theorem AllReadyL.nil {fuel : Nat} {listed : Array Bool} {a : Act} {w : World} : AllReadyL P md ops Q S m fuel listed a w [] := fun _ h => by cases h
theorem AllReadyL.cons {fuel : Nat} {listed : Array Bool} {a : Act} {w : World} {i : Nat} {o : Oper} {rs : List Nat} (ho : ops[i]? = some o)
    (h : ∀ K' : Act → World → Prop, Shut (∀ a w, S w → (S w → wpAnyL P md ops Q S m fuel (listed.setIfInBounds i true) a w) → K' a w) → if Region.wanted o (yielded ops a.tmps) = true then Oper.wp P o a w K' Q else K' (a.put o.dst undef) w)
    (hs : AllReadyL P md ops Q S m fuel listed a w rs) : AllReadyL P md ops Q S m fuel listed a w (i :: rs) := fun j hj => by
  rcases List.mem_cons.1 hj with rfl | hj
  · exact wpOp_step ho (fun K' hK => h K' (fun a w hS hW => hK a w ⟨fun _ => hS, hW hS⟩))
  · exact hs j hj
/-- number m itself: S need not hold behind it -/
theorem AllReadyL.last {fuel : Nat} {listed : Array Bool} {a : Act} {w : World} {o : Oper} (ho : ops[m]? = some o)
    (h : ∀ K' : Act → World → Prop, Shut (∀ a w, wpAnyL P md ops Q S m fuel (listed.setIfInBounds m true) a w → K' a w) → if Region.wanted o (yielded ops a.tmps) = true then Oper.wp P o a w K' Q else K' (a.put o.dst undef) w) : AllReadyL P md ops Q S m fuel listed a w [m] := fun j hj => by
  rcases List.mem_cons.1 hj with rfl | hj
  · exact wpOp_step ho (fun K' hK => h K' (fun a w hW => hK a w ⟨fun h => absurd rfl h, hW⟩))
  · cases hj
theorem wpAnyL_ready {rs : List Nat} {fuel : Nat} {listed : Array Bool} {a : Act} {w : World} (hr : Region.ready md ops listed = rs) (hne : rs ≠ [])
    (h : AllReadyL P md ops Q S m fuel listed a w rs) : wpAnyL P md ops Q S m (fuel + 1) listed a w := ⟨fun h0 => absurd (hr ▸ h0) hne, hr ▸ h⟩
theorem wpAnyL_done {listed : Array Bool} {a : Act} {w : World} (hr : Region.ready md ops listed = []) (h : Q .normal a w) :
    ∀ fuel, wpAnyL P md ops Q S m fuel listed a w
  | 0 => ⟨hr, h⟩
  | _ + 1 => ⟨fun _ => h, by rw [hr]; simp⟩
theorem wp_region_last_drew (m : Nat) {id : Nat} {a : Act} {w : World} (hm : P.follows .mixedOrders = true) (hS : S w.drew)
    (h : S w.drew → wpAnyL P .any ops Q S m ops.size (Array.replicate ops.size false) a w.drew) : (Code.region id ops true).wp P Q a w :=
  wp_region_any hm (wpAny_of_last _ _ _ _ (h hS))
end
end Go.Proofs.YthifdefjmfakgaaGreat

namespace Go.Proofs.YthifdefjmfakgaaGreat
open Go.RowKit
open Tm (Sp Tr has put cut kids)

def turnL (L : Lk) (n q : Qm.St) : Lk := if q = (0, 0) then cutL L n else cutL L n ++ [(n, q)]
theorem lookL_turn (L : Lk) (n q m : Qm.St) : lookL (turnL L n q) m = if m = n then (if q = (0, 0) then none else some q) else lookL L m := by
  unfold turnL
  by_cases h : q = (0, 0)
  · rw [if_pos h, if_pos h, lookL_cut]
  · rw [if_neg h, if_neg h, lookL_put (by rw [lookL_cut, if_pos rfl]), lookL_cut]
    by_cases e : m = n
    · rw [if_pos e, if_pos e]
    · rw [if_neg e, if_neg e, if_neg e]
theorem cutL_none {L : Lk} {n : Qm.St} (h : (lookL L n).isSome = false) : cutL L n = L := by
  unfold cutL
  rw [List.filter_eq_self]
  intro e he
  cases e2 : (e.1 == n) with
  | false => rfl
  | true =>
    unfold lookL at h
    rw [Option.isSome_map] at h
    have := List.find?_isSome (p := fun e : Qm.St × Qm.St => e.1 == n) (xs := L)
    rw [Bool.eq_false_iff] at h
    exact absurd (this.2 ⟨e, he, e2⟩) h
theorem lk_some_of {D : List Kid} {p : Qm.St} {b : Nat} (h : kidOf D p = some b) : lk (belows D) p = some (.map (some b)) := by
  have h1 := lk_belows D p
  rw [h] at h1
  cases e : lk (belows D) p with
  | none => rw [e] at h1; cases h1
  | some v => rw [e] at h1; exact congrArg some h1
/-- each master has its nodes, but p may have none left -/
def HalfM (L : Lk) (D : List Kid) (p : Qm.St) : Prop := (∀ c ∈ D, (c.p ≠ p → c.l ≠ []) ∧ ∀ n, n ∈ c.l ↔ lookL L n = some c.p) ∧ ∀ n m, lookL L n = some m → ∃ c ∈ D, c.p = m
section
variable {w w' : World} {M3 M4 : Nat} {L : Lk} {D : List Kid} {F G : Nat → Prop} {n p va : Qm.St}
theorem Mm.setKid {f : List Qm.St → List Qm.St} {kc : Kid} {kb : Nat} (h : Mm w M3 M4 L D F) (hk : kc ∈ D) (hb : kc.b = kb) (hm : SMap w' kb (nodesOf (f kc.l))) (ht : Turns (fun k => k = kb) w w') : Mm w' M3 M4 L (setKid D kc.p f) F := by
  subst hb
  have h1 := h.kne kc hk
  refine ⟨h.mast.turns ht fun e => h1.1 e.symm, by rw [belows_setKid]; exact h.inst.turns ht fun e => h1.2 e.symm, fun c' hc' => ?_, h.f3, h.f4, fun c' hc' => ?_, h.ne, fun c' hc' => ?_, by rw [setKid_b]; exact h.knd, fun k hk => Nat.lt_of_lt_of_le (h.lt k hk) ht.size⟩
  · obtain ⟨c, hc, k1, k2, k3, k4⟩ := mem_setKid hc'
    by_cases e : c.p = kc.p
    · have : c = kc := one_of h.cnd hc hk e
      subst this
      rw [k2, k3 rfl]
      exact hm
    · obtain rfl := k4 e
      exact (h.inner c' hc).turns ht fun e2 => e (by rw [one_of h.knd hc hk e2])
  · obtain ⟨c, hc, k1, k2, -⟩ := mem_setKid hc'
    rw [k2]; exact h.fK c hc
  · obtain ⟨c, hc, k1, k2, -⟩ := mem_setKid hc'
    rw [k2]; exact h.kne c hc
theorem Mm.newKid {b : Nat} (h : Mm w M3 M4 L D F) (hn : SMap w b []) (hm : SMap w' M4 (belows D ++ [(p, .map (some b))])) (ht : Turns (fun k => k = M4) w w') (hb : ¬ F b) (hl : b < w.heap.size) :
    Mm w' M3 M4 L (D ++ [(⟨p, b, []⟩ : Kid)]) (fun k => F k ∨ k = b) := by
  have hbM : b ≠ M4 := fun e => hb (by rw [e]; exact h.f4)
  refine ⟨h.mast.turns ht h.ne, by unfold belows at hm ⊢; rw [List.map_append]; exact hm, fun c hc => ?_, Or.inl h.f3, Or.inl h.f4, fun c hc => ?_, h.ne, fun c hc => ?_, ?_, fun k hk => ?_⟩
  · rcases List.mem_append.1 hc with hc | hc
    · exact (h.inner c hc).turns ht (h.kne c hc).2
    · obtain rfl := List.mem_singleton.1 hc
      exact hn.turns ht hbM
  · rcases List.mem_append.1 hc with hc | hc
    · exact Or.inl (h.fK c hc)
    · obtain rfl := List.mem_singleton.1 hc
      exact Or.inr rfl
  · rcases List.mem_append.1 hc with hc | hc
    · exact h.kne c hc
    · obtain rfl := List.mem_singleton.1 hc
      exact ⟨fun e => hb (by simp only at e; rw [e]; exact h.f3), hbM⟩
  · rw [List.map_append]
    refine List.nodup_append.2 ⟨h.knd, by simp, fun x hx y hy e => ?_⟩
    obtain ⟨c, hc, rfl⟩ := List.mem_map.1 hx
    have : y = b := by simpa using hy
    subst this
    exact hb (by rw [← e]; exact h.fK c hc)
  · rcases hk with hk | hk
    · exact Nat.lt_of_lt_of_le (h.lt k hk) ht.size
    · subst hk; exact Nat.lt_of_lt_of_le hl ht.size
theorem Mm.newMast {q : Qm.St} (h : Mm w M3 M4 L D F) (hm : SMap w' M3 (masts L ++ [(n, snV q)])) (ht : Turns (fun k => k = M3) w w') : Mm w' M3 M4 (L ++ [(n, q)]) D F :=
  ⟨by unfold masts at *; rw [List.map_append]; exact hm, h.inst.turns ht fun e => h.ne e.symm, fun c hc => (h.inner c hc).turns ht (h.kne c hc).1, h.f3, h.f4, h.fK, h.ne, h.kne, h.knd, fun k hk => Nat.lt_of_lt_of_le (h.lt k hk) ht.size⟩
theorem Mm.cutMast (h : Mm w M3 M4 L D F) (hm : SMap w' M3 ((masts L).filter fun e => !(e.1 == n))) (ht : Turns (fun k => k = M3) w w') : Mm w' M3 M4 (cutL L n) D F :=
  ⟨by unfold masts cutL at *; rw [List.filter_map] at hm; exact hm, h.inst.turns ht fun e => h.ne e.symm, fun c hc => (h.inner c hc).turns ht (h.kne c hc).1, h.f3, h.f4, h.fK, h.ne, h.kne, h.knd, fun k hk => Nat.lt_of_lt_of_le (h.lt k hk) ht.size⟩
theorem Mm.cutKid (h : Mm w M3 M4 L D F) (hm : SMap w' M4 ((belows D).filter fun e => !(e.1 == p))) (ht : Turns (fun k => k = M4) w w') : Mm w' M3 M4 L (D.filter fun c => !(c.p == p)) F := by
  refine ⟨h.mast.turns ht h.ne, by unfold belows at *; rw [List.filter_map] at hm; exact hm, fun c hc => ?_, h.f3, h.f4, fun c hc => h.fK c (List.mem_filter.1 hc).1, h.ne, fun c hc => h.kne c (List.mem_filter.1 hc).1,
    (List.filter_sublist.map Kid.b).nodup h.knd, fun k hk => Nat.lt_of_lt_of_le (h.lt k hk) ht.size⟩
  have hc' := (List.mem_filter.1 hc).1
  exact (h.inner c hc').turns ht (h.kne c hc').2
theorem Ms.cutFull (h : Ms w M3 M4 L D F) (hl : lookL L n = some va) : HalfM (cutL L n) (Go.Proofs.YthifdefjmfakgaaGreat.setKid D va (fun l => l.filter fun m => !(m == n))) va := by
  constructor
  · intro c' hc'
    obtain ⟨c, hc, k1, k2, k3, k4⟩ := mem_setKid hc'
    by_cases e : c.p = va
    · refine ⟨fun h => absurd (k1.trans e) h, fun m => ?_⟩
      rw [k3 e, k1, lookL_cut, List.mem_filter, (h.full c hc).2 m]
      by_cases e2 : m = n
      · subst e2; simp
      · simp [e2]
    · obtain rfl := k4 e
      refine ⟨fun _ => (h.full c' hc).1, fun m => ?_⟩
      rw [lookL_cut, (h.full c' hc).2 m]
      by_cases e2 : m = n
      · subst e2
        rw [if_pos rfl, hl]
        constructor
        · intro h2; cases h2; exact absurd rfl e
        · intro h2; cases h2
      · rw [if_neg e2]
  · intro m k hm
    rw [lookL_cut] at hm
    split at hm
    · cases hm
    · obtain ⟨c, hc, h1⟩ := h.all m k hm
      obtain ⟨c', hc', h2⟩ := setKid_mem (p := va) (f := fun l => l.filter fun m => !(m == n)) hc
      exact ⟨c', hc', h2.trans h1⟩
theorem HalfM.keep (h : HalfM L D p) (hne : ∀ c ∈ D, c.p = p → c.l ≠ []) : (∀ c ∈ D, c.l ≠ [] ∧ ∀ n, n ∈ c.l ↔ lookL L n = some c.p) ∧ ∀ n m, lookL L n = some m → ∃ c ∈ D, c.p = m :=
  ⟨fun c hc => ⟨by
    by_cases e : c.p = p
    · exact hne c hc e
    · exact (h.1 c hc).1 e, (h.1 c hc).2⟩, h.2⟩
theorem HalfM.drop (h : HalfM L D p) (he : ∀ c ∈ D, c.p = p → c.l = []) : (∀ c ∈ D.filter (fun c => !(c.p == p)), c.l ≠ [] ∧ ∀ n, n ∈ c.l ↔ lookL L n = some c.p) ∧ ∀ n m, lookL L n = some m → ∃ c ∈ D.filter (fun c => !(c.p == p)), c.p = m := by
  refine ⟨fun c hc => ?_, fun n m hm => ?_⟩
  · have := List.mem_filter.1 hc
    have e : c.p ≠ p := by simpa using this.2
    exact ⟨(h.1 c this.1).1 e, (h.1 c this.1).2⟩
  · obtain ⟨c, hc, rfl⟩ := h.2 n m hm
    refine ⟨c, List.mem_filter.2 ⟨hc, ?_⟩, rfl⟩
    by_cases e : c.p = p
    · have h1 := ((h.1 c hc).2 n).2 hm
      rw [he c hc e] at h1
      cases h1
    · simpa using e
theorem Ms.halfOld (h : Ms w M3 M4 L D F) (p : Qm.St) : HalfM L D p := ⟨fun c hc => ⟨fun _ => (h.full c hc).1, (h.full c hc).2⟩, h.all⟩
theorem Ms.halfNew (h : Ms w M3 M4 L D F) (hk : kidOf D p = none) (b : Nat) : HalfM L (D ++ [(⟨p, b, []⟩ : Kid)]) p := by
  constructor
  · intro c hc
    rcases List.mem_append.1 hc with hc | hc
    · exact ⟨fun _ => (h.full c hc).1, (h.full c hc).2⟩
    · obtain rfl := List.mem_singleton.1 hc
      exact ⟨fun e => absurd rfl e, fun n => ⟨fun h => (by cases h), fun hn => absurd hn (h.kidNone hk n)⟩⟩
  · intro n m hm
    obtain ⟨c, hc, h1⟩ := h.all n m hm
    exact ⟨c, List.mem_append_left _ hc, h1⟩
theorem HalfM.put {q : Qm.St} (h : HalfM L D q) (hn : lookL L n = none) (hp : ∃ c ∈ D, c.p = q) :
    (∀ c ∈ Go.Proofs.YthifdefjmfakgaaGreat.setKid D q (fun l => l ++ [n]), c.l ≠ [] ∧ ∀ m, m ∈ c.l ↔ lookL (L ++ [(n, q)]) m = some c.p) ∧ ∀ m k, lookL (L ++ [(n, q)]) m = some k → ∃ c ∈ Go.Proofs.YthifdefjmfakgaaGreat.setKid D q (fun l => l ++ [n]), c.p = k := by
  constructor
  · intro c' hc'
    obtain ⟨c, hc, h1, h2, h3, h4⟩ := mem_setKid hc'
    by_cases e : c.p = q
    · rw [h3 e, h1, e]
      refine ⟨by simp, fun m => ?_⟩
      rw [List.mem_append, (h.1 c hc).2 m, lookL_put hn, e]
      by_cases e2 : m = n
      · subst e2; simp
      · simp [e2]
    · obtain rfl := h4 e
      refine ⟨(h.1 c' hc).1 e, fun m => ?_⟩
      rw [(h.1 c' hc).2 m, lookL_put hn]
      by_cases e2 : m = n
      · subst e2
        rw [if_pos rfl, hn]
        constructor
        · intro h; cases h
        · intro h; cases h; exact absurd rfl e
      · rw [if_neg e2]
  · intro m k hm
    rw [lookL_put hn] at hm
    split at hm
    · cases hm
      obtain ⟨c, hc, h1⟩ := hp
      obtain ⟨c', hc', h2⟩ := setKid_mem (p := q) (f := fun l => l ++ [n]) hc
      exact ⟨c', hc', h2.trans h1⟩
    · obtain ⟨c, hc, h1⟩ := h.2 m k hm
      obtain ⟨c', hc', h2⟩ := setKid_mem (p := q) (f := fun l => l ++ [n]) hc
      exact ⟨c', hc', h2.trans h1⟩
end
/-- in turn -/
structure TuI (w : World) (b : Nat) (A : Array Value) (M3 M4 : Nat) (L : Lk) (D : List Kid) (F F2 : Nat → Prop) (n q : Qm.St) (W : World) : Prop where
  a : AgAt W b A
  a5 : A[5]? = some (.map (some M3))
  a6 : A[6]? = some (.map (some M4))
  m : Mm W M3 M4 L D F2
  n0 : AgAt W w.heap.size (stA n)
  n1 : AgAt W (w.heap.size + 1) (stA q)
  t : Turns F w W
  f2 : ∀ k, F2 k → F k ∨ (w.heap.size + 2 ≤ k ∧ k < W.heap.size)
  f1 : ∀ k, F k → F2 k
  z : w.heap.size + 2 ≤ W.heap.size
  lF : ∀ k, F k → k < w.heap.size
  bF : ¬ F b
  bl : b < w.heap.size
section
variable {w W W' : World} {b M3 M4 : Nat} {A : Array Value} {L L' : Lk} {D D' : List Kid} {F F2 F3 : Nat → Prop} {n q : Qm.St}
theorem TuI.c5 (h : TuI w b A M3 M4 L D F F2 n q W) : W.cell? ⟨b, 5, none⟩ = some (.map (some M3)) := (AgAt.cell h.a 5).trans h.a5
theorem TuI.c6 (h : TuI w b A M3 M4 L D F F2 n q W) : W.cell? ⟨b, 6, none⟩ = some (.map (some M4)) := (AgAt.cell h.a 6).trans h.a6
theorem TuI.kept (h : TuI w b A M3 M4 L D F F2 n q W) (hb : Below W.heap.size W W') : TuI w b A M3 M4 L D F F2 n q W' :=
  ⟨h.a.kept hb, h.a5, h.a6, h.m.kept hb, h.n0.kept hb, h.n1.kept hb, h.t.trans (Turns.of_below hb), fun k hk => (h.f2 k hk).imp id fun h1 => ⟨h1.1, Nat.lt_of_lt_of_le h1.2 hb.size⟩, h.f1, Nat.le_trans h.z hb.size, h.lF, h.bF, h.bl⟩
theorem TuI.turn {x : Nat} (h : TuI w b A M3 M4 L D F F2 n q W) (hx : F3 x) (ht : Turns (fun k => k = x) W W') (hm : Mm W' M3 M4 L' D' F3) (h3 : ∀ k, F3 k → F k ∨ (w.heap.size + 2 ≤ k ∧ k < W'.heap.size)) (h4 : ∀ k, F k → F3 k) : TuI w b A M3 M4 L' D' F F3 n q W' := by
  have hne : ∀ k, (k = b ∨ k = w.heap.size ∨ k = w.heap.size + 1) → k ≠ x := fun k hk e => by
    subst e
    rcases h3 k hx with h1 | h1
    · have := h.lF k h1
      rcases hk with hk | hk
      · subst hk; exact h.bF h1
      · omega
    · have := h.bl
      omega
  exact ⟨h.a.block (ht.block _ (AgAt.lt h.a) (hne b (Or.inl rfl))), h.a5, h.a6, hm, h.n0.block (ht.block _ (AgAt.lt h.n0) (hne _ (Or.inr (Or.inl rfl)))), h.n1.block (ht.block _ (AgAt.lt h.n1) (hne _ (Or.inr (Or.inr rfl)))),
    h.t.trans (ht.mono fun k _ hk => by subst hk; exact (h3 k hx).imp id fun h => by omega), h3, h4, Nat.le_trans h.z ht.size, h.lF, h.bF, h.bl⟩
/-- .. where the footprint stays -/
theorem TuI.turn0 {x : Nat} (h : TuI w b A M3 M4 L D F F2 n q W) (hx : F2 x) (ht : Turns (fun k => k = x) W W') (hm : Mm W' M3 M4 L' D' F2) : TuI w b A M3 M4 L' D' F F2 n q W' :=
  h.turn hx ht hm (fun k hk => (h.f2 k hk).imp id fun h1 => ⟨h1.1, Nat.lt_of_lt_of_le h1.2 ht.size⟩) h.f1
end
/-- what turn leaves -/
def Turned (M3 M4 : Nat) (L : Lk) (F : Nat → Prop) (n q : Qm.St) (w : World) (e : Ending) (w' : World) : Prop :=
  e = .returned (.tuple #[]) ∧ ∃ D', Ms w' M3 M4 (turnL L n q) D' (fun k => F k ∨ (w.heap.size ≤ k ∧ k < w'.heap.size)) ∧ Turns F w w'
/-- behind the first half -/
def TuH (w : World) (b : Nat) (A : Array Value) (M3 M4 : Nat) (L : Lk) (F : Nat → Prop) (n q : Qm.St) (W : World) : Prop :=
  ∃ D, TuI w b A M3 M4 L D F F n q W ∧ ((∀ c ∈ D, c.l ≠ [] ∧ ∀ n, n ∈ c.l ↔ lookL L n = some c.p) ∧ ∀ n m, lookL L n = some m → ∃ c ∈ D, c.p = m)
/-- behind the second: the master has a map -/
def TuK (w : World) (b : Nat) (A : Array Value) (M3 M4 : Nat) (L : Lk) (F : Nat → Prop) (n q : Qm.St) (W : World) : Prop :=
  ∃ D F2 kb, TuI w b A M3 M4 L D F F2 n q W ∧ HalfM L D q ∧ kidOf D q = some kb

set_option maxRecDepth 100000 in
set_option maxHeartbeats 4000000 in
theorem turn_any {b M3 M4 : Nat} {A : Array Value} {L : Lk} {D : List Kid} {F : Nat → Prop} (n q : Qm.St) (w : World) (h : Ms w M3 M4 L D F) (ha : AgAt w b A) (h5 : A[5]? = some (.map (some M3))) (h6 : A[6]? = some (.map (some M4))) (hbF : ¬ F b) (hn : StWf n) (hto : StWf q) (hL : ∀ a c, lookL L a = some c → StWf c) :
    Calls Tryz.prog 35 #[ptV b, snV n, snV q] w (Turned M3 M4 L F n q w) := by
  have h1 : ∀ (w : World) (o : Obj), Below w.heap.size w (w.alloc o) := fun w o => (Below.refl _ _).alloc (Nat.le_refl _) _
  have hb := (h1 w (.cells (stA n) 35)).trans ((h1 (w.alloc (.cells (stA n) 35)) (.cells (stA q) 35)).mono (by simp))
  have I := Lib.hid (show TuI w b A M3 M4 L D F F n q ((w.alloc (.cells (stA n) 35)).alloc (.cells (stA q) 35)) from
    ⟨ha.kept hb, h5, h6, h.toMm.kept hb, (AgAt.new w (stA n) 35).kept (h1 _ _), by have := AgAt.new (w.alloc (.cells (stA n) 35)) (stA q) 35; rwa [World.size_alloc] at this, Turns.of_below hb, fun k hk => Or.inl hk, fun k hk => hk, by simp, h.lt, hbF, ha.lt⟩)
  obtain ⟨ib, hib⟩ : ∃ b, b = (lookL L n).isSome := ⟨_, rfl⟩
  obtain ⟨va, hva⟩ : ∃ s, s = (lookL L n).getD (0, 0) := ⟨_, rfl⟩
  have HIB := Lib.hid hib
  have HVA := Lib.hid hva
  have HWN := Lib.hid hn
  have HWT := Lib.hid hto
  have HWL := Lib.hid hL
  have HMS := Lib.hid (show Ms ((w.alloc (.cells (stA n) 35)).alloc (.cells (stA q) 35)) M3 M4 L D F from h.kept hb)
  clear h1 hb h ha h5 h6 hbF hn hto hL hib hva
  go_enter Tryz.func35, Tryz.ntmps35
  go_upto_region 1 with fail
  generalize (w.alloc (.cells (stA n) 35)).alloc (.cells (stA q) 35) = w2 at *
  have hbd := Below.drew (Below.refl w2.heap.size w2)
  replace I := Lib.hid (I.out.kept hbd)
  refine wp_region_held_drew (S := fun W => Below w2.drew.heap.size w2.drew W) (by kernel_rfl) (Below.refl _ _) (fun hS => ?_)
  clear hbd
  generalize w2.drew = wd at *
  refine wpAnyH_take (i := 0) (v := ?_) rfl (by kernel_rfl) (by kernel_rfl) (by kernel_rfl) (fun _ _ _ h => h) (Or.inl ⟨by kernel_rfl, ?_⟩) hS ?_
  rotate_left
  · intro W hSW
    go_simp
    all_goals with_reducible rfl
  refine wpAnyH_take (i := 1) (v := ?_) rfl (by kernel_rfl) (by kernel_rfl) (by kernel_rfl) (fun _ _ _ h => h) (Or.inl ⟨by kernel_rfl, ?_⟩) hS ?_
  rotate_left
  · intro W hSW
    go_simp
    all_goals with_reducible rfl
  refine wpAnyH_take (i := 2) (v := ?_) rfl (by kernel_rfl) (by kernel_rfl) (by kernel_rfl) (fun _ _ _ h => h) (Or.inl ⟨by kernel_rfl, ?_⟩) hS ?_
  rotate_left
  · intro W hSW
    go_simp
    all_goals with_reducible rfl
  refine wpAnyH_take (i := 3) (v := ?_) rfl (by kernel_rfl) (by kernel_rfl) (by kernel_rfl) (fun _ _ _ h => h) (Or.inl ⟨by kernel_rfl, ?_⟩) hS ?_
  rotate_left
  · intro W hSW
    have y := (I.out.kept hSW).c5
    go_simp
    all_goals with_reducible rfl
  go_simp
  refine wpAnyH_take (i := 4) (v := snV n) rfl (by kernel_rfl) (by kernel_rfl) (by kernel_rfl) (fun _ _ _ h => h) (Or.inl ⟨by kernel_rfl, fun W hSW => exec_load_ag stT rfl rfl rfl (I.out.kept hSW).n0⟩) hS ?_
  go_simp
  refine wpAnyH_take (i := 5) (v := .tuple #[snV va, .bool ib]) rfl (by kernel_rfl) (by kernel_rfl) (by kernel_rfl) (fun _ _ _ h => h) (Or.inl ⟨by kernel_rfl, fun W hSW => exec_lookup rfl rfl rfl (by rw [HIB.out, HVA.out]; exact (I.out.kept hSW).m.look1 _ HWN.out)⟩) hS ?_
  refine wpAnyH_take (i := 6) (v := ?_) rfl (by kernel_rfl) (by kernel_rfl) (by kernel_rfl) (fun _ _ _ h => h) (Or.inl ⟨by kernel_rfl, ?_⟩) hS ?_
  rotate_left
  · intro W hSW
    go_simp
    all_goals with_reducible rfl
  refine wpAnyH_take (i := 7) (v := ?_) rfl (by kernel_rfl) (by kernel_rfl) (by kernel_rfl) (fun _ _ _ h => h) (Or.inl ⟨by kernel_rfl, ?_⟩) hS ?_
  rotate_left
  · intro W hSW
    go_simp
    all_goals with_reducible rfl
  refine wpAnyH_take (i := 8) (v := ?_) rfl (by kernel_rfl) (by kernel_rfl) (by kernel_rfl) (fun _ _ _ h => h) (Or.inl ⟨by kernel_rfl, ?_⟩) hS ?_
  rotate_left
  · intro W hSW
    go_simp
    all_goals with_reducible rfl
  go_simp
  refine wpAnyH_ready (rs := [9]) (by kernel_rfl) (by simp) ?_
  refine AllReadyH.cons rfl (fun K hK => ?_) AllReadyH.nil
  have HS0 := Lib.hid hS
  go_simp
  have hba := (Below.refl wd.heap.size wd).alloc (Nat.le_refl _) (.cells #[.int .i64 0, .int .i64 0] 35)
  refine hK.out _ _ (hS.trans (hba.mono hS.size)) (fun hS => ?_)
  clear hK K hba
  refine wpAnyH_ready (rs := [10]) (by kernel_rfl) (by simp) ?_
  refine AllReadyH.cons rfl (fun K hK => ?_) AllReadyH.nil
  refine step_of (by kernel_rfl) ?_
  refine wp_store_newag stT _ _ rfl rfl _ (A := stA va) rfl rfl rfl (stA_one _ _) ?_
  intro w5 hv5 hb5
  have HV5 := Lib.hid hv5
  refine hK.out _ _ (HS0.out.trans (hb5.mono HS0.out.size)) (fun hS => ?_)
  clear hK K hv5 hb5
  refine wpAnyH_take (i := 11) (v := ?_) rfl (by kernel_rfl) (by kernel_rfl) (by kernel_rfl) (fun _ _ _ h => h) (Or.inl ⟨by kernel_rfl, ?_⟩) hS ?_
  rotate_left
  · intro W hSW
    go_simp
    all_goals with_reducible rfl
  go_simp
  refine wpAnyH_done (by kernel_rfl) ?_ _
  go_simp
  have HVF := Lib.hid (show ∀ x, F x → wd.heap.size ≠ x from fun x hx e => by subst e; have := I.out.lF _ hx; have := I.out.z; omega)
  replace I := Lib.hid (I.out.kept hS)
  clear hS HS0
  generalize wd.heap.size = vb at *
  go_upto_if 17 with fail
  go_cut [7] (fun s7 wx => TuH w b A M3 M4 (cutL L n) F n q wx)
  case rest =>
    rename World => wc7
    obtain ⟨D1, hI, hF1⟩ := hcut
    replace I := Lib.hid hI
    have HF1 := Lib.hid hF1
    have HNL := Lib.hid (show lookL (cutL L n) n = none from by rw [lookL_cut, if_pos rfl])
    clear hI hF1 HV5 HVF HMS HWL
    by_cases hto : q = (0, 0)
    · have HE := Lib.hid (show Turned M3 M4 L F n q w (.returned (.tuple #[])) wc7 from ⟨rfl, D1, by unfold turnL; rw [if_pos hto]; exact ⟨I.out.m.more (fun k hk => Or.inl hk) (fun k hk => hk.elim (fun h => I.out.m.lt k h) fun h => h.2), HF1.out.1, HF1.out.2⟩, I.out.t⟩)
      have HQ := Lib.hid (show decide (q = (0, 0)) = true from decide_eq_true hto)
      clear hto
      go_wp2_with (first | (refine wpList_load_ag stT (by kernel_rfl) _ rfl _ rfl (A := stA q) rfl I.out.n1 ?_) | (refine wpList_value (by kernel_rfl) (exec_eql_st rfl q (0, 0) rfl rfl) ?_; rw [HQ.out]))
      go_end0
      exact HE.out
    · have HQ := Lib.hid (show decide (q = (0, 0)) = false from decide_eq_false hto)
      have HTO := Lib.hid hto
      clear hto
      go_upto_region 8 with (first | (refine wpList_load_ag stT (by kernel_rfl) _ rfl _ rfl (A := stA q) rfl I.out.n1 ?_) | (refine wpList_value (by kernel_rfl) (exec_eql_st rfl q (0, 0) rfl rfl) ?_; rw [HQ.out]))
      obtain ⟨ko, hko⟩ : ∃ ko, kidOf D1 q = ko := ⟨_, rfl⟩
      have HKO := Lib.hid hko
      have HEQ := Lib.hid (show ∀ W, Sem.run Tryz.prog (binOp BinOp.eql 136 (Value.map ko) (Value.map none)) W = .ok (.bool ko.isNone) W from fun W => by cases ko with | none => exact map_eq_none W | some x => exact map_eq_some W x)
      clear hko
      have hbd := Below.drew (Below.refl wc7.heap.size wc7)
      replace I := Lib.hid (I.out.kept hbd)
      refine wp_region_held_drew (S := fun W => Below wc7.drew.heap.size wc7.drew W) (by kernel_rfl) (Below.refl _ _) (fun hS => ?_)
      clear hbd
      generalize wc7.drew = wd at *
      refine wpAnyH_take (i := 0) (v := ?_) rfl (by kernel_rfl) (by kernel_rfl) (by kernel_rfl) (fun _ _ _ h => h) (Or.inl ⟨by kernel_rfl, ?_⟩) hS ?_
      rotate_left
      · intro W hSW
        go_simp
        all_goals with_reducible rfl
      refine wpAnyH_take (i := 1) (v := ?_) rfl (by kernel_rfl) (by kernel_rfl) (by kernel_rfl) (fun _ _ _ h => h) (Or.inl ⟨by kernel_rfl, ?_⟩) hS ?_
      rotate_left
      · intro W hSW
        go_simp
        all_goals with_reducible rfl
      refine wpAnyH_take (i := 2) (v := ?_) rfl (by kernel_rfl) (by kernel_rfl) (by kernel_rfl) (fun _ _ _ h => h) (Or.inl ⟨by kernel_rfl, ?_⟩) hS ?_
      rotate_left
      · intro W hSW
        go_simp
        all_goals with_reducible rfl
      refine wpAnyH_take (i := 3) (v := ?_) rfl (by kernel_rfl) (by kernel_rfl) (by kernel_rfl) (fun _ _ _ h => h) (Or.inl ⟨by kernel_rfl, ?_⟩) hS ?_
      rotate_left
      · intro W hSW
        have y := (I.out.kept hSW).c6
        go_simp
        all_goals with_reducible rfl
      go_simp
      refine wpAnyH_take (i := 4) (v := snV q) rfl (by kernel_rfl) (by kernel_rfl) (by kernel_rfl) (fun _ _ _ h => h) (Or.inl ⟨by kernel_rfl, fun W hSW => exec_load_ag stT rfl rfl rfl (I.out.kept hSW).n1⟩) hS ?_
      go_simp
      refine wpAnyH_take (i := 5) (v := .map (ko)) rfl (by kernel_rfl) (by kernel_rfl) (by kernel_rfl) (fun _ _ _ h => h) (Or.inl ⟨by kernel_rfl, fun W hSW => exec_lookup rfl rfl rfl (((I.out.kept hSW).m.lookB q HWT.out).trans (by rw [HKO.out]))⟩) hS ?_
      refine wpAnyH_take (i := 6) (v := ?_) rfl (by kernel_rfl) (by kernel_rfl) (by kernel_rfl) (fun _ _ _ h => h) (Or.inl ⟨by kernel_rfl, ?_⟩) hS ?_
      rotate_left
      · intro W hSW
        have hne := HEQ.out W
        go_simp
        all_goals with_reducible rfl
      go_simp
      refine wpAnyH_done (by kernel_rfl) ?_ _
      go_simp
      replace I := Lib.hid (I.out.kept hS)
      clear hS HEQ
      go_upto_if 52 with fail
      go_cut [] (fun wx => TuK w b A M3 M4 (cutL L n) F n q wx)
      case first =>
        cases ko with
        | some kb =>
          have HE := Lib.hid (show TuK w b A M3 M4 (cutL L n) F n q wd from ⟨D1, F, kb, I.out, (show Ms wd M3 M4 (cutL L n) D1 F from ⟨I.out.m, HF1.out.1, HF1.out.2⟩).halfOld q, HKO.out⟩)
          clear I
          go_wp2
          go_meet
          case rel => exact HE.out
        | none =>
          have HNO := Lib.hid (show lk (belows D1) q = none from by
            have h1 := lk_belows D1 q
            rw [HKO.out] at h1
            cases e : lk (belows D1) q with
            | none => rfl
            | some v =>
              obtain ⟨c, hc, hx⟩ := List.mem_map.1 (lk_mem e)
              cases hx
              exact absurd rfl (kidOf_none HKO.out c hc))
          go_upto_region 9 with fail
          have hbd := Below.drew (Below.refl wd.heap.size wd)
          replace I := Lib.hid (I.out.kept hbd)
          refine wp_region_last_drew 6 (S := fun W => Below wd.drew.heap.size wd.drew W) (by kernel_rfl) (Below.refl _ _) (fun hS => ?_)
          clear hbd
          generalize wd.drew = wh at *
          refine wpAnyL_take (i := 0) (v := ?_) rfl (by kernel_rfl) (by kernel_rfl) (by kernel_rfl) (fun _ _ _ h => h) (Or.inl ⟨by kernel_rfl, ?_⟩) hS (by kernel_rfl) ?_
          rotate_left
          · intro W hSW
            go_simp
            all_goals with_reducible rfl
          refine wpAnyL_take (i := 1) (v := ?_) rfl (by kernel_rfl) (by kernel_rfl) (by kernel_rfl) (fun _ _ _ h => h) (Or.inl ⟨by kernel_rfl, ?_⟩) hS (by kernel_rfl) ?_
          rotate_left
          · intro W hSW
            go_simp
            all_goals with_reducible rfl
          refine wpAnyL_take (i := 2) (v := ?_) rfl (by kernel_rfl) (by kernel_rfl) (by kernel_rfl) (fun _ _ _ h => h) (Or.inl ⟨by kernel_rfl, ?_⟩) hS (by kernel_rfl) ?_
          rotate_left
          · intro W hSW
            go_simp
            all_goals with_reducible rfl
          refine wpAnyL_take (i := 3) (v := ?_) rfl (by kernel_rfl) (by kernel_rfl) (by kernel_rfl) (fun _ _ _ h => h) (Or.inl ⟨by kernel_rfl, ?_⟩) hS (by kernel_rfl) ?_
          rotate_left
          · intro W hSW
            have y := (I.out.kept hSW).c6
            go_simp
            all_goals with_reducible rfl
          go_simp
          refine wpAnyL_take (i := 4) (v := snV q) rfl (by kernel_rfl) (by kernel_rfl) (by kernel_rfl) (fun _ _ _ h => h) (Or.inl ⟨by kernel_rfl, fun W hSW => exec_load_ag stT rfl rfl rfl (I.out.kept hSW).n1⟩) hS (by kernel_rfl) ?_
          go_simp
          refine wpAnyL_ready (rs := [5]) (by kernel_rfl) (by simp) ?_
          refine AllReadyL.cons rfl (fun K hK => ?_) AllReadyL.nil
          have hmm := @run_makeMap Tryz.prog
          go_simp
          have hba := (Below.refl wh.heap.size wh).alloc (Nat.le_refl _) (.map #[] 0)
          have I2 := Lib.hid (I.out.kept hba)
          have HNM := Lib.hid (SMap.made wh)
          have HZM := Lib.hid (show (wh.alloc (.map #[] 0)).heap.size = wh.heap.size + 1 from by simp)
          refine hK.out _ _ (hS.trans (hba.mono hS.size)) (fun hS => ?_)
          clear hK K hba hmm
          generalize wh.alloc (.map #[] 0) = wj at *
          refine wpAnyL_ready (rs := [6]) (by kernel_rfl) (by simp) ?_
          refine AllReadyL.last rfl (fun K hK => ?_)
          obtain ⟨w9, hrun, hm9, ht9, hz9⟩ := I2.out.m.inst.upd mtBelow q (.map (some wh.heap.size)) HWT.out HNO.out
          have J := Lib.hid (I2.out.turn (F3 := fun k => F k ∨ k = wh.heap.size) (Or.inl I.out.m.f4) ht9 (I2.out.m.newKid HNM.out hm9 ht9 (fun h => by have := I.out.lF _ h; have := I.out.z; omega) (by have := HZM.out; omega)) (fun k hk => hk.imp id fun h => by have := HZM.out; have := I.out.z; have := ht9.size; omega) (fun k hk => Or.inl hk))
          refine step_of (by kernel_rfl) ?_
          refine wp_mapUpdate _ _ _ _ rfl (.map (some M4)) (snV q) (.map (some wh.heap.size)) rfl rfl rfl w9 hrun ?_
          refine hK.out _ _ ?_
          clear hK K hrun hS hm9 ht9 hz9
          refine wpAnyL_done (by kernel_rfl) ?_ _
          go_simp
          have HE := Lib.hid (show TuK w b A M3 M4 (cutL L n) F n q w9 from ⟨_, _, _, J.out, (show Ms wh M3 M4 (cutL L n) D1 F from ⟨I.out.m, HF1.out.1, HF1.out.2⟩).halfNew HKO.out _, kidOf_new HKO.out⟩)
          clear I J I2
          go_wp2
          go_meet
          case rel => exact HE.out
      case rest =>
        rename World => wc8
        obtain ⟨D2, F2, kb, hI, hH, hk⟩ := hcut
        replace I := Lib.hid hI
        have HH := Lib.hid hH
        replace HKO := Lib.hid hk
        obtain ⟨kc, hk1, hk2, hk3⟩ := kidOf_some hk
        have HFK := Lib.hid (show F2 kb from by rw [← hk3]; exact I.out.m.fK kc hk1)
        have HKC := Lib.hid (show kc ∈ D2 ∧ kc.p = q ∧ kc.b = kb from ⟨hk1, hk2, hk3⟩)
        have HNN := Lib.hid (show lk (nodesOf kc.l) n = none from by
          rw [lk_nodes, if_neg]
          intro h
          have := ((HH.out.1 kc hk1).2 n).1 h
          rw [HNL.out] at this
          cases this)
        clear hI hH hk hk1 hk2 hk3 HF1
        go_upto_region 10 with fail
        have hbd := Below.drew (Below.refl wc8.heap.size wc8)
        replace I := Lib.hid (I.out.kept hbd)
        refine wp_region_last_drew 8 (S := fun W => Below wc8.drew.heap.size wc8.drew W) (by kernel_rfl) (Below.refl _ _) (fun hS => ?_)
        clear hbd
        have HKI := Lib.hid (show kc ∈ D2 ∧ kc.b = kb ∧ SMap wc8.drew kb (nodesOf kc.l) from ⟨HKC.out.1, HKC.out.2.2, by have := I.out.m.inner kc HKC.out.1; rw [HKC.out.2.2] at this; exact this⟩)
        generalize wc8.drew = wd at *
        refine wpAnyL_take (i := 0) (v := ?_) rfl (by kernel_rfl) (by kernel_rfl) (by kernel_rfl) (fun _ _ _ h => h) (Or.inl ⟨by kernel_rfl, ?_⟩) hS (by kernel_rfl) ?_
        rotate_left
        · intro W hSW
          go_simp
          all_goals with_reducible rfl
        refine wpAnyL_take (i := 1) (v := ?_) rfl (by kernel_rfl) (by kernel_rfl) (by kernel_rfl) (fun _ _ _ h => h) (Or.inl ⟨by kernel_rfl, ?_⟩) hS (by kernel_rfl) ?_
        rotate_left
        · intro W hSW
          go_simp
          all_goals with_reducible rfl
        refine wpAnyL_take (i := 2) (v := ?_) rfl (by kernel_rfl) (by kernel_rfl) (by kernel_rfl) (fun _ _ _ h => h) (Or.inl ⟨by kernel_rfl, ?_⟩) hS (by kernel_rfl) ?_
        rotate_left
        · intro W hSW
          go_simp
          all_goals with_reducible rfl
        refine wpAnyL_take (i := 3) (v := ?_) rfl (by kernel_rfl) (by kernel_rfl) (by kernel_rfl) (fun _ _ _ h => h) (Or.inl ⟨by kernel_rfl, ?_⟩) hS (by kernel_rfl) ?_
        rotate_left
        · intro W hSW
          have y := (I.out.kept hSW).c6
          go_simp
          all_goals with_reducible rfl
        go_simp
        refine wpAnyL_take (i := 4) (v := snV q) rfl (by kernel_rfl) (by kernel_rfl) (by kernel_rfl) (fun _ _ _ h => h) (Or.inl ⟨by kernel_rfl, fun W hSW => exec_load_ag stT rfl rfl rfl (I.out.kept hSW).n1⟩) hS (by kernel_rfl) ?_
        go_simp
        refine wpAnyL_take (i := 5) (v := .map (some kb)) rfl (by kernel_rfl) (by kernel_rfl) (by kernel_rfl) (fun _ _ _ h => h) (Or.inl ⟨by kernel_rfl, fun W hSW => exec_lookup rfl rfl rfl (((I.out.kept hSW).m.lookB q HWT.out).trans (by rw [HKO.out]))⟩) hS (by kernel_rfl) ?_
        go_simp
        refine wpAnyL_take (i := 6) (v := snV n) rfl (by kernel_rfl) (by kernel_rfl) (by kernel_rfl) (fun _ _ _ h => h) (Or.inl ⟨by kernel_rfl, fun W hSW => exec_load_ag stT rfl rfl rfl (I.out.kept hSW).n0⟩) hS (by kernel_rfl) ?_
        refine wpAnyL_take (i := 7) (v := ?_) rfl (by kernel_rfl) (by kernel_rfl) (by kernel_rfl) (fun _ _ _ h => h) (Or.inl ⟨by kernel_rfl, ?_⟩) hS (by kernel_rfl) ?_
        rotate_left
        · intro W hSW
          go_simp
          all_goals with_reducible rfl
        go_simp
        refine wpAnyL_ready (rs := [8]) (by kernel_rfl) (by simp) ?_
        refine AllReadyL.last rfl (fun K hK => ?_)
        obtain ⟨w10, hrun, hm10, ht10, hz10⟩ := HKI.out.2.2.upd mtSet n (.agg #[]) HWN.out HNN.out
        have J := Lib.hid (I.out.turn0 (x := kb) HFK.out ht10 (I.out.m.setKid (f := fun l => l ++ [n]) HKI.out.1 HKI.out.2.1 (by unfold nodesOf; rw [List.map_append]; exact hm10) ht10))
        refine step_of (by kernel_rfl) ?_
        refine wp_mapUpdate _ _ _ _ rfl (.map (some kb)) (snV n) (.agg #[]) rfl rfl rfl w10 hrun ?_
        refine hK.out _ _ ?_
        clear hK K hrun hS hm10 ht10 hz10 HKI
        refine wpAnyL_done (by kernel_rfl) ?_ _
        go_simp
        clear I
        have I := J
        clear J
        rw [HKC.out.2.1] at I
        go_upto_region 11 with fail
        have hbd := Below.drew (Below.refl w10.heap.size w10)
        replace I := Lib.hid (I.out.kept hbd)
        refine wp_region_last_drew 6 (S := fun W => Below w10.drew.heap.size w10.drew W) (by kernel_rfl) (Below.refl _ _) (fun hS => ?_)
        clear hbd
        generalize w10.drew = wd at *
        refine wpAnyL_take (i := 0) (v := ?_) rfl (by kernel_rfl) (by kernel_rfl) (by kernel_rfl) (fun _ _ _ h => h) (Or.inl ⟨by kernel_rfl, ?_⟩) hS (by kernel_rfl) ?_
        rotate_left
        · intro W hSW
          go_simp
          all_goals with_reducible rfl
        refine wpAnyL_take (i := 1) (v := ?_) rfl (by kernel_rfl) (by kernel_rfl) (by kernel_rfl) (fun _ _ _ h => h) (Or.inl ⟨by kernel_rfl, ?_⟩) hS (by kernel_rfl) ?_
        rotate_left
        · intro W hSW
          go_simp
          all_goals with_reducible rfl
        refine wpAnyL_take (i := 2) (v := ?_) rfl (by kernel_rfl) (by kernel_rfl) (by kernel_rfl) (fun _ _ _ h => h) (Or.inl ⟨by kernel_rfl, ?_⟩) hS (by kernel_rfl) ?_
        rotate_left
        · intro W hSW
          go_simp
          all_goals with_reducible rfl
        refine wpAnyL_take (i := 3) (v := ?_) rfl (by kernel_rfl) (by kernel_rfl) (by kernel_rfl) (fun _ _ _ h => h) (Or.inl ⟨by kernel_rfl, ?_⟩) hS (by kernel_rfl) ?_
        rotate_left
        · intro W hSW
          have y := (I.out.kept hSW).c5
          go_simp
          all_goals with_reducible rfl
        go_simp
        refine wpAnyL_take (i := 4) (v := snV n) rfl (by kernel_rfl) (by kernel_rfl) (by kernel_rfl) (fun _ _ _ h => h) (Or.inl ⟨by kernel_rfl, fun W hSW => exec_load_ag stT rfl rfl rfl (I.out.kept hSW).n0⟩) hS (by kernel_rfl) ?_
        go_simp
        refine wpAnyL_take (i := 5) (v := snV q) rfl (by kernel_rfl) (by kernel_rfl) (by kernel_rfl) (fun _ _ _ h => h) (Or.inl ⟨by kernel_rfl, fun W hSW => exec_load_ag stT rfl rfl rfl (I.out.kept hSW).n1⟩) hS (by kernel_rfl) ?_
        go_simp
        refine wpAnyL_ready (rs := [6]) (by kernel_rfl) (by simp) ?_
        refine AllReadyL.last rfl (fun K hK => ?_)
        obtain ⟨w11, hrun, hm11, ht11, hz11⟩ := I.out.m.mast.upd mtMast n (snV q) HWN.out (by rw [lk_masts, HNL.out]; rfl)
        have J := Lib.hid (I.out.turn0 I.out.m.f3 ht11 (I.out.m.newMast hm11 ht11))
        refine step_of (by kernel_rfl) ?_
        refine wp_mapUpdate _ _ _ _ rfl (.map (some M3)) (snV n) (snV q) rfl rfl rfl w11 hrun ?_
        refine hK.out _ _ ?_
        clear hK K hrun hS hm11 ht11 hz11
        refine wpAnyL_done (by kernel_rfl) ?_ _
        go_simp
        clear I
        have HE := Lib.hid (show Turned M3 M4 L F n q w (.returned (.tuple #[])) w11 from ⟨rfl, _, by
          unfold turnL
          rw [if_neg HTO.out]
          have h := HH.out.put (n := n) HNL.out ⟨kc, HKC.out.1, HKC.out.2.1⟩
          exact ⟨J.out.m.more (fun k hk => (J.out.f2 k hk).imp id fun h => ⟨by omega, h.2⟩) (fun k hk => hk.elim (fun h => Nat.lt_of_lt_of_le (J.out.lF k h) J.out.t.size) fun h => h.2), h.1, h.2⟩, J.out.t⟩)
        clear J
        go_wp2
        go_end0
        exact HE.out
  case first =>
   cases ib with
   | false =>
    have HE := Lib.hid (show TuH w b A M3 M4 (cutL L n) F n q w5 from ⟨D, by rw [cutL_none HIB.out.symm]; exact I.out, by rw [cutL_none HIB.out.symm]; exact ⟨HMS.out.full, HMS.out.all⟩⟩)
    clear I HV5
    go_wp2
    go_meet
    case rel => exact HE.out
   | true =>
    have HLK := Lib.hid (show lookL L n = some va from by
      have h1 := HIB.out
      have h2 := HVA.out
      cases e : lookL L n with
      | none => rw [e] at h1; cases h1
      | some m => rw [e] at h2; rw [h2]; rfl)
    have HWV := Lib.hid (HWL.out n va HLK.out)
    obtain ⟨kc, hk1, hk2⟩ := HMS.out.all n va HLK.out
    obtain ⟨kb, hkb⟩ : ∃ kb, kc.b = kb := ⟨_, rfl⟩
    have HKO := Lib.hid (show kidOf D va = some kb from by rw [← hk2, ← hkb]; exact kidOf_of HMS.out.cnd hk1)
    have HNI := Lib.hid (show n ∈ kc.l from ((HMS.out.full kc hk1).2 n).2 (by rw [hk2]; exact HLK.out))
    have HCF := Lib.hid (HMS.out.cutFull HLK.out)
    have HFK := Lib.hid (show F kb from by rw [← hkb]; exact HMS.out.fK kc hk1)
    have HKC := Lib.hid (show kc ∈ D ∧ kc.p = va ∧ kc.b = kb from ⟨hk1, hk2, hkb⟩)
    clear hk1 hk2 hkb
    have HA5 := Lib.hid (And.intro I.out.a5 I.out.a6)
    go_upto_region 3 with fail
    have hbd := Below.drew (Below.refl w5.heap.size w5)
    replace I := Lib.hid (I.out.kept hbd)
    replace HV5 := Lib.hid (AgAt.kept HV5.out hbd)
    refine wp_region_held_drew (S := fun W => AgAt W b A ∧ AgAt W w.heap.size (stA n) ∧ AgAt W vb (stA va)) (by kernel_rfl) ⟨I.out.a, I.out.n0, HV5.out⟩ (fun hS => ?_)
    clear hbd
    generalize w5.drew = wd at *
    refine wpAnyH_take (i := 0) (v := ?_) rfl (by kernel_rfl) (by kernel_rfl) (by kernel_rfl) (fun _ _ _ h => h) (Or.inl ⟨by kernel_rfl, ?_⟩) hS ?_
    rotate_left
    · intro W hSW
      go_simp
      all_goals with_reducible rfl
    refine wpAnyH_take (i := 1) (v := ?_) rfl (by kernel_rfl) (by kernel_rfl) (by kernel_rfl) (fun _ _ _ h => h) (Or.inl ⟨by kernel_rfl, ?_⟩) hS ?_
    rotate_left
    · intro W hSW
      go_simp
      all_goals with_reducible rfl
    refine wpAnyH_take (i := 2) (v := ?_) rfl (by kernel_rfl) (by kernel_rfl) (by kernel_rfl) (fun _ _ _ h => h) (Or.inl ⟨by kernel_rfl, ?_⟩) hS ?_
    rotate_left
    · intro W hSW
      go_simp
      all_goals with_reducible rfl
    refine wpAnyH_take (i := 3) (v := ?_) rfl (by kernel_rfl) (by kernel_rfl) (by kernel_rfl) (fun _ _ _ h => h) (Or.inl ⟨by kernel_rfl, ?_⟩) hS ?_
    rotate_left
    · intro W hSW
      have y : W.cell? ⟨b, 5, none⟩ = some (.map (some M3)) := (AgAt.cell hSW.1 5).trans HA5.out.1
      go_simp
      all_goals with_reducible rfl
    go_simp
    refine wpAnyH_take (i := 4) (v := snV n) rfl (by kernel_rfl) (by kernel_rfl) (by kernel_rfl) (fun _ _ _ h => h) (Or.inl ⟨by kernel_rfl, fun W hSW => exec_load_ag stT rfl rfl rfl hSW.2.1⟩) hS ?_
    go_simp
    refine wpAnyH_ready (rs := [5]) (by kernel_rfl) (by simp) ?_
    refine AllReadyH.cons rfl (fun K hK => ?_) AllReadyH.nil
    obtain ⟨w3, hrun, hm3, ht3, hz3⟩ := I.out.m.mast.del mtMast n HWN.out (by rw [lk_masts, HLK.out]; rfl)
    have J := Lib.hid (I.out.turn0 I.out.m.f3 ht3 (I.out.m.cutMast hm3 ht3))
    have HV6 := Lib.hid (AgAt.block HV5.out (ht3.block _ (AgAt.lt HV5.out) (HVF.out _ (I.out.f1 _ I.out.m.f3))))
    refine step_of (by kernel_rfl) ?_
    refine wp_delete _ _ 89 35 rfl (.map (some M3)) (snV n) rfl rfl w3 (hrun _) ?_
    refine hK.out _ _ ⟨J.out.a, J.out.n0, HV6.out⟩ (fun hS => ?_)
    clear hK K hrun hS
    clear hm3 ht3 hz3
    refine wpAnyH_done (by kernel_rfl) ?_ _
    go_simp
    clear I HV5
    have I := J
    have HV5 := HV6
    clear J HV6
    go_upto_region 4 with fail
    have hbd := Below.drew (Below.refl w3.heap.size w3)
    replace I := Lib.hid (I.out.kept hbd)
    replace HV5 := Lib.hid (AgAt.kept HV5.out hbd)
    refine wp_region_held_drew (S := fun W => AgAt W b A ∧ AgAt W w.heap.size (stA n) ∧ AgAt W vb (stA va) ∧ SMap W M4 (belows D)) (by kernel_rfl) ⟨I.out.a, I.out.n0, HV5.out, I.out.m.inst⟩ (fun hS => ?_)
    clear hbd
    have HKI := Lib.hid (show kc ∈ D ∧ kc.b = kb ∧ SMap w3.drew kb (nodesOf kc.l) from ⟨HKC.out.1, HKC.out.2.2, by have := I.out.m.inner kc HKC.out.1; rw [HKC.out.2.2] at this; exact this⟩)
    generalize w3.drew = wd at *
    refine wpAnyH_take (i := 0) (v := ?_) rfl (by kernel_rfl) (by kernel_rfl) (by kernel_rfl) (fun _ _ _ h => h) (Or.inl ⟨by kernel_rfl, ?_⟩) hS ?_
    rotate_left
    · intro W hSW
      go_simp
      all_goals with_reducible rfl
    refine wpAnyH_take (i := 1) (v := ?_) rfl (by kernel_rfl) (by kernel_rfl) (by kernel_rfl) (fun _ _ _ h => h) (Or.inl ⟨by kernel_rfl, ?_⟩) hS ?_
    rotate_left
    · intro W hSW
      go_simp
      all_goals with_reducible rfl
    refine wpAnyH_take (i := 2) (v := ?_) rfl (by kernel_rfl) (by kernel_rfl) (by kernel_rfl) (fun _ _ _ h => h) (Or.inl ⟨by kernel_rfl, ?_⟩) hS ?_
    rotate_left
    · intro W hSW
      go_simp
      all_goals with_reducible rfl
    refine wpAnyH_take (i := 3) (v := ?_) rfl (by kernel_rfl) (by kernel_rfl) (by kernel_rfl) (fun _ _ _ h => h) (Or.inl ⟨by kernel_rfl, ?_⟩) hS ?_
    rotate_left
    · intro W hSW
      have y : W.cell? ⟨b, 6, none⟩ = some (.map (some M4)) := (AgAt.cell hSW.1 6).trans HA5.out.2
      go_simp
      all_goals with_reducible rfl
    go_simp
    refine wpAnyH_take (i := 4) (v := snV va) rfl (by kernel_rfl) (by kernel_rfl) (by kernel_rfl) (fun _ _ _ h => h) (Or.inl ⟨by kernel_rfl, fun W hSW => exec_load_ag stT rfl rfl rfl hSW.2.2.1⟩) hS ?_
    go_simp
    refine wpAnyH_take (i := 5) (v := .map (some kb)) rfl (by kernel_rfl) (by kernel_rfl) (by kernel_rfl) (fun _ _ _ h => h) (Or.inl ⟨by kernel_rfl, fun W hSW => exec_lookup rfl rfl rfl ((hSW.2.2.2.look mtBelow va HWV.out).trans (by rw [lk_belows, HKO.out]))⟩) hS ?_
    go_simp
    refine wpAnyH_take (i := 6) (v := snV n) rfl (by kernel_rfl) (by kernel_rfl) (by kernel_rfl) (fun _ _ _ h => h) (Or.inl ⟨by kernel_rfl, fun W hSW => exec_load_ag stT rfl rfl rfl hSW.2.1⟩) hS ?_
    go_simp
    refine wpAnyH_ready (rs := [7]) (by kernel_rfl) (by simp) ?_
    refine AllReadyH.cons rfl (fun K hK => ?_) AllReadyH.nil
    obtain ⟨w4, hrun, hm4, ht4, hz4⟩ := HKI.out.2.2.del mtSet n HWN.out (by rw [lk_nodes, if_pos HNI.out]; rfl)
    have J := Lib.hid (I.out.turn0 (x := kb) HFK.out ht4 (I.out.m.setKid (f := fun l => l.filter fun m => !(m == n)) HKI.out.1 HKI.out.2.1 (by have := hm4; unfold nodesOf at this ⊢; rw [List.filter_map] at this; exact this) ht4))
    have HV6 := Lib.hid (AgAt.block HV5.out (ht4.block _ (AgAt.lt HV5.out) (HVF.out _ HFK.out)))
    have HK6 := Lib.hid (show SMap w4 kb (nodesOf (kc.l.filter fun m => !(m == n))) from by have := hm4; unfold nodesOf at this ⊢; rw [List.filter_map] at this; exact this)
    refine step_of (by kernel_rfl) ?_
    refine wp_delete _ _ 136 35 rfl (.map (some kb)) (snV n) rfl rfl w4 (hrun _) ?_
    refine hK.out _ _ ⟨J.out.a, J.out.n0, HV6.out, (by have := J.out.m.inst; rwa [belows_setKid] at this)⟩ (fun hS => ?_)
    clear hK K hrun hS
    clear hm4 ht4 hz4 HKI
    refine wpAnyH_done (by kernel_rfl) ?_ _
    go_simp
    clear I HV5
    have I := J
    have HV5 := HV6
    clear J HV6
    rw [HKC.out.2.1] at I
    obtain ⟨D2, hD2⟩ : ∃ D2, D2 = setKid D va (fun l => l.filter fun m => !(m == n)) := ⟨_, rfl⟩
    have HKO2 := Lib.hid (show kidOf D2 va = some kb from by
      obtain ⟨c', hc', he⟩ := setKid_mem (p := va) (f := fun l => l.filter fun m => !(m == n)) HKC.out.1
      have h0 := I.out.m.cnd
      obtain ⟨c, hc, k1, k2, -⟩ := mem_setKid hc'
      have h1 := kidOf_of h0 hc'
      rw [he, HKC.out.2.1] at h1
      have h3 : c = kc := one_of HMS.out.cnd hc HKC.out.1 (k1.symm.trans he)
      rw [hD2, h1, k2, h3, HKC.out.2.2])
    have HDL := Lib.hid (show ∀ c ∈ D2, c.p = va → c.l = kc.l.filter fun m => !(m == n) from fun c' hc' he => by
      rw [hD2] at hc'
      obtain ⟨c, hc, k1, k2, k3, -⟩ := mem_setKid hc'
      have h3 : c = kc := one_of HMS.out.cnd hc HKC.out.1 (k1.symm.trans (he.trans HKC.out.2.1.symm))
      rw [k3 (k1.symm.trans he), h3])
    rw [← hD2] at I HCF
    have HLN := Lib.hid (show ∀ W, Below w4.drew.heap.size w4.drew W → (Builtin.len_ #[136] 3 #[.map (some kb)]).run Tryz.prog W = .ok (.int .i64 ((kc.l.filter fun m => !(m == n)).length : Int)) W from fun W hW => by
      have h1 := ((HK6.out.below (Below.drew (Below.refl _ _))).below hW).len mtSet 3
      unfold nodesOf at h1
      rw [List.length_map] at h1
      exact h1)
    clear hD2 HKC HNI HK6 HKO HFK
    generalize kc.l.filter (fun m => !(m == n)) = nl at *
    obtain ⟨eb, heb⟩ : ∃ eb, eb = decide (nl.length = 0) := ⟨_, rfl⟩
    have HEB := Lib.hid heb
    have HD0 := Lib.hid (show (((nl.length : Nat) : Int) == 0) = eb from by rw [heb, Bool.eq_iff_iff, beq_iff_eq, decide_eq_true_eq]; omega)
    clear heb
    go_upto_region 5 with fail
    have hbd := Below.drew (Below.refl w4.heap.size w4)
    replace I := Lib.hid (I.out.kept hbd)
    replace HV5 := Lib.hid (AgAt.kept HV5.out hbd)
    refine wp_region_held_drew (S := fun W => Below w4.drew.heap.size w4.drew W) (by kernel_rfl) (Below.refl _ _) (fun hS => ?_)
    clear hbd
    generalize w4.drew = wd at *
    refine wpAnyH_take (i := 0) (v := ?_) rfl (by kernel_rfl) (by kernel_rfl) (by kernel_rfl) (fun _ _ _ h => h) (Or.inl ⟨by kernel_rfl, ?_⟩) hS ?_
    rotate_left
    · intro W hSW
      go_simp
      all_goals with_reducible rfl
    refine wpAnyH_take (i := 1) (v := ?_) rfl (by kernel_rfl) (by kernel_rfl) (by kernel_rfl) (fun _ _ _ h => h) (Or.inl ⟨by kernel_rfl, ?_⟩) hS ?_
    rotate_left
    · intro W hSW
      go_simp
      all_goals with_reducible rfl
    refine wpAnyH_take (i := 2) (v := ?_) rfl (by kernel_rfl) (by kernel_rfl) (by kernel_rfl) (fun _ _ _ h => h) (Or.inl ⟨by kernel_rfl, ?_⟩) hS ?_
    rotate_left
    · intro W hSW
      go_simp
      all_goals with_reducible rfl
    refine wpAnyH_take (i := 3) (v := ?_) rfl (by kernel_rfl) (by kernel_rfl) (by kernel_rfl) (fun _ _ _ h => h) (Or.inl ⟨by kernel_rfl, ?_⟩) hS ?_
    rotate_left
    · intro W hSW
      have y := (I.out.kept hSW).c6
      go_simp
      all_goals with_reducible rfl
    go_simp
    refine wpAnyH_take (i := 4) (v := snV va) rfl (by kernel_rfl) (by kernel_rfl) (by kernel_rfl) (fun _ _ _ h => h) (Or.inl ⟨by kernel_rfl, fun W hSW => exec_load_ag stT rfl rfl rfl (AgAt.kept HV5.out hSW)⟩) hS ?_
    go_simp
    refine wpAnyH_take (i := 5) (v := .map (some kb)) rfl (by kernel_rfl) (by kernel_rfl) (by kernel_rfl) (fun _ _ _ h => h) (Or.inl ⟨by kernel_rfl, fun W hSW => exec_lookup rfl rfl rfl (((I.out.kept hSW).m.lookB va HWV.out).trans (by rw [HKO2.out]))⟩) hS ?_
    refine wpAnyH_take (i := 6) (v := ?_) rfl (by kernel_rfl) (by kernel_rfl) (by kernel_rfl) (fun _ _ _ h => h) (Or.inl ⟨by kernel_rfl, ?_⟩) hS ?_
    rotate_left
    · intro W hSW
      have hln := HLN.out W hSW
      go_simp
      all_goals with_reducible rfl
    refine wpAnyH_take (i := 7) (v := ?_) rfl (by kernel_rfl) (by kernel_rfl) (by kernel_rfl) (fun _ _ _ h => h) (Or.inl ⟨by kernel_rfl, ?_⟩) hS ?_
    rotate_left
    · intro W hSW
      have d0 := HD0.out
      go_simp
      all_goals with_reducible rfl
    go_simp
    refine wpAnyH_done (by kernel_rfl) ?_ _
    go_simp
    replace I := Lib.hid (I.out.kept hS)
    replace HV5 := Lib.hid (AgAt.kept HV5.out hS)
    clear hS HLN
    cases eb with
    | false =>
      have HE := Lib.hid (show TuH w b A M3 M4 (cutL L n) F n q wd from ⟨D2, I.out, HCF.out.keep fun c hc he => by rw [HDL.out c hc he]; intro h; rw [h] at HEB; exact absurd HEB.out (by decide)⟩)
      clear I HV5
      go_wp2
      go_meet
      case rel => exact HE.out
    | true =>
      go_upto_region 6 with fail
      have hbd := Below.drew (Below.refl wd.heap.size wd)
      replace I := Lib.hid (I.out.kept hbd)
      replace HV5 := Lib.hid (AgAt.kept HV5.out hbd)
      refine wp_region_held_drew (S := fun W => AgAt W b A ∧ AgAt W w.heap.size (stA n) ∧ AgAt W vb (stA va)) (by kernel_rfl) ⟨I.out.a, I.out.n0, HV5.out⟩ (fun hS => ?_)
      clear hbd
      generalize wd.drew = we at *
      refine wpAnyH_take (i := 0) (v := ?_) rfl (by kernel_rfl) (by kernel_rfl) (by kernel_rfl) (fun _ _ _ h => h) (Or.inl ⟨by kernel_rfl, ?_⟩) hS ?_
      rotate_left
      · intro W hSW
        go_simp
        all_goals with_reducible rfl
      refine wpAnyH_take (i := 1) (v := ?_) rfl (by kernel_rfl) (by kernel_rfl) (by kernel_rfl) (fun _ _ _ h => h) (Or.inl ⟨by kernel_rfl, ?_⟩) hS ?_
      rotate_left
      · intro W hSW
        go_simp
        all_goals with_reducible rfl
      refine wpAnyH_take (i := 2) (v := ?_) rfl (by kernel_rfl) (by kernel_rfl) (by kernel_rfl) (fun _ _ _ h => h) (Or.inl ⟨by kernel_rfl, ?_⟩) hS ?_
      rotate_left
      · intro W hSW
        go_simp
        all_goals with_reducible rfl
      refine wpAnyH_take (i := 3) (v := ?_) rfl (by kernel_rfl) (by kernel_rfl) (by kernel_rfl) (fun _ _ _ h => h) (Or.inl ⟨by kernel_rfl, ?_⟩) hS ?_
      rotate_left
      · intro W hSW
        have y : W.cell? ⟨b, 6, none⟩ = some (.map (some M4)) := (AgAt.cell hSW.1 6).trans HA5.out.2
        go_simp
        all_goals with_reducible rfl
      go_simp
      refine wpAnyH_take (i := 4) (v := snV va) rfl (by kernel_rfl) (by kernel_rfl) (by kernel_rfl) (fun _ _ _ h => h) (Or.inl ⟨by kernel_rfl, fun W hSW => exec_load_ag stT rfl rfl rfl hSW.2.2⟩) hS ?_
      go_simp
      refine wpAnyH_ready (rs := [5]) (by kernel_rfl) (by simp) ?_
      refine AllReadyH.cons rfl (fun K hK => ?_) AllReadyH.nil
      obtain ⟨w6, hrun, hm6, ht6, hz6⟩ := I.out.m.inst.del mtBelow va HWV.out (by rw [lk_some_of HKO2.out]; rfl)
      have J := Lib.hid (I.out.turn0 I.out.m.f4 ht6 (I.out.m.cutKid hm6 ht6))
      have HV6 := Lib.hid (AgAt.block HV5.out (ht6.block _ (AgAt.lt HV5.out) (HVF.out _ (I.out.f1 _ I.out.m.f4))))
      refine step_of (by kernel_rfl) ?_
      refine wp_delete _ _ 90 35 rfl (.map (some M4)) (snV va) rfl rfl w6 (hrun _) ?_
      refine hK.out _ _ ⟨J.out.a, J.out.n0, HV6.out⟩ (fun hS => ?_)
      clear hK K hrun hS
      clear hm6 ht6 hz6
      refine wpAnyH_done (by kernel_rfl) ?_ _
      go_simp
      clear I HV5 HV6
      have HE := Lib.hid (show TuH w b A M3 M4 (cutL L n) F n q w6 from ⟨_, J.out, HCF.out.drop fun c hc he => by rw [HDL.out c hc he]; exact List.length_eq_zero_iff.1 (of_decide_eq_true HEB.out.symm)⟩)
      clear J
      go_wp2
      go_meet
      case rel => exact HE.out
end Go.Proofs.YthifdefjmfakgaaGreat
