/-
  GRAPHPASSED, plainly: the last op of all, done or passed over.
  No conditions.
-/
import Derived.Test.YthifdefjmfakgaaG3
namespace Go.Proofs.Ythifdefjmfakgaa.Gm
open Go.Proofs.Ythifdefjmfakgaa

def lowB (w : Pm.Wr) : Bool := decide (w.s.1 < 549755813888)
def lowsG (l : List Pm.Wr) : List Pm.Wr := l.filter lowB
theorem lowsG_yes {l : List Pm.Wr} {w : Pm.Wr} (h : w.s.1 < 549755813888) : lowsG (l ++ [w]) = lowsG l ++ [w] := by
  unfold lowsG
  rw [List.filter_append, List.filter_cons_of_pos (by simp [lowB, h])]
  rfl
theorem lowsG_no {l : List Pm.Wr} {w : Pm.Wr} (h : ¬ w.s.1 < 549755813888) : lowsG (l ++ [w]) = lowsG l := by
  unfold lowsG
  rw [List.filter_append, List.filter_cons_of_neg (by simp [lowB, h])]
  simp
theorem lowsG_len (l : List Pm.Wr) : (lowsG l).length ≤ l.length := List.length_filter_le _ _
/-- ops that all stand ahead of the last one's stamp -/
structure Low (ops : List Pm.Wr) : Prop where
  ok : Ops ops
  lt : ∀ x ∈ ops, Qm.ltS x.s (1099511627776, 0)
theorem low_lows (l : List Pm.Wr) : Low (insAll (lowsG l)) := ⟨ops_all _, fun x hx => by
  have h1 := (List.mem_filter.1 (all_mem hx).1).2
  have h2 : x.s.1 < 549755813888 := of_decide_eq_true h1
  exact Or.inl (by show x.s.1 < 1099511627776; omega)⟩
section
variable {ops : List Pm.Wr} {x : Opp}
theorem Low.there (h : Low ops) : there ops (1099511627776, 0) = false := by
  cases e : Gm.there ops (1099511627776, 0) with
  | false => rfl
  | true =>
    obtain ⟨y, hy, hs⟩ := there_iff.1 e
    have := h.lt y hy
    rw [hs] at this
    exact absurd this (Qm.ltS_irrefl _)
theorem Low.spot (h : Low ops) : Spot ops (1099511627776, 0) ops.length := ⟨Nat.le_refl _, fun x hx => h.lt x (by rw [List.take_length] at hx; exact hx), fun x hx => by rw [List.drop_length] at hx; cases hx⟩
theorem Low.place (h : Low ops) : place ops (1099511627776, 0) = ops.length := Spot.uniq (place_spot h.ok.up h.there) h.spot
theorem Low.zero (h : Low ops) : insN ops ⟨(1099511627776, 0), x⟩ = 0 := by
  unfold insN
  split
  · show ops.length - Gm.place ops (1099511627776, 0) = 0
    rw [h.place]; omega
  · rfl
theorem Low.err (h : Low ops) : insE ops ⟨(1099511627776, 0), x⟩ = 0 ∨ insE ops ⟨(1099511627776, 0), x⟩ = 1 ∨ insE ops ⟨(1099511627776, 0), x⟩ = 42 := by
  unfold insE
  rw [show Gm.there ops (⟨(1099511627776, 0), x⟩ : Pm.Wr).s = false from h.there]
  split
  · split
    · exact Or.inl rfl
    · exact Or.inr (Or.inr rfl)
  · exact Or.inr (Or.inl rfl)
theorem Low.snoc (h : Low ops) (he : insE ops ⟨(1099511627776, 0), x⟩ = 0) : insO ops ⟨(1099511627776, 0), x⟩ = ops ++ [⟨(1099511627776, 0), x⟩] := by
  unfold insO
  rw [if_pos he]
  unfold insAt
  rw [show Gm.place ops (⟨(1099511627776, 0), x⟩ : Pm.Wr).s = ops.length from h.place, List.take_length, List.drop_length]
theorem Low.did (h : Low ops) (he : insE ops ⟨(1099511627776, 0), x⟩ = 0) : Did (insO ops ⟨(1099511627776, 0), x⟩) (1099511627776, 0) ↔ (tryG (run ops) ⟨(1099511627776, 0), x⟩).isSome = true := by
  have ho := h.ok.insO ⟨(1099511627776, 0), x⟩
  rw [h.snoc he] at ho ⊢
  have h1 := did_at ho (i := ops.length) (x := ⟨(1099511627776, 0), x⟩) (by simp)
  rw [List.take_left'] at h1
  · exact h1
  · rfl
/-- what is passed over changes nothing -/
theorem Low.bad (h : Low ops) (hb : insE ops ⟨(1099511627776, 0), x⟩ ≠ 0 ∨ ¬ Did (insO ops ⟨(1099511627776, 0), x⟩) (1099511627776, 0)) : run ops = run (insO ops ⟨(1099511627776, 0), x⟩) := by
  by_cases he : insE ops ⟨(1099511627776, 0), x⟩ = 0
  · have h1 := hb.resolve_left fun h => h he
    rw [h.did he] at h1
    rw [h.snoc he, run_snoc]
    unfold aft
    cases e : tryG (run ops) ⟨(1099511627776, 0), x⟩ with
    | none => rfl
    | some g => rw [e] at h1; exact absurd rfl h1
  · rw [insO_bad he]
/-- what is done says where its node is, or what it points to -/
structure Says (ops ops' : List Pm.Wr) (x : Opp) : Prop where
  ok : rightO x = true
  kind : x.k = 1 ∨ x.k = 2 ∨ x.k = 5
  create : x.k = 1 → (run ops').s (1099511627776, 0) = some (if has (run ops) (ref x) = true then ref x else (0, 1), x.key)
  move : x.k = 2 → (run ops').s (node x) = some (ref x, x.key)
  point : x.k = 5 → (run ops').m (node x) = if ref x = (0, 0) then none else some (ref x)
theorem Low.says (h : Low ops) (he : insE ops ⟨(1099511627776, 0), x⟩ = 0) (hd : Did (insO ops ⟨(1099511627776, 0), x⟩) (1099511627776, 0)) : Says ops (insO ops ⟨(1099511627776, 0), x⟩) x := by
  have hk := okX_iff.1 (insE_ok.1 he).1
  obtain ⟨g', hg⟩ := Option.isSome_iff_exists.1 ((h.did he).1 hd)
  have hr : run (insO ops ⟨(1099511627776, 0), x⟩) = g' := by
    rw [h.snoc he, run_snoc]
    unfold aft
    rw [hg]; rfl
  refine ⟨hk.2.1, hk.2.2, fun k => ?_, fun k => ?_, fun k => ?_⟩
  all_goals rw [hr]
  all_goals unfold tryG at hg
  · rw [if_pos k] at hg
    cases hg
    simp only [upd_self]
  · rw [if_neg (show ¬ x.k = 1 by omega)] at hg
    split at hg
    · cases hg
    · (try rw [if_pos k] at hg)
      cases hg
      simp only [upd_self]
  · rw [if_neg (show ¬ x.k = 1 by omega)] at hg
    split at hg
    · cases hg
    · (try rw [if_neg (show ¬ x.k = 2 by omega)] at hg)
      cases hg
      simp only [upd_self]
end
end Go.Proofs.Ythifdefjmfakgaa.Gm
