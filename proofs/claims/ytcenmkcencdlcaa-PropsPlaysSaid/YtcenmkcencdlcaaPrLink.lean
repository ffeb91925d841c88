/-
  THE DOCUMENT's LIST AND THE REGISTERS tell the same, plainly.
  No conditions.
-/
import Derived.Test.YtcenmkcencdlcaaGJ
namespace Go.Proofs.Ytcenmkcencdlcaa.Pm
open Go.Proofs.Ytcenmkcencdlcaa

def val (x : Opp) : Vl := (x.vk, x.vn, x.vt)
theorem sameN_iff {a b : Opp} : sameN a b = true ↔ bare a = bare b := sameO_iff
theorem bare_eq {a b : Opp} (h : bare a = bare b) : a.k = b.k ∧ a.nt = b.nt ∧ a.nr = b.nr ∧ a.path = b.path ∧ a.p = b.p := by
  unfold bare at h
  simp only [Opp.mk.injEq] at h
  exact ⟨h.1, h.2.1, h.2.2.1, h.2.2.2.2.2.2.1, h.2.2.2.2.2.2.2.1⟩
theorem bare_of {a b : Opp} (h1 : a.k = b.k) (h2 : a.nt = b.nt) (h3 : a.nr = b.nr) (h4 : a.path = b.path) (h5 : a.p = b.p) (h6 : a.rt = b.rt) (h7 : a.rr = b.rr) (h8 : a.key = b.key) : bare a = bare b := by
  unfold bare
  rw [h1, h2, h3, h4, h5, h6, h7, h8]
theorem kept_mem {ws : List Wr} {w : Wr} (h : w ∈ ws.filter kept) : w ∈ ws ∧ okW w = true ∧ (w.x.k = 3 ∨ w.x.k = 4 ∨ w.x.k = 6) := by
  have := List.mem_filter.1 h
  exact ⟨this.1, kept_iff.1 this.2⟩
theorem unkept_V (w : Wr) (h : kept w = false) : hV w = none := by
  cases e : hV w with
  | none => rfl
  | some p => have := kept_iff.2 ⟨(hV_ok e).1, Or.inl (hV_ok e).2⟩; rw [h] at this; cases this
theorem unkept_M (w : Wr) (h : kept w = false) : hM w = none := by
  cases e : hM w with
  | none => rfl
  | some p => have := kept_iff.2 ⟨(hM_ok e).1, Or.inr (Or.inl (hM_ok e).2)⟩; rw [h] at this; cases this
theorem unkept_O (w : Wr) (h : kept w = false) : hO w = none := by
  cases e : hO w with
  | none => rfl
  | some p => have := kept_iff.2 ⟨(hO_ok e).1, Or.inr (Or.inr (hO_ok e).2)⟩; rw [h] at this; cases this
theorem hV_eq {w : Wr} (h : okW w = true) (k : w.x.k = 3) : hV w = some (nameV (w.x.nt, w.x.nr) w.x.p, val w.x) := by unfold hV; rw [if_pos ⟨h, k⟩]; rfl
theorem hM_eq {w : Wr} (h : okW w = true) (k : w.x.k = 4) : hM w = some (nameM (w.x.nt, w.x.nr), w.x.on) := by unfold hM; rw [if_pos ⟨h, k⟩]
theorem hO_eq {w : Wr} (h : okW w = true) (k : w.x.k = 6) : hO w = some (nameO (w.x.nt, w.x.nr) w.x.path w.x.p, val w.x) := by unfold hO; rw [if_pos ⟨h, k⟩]; rfl
theorem linkV (ws : List Wr) {q : Opp} (hq : QV q) : val (lastR (ws.filter kept) q).2 = ((allR ws).v (nameV (q.nt, q.nr) q.p)).2 := by
  rw [allR_eq]
  show _ = (all hV z0 ws _).2
  unfold all
  rw [← all_filter kept unkept_V]
  refine (link hV z0 (nameV (q.nt, q.nr) q.p) val q rfl (ws.filter kept) _ _ (fun w hw => ⟨fun hs => ?_, fun hs v hv => ?_⟩) rfl rfl).2
  · obtain ⟨h1, h2, h3, h4, h5⟩ := bare_eq (sameN_iff.1 hs)
    rw [hV_eq (kept_mem hw).2.1 (by rw [h1, hq.k]), h2, h3, h5]
  · have hk := hV_ok hv
    rw [hV_eq hk.1 hk.2] at hv
    simp only [Option.some.injEq, Prod.mk.injEq, nameV, List.cons.injEq, and_true] at hv
    have h3 := right_QV (okW_right hk.1) hk.2
    have : sameN w.x q = true := sameN_iff.2 (bare_of (by rw [h3.k, hq.k]) hv.1.1 hv.1.2.1 (by rw [h3.path, hq.path]) hv.1.2.2 (by rw [h3.rt, hq.rt]) (by rw [h3.rr, hq.rr]) (by rw [h3.key, hq.key]))
    rw [hs] at this
    cases this
theorem linkM (ws : List Wr) {q : Opp} (hq : QM q) : (lastR (ws.filter kept) q).2.on = ((allR ws).m (nameM (q.nt, q.nr))).2 := by
  rw [allR_eq]
  show _ = (all hM false ws _).2
  unfold all
  rw [← all_filter kept unkept_M]
  refine (link hM false (nameM (q.nt, q.nr)) (·.on) q rfl (ws.filter kept) _ _ (fun w hw => ⟨fun hs => ?_, fun hs v hv => ?_⟩) rfl rfl).2
  · obtain ⟨h1, h2, h3, h4, h5⟩ := bare_eq (sameN_iff.1 hs)
    rw [hM_eq (kept_mem hw).2.1 (by rw [h1, hq.k]), h2, h3]
  · have hk := hM_ok hv
    rw [hM_eq hk.1 hk.2] at hv
    simp only [Option.some.injEq, Prod.mk.injEq, nameM, List.cons.injEq, and_true] at hv
    have h3 := right_QM (okW_right hk.1) hk.2
    have : sameN w.x q = true := sameN_iff.2 (bare_of (by rw [h3.k, hq.k]) hv.1.1 hv.1.2 (by rw [h3.path, hq.path]) (by rw [h3.p, hq.p]) (by rw [h3.rt, hq.rt]) (by rw [h3.rr, hq.rr]) (by rw [h3.key, hq.key]))
    rw [hs] at this
    cases this
theorem linkO (ws : List Wr) {q : Opp} (hq : QO q) : val (lastR (ws.filter kept) q).2 = ((allR ws).o (nameO (q.nt, q.nr) q.path q.p)).2 := by
  rw [allR_eq]
  show _ = (all hO z0 ws _).2
  unfold all
  rw [← all_filter kept unkept_O]
  refine (link hO z0 (nameO (q.nt, q.nr) q.path q.p) val q rfl (ws.filter kept) _ _ (fun w hw => ⟨fun hs => ?_, fun hs v hv => ?_⟩) rfl rfl).2
  · obtain ⟨h1, h2, h3, h4, h5⟩ := bare_eq (sameN_iff.1 hs)
    rw [hO_eq (kept_mem hw).2.1 (by rw [h1, hq.k]), h2, h3, h4, h5]
  · have hk := hO_ok hv
    rw [hO_eq hk.1 hk.2] at hv
    simp only [Option.some.injEq, Prod.mk.injEq] at hv
    have h3 := right_QO (okW_right hk.1) hk.2
    obtain ⟨e1, e2, e3⟩ := nameO_inj h3.2 hv.1
    have : sameN w.x q = true := sameN_iff.2 (bare_of (by rw [h3.1.k, hq.k]) (congrArg Prod.fst e1) (congrArg Prod.snd e1) e2 e3 (by rw [h3.1.rt, hq.rt]) (by rw [h3.1.rr, hq.rr]) (by rw [h3.1.key, hq.key]))
    rw [hs] at this
    cases this
theorem lastS_mem (q : Opp) : ∀ (l : List Wr) (a : Qm.St × Opp), (l.foldl (lastS q) a).2 = a.2 ∨ ∃ w ∈ l, sameN w.x q = true ∧ (l.foldl (lastS q) a).2 = w.x
  | [], a => Or.inl rfl
  | w :: l, a => by
    rw [List.foldl_cons]
    rcases lastS_mem q l (lastS q a w) with h | ⟨v, hv, h1, h2⟩
    · by_cases hc : sameN w.x q = true ∧ Qm.ltS a.1 w.s
      · refine Or.inr ⟨w, List.mem_cons_self .., hc.1, ?_⟩
        rw [h]
        unfold lastS
        rw [if_pos hc]
      · left
        rw [h]
        unfold lastS
        rw [if_neg hc]
    · exact Or.inr ⟨v, List.mem_cons_of_mem _ hv, h1, h2⟩
theorem last_on {ws : List Wr} {q : Opp} (hq : q.k = 3 ∨ q.k = 6) : (lastR (ws.filter kept) q).2.on = false := by
  rcases lastS_mem q (ws.filter kept) ((0, 0), Opp.zero) with h | ⟨w, hw, h1, h2⟩
  · unfold lastR; rw [h]; rfl
  · unfold lastR
    rw [h2]
    have hk := kept_mem hw
    have hr := (rightO_fit (okW_right hk.2.1)).2
    have e := (bare_eq (sameN_iff.1 h1)).1
    rcases hq with hq | hq
    · rw [e, hq] at hr
      simp [aloneO, prt] at hr
      exact hr.2
    · rw [e, hq] at hr
      simp [aloneO, prt] at hr
      exact hr.2
theorem last_val {ws : List Wr} {q : Opp} (hq : q.k = 4) : val (lastR (ws.filter kept) q).2 = z0 := by
  rcases lastS_mem q (ws.filter kept) ((0, 0), Opp.zero) with h | ⟨w, hw, h1, h2⟩
  · unfold lastR; rw [h]; rfl
  · unfold lastR
    rw [h2]
    have hk := kept_mem hw
    have hr := (rightO_fit (okW_right hk.2.1)).2
    have e := (bare_eq (sameN_iff.1 h1)).1
    rw [e, hq] at hr
    simp [aloneO, prt, isV] at hr
    unfold val z0
    rw [hr.2.2.1.1, hr.2.2.1.2, hr.2.2.2]
/-- the document's Same -/
def SameL (a b : List Wr) : Prop := ∀ w ∈ a ++ b, val (lastR a w.x).2 = val (lastR b w.x).2 ∧ (lastR a w.x).2.on = (lastR b w.x).2.on
theorem same_iff (wa wb : List Wr) : SameL (wa.filter kept) (wb.filter kept) ↔ Same (allR wa) (allR wb) := by
  constructor
  · intro h
    have key : ∀ w, (w ∈ wa ∨ w ∈ wb) → kept w = true → val (lastR (wa.filter kept) w.x).2 = val (lastR (wb.filter kept) w.x).2 ∧ (lastR (wa.filter kept) w.x).2.on = (lastR (wb.filter kept) w.x).2.on := fun w hw hk => by
      refine h w (List.mem_append.2 ?_)
      rcases hw with hw | hw
      · exact Or.inl (List.mem_filter.2 ⟨hw, hk⟩)
      · exact Or.inr (List.mem_filter.2 ⟨hw, hk⟩)
    have kV : ∀ w, (w ∈ wa ∨ w ∈ wb) → ∀ n v, hV w = some (n, v) → ((allR wa).v n).2 = ((allR wb).v n).2 := fun w hw n v e => by
      have hk := hV_ok e
      have h1 := (key w hw (kept_iff.2 ⟨hk.1, Or.inl hk.2⟩)).1
      rw [hV_eq hk.1 hk.2] at e
      cases e
      rwa [linkV wa (right_QV (okW_right hk.1) hk.2), linkV wb (right_QV (okW_right hk.1) hk.2)] at h1
    have kM : ∀ w, (w ∈ wa ∨ w ∈ wb) → ∀ n v, hM w = some (n, v) → ((allR wa).m n).2 = ((allR wb).m n).2 := fun w hw n v e => by
      have hk := hM_ok e
      have h1 := (key w hw (kept_iff.2 ⟨hk.1, Or.inr (Or.inl hk.2)⟩)).2
      rw [hM_eq hk.1 hk.2] at e
      cases e
      rwa [linkM wa (right_QM (okW_right hk.1) hk.2), linkM wb (right_QM (okW_right hk.1) hk.2)] at h1
    have kO : ∀ w, (w ∈ wa ∨ w ∈ wb) → ∀ n v, hO w = some (n, v) → ((allR wa).o n).2 = ((allR wb).o n).2 := fun w hw n v e => by
      have hk := hO_ok e
      have h1 := (key w hw (kept_iff.2 ⟨hk.1, Or.inr (Or.inr hk.2)⟩)).1
      rw [hO_eq hk.1 hk.2] at e
      cases e
      rwa [linkO wa (right_QO (okW_right hk.1) hk.2).1, linkO wb (right_QO (okW_right hk.1) hk.2).1] at h1
    have tv : ∀ ws : List Wr, (allR ws).v = all hV z0 ws := fun ws => by rw [allR_eq]
    have tm : ∀ ws : List Wr, (allR ws).m = all hM false ws := fun ws => by rw [allR_eq]
    have tq : ∀ ws : List Wr, (allR ws).o = all hO z0 ws := fun ws => by rw [allR_eq]
    refine ⟨fun n => ?_, fun n => ?_, fun n => ?_⟩
    · rcases top_all (d := z0) pV wa n with ⟨h1, -⟩ | ⟨w, hw, v, e, -⟩
      · rcases top_all (d := z0) pV wb n with ⟨h2, -⟩ | ⟨w, hw, v, e, -⟩
        · rw [tv, tv, h1, h2]
        · exact kV w (Or.inr hw) n v e
      · exact kV w (Or.inl hw) n v e
    · rcases top_all (d := false) pM wa n with ⟨h1, -⟩ | ⟨w, hw, v, e, -⟩
      · rcases top_all (d := false) pM wb n with ⟨h2, -⟩ | ⟨w, hw, v, e, -⟩
        · rw [tm, tm, h1, h2]
        · exact kM w (Or.inr hw) n v e
      · exact kM w (Or.inl hw) n v e
    · rcases top_all (d := z0) pO wa n with ⟨h1, -⟩ | ⟨w, hw, v, e, -⟩
      · rcases top_all (d := z0) pO wb n with ⟨h2, -⟩ | ⟨w, hw, v, e, -⟩
        · rw [tq, tq, h1, h2]
        · exact kO w (Or.inr hw) n v e
      · exact kO w (Or.inl hw) n v e
  · rintro ⟨h1, h2, h3⟩ w hw
    have hk : okW w = true ∧ (w.x.k = 3 ∨ w.x.k = 4 ∨ w.x.k = 6) := by
      rcases List.mem_append.1 hw with hw | hw
      · exact (kept_mem hw).2
      · exact (kept_mem hw).2
    rcases hk.2 with k | k | k
    · have q := right_QV (okW_right hk.1) k
      exact ⟨by rw [linkV wa q, linkV wb q, h1], by rw [last_on (Or.inl k), last_on (Or.inl k)]⟩
    · have q := right_QM (okW_right hk.1) k
      exact ⟨by rw [last_val k, last_val k], by rw [linkM wa q, linkM wb q, h2]⟩
    · have q := (right_QO (okW_right hk.1) k).1
      exact ⟨by rw [linkO wa q, linkO wb q, h3], by rw [last_on (Or.inr k), last_on (Or.inr k)]⟩
/-- the document's questions -/
def qV (n : Qm.St) (p : Int) : Opp := { Opp.zero with k := 3, nt := n.1, nr := n.2, p := p }
def qM (n : Qm.St) : Opp := { Opp.zero with k := 4, nt := n.1, nr := n.2 }
def qO (n : Qm.St) (l : List Qm.St) (p : Int) : Opp := { Opp.zero with k := 6, nt := n.1, nr := n.2, path := l, p := p }
theorem ask_v (ws : List Wr) (n : Qm.St) (p : Int) : val (lastR (ws.filter kept) (qV n p)).2 = ((allR ws).v (nameV n p)).2 := linkV ws (q := qV n p) ⟨rfl, rfl, rfl, rfl, rfl⟩
theorem ask_m (ws : List Wr) (n : Qm.St) : (lastR (ws.filter kept) (qM n)).2.on = ((allR ws).m (nameM n)).2 := linkM ws (q := qM n) ⟨rfl, rfl, rfl, rfl, rfl, rfl⟩
theorem ask_o (ws : List Wr) (n : Qm.St) (l : List Qm.St) (p : Int) : val (lastR (ws.filter kept) (qO n l p)).2 = ((allR ws).o (nameO n l p)).2 := linkO ws (q := qO n l p) ⟨rfl, rfl, rfl, rfl⟩
/-- None is nothing at all -/
theorem o_none (ws : List Wr) (n : Nm) (h : ((allR ws).o n).2.1 = 0) : ((allR ws).o n).2 = z0 := by
  rw [allR_eq] at h ⊢
  rcases top_all (d := z0) pO ws n with ⟨h1, -⟩ | ⟨w, hw, v, e, h2, -⟩
  · show (all hO z0 ws n).2 = _
    rw [h1]
  · have hk := hO_ok e
    rw [hO_eq hk.1 hk.2] at e
    cases e
    show (all hO z0 ws _).2 = _
    have h' : (all hO z0 ws (nameO (w.x.nt, w.x.nr) w.x.path w.x.p)).2.1 = 0 := h
    rw [h2] at h' ⊢
    have := right_val (okW_right hk.1) (Or.inr hk.2) h'
    unfold val z0
    rw [this.1, this.2, show w.x.vk = 0 from h']
end Go.Proofs.Ytcenmkcencdlcaa.Pm
