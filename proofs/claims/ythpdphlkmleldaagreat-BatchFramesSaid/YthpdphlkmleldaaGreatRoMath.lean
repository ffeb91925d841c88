/-
  THE DOCUMENT's TAKE of ops and of batches, plainly; where the program's takes, it takes the same.
  No conditions.
-/
import Derived.Test.YthpdphlkmleldaaGreatGI
namespace Go.Proofs.YthpdphlkmleldaaGreat
open Go.RowKit

/-- both end with an error, or both with the same and none -/
def Agr {α : Type} (p q : α × RS) : Prop := (p.2.2 = 0 → q = p) ∧ (p.2.2 ≠ 0 → q.2.2 ≠ 0)
theorem Agr.refl {α : Type} (p : α × RS) : Agr p p := ⟨fun _ => rfl, id⟩

/-- how the document reads On, a Path -/
def onR (s : RS) : Bool × RS := ((uptoS 1 s).1 == 1, (uptoS 1 s).2)
def lpR : Nat → RS → List Qm.St → List Qm.St × RS
  | 0, s, a => (a, s)
  | n + 1, s, a => if s.2 ≠ 0 then (a, s) else lpR n (stS s).2 (a ++ [(stS s).1])
def paR (s : RS) : List Qm.St × RS := lpR (uptoS 8 s).1 (uptoS 8 s).2 []
/-- behind a kind from 1 to 6 -/
def rawR (k : Nat) (s : RS) : Opp × RS :=
  if k = 4 then let c := stS s; let a := onR c.2; ({ Opp.zero with k := 4, nt := c.1.1, nr := c.1.2, on := a.1 }, a.2)
  else if k = 6 then let c := stS s; let d := paR c.2; let a := numS d.2; let b := vlS a.2; ({ Opp.zero with k := 6, nt := c.1.1, nr := c.1.2, path := d.1, p := a.1, vk := b.1.1, vn := b.1.2.1, vt := b.1.2.2 }, b.2)
  else rawO k s
def endR (q : Opp × RS) : Opp × RS := if q.2.2 ≠ 0 then (Opp.zero, q.2) else if rightO q.1 = true then q else (Opp.zero, failS 21 q.2)
def takeRo (s : RS) : Opp × RS := if (numS s).1 < 1 ∨ 6 < (numS s).1 then (Opp.zero, failS 21 (numS s).2) else endR (rawR (numS s).1 (numS s).2)

theorem numS_stick {s : RS} (h : s.2 ≠ 0) : (numS s).2.2 ≠ 0 := by unfold numS; rw [if_pos h]; exact h
theorem stS_stick {s : RS} (h : s.2 ≠ 0) : (stS s).2.2 ≠ 0 := by unfold stS; rw [if_pos h]; exact h
theorem vlS_stick {s : RS} (h : s.2 ≠ 0) : (vlS s).2.2 ≠ 0 := by unfold vlS; rw [if_pos h]; exact h
theorem lpR_stick : ∀ (n : Nat) (s : RS) (a : List Qm.St), s.2 ≠ 0 → (lpR n s a).2.2 ≠ 0
  | 0, _, _, h => h
  | n + 1, s, a, h => by rw [lpR, if_pos h]; exact h
/-- a number that is at most the greatest one -/
theorem upto_num (m : Nat) (s : RS) (_ : m ≤ 281474976710655) : ((numS s).1 ≤ m → uptoS m s = numS s) ∧ (m < (numS s).1 → (uptoS m s).2.2 ≠ 0) := by
  unfold uptoS numS
  by_cases h : s.2 ≠ 0
  · rw [if_pos h, if_pos h]
    exact ⟨fun _ => rfl, fun h2 => absurd h2 (Nat.not_lt_zero _)⟩
  · rw [if_neg h, if_neg h]
    unfold uptoR
    by_cases h1 : (numR s.1 281474976710655).2.2 ≠ 0
    · rw [if_pos h1, if_pos h1]
      exact ⟨fun _ => rfl, fun h2 => absurd h2 (Nat.not_lt_zero _)⟩
    · have hs := (numR_small s.1 281474976710655).2.1
      rw [if_neg h1, if_neg h1]
      rw [if_neg (show ¬ (281474976710655 : Int) < ((numR s.1 281474976710655).1 : Int) from by omega)]
      constructor
      · intro h2
        rw [if_neg (by simp only at h2; omega)]
      · intro h2
        rw [if_pos (by simp only at h2; omega)]
        simp
theorem on_agr (s : RS) : Agr (onS s) (onR s) := by
  have h := upto_num 1 s (by decide)
  unfold onS onR
  by_cases h1 : 1 < (numS s).1
  · rw [if_pos h1]
    exact ⟨fun he => absurd he (failS_ne _), fun _ => h.2 h1⟩
  · rw [if_neg h1]
    rw [show uptoS 1 s = numS s from h.1 (by omega)]
    exact Agr.refl _
theorem lp_agr : ∀ (n : Nat) (s : RS) (a : List Qm.St), s.2 = 0 → Agr (lpS n s a) (lpR n s a)
  | 0, s, a, _ => Agr.refl _
  | n + 1, s, a, h => by
    rw [lpS, lpR, if_neg (show ¬ s.2 ≠ 0 from by simp [h])]
    by_cases he : (stS s).2.2 ≠ 0
    · rw [if_pos he]
      exact ⟨fun h0 => absurd h0 he, fun _ => lpR_stick _ _ _ he⟩
    · rw [if_neg he]
      exact lp_agr n _ _ (by simpa using he)
theorem lpS_count : ∀ (n : Nat) (s : RS) (a : List Qm.St), (lpS n s a).2.2 = 0 → (lpS n s a).1.length = a.length + n
  | 0, s, a, _ => by simp [lpS]
  | n + 1, s, a, h => by
    rw [lpS] at h ⊢
    by_cases he : (stS s).2.2 ≠ 0
    · rw [if_pos he] at h
      exact absurd h he
    · rw [if_neg he] at h ⊢
      rw [lpS_count n _ _ h, List.length_append, List.length_singleton]; omega
theorem lpS_stick : ∀ (n : Nat) (s : RS) (a : List Qm.St), s.2 ≠ 0 → (lpS n s a).2.2 ≠ 0
  | 0, _, _, h => h
  | n + 1, s, a, h => by rw [lpS, if_pos (stS_stick h)]; exact stS_stick h
theorem pa_agr (s : RS) (h8 : (paS s).1.length ≤ 8) : Agr (paS s) (paR s) := by
  have h := upto_num 8 s (by decide)
  by_cases h1 : 8 < (numS s).1
  · have he : (paS s).2.2 ≠ 0 := fun he => by
      have := lpS_count (numS s).1 (numS s).2 [] he
      unfold paS at h8
      simp at this
      omega
    exact ⟨fun h0 => absurd h0 he, fun _ => by unfold paR; exact lpR_stick _ _ _ (h.2 h1)⟩
  · unfold paS paR
    rw [show uptoS 8 s = numS s from h.1 (by omega)]
    by_cases h0 : (numS s).2.2 = 0
    · exact lp_agr _ _ _ h0
    · exact ⟨fun he => absurd he (lpS_stick _ _ _ h0), fun _ => lpR_stick _ _ _ h0⟩
theorem endO_zero {q : Opp × RS} : (endO q).2.2 = 0 ↔ rightO q.1 = true ∧ q.2.2 = 0 := by
  by_cases hr : rightO q.1 = true
  · by_cases he : q.2.2 = 0
    · rw [endO_ok hr he]; simp [hr, he]
    · rw [endO_err hr he]; simp [he]
  · have hr' : rightO q.1 = false := by simpa using hr
    rw [endO_no hr']
    simp only [hr', Bool.false_eq_true, false_and, iff_false]
    exact failS_ne _
theorem endR_zero {q : Opp × RS} : (endR q).2.2 = 0 ↔ rightO q.1 = true ∧ q.2.2 = 0 := by
  unfold endR
  by_cases he : q.2.2 ≠ 0
  · rw [if_pos he]; simp [he]
  · rw [if_neg he]
    have he' : q.2.2 = 0 := by simpa using he
    by_cases hr : rightO q.1 = true
    · rw [if_pos hr]; simp [hr, he']
    · rw [if_neg hr]
      simp only [hr, Bool.false_eq_true, false_and, iff_false]
      exact failS_ne _
theorem endR_ok {q : Opp × RS} (h : rightO q.1 = true) (he : q.2.2 = 0) : endR q = q := by unfold endR; rw [if_neg (by simp [he]), if_pos h]
theorem endR_err {q : Opp × RS} (h : q.2.2 ≠ 0) : endR q = (Opp.zero, q.2) := by unfold endR; rw [if_pos h]
theorem endR_no {q : Opp × RS} (he : q.2.2 = 0) (h : rightO q.1 = false) : endR q = (Opp.zero, failS 21 q.2) := by unfold endR; rw [if_neg (by simp [he]), if_neg (by simp [h])]
/-- two ends agree where what was read agrees, once it may be -/
theorem end_agr {p q : Opp × RS} (h1 : rightO p.1 = true → Agr p q) (h2 : rightO q.1 = true → q.2.2 = 0 → rightO p.1 = true) : Agr (endO p) (endR q) := by
  constructor
  · intro h
    obtain ⟨hr, he⟩ := endO_zero.1 h
    have e := (h1 hr).1 he
    rw [e, endO_ok hr he, endR_ok hr he]
  · intro h hh
    obtain ⟨hr, he⟩ := endR_zero.1 hh
    have hp := h2 hr he
    apply h
    rw [endO_zero]
    refine ⟨hp, Classical.byContradiction fun h3 => (h1 hp).2 h3 he⟩
theorem take_agr (s : RS) : Agr (takeO s) (takeRo s) := by
  unfold takeO takeRo
  generalize numS s = q
  obtain ⟨k, s1⟩ := q
  dsimp only
  by_cases hk : k < 1 ∨ 6 < k
  · rw [if_pos hk]
    have : rightO (rawO k s1).1 = false := by
      have h1 : ¬ k = 1 := by omega
      have h2 : ¬ k = 2 := by omega
      have h3 : ¬ k = 3 := by omega
      have h4 : ¬ k = 4 := by omega
      have h5 : ¬ k = 5 := by omega
      have h6 : ¬ k = 6 := by omega
      unfold rawO
      rw [if_neg h1, if_neg h2, if_neg h3, if_neg h4, if_neg h5, if_neg h6]
      exact rightO_none (by simp only; omega) (by simp only; omega) (by simp only; omega) (by simp only; omega) (by simp only; omega) (by simp only; omega)
    rw [endO_no this]
    exact ⟨fun h => absurd h (failS_ne _), fun _ => failS_ne _⟩
  · rw [if_neg hk]
    by_cases h4 : k = 4
    · subst h4
      have ha := on_agr (stS s1).2
      have e1 : rawO 4 s1 = ({ Opp.zero with k := 4, nt := (stS s1).1.1, nr := (stS s1).1.2, on := (onS (stS s1).2).1 }, (onS (stS s1).2).2) := rfl
      have e2 : rawR 4 s1 = ({ Opp.zero with k := 4, nt := (stS s1).1.1, nr := (stS s1).1.2, on := (onR (stS s1).2).1 }, (onR (stS s1).2).2) := rfl
      rw [e1, e2]
      generalize onS (stS s1).2 = a at *
      generalize onR (stS s1).2 = b at *
      apply end_agr
      · intro _
        exact ⟨fun h => by rw [ha.1 h], fun h => ha.2 h⟩
      · intro h1 h2
        by_cases h3 : a.2.2 = 0
        · rw [ha.1 h3] at h1; exact h1
        · exact absurd h2 (ha.2 h3)
    · by_cases h6 : k = 6
      · subst h6
        have e1 : rawO 6 s1 = ({ Opp.zero with k := 6, nt := (stS s1).1.1, nr := (stS s1).1.2, path := (paS (stS s1).2).1, p := (numS (paS (stS s1).2).2).1, vk := (vlS (numS (paS (stS s1).2).2).2).1.1, vn := (vlS (numS (paS (stS s1).2).2).2).1.2.1, vt := (vlS (numS (paS (stS s1).2).2).2).1.2.2 }, (vlS (numS (paS (stS s1).2).2).2).2) := rfl
        have e2 : rawR 6 s1 = ({ Opp.zero with k := 6, nt := (stS s1).1.1, nr := (stS s1).1.2, path := (paR (stS s1).2).1, p := (numS (paR (stS s1).2).2).1, vk := (vlS (numS (paR (stS s1).2).2).2).1.1, vn := (vlS (numS (paR (stS s1).2).2).2).1.2.1, vt := (vlS (numS (paR (stS s1).2).2).2).1.2.2 }, (vlS (numS (paR (stS s1).2).2).2).2) := rfl
        have hR : ∀ x : Opp, rightO x = true → x.k = 6 → x.path.length ≤ 8 := fun x hx hk => (okPath_small (right6 hx hk).2.1).2.1
        by_cases h8 : (paS (stS s1).2).1.length ≤ 8
        · have ha := pa_agr _ h8
          rw [e1, e2]
          by_cases h3 : (paS (stS s1).2).2.2 = 0
          · rw [ha.1 h3]
            exact end_agr (fun _ => Agr.refl _) (fun h _ => h)
          · have b1 := vlS_stick (numS_stick h3)
            have b2 := vlS_stick (numS_stick (ha.2 h3))
            exact end_agr (fun _ => ⟨fun h => absurd h b1, fun _ => b2⟩) (fun _ h => absurd h b2)
        · have hn : rightO (rawO 6 s1).1 = false := by
            cases hh : rightO (rawO 6 s1).1
            · rfl
            · exact absurd (hR _ hh rfl) (by rw [e1]; exact h8)
          rw [endO_no hn]
          refine ⟨fun h => absurd h (failS_ne _), fun _ hh => ?_⟩
          obtain ⟨h1, h2⟩ := endR_zero.1 hh
          have hu := upto_num 8 (stS s1).2 (by decide)
          by_cases h9 : 8 < (numS (stS s1).2).1
          · have b0 : (paR (stS s1).2).2.2 ≠ 0 := by unfold paR; exact lpR_stick _ _ _ (hu.2 h9)
            exact absurd h2 (by rw [e2]; exact vlS_stick (numS_stick b0))
          · have := lpS_le (numS (stS s1).2).1 (numS (stS s1).2).2 []
            unfold paS at h8
            simp at this
            omega
      · have e : rawR k s1 = rawO k s1 := by unfold rawR; rw [if_neg h4, if_neg h6]
        rw [e]
        exact end_agr (fun _ => Agr.refl _) (fun h _ => h)

/-- n ops more, as the document reads them -/
def opsR : Nat → RS → List Opp → List Opp × RS
  | 0, s, a => (a, s)
  | n + 1, s, a => if (takeRo s).2.2 ≠ 0 then ([], (takeRo s).2) else opsR n (takeRo s).2 (a ++ [(takeRo s).1])
def rawRt (s : RS) : Bat × RS :=
  let a := uptoS 15 s; let b := uptoS 512 a.2; let c := numS b.2; let d := uptoS 64 c.2; let o := opsR d.1 d.2 []
  (⟨a.1, b.1, c.1, o.1⟩, o.2)
def takeRt (s : RS) : Bat × RS := endB (rawRt s)
theorem ops_agr : ∀ (n : Nat) (s : RS) (a : List Opp), Agr (opsS n s a) (opsR n s a)
  | 0, s, a => Agr.refl _
  | n + 1, s, a => by
    have h := take_agr s
    rw [opsS, opsR]
    by_cases he : (takeO s).2.2 ≠ 0
    · rw [if_pos he, if_pos (h.2 he)]
      exact ⟨fun h0 => absurd h0 he, fun _ => h.2 he⟩
    · have he' : (takeO s).2.2 = 0 := by simpa using he
      rw [h.1 he', if_neg he, if_neg he]
      exact ops_agr n _ _
theorem takeRt_agr (s : RS) : Agr (takeT s) (takeRt s) := by
  have h := ops_agr (uptoS 64 (numS (uptoS 512 (uptoS 15 s).2).2).2).1 (uptoS 64 (numS (uptoS 512 (uptoS 15 s).2).2).2).2 []
  have e1 := rawT_eq (s := s)
  have e2 : rawRt s = (⟨(uptoS 15 s).1, (uptoS 512 (uptoS 15 s).2).1, (numS (uptoS 512 (uptoS 15 s).2).2).1, (opsR (uptoS 64 (numS (uptoS 512 (uptoS 15 s).2).2).2).1 (uptoS 64 (numS (uptoS 512 (uptoS 15 s).2).2).2).2 []).1⟩, (opsR (uptoS 64 (numS (uptoS 512 (uptoS 15 s).2).2).2).1 (uptoS 64 (numS (uptoS 512 (uptoS 15 s).2).2).2).2 []).2) := rfl
  unfold takeT takeRt
  rw [e1, e2]
  generalize opsS (uptoS 64 (numS (uptoS 512 (uptoS 15 s).2).2).2).1 (uptoS 64 (numS (uptoS 512 (uptoS 15 s).2).2).2).2 [] = p at *
  generalize opsR (uptoS 64 (numS (uptoS 512 (uptoS 15 s).2).2).2).1 (uptoS 64 (numS (uptoS 512 (uptoS 15 s).2).2).2).2 [] = q at *
  by_cases he : p.2.2 = 0
  · rw [h.1 he]; exact Agr.refl _
  · have b := h.2 he
    rw [endB_err (q := (_, p.2)) he, endB_err (q := (_, q.2)) b]
    exact ⟨fun h0 => absurd h0 (failS_ne _), fun _ => failS_ne _⟩
theorem takeRt_ok {s : RS} (h : (takeRt s).2.2 = 0) : takeRt s = takeT s ∧ rightT (takeT s).1 = true := by
  have ha := takeRt_agr s
  have h0 : (takeT s).2.2 = 0 := Classical.byContradiction fun hh => ha.2 hh h
  refine ⟨ha.1 h0, ?_⟩
  unfold takeT at h0 ⊢
  by_cases he : (rawT s).2.2 = 0
  · cases hr : rightT (rawT s).1 with
    | true => rw [endB_ok he hr]; exact hr
    | false => rw [endB_no he hr] at h0; exact absurd h0 (failS_ne _)
  · rw [endB_err he] at h0; exact absurd h0 (failS_ne _)
/-- what the document's Unframe answers is what the program's does -/
theorem unframeRt (l : List UInt8) (h : (unfR l).2.2 = 0) :
    unframeT l = if doneR (takeRt ((unfR l).1, 0)).2.1 (takeRt ((unfR l).1, 0)).2.2 ≠ 0 then (Bat.zero, 0, 21) else ((takeRt ((unfR l).1, 0)).1, (unfR l).2.1, 0) := by
  have ha := takeRt_agr ((unfR l).1, 0)
  by_cases he : (takeT ((unfR l).1, 0)).2.2 = 0
  · rw [ha.1 he]
    unfold unframeT
    rw [if_neg (by simp [h])]
  · have hb := ha.2 he
    have d1 : doneR (takeT ((unfR l).1, 0)).2.1 (takeT ((unfR l).1, 0)).2.2 ≠ 0 := by unfold doneR; rw [if_pos he]; exact he
    have d2 : doneR (takeRt ((unfR l).1, 0)).2.1 (takeRt ((unfR l).1, 0)).2.2 ≠ 0 := by unfold doneR; rw [if_pos hb]; exact hb
    rw [unframeT_no h d1, if_pos d2]
end Go.Proofs.YthpdphlkmleldaaGreat
