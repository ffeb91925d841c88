/-
  WHAT AN OP THAT MAY BE IS, kind by kind; it is read as it was written, and what is read was written so.
  No conditions.
  AN OP IS READ AS IT WAS WRITTEN; what is read was written so.
  No conditions.
  PUT's function value: bytes are put behind those that there are.
  No conditions but sizes.
-/
import Derived.Test.YtaplemkmkbjodaaGreatGD
import Derived.Test.YtaplemkmkbjodaaGreatORight
namespace Go.Proofs.YtaplemkmkbjodaaGreat
open Go.RowKit

theorem okNode_right {t r : Int} (h : okNode t r = true) : rightB t r = true := by
  unfold okNode at h
  simp only [Bool.and_eq_true] at h
  exact h.1
theorem isZ_iff {t r : Int} : isZ t r = true ↔ t = 0 ∧ r = 0 := by simp [isZ]
theorem isT_iff {t r : Int} : isT t r = true ↔ t = 0 ∧ r = 1 := by simp [isT]
theorem isV_iff {k n : Int} {t : ByteArray} : isV k n t = true ↔ k = 0 ∧ n = 0 ∧ t = ⟨#[]⟩ := by simp [isV, and_assoc]
theorem isZ_right {t r : Int} (h : isZ t r = true) : rightB t r = true := by
  obtain ⟨rfl, rfl⟩ := isZ_iff.1 h
  rfl
theorem okPlace_right {t r : Int} (h : okPlace t r = true) : rightB t r = true := by
  unfold okPlace at h
  simp only [Bool.or_eq_true] at h
  rcases h with (h | h) | h
  · exact okNode_right h
  · exact isZ_right h
  · obtain ⟨rfl, rfl⟩ := isT_iff.1 h
    rfl
theorem key_small {k : ByteArray} (h : Km.rightB k.data.toList = true) : k.size ≤ 24 := (right_size.1 h).2.1
theorem okPath_small {l : List Qm.St} (h : okPath l = true) : 1 ≤ l.length ∧ l.length ≤ 8 ∧ ∀ s, s ∈ l → rightB s.1 s.2 = true := by
  unfold okPath at h
  simp only [Bool.and_eq_true, decide_eq_true_eq, List.all_eq_true] at h
  exact ⟨h.1.1, h.1.2, fun s hs => okNode_right (h.2 s hs)⟩
theorem right8_facts {p k n : Int} {t : List UInt8} (h : right8V p k n t = true) : 1 ≤ p ∧ p ≤ 8 ∧ Vm.rightV k n t = true := by
  unfold right8V at h
  simp only [Bool.and_eq_true, decide_eq_true_eq] at h
  exact ⟨h.1.1, h.1.2, h.2.1⟩

theorem rightO_parts {x : Opp} (h : rightO x = true) : fitO (prt x.k) x = true ∧ aloneO (prt x.k) x = true := by
  unfold rightO at h
  simp only [Bool.and_eq_true] at h
  exact ⟨h.1.2, h.2⟩
/-- kind by kind: what is named may be, and the op is no more than that -/
theorem right1 {x : Opp} (h : rightO x = true) (hk : x.k = 1) : rightB x.rt x.rr = true ∧ Km.rightB x.key.data.toList = true ∧ x = { Opp.zero with k := 1, rt := x.rt, rr := x.rr, key := x.key } := by
  obtain ⟨hf, ha⟩ := rightO_parts h
  rw [hk] at hf ha
  simp [prt, fitO] at hf
  simp [prt, aloneO, isZ_iff, isV_iff] at ha
  refine ⟨okPlace_right hf.1, hf.2, ?_⟩
  obtain ⟨k, nt, nr, rt, rr, key, path, p, vk, vn, vt, on⟩ := x
  simp_all [Opp.zero]
theorem right2 {x : Opp} (h : rightO x = true) (hk : x.k = 2) : rightB x.nt x.nr = true ∧ rightB x.rt x.rr = true ∧ Km.rightB x.key.data.toList = true ∧ x = { Opp.zero with k := 2, nt := x.nt, nr := x.nr, rt := x.rt, rr := x.rr, key := x.key } := by
  obtain ⟨hf, ha⟩ := rightO_parts h
  rw [hk] at hf ha
  simp [prt, fitO] at hf
  simp [prt, aloneO, isV_iff] at ha
  refine ⟨okNode_right hf.1, okPlace_right hf.2.1, hf.2.2, ?_⟩
  obtain ⟨k, nt, nr, rt, rr, key, path, p, vk, vn, vt, on⟩ := x
  simp_all [Opp.zero]
theorem right3 {x : Opp} (h : rightO x = true) (hk : x.k = 3) : rightB x.nt x.nr = true ∧ right8V x.p x.vk x.vn x.vt.data.toList = true ∧ x = { Opp.zero with k := 3, nt := x.nt, nr := x.nr, p := x.p, vk := x.vk, vn := x.vn, vt := x.vt } := by
  obtain ⟨hf, ha⟩ := rightO_parts h
  rw [hk] at hf ha
  simp [prt, fitO] at hf
  simp [prt, aloneO, isZ_iff] at ha
  refine ⟨okNode_right hf.1, hf.2, ?_⟩
  obtain ⟨k, nt, nr, rt, rr, key, path, p, vk, vn, vt, on⟩ := x
  simp_all [Opp.zero]
theorem right4 {x : Opp} (h : rightO x = true) (hk : x.k = 4) : rightB x.nt x.nr = true ∧ x = { Opp.zero with k := 4, nt := x.nt, nr := x.nr, on := x.on } := by
  obtain ⟨hf, ha⟩ := rightO_parts h
  rw [hk] at hf ha
  simp [prt, fitO] at hf
  simp [prt, aloneO, isZ_iff, isV_iff] at ha
  refine ⟨okNode_right hf, ?_⟩
  obtain ⟨k, nt, nr, rt, rr, key, path, p, vk, vn, vt, on⟩ := x
  simp_all [Opp.zero]
theorem right5 {x : Opp} (h : rightO x = true) (hk : x.k = 5) : rightB x.nt x.nr = true ∧ rightB x.rt x.rr = true ∧ x = { Opp.zero with k := 5, nt := x.nt, nr := x.nr, rt := x.rt, rr := x.rr } := by
  obtain ⟨hf, ha⟩ := rightO_parts h
  rw [hk] at hf ha
  simp [prt, fitO] at hf
  simp [prt, aloneO, isV_iff] at ha
  refine ⟨okNode_right hf.1, hf.2.elim okNode_right isZ_right, ?_⟩
  obtain ⟨k, nt, nr, rt, rr, key, path, p, vk, vn, vt, on⟩ := x
  simp_all [Opp.zero]
theorem right6 {x : Opp} (h : rightO x = true) (hk : x.k = 6) : rightB x.nt x.nr = true ∧ okPath x.path = true ∧ right8V x.p x.vk x.vn x.vt.data.toList = true ∧ x = { Opp.zero with k := 6, nt := x.nt, nr := x.nr, path := x.path, p := x.p, vk := x.vk, vn := x.vn, vt := x.vt } := by
  obtain ⟨hf, ha⟩ := rightO_parts h
  rw [hk] at hf ha
  simp [prt, fitO] at hf
  simp [prt, aloneO, isZ_iff] at ha
  refine ⟨okNode_right hf.1.1, hf.1.2, hf.2, ?_⟩
  obtain ⟨k, nt, nr, rt, rr, key, path, p, vk, vn, vt, on⟩ := x
  simp_all [Opp.zero]
end Go.Proofs.YtaplemkmkbjodaaGreat

namespace Go.Proofs.YtaplemkmkbjodaaGreat
open Go.RowKit

theorem uptoR_backM {n : Nat} {m : Int} (h : n < 281474976710656) (hm : (n : Int) ≤ m) (more : List UInt8) : uptoR (Wm.numB n ++ more) m = (n, more, 0) := by
  unfold uptoR
  rw [numR_back n 281474976710655 more h (by omega)]
  dsimp only
  rw [if_neg (by simp), if_neg (by omega), List.drop_left' (by rw [Wm.numB_length]; omega)]
theorem uptoR_form {l : List UInt8} {m : Int} (h : (uptoR l m).2.2 = 0) : l = Wm.numB (uptoR l m).1 ++ (uptoR l m).2.1 ∧ ((uptoR l m).1 : Int) ≤ m ∧ (uptoR l m).1 < 281474976710656 := by
  unfold uptoR at h ⊢
  rcases hr : numR l 281474976710655 with ⟨n, s, e⟩
  rw [hr] at h
  dsimp only at h ⊢
  split at h
  · next h1 => exact absurd h h1
  · next h1 =>
    rw [if_neg h1]
    obtain rfl : e = 0 := by simpa using h1
    split at h
    · next h2 => simp at h
    · next h2 =>
      rw [if_neg h2]
      obtain ⟨e1, e2, e3, e4, e5⟩ := numR_form l 281474976710655 n s hr
      refine ⟨?_, by dsimp only; omega, e5⟩
      dsimp only
      rw [← e1, List.take_append_drop]

theorem numS_back {n : Nat} (h : n < 281474976710656) (more : List UInt8) : numS (Wm.numB n ++ more, 0) = (n, (more, 0)) := by
  unfold numS
  rw [if_neg (by simp)]
  exact uptoR_backM h (by omega) more
theorem numS_form {s : RS} (h : (numS s).2.2 = 0) : s.2 = 0 ∧ s.1 = Wm.numB (numS s).1 ++ (numS s).2.1 := by
  unfold numS at h ⊢
  split at h
  · next h1 => exact absurd h h1
  · next h1 =>
    rw [if_neg h1]
    exact ⟨by simpa using h1, (uptoR_form h).1⟩
theorem stS_back {t r : Int} (h : rightB t r = true) (more : List UInt8) : stS (stB t r ++ more, 0) = ((t, r), (more, 0)) := by
  obtain ⟨h0, h1, h2, h3⟩ := rightB_yes h
  unfold stS stB takeR
  rw [if_neg (by simp), List.append_assoc, uptoR_backM (by omega) (by omega)]
  dsimp only
  rw [uptoR_backM (by omega) (by omega)]
  dsimp only
  rw [if_neg (by simp), if_neg (by simp)]
  dsimp only
  rw [Int.toNat_of_nonneg h0, Int.toNat_of_nonneg h2]
theorem stS_form {s : RS} (h : (stS s).2.2 = 0) : s.2 = 0 ∧ s.1 = stB (stS s).1.1 (stS s).1.2 ++ (stS s).2.1 := by
  unfold stS at h ⊢
  split at h
  · next h1 => exact absurd h h1
  · next h1 =>
    rw [if_neg h1]
    refine ⟨by simpa using h1, ?_⟩
    dsimp only at h ⊢
    unfold takeR at h ⊢
    split at h
    · next h2 => exact absurd h h2
    · next h2 =>
      rw [if_neg h2]
      split at h
      · next h3 => exact absurd h h3
      · next h3 =>
        rw [if_neg h3]
        dsimp only
        obtain ⟨e1, -⟩ := uptoR_form (by simpa using h2 : (uptoR s.1 1099511627776).2.2 = 0)
        obtain ⟨e2, -⟩ := uptoR_form (by simpa using h3 : (uptoR (uptoR s.1 1099511627776).2.1 15).2.2 = 0)
        unfold stB
        rw [Int.toNat_natCast, Int.toNat_natCast, List.append_assoc, ← e2, ← e1]
theorem txS_back {k : ByteArray} (h : k.size ≤ 1048576) (more : List UInt8) : txS (txB k ++ more, 0) = (k, (more, 0)) := by
  unfold txS txB
  have hl : k.data.toList.length = k.size := str_len k
  rw [if_neg (by simp)]
  dsimp only
  rw [← hl, textR_back _ _ (by omega)]
  rfl
theorem txS_form {s : RS} (h : (txS s).2.2 = 0) : s.2 = 0 ∧ s.1 = txB (txS s).1 ++ (txS s).2.1 := by
  unfold txS at h ⊢
  split at h
  · next h1 => exact absurd h h1
  · next h1 =>
    rw [if_neg h1]
    refine ⟨by simpa using h1, ?_⟩
    dsimp only at h ⊢
    unfold txB
    rw [← str_len, strB_toList]
    unfold textR at h ⊢
    rcases hr : numR s.1 1048576 with ⟨n, z, e⟩
    rw [hr] at h
    dsimp only at h ⊢
    split at h
    · next h2 => exact absurd h h2
    · next h2 =>
      rw [if_neg h2]
      obtain rfl : e = 0 := by simpa using h2
      split at h
      · simp at h
      · next h3 =>
        rw [if_neg h3]
        obtain ⟨e1, e2, e3, e4, e5⟩ := numR_form s.1 1048576 n z hr
        dsimp only
        have hl : ((s.1.drop z).take n).length = n := by simp; omega
        rw [hl, ← e1, List.append_assoc, ← List.drop_drop, List.take_append_drop, List.take_append_drop]
theorem fold_unfold (m : Nat) : foldV (unfoldV m) = m := by
  unfold foldV unfoldV
  split <;> split <;> omega
theorem vlS_back {k n : Int} {t : ByteArray} (h : Vm.rightV k n t.data.toList = true) (more : List UInt8) : vlS (vlB k n t ++ more, 0) = ((k, n, t), (more, 0)) := by
  have hraw : rawV (Wm.numB k.toNat ++ restV k n t.data.toList ++ more) = (k, n, t.data.toList, more, 0) := by
    have hk := right_kind h
    unfold rawV
    rw [List.append_assoc, uptoR_back k.toNat _ (by omega)]
    dsimp only
    generalize ht : t.data.toList = u at *
    rcases hk with rfl | rfl | rfl | rfl | rfl
    · obtain rfl := right_empty h (by decide)
      have hn : n = 0 := by rw [Vm.rightV_none] at h; simp at h; exact h
      subst hn
      rfl
    · obtain rfl := right_empty h (by decide)
      obtain ⟨a, b⟩ := right_num h (Or.inl rfl)
      have hf := foldV_le n a b
      have e : restV 1 n [] = Wm.numB (foldV n) := rfl
      rw [e, uptoR_back _ _ (by omega)]
      dsimp only
      rw [if_pos (by decide), unfold_fold]
      rfl
    · obtain rfl := right_empty h (by decide)
      obtain ⟨a, b⟩ := right_num h (Or.inr rfl)
      have hf := foldV_le n a b
      have e : restV 2 n [] = Wm.numB (foldV n) := rfl
      rw [e, uptoR_back _ _ (by omega)]
      dsimp only
      rw [if_pos (by decide), unfold_fold]
      rfl
    · obtain ⟨rfl, hl⟩ := right_text h
      have e : restV 3 0 u = Wm.numB u.length ++ u := rfl
      rw [e, textR_back _ _ (by omega)]
      rfl
    · obtain rfl := right_empty h (by decide)
      have hn := right_flag h
      have e : restV 4 n [] = Wm.numB n.toNat := rfl
      rw [e, uptoR_back _ _ (by omega)]
      dsimp only
      rw [if_neg (by decide), if_neg (by decide), if_pos (by decide)]
      rw [show ((n.toNat : Nat) : Int) = n by omega]
  unfold vlS vlB takeV
  rw [if_neg (by simp)]
  dsimp only
  rw [hraw]
  dsimp only
  rw [if_neg (by simp), if_pos h]
  rfl
theorem vlS_form {s : RS} (h : (vlS s).2.2 = 0) : s.2 = 0 ∧ s.1 = vlB (vlS s).1.1 (vlS s).1.2.1 (vlS s).1.2.2 ++ (vlS s).2.1 := by
  unfold vlS at h ⊢
  split at h
  · next h1 => exact absurd h h1
  · next h1 =>
    rw [if_neg h1]
    refine ⟨by simpa using h1, ?_⟩
    dsimp only at h ⊢
    unfold vlB
    rw [strB_toList]
    unfold takeV at h ⊢
    split at h
    · next h2 => exact absurd h h2
    · next h2 =>
      rw [if_neg h2]
      split at h
      · next h3 =>
        rw [if_pos h3]
        have h2' : (rawV s.1).2.2.2.2 = 0 := by simpa using h2
        dsimp only
        clear h h2 h1
        unfold rawV at h2' h3 ⊢
        have hE := uptoR_err s.1 281474976710655
        have hF := @uptoR_form s.1 281474976710655
        generalize uptoR s.1 281474976710655 = q at *
        obtain ⟨k, l1, e1⟩ := q
        dsimp only at *
        have hk0 : k ≠ 0 → e1 = 0 := fun hk => Classical.byContradiction fun he => hk (hE he)
        have hU := @uptoR_form l1 281474976710655
        generalize uptoR l1 281474976710655 = q at *
        obtain ⟨m, l2, e2⟩ := q
        dsimp only at *
        have hX := @txS_form (l1, 0)
        have hX2 : txS (l1, 0) = (strB (textR l1).1, (textR l1).2) := by unfold txS; rw [if_neg (by simp)]
        rw [hX2] at hX
        generalize textR l1 = q at *
        obtain ⟨tt, l3, e3⟩ := q
        dsimp only at *
        by_cases k12 : k = 1 ∨ k = 2
        · rw [if_pos k12] at h2' h3 ⊢
          dsimp only at *
          obtain ⟨f1, -⟩ := hF (hk0 (by omega))
          obtain ⟨f2, -⟩ := hU h2'
          rw [Int.toNat_natCast, f1]
          have : restV (k : Int) (unfoldV m) [] = Wm.numB m := by
            unfold restV
            rw [if_neg (by omega), if_neg (by omega), if_neg (by omega), fold_unfold]
          rw [this, List.append_assoc, ← f2]
        · rw [if_neg k12] at h2' h3 ⊢
          by_cases k3 : k = 3
          · rw [if_pos k3] at h2' h3 ⊢
            dsimp only at *
            subst k3
            obtain ⟨f1, -⟩ := hF (hk0 (by omega))
            obtain ⟨-, f2⟩ := hX h2'
            have : restV 3 0 tt = txB (strB tt) := by
              unfold restV txB
              rw [if_pos rfl, ← str_len, strB_toList]
            rw [this, f1, List.append_assoc, ← f2]
            rfl
          · rw [if_neg k3] at h2' h3 ⊢
            by_cases k4 : k = 4
            · rw [if_pos k4] at h2' h3 ⊢
              dsimp only at *
              subst k4
              obtain ⟨f1, -⟩ := hF (hk0 (by omega))
              obtain ⟨f2, -⟩ := hU h2'
              have : restV 4 (m : Int) [] = Wm.numB m := by
                unfold restV
                rw [if_neg (by decide), if_pos rfl, Int.toNat_natCast]
              rw [this, f1, List.append_assoc, ← f2]
              rfl
            · rw [if_neg k4] at h2' h3 ⊢
              dsimp only at *
              obtain ⟨f1, -⟩ := hF h2'
              have hk := right_kind h3
              obtain rfl : k = 0 := by omega
              have : restV ((0 : Nat) : Int) 0 [] = [] := rfl
              rw [this, List.append_nil, f1]
              rfl
      · simp at h
theorem onS_back (b : Bool) (more : List UInt8) : onS (Wm.numB (digO b) ++ more, 0) = (b, (more, 0)) := by
  unfold onS
  rw [numS_back (by cases b <;> decide)]
  cases b <;> rfl
theorem onS_form {s : RS} (h : (onS s).2.2 = 0) : s.2 = 0 ∧ s.1 = Wm.numB (digO (onS s).1) ++ (onS s).2.1 := by
  unfold onS at h ⊢
  split at h
  · next h1 =>
    exfalso
    revert h
    unfold failS
    dsimp only
    split <;> omega
  · next h1 =>
    rw [if_neg h1]
    obtain ⟨e1, e2⟩ := numS_form h
    refine ⟨e1, ?_⟩
    dsimp only
    have : digO ((numS s).1 == 1) = (numS s).1 := by
      have h01 : (numS s).1 = 0 ∨ (numS s).1 = 1 := by omega
      rcases h01 with e | e <;> rw [e] <;> rfl
    rw [this]
    exact e2
theorem lpS_back : ∀ (l a : List Qm.St) (more : List UInt8), (∀ s, s ∈ l → rightB s.1 s.2 = true) → lpS l.length (paB l ++ more, 0) a = (a ++ l, (more, 0))
  | [], a, more, _ => by simp [lpS, paB]
  | (t, r) :: l, a, more, h => by
    have e : paB ((t, r) :: l) ++ more = stB t r ++ (paB l ++ more) := by simp [paB]
    rw [e, List.length_cons, lpS, stS_back (h (t, r) (by simp)), if_neg (by simp), lpS_back l _ more (fun s hs => h s (by simp [hs]))]
    simp
theorem lpS_form : ∀ (n : Nat) (s : RS) (a : List Qm.St), s.2 = 0 → (lpS n s a).2.2 = 0 → ∃ l, (lpS n s a).1 = a ++ l ∧ l.length = n ∧ s.1 = paB l ++ (lpS n s a).2.1
  | 0, s, a, _, _ => ⟨[], by simp [lpS], rfl, by simp [lpS, paB]⟩
  | n + 1, s, a, h0, h => by
    rw [lpS] at h ⊢
    split at h
    · next h1 => exact absurd h h1
    · next h1 =>
      rw [if_neg h1]
      obtain ⟨e1, e2⟩ := stS_form (s := s) (by simpa using h1)
      obtain ⟨l, f1, f2, f3⟩ := lpS_form n (stS s).2 (a ++ [(stS s).1]) (by simpa using h1) h
      refine ⟨(stS s).1 :: l, by rw [f1]; simp, by simp [f2], ?_⟩
      have e : paB ((stS s).1 :: l) = stB (stS s).1.1 (stS s).1.2 ++ paB l := by simp [paB]
      rw [e, List.append_assoc, ← f3, ← e2]
theorem paS_back {l : List Qm.St} (hl : l.length < 281474976710656) (h : ∀ s, s ∈ l → rightB s.1 s.2 = true) (more : List UInt8) : paS (Wm.numB l.length ++ (paB l ++ more), 0) = (l, (more, 0)) := by
  unfold paS
  rw [numS_back hl]
  dsimp only
  rw [lpS_back l [] more h]
  simp
theorem paS_form {s : RS} (h : (paS s).2.2 = 0) : s.2 = 0 ∧ s.1 = Wm.numB (paS s).1.length ++ (paB (paS s).1 ++ (paS s).2.1) := by
  unfold paS at h ⊢
  have hn : (numS s).2.2 = 0 := by
    refine Classical.byContradiction fun hn => ?_
    have h1 : (numS s).1 = 0 := by
      unfold numS at hn ⊢
      split
      · rfl
      · next h2 => rw [if_neg h2] at hn; exact uptoR_err _ _ hn
    rw [h1, lpS] at h
    exact hn h
  obtain ⟨e1, e2⟩ := numS_form hn
  obtain ⟨l, f1, f2, f3⟩ := lpS_form _ _ _ hn h
  refine ⟨e1, ?_⟩
  rw [f1, List.nil_append, f2, ← f3]
  exact e2

theorem rawO_k (k : Nat) (s : RS) : (rawO k s).1.k = (k : Int) := by
  unfold rawO
  by_cases h1 : k = 1
  · rw [if_pos h1, h1]; rfl
  rw [if_neg h1]
  by_cases h2 : k = 2
  · rw [if_pos h2, h2]; rfl
  rw [if_neg h2]
  by_cases h3 : k = 3
  · rw [if_pos h3, h3]; rfl
  rw [if_neg h3]
  by_cases h4 : k = 4
  · rw [if_pos h4, h4]; rfl
  rw [if_neg h4]
  by_cases h5 : k = 5
  · rw [if_pos h5, h5]; rfl
  rw [if_neg h5]
  by_cases h6 : k = 6
  · rw [if_pos h6, h6]; rfl
  rw [if_neg h6]
/-- what was read was written so, behind the kind -/
theorem rawO_form {k : Nat} {s : RS} (h1 : 1 ≤ k) (h6 : k ≤ 6) (h : (rawO k s).2.2 = 0) : s.2 = 0 ∧ s.1 = tailB (rawO k s).1 ++ (rawO k s).2.1 := by
  have hc : k = 1 ∨ k = 2 ∨ k = 3 ∨ k = 4 ∨ k = 5 ∨ k = 6 := by omega
  clear h1 h6
  rcases hc with rfl | rfl | rfl | rfl | rfl | rfl
  · change (txS (stS s).2).2.2 = 0 at h
    obtain ⟨a1, a2⟩ := txS_form h
    obtain ⟨b1, b2⟩ := stS_form a1
    refine ⟨b1, ?_⟩
    show s.1 = stB (stS s).1.1 (stS s).1.2 ++ txB (txS (stS s).2).1 ++ (txS (stS s).2).2.1
    rw [List.append_assoc, ← a2, ← b2]
  · change (txS (stS (stS s).2).2).2.2 = 0 at h
    obtain ⟨a1, a2⟩ := txS_form h
    obtain ⟨b1, b2⟩ := stS_form a1
    obtain ⟨c1, c2⟩ := stS_form b1
    refine ⟨c1, ?_⟩
    show s.1 = stB (stS s).1.1 (stS s).1.2 ++ stB (stS (stS s).2).1.1 (stS (stS s).2).1.2 ++ txB (txS (stS (stS s).2).2).1 ++ (txS (stS (stS s).2).2).2.1
    rw [List.append_assoc, List.append_assoc, ← a2, ← b2, ← c2]
  · change (vlS (numS (stS s).2).2).2.2 = 0 at h
    obtain ⟨a1, a2⟩ := vlS_form h
    obtain ⟨b1, b2⟩ := numS_form a1
    obtain ⟨c1, c2⟩ := stS_form b1
    refine ⟨c1, ?_⟩
    show s.1 = stB (stS s).1.1 (stS s).1.2 ++ Wm.numB (((numS (stS s).2).1 : Nat) : Int).toNat ++ vlB (vlS (numS (stS s).2).2).1.1 (vlS (numS (stS s).2).2).1.2.1 (vlS (numS (stS s).2).2).1.2.2 ++ (vlS (numS (stS s).2).2).2.1
    rw [Int.toNat_natCast, List.append_assoc, List.append_assoc, ← a2, ← b2, ← c2]
  · change (onS (stS s).2).2.2 = 0 at h
    obtain ⟨a1, a2⟩ := onS_form h
    obtain ⟨b1, b2⟩ := stS_form a1
    refine ⟨b1, ?_⟩
    show s.1 = stB (stS s).1.1 (stS s).1.2 ++ Wm.numB (digO (onS (stS s).2).1) ++ (onS (stS s).2).2.1
    rw [List.append_assoc, ← a2, ← b2]
  · change (stS (stS s).2).2.2 = 0 at h
    obtain ⟨a1, a2⟩ := stS_form h
    obtain ⟨b1, b2⟩ := stS_form a1
    refine ⟨b1, ?_⟩
    show s.1 = stB (stS s).1.1 (stS s).1.2 ++ stB (stS (stS s).2).1.1 (stS (stS s).2).1.2 ++ (stS (stS s).2).2.1
    rw [List.append_assoc, ← a2, ← b2]
  · change (vlS (numS (paS (stS s).2).2).2).2.2 = 0 at h
    obtain ⟨a1, a2⟩ := vlS_form h
    obtain ⟨b1, b2⟩ := numS_form a1
    obtain ⟨c1, c2⟩ := paS_form b1
    obtain ⟨d1, d2⟩ := stS_form c1
    refine ⟨d1, ?_⟩
    show s.1 = stB (stS s).1.1 (stS s).1.2 ++ Wm.numB (paS (stS s).2).1.length ++ paB (paS (stS s).2).1 ++ Wm.numB (((numS (paS (stS s).2).2).1 : Nat) : Int).toNat ++ vlB (vlS (numS (paS (stS s).2).2).2).1.1 (vlS (numS (paS (stS s).2).2).2).1.2.1 (vlS (numS (paS (stS s).2).2).2).1.2.2 ++ (vlS (numS (paS (stS s).2).2).2).2.1
    rw [Int.toNat_natCast, List.append_assoc, List.append_assoc, List.append_assoc, List.append_assoc, ← a2, ← b2, ← c2, ← d2]
/-- bytes that are read as an op are the beginning of what it is written as -/
theorem takeO_form {l : List UInt8} (h : (takeO (l, 0)).2.2 = 0) : rightO (takeO (l, 0)).1 = true ∧ l = opB (takeO (l, 0)).1 ++ (takeO (l, 0)).2.1 := by
  obtain ⟨h1, h2⟩ := takeO_ok h
  refine ⟨h1, ?_⟩
  rw [h2] at h h1 ⊢
  obtain ⟨k1, k2⟩ := rightO_kind h1
  have hk := rawO_k (numS (l, 0)).1 (numS (l, 0)).2
  rw [hk] at k1 k2
  obtain ⟨a1, a2⟩ := rawO_form (by omega) (by omega) h
  obtain ⟨b1, b2⟩ := numS_form a1
  unfold opB
  rw [hk, Int.toNat_natCast, List.append_assoc, ← a2]
  exact b2
/-- an op that may be is read as it was written -/
theorem takeO_back {x : Opp} (h : rightO x = true) (more : List UInt8) : takeO (opB x ++ more, 0) = (x, (more, 0)) := by
  obtain ⟨k1, k6⟩ := rightO_kind h
  have hn : numS (opB x ++ more, 0) = (x.k.toNat, (tailB x ++ more, 0)) := by
    unfold opB
    rw [List.append_assoc, numS_back (by omega)]
  unfold takeO
  rw [hn]
  dsimp only
  suffices hr : rawO x.k.toNat (tailB x ++ more, 0) = (x, (more, 0)) by
    rw [hr]
    unfold endO
    rw [if_pos h, if_pos rfl]
  have hc : x.k = 1 ∨ x.k = 2 ∨ x.k = 3 ∨ x.k = 4 ∨ x.k = 5 ∨ x.k = 6 := by omega
  rcases hc with hk | hk | hk | hk | hk | hk
  · obtain ⟨e1, e2, e3⟩ := right1 h hk
    have ht : tailB x = stB x.rt x.rr ++ txB x.key := by unfold tailB; rw [if_pos hk]
    rw [hk, ht]
    show (({ Opp.zero with k := 1, rt := (stS _).1.1, rr := (stS _).1.2, key := (txS (stS _).2).1 } : Opp), (txS (stS _).2).2) = _
    rw [List.append_assoc, stS_back e1]
    dsimp only
    rw [txS_back (by have := key_small e2; omega)]
    dsimp only
    rw [← e3]
  · obtain ⟨e0, e1, e2, e3⟩ := right2 h hk
    have ht : tailB x = stB x.nt x.nr ++ stB x.rt x.rr ++ txB x.key := by unfold tailB; rw [if_neg (by omega), if_pos hk]
    rw [hk, ht]
    show (({ Opp.zero with k := 2, nt := (stS _).1.1, nr := (stS _).1.2, rt := (stS (stS _).2).1.1, rr := (stS (stS _).2).1.2, key := (txS (stS (stS _).2).2).1 } : Opp), (txS (stS (stS _).2).2).2) = _
    rw [List.append_assoc, List.append_assoc, stS_back e0]
    dsimp only
    rw [stS_back e1]
    dsimp only
    rw [txS_back (by have := key_small e2; omega)]
    dsimp only
    rw [← e3]
  · obtain ⟨e0, e1, e3⟩ := right3 h hk
    obtain ⟨p1, p8, e2⟩ := right8_facts e1
    have ht : tailB x = stB x.nt x.nr ++ Wm.numB x.p.toNat ++ vlB x.vk x.vn x.vt := by unfold tailB; rw [if_neg (by omega), if_neg (by omega), if_pos hk]
    rw [hk, ht]
    show (({ Opp.zero with k := 3, nt := (stS _).1.1, nr := (stS _).1.2, p := (numS (stS _).2).1, vk := (vlS (numS (stS _).2).2).1.1, vn := (vlS (numS (stS _).2).2).1.2.1, vt := (vlS (numS (stS _).2).2).1.2.2 } : Opp), (vlS (numS (stS _).2).2).2) = _
    rw [List.append_assoc, List.append_assoc, stS_back e0]
    dsimp only
    rw [numS_back (by omega)]
    dsimp only
    rw [vlS_back e2]
    dsimp only
    rw [Int.toNat_of_nonneg (by omega), ← e3]
  · obtain ⟨e0, e3⟩ := right4 h hk
    have ht : tailB x = stB x.nt x.nr ++ Wm.numB (digO x.on) := by unfold tailB; rw [if_neg (by omega), if_neg (by omega), if_neg (by omega), if_pos hk]
    rw [hk, ht]
    show (({ Opp.zero with k := 4, nt := (stS _).1.1, nr := (stS _).1.2, on := (onS (stS _).2).1 } : Opp), (onS (stS _).2).2) = _
    rw [List.append_assoc, stS_back e0]
    dsimp only
    rw [onS_back]
    dsimp only
    rw [← e3]
  · obtain ⟨e0, e1, e3⟩ := right5 h hk
    have ht : tailB x = stB x.nt x.nr ++ stB x.rt x.rr := by unfold tailB; rw [if_neg (by omega), if_neg (by omega), if_neg (by omega), if_neg (by omega), if_pos hk]
    rw [hk, ht]
    show (({ Opp.zero with k := 5, nt := (stS _).1.1, nr := (stS _).1.2, rt := (stS (stS _).2).1.1, rr := (stS (stS _).2).1.2 } : Opp), (stS (stS _).2).2) = _
    rw [List.append_assoc, stS_back e0]
    dsimp only
    rw [stS_back e1]
    dsimp only
    rw [← e3]
  · obtain ⟨e0, e1, e2, e3⟩ := right6 h hk
    obtain ⟨l1, l8, ls⟩ := okPath_small e1
    obtain ⟨p1, p8, e4⟩ := right8_facts e2
    have ht : tailB x = stB x.nt x.nr ++ Wm.numB x.path.length ++ paB x.path ++ Wm.numB x.p.toNat ++ vlB x.vk x.vn x.vt := by unfold tailB; rw [if_neg (by omega), if_neg (by omega), if_neg (by omega), if_neg (by omega), if_neg (by omega)]
    rw [hk, ht]
    show (({ Opp.zero with k := 6, nt := (stS _).1.1, nr := (stS _).1.2, path := (paS (stS _).2).1, p := (numS (paS (stS _).2).2).1, vk := (vlS (numS (paS (stS _).2).2).2).1.1, vn := (vlS (numS (paS (stS _).2).2).2).1.2.1, vt := (vlS (numS (paS (stS _).2).2).2).1.2.2 } : Opp), (vlS (numS (paS (stS _).2).2).2).2) = _
    rw [List.append_assoc, List.append_assoc, List.append_assoc, List.append_assoc, stS_back e0]
    dsimp only
    rw [paS_back (by omega) ls]
    dsimp only
    rw [numS_back (by omega)]
    dsimp only
    rw [vlS_back e4]
    dsimp only
    rw [Int.toNat_of_nonneg (by omega), ← e3]
/-- two ops that may be, with the same bytes, are the same -/
theorem opB_inj {x y : Opp} (hx : rightO x = true) (hy : rightO y = true) (h : opB x = opB y) : x = y := by
  have h1 := takeO_back hx []
  have h2 := takeO_back hy []
  rw [h] at h1
  rw [h1] at h2
  exact (congrArg Prod.fst h2)
end Go.Proofs.YtaplemkmkbjodaaGreat

namespace Go.Proofs.YtaplemkmkbjodaaGreat
open Go.RowKit

/-- the bytes so far: in a row (from block B on) that cell o points to -/
structure Out (w : World) (B o : Nat) (l : List UInt8) : Prop where
  lt : o < B
  size : B ≤ w.heap.size
  free : w.frozen? ⟨o, 0, none⟩ = false
  row : ∃ v, w.cell? ⟨o, 0, none⟩ = some v ∧ Own 5 w B v l
/-- of what lies below block B nothing turned but block o -/
structure Chg (o B : Nat) (w w' : World) : Prop where
  os : w'.os = w.os
  tape : w'.tape = w.tape
  output : w'.output = w.output
  size : w.heap.size ≤ w'.heap.size
  block : ∀ k, k < B → k ≠ o → w'.heap[k]? = w.heap[k]?
theorem Out.kept {w w' : World} {B o : Nat} {l : List UInt8} (h : Out w B o l) (hb : Below w.heap.size w w') : Out w' B o l := by
  obtain ⟨h1, h2, h3, v, h4, h5⟩ := h
  exact ⟨h1, Nat.le_trans h2 hb.size, by rw [hb.frozen (by simp; omega)]; exact h3, v, by rw [hb.cell (by simp; omega)]; exact h4, h5.below hb⟩
theorem only_set' (b o : Nat) (w : World) (v : Value) : w.grownBy (w.setCell ⟨b, o, none⟩ v) (some b) :=
  ⟨rfl, rfl, rfl, by simp [World.setCell], fun k _ hk => Below.heap_setCell w _ v k (fun e => hk (by rw [e]))⟩
theorem Own.setFar {w : World} {B o : Nat} {v : Value} {l : List UInt8} (h : Own 5 w B v l) (ho : o < B) (u : Value) : Own 5 (w.setCell ⟨o, 0, none⟩ u) B v l :=
  World.ownsRow.kept (row := some o) h (only_set' o 0 w u) (by
    cases hv : v.ownBlock with
    | none => simp
    | some g => have := (World.ownsRow.lt h g hv).1; simp; omega)

set_option maxRecDepth 100000 in
set_option maxHeartbeats 1000000 in
theorem add_any (B o : Nat) (l m : List UInt8) (p : Option Addr) (c : Nat) (e : Int) (w : World) (h : Out w B o l) (hm : Bs w p m) (hpn : p = none → c = 0) (hl : l.length + m.length ≤ 100000) :
    Calls Tryz.prog 95 #[.slice p m.length c, .int .i64 e, .pointer (some ⟨o, 0, none⟩)] w fun r w' => r = .returned (.tuple #[]) ∧ Out w' B o (l ++ m) ∧ Chg o B w w' := by
  obtain ⟨i0, hi, hz0, hz1, hz2⟩ := info_parts info_u8
  obtain ⟨h1, h2, h3, v, h4, h5⟩ := h
  have HO := Lib.hid h5
  have HBS := Lib.hid hm
  obtain ⟨p1, c1, rfl, -⟩ := h5.bs
  clear h5 hm
  go_enter Tryz.func95, Tryz.ntmps95
  go_wp2_with (at_builtin; refine wpList_append_bs rfl _ _ 103 rfl B 5 i0 Tryz.underlying103 hi hz0 hz1 hz2 _ l rfl HO.out p c m rfl HBS.out hpn ?b0 ?b1 ?_)
  case b0 => omega
  case b1 => exact h2
  intro v4 w4 hown4 hbel4 hgrow4 hnil4
  clear hgrow4 hnil4
  obtain ⟨p4, c4, rfl, -⟩ := hown4.bs
  have k4 : w4.cell? ⟨o, 0, none⟩ = some (.slice p1 l.length c1) := by rw [hbel4.cell (by simpa using h1)]; exact h4
  have kf : w4.frozen? ⟨o, 0, none⟩ = false := by rw [hbel4.frozen (by simpa using h1)]; exact h3
  have HO4 := Lib.hid (hown4.setFar h1 (.slice p4 (l ++ m).length c4))
  have HK4 := Lib.hid (cell_same (v := .slice p4 (l ++ m).length c4) k4)
  have HF4 := Lib.hid (show (w4.setCell ⟨o, 0, none⟩ (.slice p4 (l ++ m).length c4)).frozen? ⟨o, 0, none⟩ = false by rw [World.frozen?_setCell]; exact kf)
  have HC := Lib.hid (show Chg o B w (w4.setCell ⟨o, 0, none⟩ (.slice p4 (l ++ m).length c4)) from
    ⟨hbel4.os, hbel4.tape, hbel4.output, by have := hbel4.size; simpa using this, fun k hk hn => ((only_set' o 0 w4 _).block k (by have := hbel4.size; omega) (by simpa using fun e => hn e)).trans (hbel4.block k hk)⟩)
  have HS := Lib.hid (show B ≤ (w4.setCell ⟨o, 0, none⟩ (.slice p4 (l ++ m).length c4)).heap.size by have := hbel4.size; simp; omega)
  clear hown4 hbel4
  have HL := Lib.hid (show (l ++ m).length = l.length + m.length from List.length_append)
  generalize (l ++ m).length = n at *
  go_wp2
  go_end0
  exact ⟨rfl, ⟨h1, HS.out, HF4.out, _, HK4.out, HO4.out⟩, HC.out⟩
end Go.Proofs.YtaplemkmkbjodaaGreat
