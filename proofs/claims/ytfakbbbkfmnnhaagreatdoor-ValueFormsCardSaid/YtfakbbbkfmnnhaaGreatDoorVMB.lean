/-
  PLAIN MATHEMATICS of a value's bytes and texts; the document's number, Parse and Print of values; Same; Print at every value. Conditions: the row's listed variables ('Laid'), for the program's Print.
-/
import Derived.Test.YtfakbbbkfmnnhaaGreatDoorVParse
import Derived.Test.YtfakbbbkfmnnhaaGreatDoorVTake
import Derived.Test.YtfakbbbkfmnnhaaGreatDoorVPut
import Derived.Test.YtfakbbbkfmnnhaaGreatDoorDigits
import Derived.Test.YtfakbbbkfmnnhaaGreatDoorNumS
import Derived.Test.YtfakbbbkfmnnhaaGreatDoorRefParse
import Derived.Test.YtfakbbbkfmnnhaaGreatDoorRef2
import Derived.Test.YtfakbbbkfmnnhaaGreatDoorVBytes
namespace Go.Proofs.YtfakbbbkfmnnhaaGreatDoor

section
open Go.RowKit

theorem prefix_mem {l : List UInt8} {c : UInt8} (h : Lib.hasPrefix l [c] = true) : c ∈ l := by
  unfold Lib.hasPrefix at h
  cases l with
  | nil => simp at h
  | cons a l => simp at h; simp [h]
theorem suffix_mem {l : List UInt8} {c : UInt8} (h : Lib.hasSuffix l [c] = true) : c ∈ l := by
  unfold Lib.hasSuffix at h
  rw [List.isSuffixOf_iff_suffix] at h
  exact h.subset (by simp)
theorem suffix_app (a : List UInt8) (c : UInt8) : Lib.hasSuffix (a ++ [c]) [c] = true := by
  unfold Lib.hasSuffix
  rw [List.isSuffixOf_iff_suffix]
  exact List.suffix_append a [c]
theorem trimS_app (a : List UInt8) (c : UInt8) : Lib.trimSuffix (a ++ [c]) [c] = a := by
  unfold Lib.trimSuffix
  rw [if_pos (suffix_app a c)]
  simp
theorem trimS_not {l : List UInt8} {c : UInt8} (h : c ∉ l) : Lib.hasSuffix l [c] = false ∧ Lib.trimSuffix l [c] = l := by
  have h1 : Lib.hasSuffix l [c] = false := by
    cases hs : Lib.hasSuffix l [c] with
    | false => rfl
    | true => exact absurd (suffix_mem hs) h
  exact ⟨h1, by unfold Lib.trimSuffix; rw [if_neg (by rw [h1]; simp)]⟩
theorem prefix_not {l : List UInt8} {c : UInt8} (h : c ∉ l) : Lib.hasPrefix l [c] = false := by
  cases hs : Lib.hasPrefix l [c] with
  | false => rfl
  | true => exact absurd (prefix_mem hs) h
theorem itoa_no (n : Int) (c : UInt8) (h : c ≠ 45 ∧ (c.toNat < 48 ∨ 57 < c.toNat)) : c ∉ Lib.itoa n := by
  intro hc
  rcases itoa_chars n c hc with h1 | h1
  · exact h.1 h1
  · omega

theorem guess_none : guessV [110, 111, 110, 101] = (0, 0, []) := by decide
theorem guess_yes : guessV [121, 101, 115] = (4, 1, []) := by decide
theorem guess_no : guessV [110, 111] = (4, 0, []) := by decide
theorem guess_int (n : Int) (h0 : -1099511627776 ≤ n) (h1 : n ≤ 1099511627776) : guessV (Lib.itoa n) = (1, n, []) := by
  have a121 := itoa_no n 121 (by decide)
  have a110 := itoa_no n 110 (by decide)
  have a34 := itoa_no n 34 (by decide)
  have a102 := itoa_no n 102 (by decide)
  obtain ⟨s1, s2⟩ := trimS_not a102
  unfold guessV
  rw [if_neg (fun h => a121 (by rw [h]; simp)), if_neg (fun h => a110 (by rw [h]; simp)), if_neg (by rw [prefix_not a34]; simp), s2, atoi_itoa n (by omega) (by omega), s1]
  rfl
theorem guess_fix (n : Int) (h0 : -1099511627776 ≤ n) (h1 : n ≤ 1099511627776) : guessV (Lib.itoa n ++ [102]) = (2, n, []) := by
  have a34 : (34 : UInt8) ∉ Lib.itoa n ++ [102] := by
    intro h
    rcases List.mem_append.1 h with h | h
    · exact itoa_no n 34 (by decide) h
    · simp at h
  have a102 : (102 : UInt8) ∈ Lib.itoa n ++ [102] := by simp
  unfold guessV
  rw [if_neg (fun h => by rw [h] at a102; simp at a102), if_neg (fun h => by rw [h] at a102; simp at a102), if_neg (by rw [prefix_not a34]; simp), trimS_app, atoi_itoa n (by omega) (by omega), suffix_app]
  rfl
theorem guess_text (t : List UInt8) : guessV ([34] ++ t ++ [34]) = (3, 0, t) := by
  have hp : Lib.hasPrefix ([34] ++ t ++ [34]) [34] = true := by simp [Lib.hasPrefix]
  have hd : Lib.trimPrefix ([34] ++ t ++ [34]) [34] = t ++ [34] := by
    unfold Lib.trimPrefix
    rw [if_pos hp]
    simp
  unfold guessV
  rw [if_neg (by simp), if_neg (by simp), if_pos hp, hd, trimS_app]

theorem guess_print {k n : Int} {t : List UInt8} (h : Vm.rightV k n t = true) : guessV (printV k n t) = (k, n, t) := by
  have hp : printV k n t = (if k = 2 then Lib.itoa n ++ [102] else if k = 1 then Lib.itoa n else if k = 3 then [34] ++ t ++ [34] else if k = 4 then (if n = 1 then [121, 101, 115] else [110, 111]) else [110, 111, 110, 101]) := by
    unfold printV; rw [if_pos h]
  rw [hp]
  rcases right_kind h with rfl | rfl | rfl | rfl | rfl
  · obtain rfl := right_empty h (by decide)
    have hn : n = 0 := by rw [Vm.rightV_none] at h; simp at h; exact h
    subst hn
    exact guess_none
  · obtain rfl := right_empty h (by decide)
    obtain ⟨a, b⟩ := right_num h (Or.inl rfl)
    exact guess_int n a b
  · obtain rfl := right_empty h (by decide)
    obtain ⟨a, b⟩ := right_num h (Or.inr rfl)
    exact guess_fix n a b
  · obtain ⟨rfl, -⟩ := right_text h
    exact guess_text t
  · obtain rfl := right_empty h (by decide)
    rcases right_flag h with rfl | rfl
    · exact guess_no
    · exact guess_yes
theorem parse_printV {k n : Int} {t : List UInt8} (h : Vm.rightV k n t = true) : parseV (printV k n t) = (k, n, t, true) := by
  unfold parseV
  rw [guess_print h]
  dsimp only
  rw [if_pos ⟨h, rfl⟩]
theorem parseV_form (l : List UInt8) : parseV l = (0, 0, [], false) ∨ ∃ k n t, parseV l = (k, n, t, true) ∧ Vm.rightV k n t = true ∧ printV k n t = l ∧ t.length ≤ 64 := by
  unfold parseV
  split
  · next h => exact Or.inr ⟨_, _, _, rfl, h.1, h.2, right_t h.1⟩
  · exact Or.inl rfl

theorem take_backV {k n : Int} {t : List UInt8} (h : Vm.rightV k n t = true) : takeV (Wm.numB k.toNat ++ restV k n t) = (k, n, t, [], 0) := by
  have hraw : rawV (Wm.numB k.toNat ++ restV k n t) = (k, n, t, [], 0) := by
    have hk := right_kind h
    unfold rawV
    rw [uptoR_back k.toNat _ (by omega)]
    dsimp only
    rcases hk with rfl | rfl | rfl | rfl | rfl
    · obtain rfl := right_empty h (by decide)
      have hn : n = 0 := by rw [Vm.rightV_none] at h; simp at h; exact h
      subst hn
      rfl
    · obtain rfl := right_empty h (by decide)
      obtain ⟨a, b⟩ := right_num h (Or.inl rfl)
      have hf := foldV_le n a b
      have e : restV 1 n [] = Wm.numB (foldV n) ++ [] := by rw [List.append_nil]; rfl
      rw [e, uptoR_back _ _ (by omega)]
      dsimp only
      rw [if_pos (by decide), unfold_fold]
      rfl
    · obtain rfl := right_empty h (by decide)
      obtain ⟨a, b⟩ := right_num h (Or.inr rfl)
      have hf := foldV_le n a b
      have e : restV 2 n [] = Wm.numB (foldV n) ++ [] := by rw [List.append_nil]; rfl
      rw [e, uptoR_back _ _ (by omega)]
      dsimp only
      rw [if_pos (by decide), unfold_fold]
      rfl
    · obtain ⟨rfl, hl⟩ := right_text h
      have e : restV 3 0 t = Wm.numB t.length ++ t ++ [] := by rw [List.append_nil]; rfl
      rw [e, textR_back _ _ (by omega)]
      rfl
    · obtain rfl := right_empty h (by decide)
      have hn := right_flag h
      have e : restV 4 n [] = Wm.numB n.toNat ++ [] := by rw [List.append_nil]; rfl
      rw [e, uptoR_back _ _ (by omega)]
      dsimp only
      rw [if_neg (by decide), if_neg (by decide), if_pos (by decide)]
      rw [show ((n.toNat : Nat) : Int) = n by omega]
  unfold takeV
  rw [hraw]
  dsimp only
  rw [if_neg (by simp), if_pos h]

end

section
open Go.RowKit Go.Lib

/-- the document's number -/
def minusB (l : List UInt8) : Bool := decide (0 < l.length) && decide (by8 l 0 = 45)
def bareL (l : List UInt8) : List UInt8 := if minusB l = true then l.drop 1 else l
def refNumV (l : List UInt8) : Int × Bool :=
  if minusB l = true then (-(refParseR (bareL l ++ [64, 48])).1, (refParseR (bareL l ++ [64, 48])).2.2 && decide (0 < (refParseR (bareL l ++ [64, 48])).1))
  else ((refParseR (bareL l ++ [64, 48])).1, (refParseR (bareL l ++ [64, 48])).2.2)

theorem numS_zero : numS [48] = 0 := by decide
theorem numS_at (l : List UInt8) (h : (64 : UInt8) ∈ l) : numS l = -1 := by
  unfold numS
  split
  · rfl
  · split
    · next h2 =>
      exfalso
      have := List.all_eq_true.1 h2 64 h
      simp at this
    · rfl
theorem first_at : ∀ r : List UInt8, (64 : UInt8) ∈ r → ∃ a b, r = a ++ 64 :: b ∧ (64 : UInt8) ∉ a
  | [], h => by simp at h
  | c :: r, h => by
    by_cases hc : c = 64
    · subst hc
      exact ⟨[], r, rfl, by simp⟩
    · have hr : (64 : UInt8) ∈ r := by
        rcases List.mem_cons.1 h with h | h
        · exact absurd h.symm hc
        · exact h
      obtain ⟨a, b, h1, h2⟩ := first_at r hr
      exact ⟨c :: a, b, by rw [h1]; rfl, by intro hm; rcases List.mem_cons.1 hm with h | h; exact hc h.symm; exact h2 h⟩
theorem rightB_of (x : Int) (h0 : 0 ≤ x) (h1 : x ≤ 1099511627776) : rightB x 0 = true := decide_eq_true ⟨h0, h1, by omega, by omega⟩
theorem refParse_zero (r : List UInt8) : refParseR (r ++ [64, 48]) = (if rightB (numS r) 0 = true then (numS r, 0, true) else (0, 0, false)) := by
  by_cases h : (64 : UInt8) ∈ r
  · have hn := numS_at r h
    obtain ⟨a, b, hab, ha⟩ := first_at r h
    have hc : cutB (r ++ [64, 48]) = (a, b ++ [64, 48], true) := by
      rw [hab, List.append_assoc, List.cons_append]
      exact cutB_app a (b ++ [64, 48]) ha
    have hb := numS_at (b ++ [64, 48]) (by simp)
    unfold refParseR
    rw [hc, hn]
    dsimp only
    rw [hb, if_pos rfl, if_neg (by simp [rightB]), if_neg (by simp [rightB])]
  · unfold refParseR
    rw [cutB_app r [48] h]
    dsimp only
    rw [numS_zero, if_pos rfl]

theorem numS_cases (l : List UInt8) : numS l = -1 ∨ ∃ u : Nat, numS l = (u : Int) := by
  unfold numS
  split
  · exact Or.inl rfl
  · split
    · exact Or.inr ⟨_, rfl⟩
    · exact Or.inl rfl

/-- what is read as a number is a numeral -/
theorem refNumV_yes {l : List UInt8} {x : Int} (h : refNumV l = (x, true)) : l = itoa x ∧ -1099511627776 ≤ x ∧ x ≤ 1099511627776 := by
  unfold refNumV at h
  rw [refParse_zero] at h
  split at h
  · next hm =>
    cases hr : rightB (numS (bareL l)) 0 with
    | false => rw [hr] at h; simp at h
    | true =>
      rw [hr, if_pos rfl] at h
      dsimp only at h
      simp only [Prod.mk.injEq, Bool.true_and, decide_eq_true_eq] at h
      obtain ⟨rfl, hpos⟩ := h
      obtain ⟨r0, r1, -, -⟩ := rightB_yes hr
      obtain ⟨u, hu⟩ : ∃ u : Nat, numS (bareL l) = u := ⟨(numS (bareL l)).toNat, by omega⟩
      have hd := numS_dec _ u hu
      have hl : l = 45 :: bareL l := by
        unfold bareL
        rw [if_pos hm]
        unfold minusB at hm
        simp only [Bool.and_eq_true, decide_eq_true_eq] at hm
        obtain ⟨h0, h1⟩ := hm
        cases l with
        | nil => simp at h0
        | cons c r =>
          have hc : c = 45 := UInt8.toNat_inj.1 (by rw [by8_cons_zero] at h1; exact h1)
          subst hc
          rfl
      refine ⟨?_, by omega, by omega⟩
      have hi : itoa (-numS (bareL l)) = 45 :: decDigits u := by
        rw [hu]
        unfold itoa
        rw [if_pos (by omega)]
        have : (-(u : Int)).natAbs = u := by omega
        rw [this]
      rw [hi, ← hd]
      exact hl
  · next hm =>
    cases hr : rightB (numS (bareL l)) 0 with
    | false => rw [hr] at h; simp at h
    | true =>
      rw [hr, if_pos rfl] at h
      dsimp only at h
      simp only [Prod.mk.injEq, and_true] at h
      obtain rfl := h
      obtain ⟨r0, r1, -, -⟩ := rightB_yes hr
      obtain ⟨u, hu⟩ : ∃ u : Nat, numS (bareL l) = u := ⟨(numS (bareL l)).toNat, by omega⟩
      have hd := numS_dec _ u hu
      have hl : bareL l = l := by unfold bareL; rw [if_neg hm]
      refine ⟨?_, by omega, by omega⟩
      rw [hu, itoa_nat, ← hd, hl]
/-- each numeral is read -/
theorem refNumV_itoa (n : Int) (h0 : -1099511627776 ≤ n) (h1 : n ≤ 1099511627776) : refNumV (itoa n) = (n, true) := by
  by_cases hn : n < 0
  · have hi : itoa n = 45 :: decDigits n.natAbs := by unfold itoa; rw [if_pos hn]
    have hm : minusB (itoa n) = true := by
      unfold minusB
      rw [hi, by8_cons_zero]
      simp
    have hb : bareL (itoa n) = decDigits n.natAbs := by
      unfold bareL
      rw [if_pos hm, hi]
      rfl
    unfold refNumV
    rw [if_pos hm, refParse_zero, hb, numS_of_dec _ (by omega), rightB_of _ (by omega) (by omega), if_pos rfl]
    simp
    omega
  · obtain ⟨u, rfl⟩ := Int.eq_ofNat_of_zero_le (show 0 ≤ n by omega)
    have hm : minusB (itoa (u : Int)) = false := by
      unfold minusB
      rw [itoa_nat]
      have hd := decDigits_dig u
      cases hdd : decDigits u with
      | nil => rfl
      | cons c r =>
        rw [by8_cons_zero]
        have := hd c (by rw [hdd]; simp)
        simp
        omega
    have hb : bareL (itoa (u : Int)) = decDigits u := by
      unfold bareL
      rw [if_neg (by rw [hm]; simp), itoa_nat]
    unfold refNumV
    rw [if_neg (by rw [hm]; simp), refParse_zero, hb, numS_of_dec _ (by omega), rightB_of _ (by omega) (by omega), if_pos rfl]

/-- what the document's Parse answers -/
def refParseV (l : List UInt8) : Int × Int × List UInt8 × Bool :=
  if l = [110, 111, 110, 101] then (0, 0, [], true)
  else if l = [121, 101, 115] then (4, 1, [], true)
  else if l = [110, 111] then (4, 0, [], true)
  else if 2 ≤ l.length ∧ by8 l 0 = 34 ∧ by8 l (l.length - 1) = 34 then (if Vm.okT ((l.drop 1).take (l.length - 2)) = true then (3, 0, (l.drop 1).take (l.length - 2), true) else (0, 0, [], false))
  else if 0 < l.length ∧ by8 l (l.length - 1) = 102 then (if (refNumV (l.take (l.length - 1))).2 = true then (2, (refNumV (l.take (l.length - 1))).1, [], true) else (0, 0, [], false))
  else (if (refNumV l).2 = true then (1, (refNumV l).1, [], true) else (0, 0, [], false))

theorem by8_last (a : List UInt8) (c : UInt8) : by8 (a ++ [c]) ((a ++ [c]).length - 1) = c.toNat := by
  simp [by8, List.getD]
theorem last_of {l : List UInt8} {c : UInt8} (h0 : 0 < l.length) (h : by8 l (l.length - 1) = c.toNat) : l = l.take (l.length - 1) ++ [c] := by
  have hne : l ≠ [] := by intro e; rw [e] at h0; simp at h0
  have e1 := List.dropLast_concat_getLast hne
  have e2 : l.getLast hne = c := by
    rw [List.getLast_eq_getElem]
    refine UInt8.toNat_inj.1 ?_
    rw [← h, by8_get _ _ (by omega)]
  rw [e2, List.dropLast_eq_take] at e1
  exact e1.symm
theorem quoted_of {l : List UInt8} (h2 : 2 ≤ l.length) (h0 : by8 l 0 = 34) (h1 : by8 l (l.length - 1) = 34) : l = [34] ++ (l.drop 1).take (l.length - 2) ++ [34] := by
  cases l with
  | nil => simp at h2
  | cons a r =>
    have ha : a = 34 := UInt8.toNat_inj.1 (by rw [by8_cons_zero] at h0; exact h0)
    subst ha
    have hl := last_of (l := 34 :: r) (c := 34) (by simp) h1
    simp only [List.length_cons, Nat.add_sub_cancel] at hl ⊢
    have hr : r.length ≠ 0 := by simp at h2; omega
    obtain ⟨m, hm⟩ : ∃ m, r.length = m + 1 := ⟨r.length - 1, by omega⟩
    rw [hm] at hl ⊢
    simp only [List.take_succ_cons, List.cons_append] at hl
    have h3 : r = List.take m r ++ [34] := by injection hl
    have e : m + 1 + 1 - 2 = m := by omega
    rw [e]
    simp only [List.drop_succ_cons, List.drop_zero, List.nil_append, List.cons_append]
    rw [← h3]

theorem right_make3 (t : List UInt8) (h : Vm.okT t = true) : Vm.rightV 3 0 t = true := by rw [Vm.rightV_text, h]; rfl
theorem right_make (k n : Int) (hk : k = 1 ∨ k = 2) (h0 : -1099511627776 ≤ n) (h1 : n ≤ 1099511627776) : Vm.rightV k n [] = true := by rw [Vm.rightV_num _ _ _ hk]; simp [h0, h1]
theorem printV_int (n : Int) (h : Vm.rightV 1 n [] = true) : printV 1 n [] = itoa n := by unfold printV; rw [if_pos h]; rfl
theorem printV_fix (n : Int) (h : Vm.rightV 2 n [] = true) : printV 2 n [] = itoa n ++ [102] := by unfold printV; rw [if_pos h]; rfl
theorem printV_text (t : List UInt8) (h : Vm.rightV 3 0 t = true) : printV 3 0 t = [34] ++ t ++ [34] := by unfold printV; rw [if_pos h]; rfl

theorem parseV_alike (l : List UInt8) : parseV l = refParseV l := by
  unfold refParseV
  by_cases h1 : l = [110, 111, 110, 101]
  · rw [if_pos h1, h1]
    exact parse_printV (k := 0) (n := 0) (t := []) (by decide)
  rw [if_neg h1]
  by_cases h2 : l = [121, 101, 115]
  · rw [if_pos h2, h2]
    exact parse_printV (k := 4) (n := 1) (t := []) (by decide)
  rw [if_neg h2]
  by_cases h3 : l = [110, 111]
  · rw [if_pos h3, h3]
    exact parse_printV (k := 4) (n := 0) (t := []) (by decide)
  rw [if_neg h3]
  have hform := parseV_form l
  by_cases h4 : 2 ≤ l.length ∧ by8 l 0 = 34 ∧ by8 l (l.length - 1) = 34
  · rw [if_pos h4]
    have hq := quoted_of h4.1 h4.2.1 h4.2.2
    generalize (l.drop 1).take (l.length - 2) = t at *
    cases ht : Vm.okT t with
    | true =>
      rw [if_pos rfl, hq, ← printV_text t (right_make3 t ht)]
      exact parse_printV (right_make3 t ht)
    | false =>
      rw [if_neg (by simp)]
      rcases hform with hf | ⟨k, n, t', hf, hr, hp, -⟩
      · exact hf
      · exfalso
        rw [hq] at hp
        rcases right_kind hr with rfl | rfl | rfl | rfl | rfl
        · obtain rfl := right_empty hr (by decide)
          unfold printV at hp; rw [if_pos hr] at hp; simp at hp
        · obtain rfl := right_empty hr (by decide)
          rw [printV_int n hr] at hp
          exact itoa_no n 34 (by decide) (by rw [hp]; simp)
        · obtain rfl := right_empty hr (by decide)
          rw [printV_fix n hr] at hp
          have : (34 : UInt8) ∈ itoa n ++ [102] := by rw [hp]; simp
          rcases List.mem_append.1 this with h | h
          · exact itoa_no n 34 (by decide) h
          · simp at h
        · obtain ⟨rfl, -⟩ := right_text hr
          rw [printV_text t' hr] at hp
          have : t' = t := by simpa using hp
          subst this
          rw [Vm.rightV_text, ht] at hr
          simp at hr
        · unfold printV at hp; rw [if_pos hr] at hp
          simp at hp
          split at hp <;> simp at hp
  rw [if_neg h4]
  by_cases h5 : 0 < l.length ∧ by8 l (l.length - 1) = 102
  · rw [if_pos h5]
    have hl := last_of (c := 102) h5.1 h5.2
    generalize l.take (l.length - 1) = d at *
    rcases hn : refNumV d with ⟨x, ok⟩
    dsimp only
    cases ok with
    | true =>
      rw [if_pos rfl]
      obtain ⟨rfl, x0, x1⟩ := refNumV_yes hn
      have hr := right_make 2 x (Or.inr rfl) x0 x1
      rw [hl, ← printV_fix x hr]
      exact parse_printV hr
    | false =>
      rw [if_neg (by simp)]
      rcases hform with hf | ⟨k, n, t', hf, hr, hp, -⟩
      · exact hf
      · exfalso
        rw [hl] at hp
        rcases right_kind hr with rfl | rfl | rfl | rfl | rfl
        · obtain rfl := right_empty hr (by decide)
          unfold printV at hp; rw [if_pos hr] at hp
          have := congrArg List.getLast? hp
          simp at this
        · obtain rfl := right_empty hr (by decide)
          rw [printV_int n hr] at hp
          exact itoa_no n 102 (by decide) (by rw [hp]; simp)
        · obtain rfl := right_empty hr (by decide)
          obtain ⟨n0, n1⟩ := right_num hr (Or.inr rfl)
          rw [printV_fix n hr] at hp
          have hd : itoa n = d := by simpa using hp
          rw [← hd, refNumV_itoa n n0 n1] at hn
          cases hn
        · obtain ⟨rfl, -⟩ := right_text hr
          rw [printV_text t' hr] at hp
          have := List.append_inj_right' hp rfl
          simp at this
        · rcases right_flag hr with rfl | rfl
          · unfold printV at hp; rw [if_pos hr] at hp
            have := congrArg List.getLast? hp
            simp at this
          · unfold printV at hp; rw [if_pos hr] at hp
            have := congrArg List.getLast? hp
            simp at this
  rw [if_neg h5]
  rcases hn : refNumV l with ⟨x, ok⟩
  dsimp only
  cases ok with
  | true =>
    rw [if_pos rfl]
    obtain ⟨rfl, x0, x1⟩ := refNumV_yes hn
    have hr := right_make 1 x (Or.inl rfl) x0 x1
    have hpp := parse_printV hr
    rw [printV_int x hr] at hpp
    exact hpp
  | false =>
    rw [if_neg (by simp)]
    rcases hform with hf | ⟨k, n, t', hf, hr, hp, -⟩
    · exact hf
    · exfalso
      rcases right_kind hr with rfl | rfl | rfl | rfl | rfl
      · obtain rfl := right_empty hr (by decide)
        unfold printV at hp; rw [if_pos hr] at hp
        exact h1 hp.symm
      · obtain rfl := right_empty hr (by decide)
        obtain ⟨n0, n1⟩ := right_num hr (Or.inl rfl)
        rw [printV_int n hr] at hp
        rw [← hp, refNumV_itoa n n0 n1] at hn
        cases hn
      · obtain rfl := right_empty hr (by decide)
        rw [printV_fix n hr] at hp
        apply h5
        rw [← hp]
        exact ⟨by simp, by8_last _ _⟩
      · obtain ⟨rfl, -⟩ := right_text hr
        rw [printV_text t' hr] at hp
        apply h4
        rw [← hp]
        exact ⟨by simp, rfl, by8_last _ _⟩
      · unfold printV at hp; rw [if_pos hr] at hp
        rcases right_flag hr with rfl | rfl
        · exact h3 hp.symm
        · exact h2 hp.symm

end

section
open Go.RowKit

theorem at_zero (u : ByteArray) : (u ++ ⟨#[64, 48]⟩).data.toList = u.data.toList ++ [64, 48] := by simp [ByteArray.data_append]
theorem at_size (u : ByteArray) : (u ++ ⟨#[64, 48]⟩).size = u.size + 2 := by
  rw [← str_len, at_zero, List.length_append, str_len]; rfl
theorem refParse_at (u : ByteArray) (w : World) (hu : u.size ≤ 281474976710656) : Calls Tryz.prog 54 #[.string (u ++ ⟨#[64, 48]⟩)] w fun e w' => e = .returned (.tuple #[.agg #[.int .i64 (refParseR (u.data.toList ++ [64, 48])).1, .int .i64 (refParseR (u.data.toList ++ [64, 48])).2.1], .bool (refParseR (u.data.toList ++ [64, 48])).2.2]) ∧ Below w.heap.size w w' := by
  have h := refParse_any (u ++ ⟨#[64, 48]⟩) w (by rw [at_size]; omega)
  rw [at_zero] at h
  exact h
theorem refParse_bd (l : List UInt8) : 0 ≤ (refParseR (l ++ [64, 48])).1 ∧ (refParseR (l ++ [64, 48])).1 ≤ 1099511627776 := by
  rw [refParse_zero]
  split
  · next h => obtain ⟨a, b, -, -⟩ := rightB_yes h; exact ⟨a, b⟩
  · simp

set_option maxRecDepth 100000 in
set_option maxHeartbeats 2000000 in
theorem vnum_any (s : ByteArray) (w : World) (hs : s.size ≤ 281474976710656) : Calls Tryz.prog 33 #[.string s] w fun e w' => e = .returned (.tuple #[.int .i64 (refNumV s.data.toList).1, .bool (refNumV s.data.toList).2]) ∧ Below w.heap.size w w' := by
  have hsl := str_len s
  cases hm : minusB s.data.toList with
  | true =>
    have hm2 := hm
    unfold minusB at hm2
    simp only [Bool.and_eq_true, decide_eq_true_eq] at hm2
    obtain ⟨h0, h1⟩ := hm2
    rw [hsl] at h0
    have hi : (((s[0]'h0).toNat : Int) == 45) = true := by
      rw [beq_iff_eq]
      have := by8_get s.data.toList 0 (by omega)
      rw [h1] at this
      have e : s.data.toList[0]'(by omega) = s[0]'h0 := rfl
      rw [e] at this
      omega
    have hb : bareL s.data.toList = s.data.toList.drop 1 := by unfold bareL; rw [if_pos hm]
    have he : (s.extract 1 s.size).data.toList = s.data.toList.drop 1 := by
      rw [extract_strB, strB_toList, List.take_of_length_le]
      rw [List.length_drop, hsl]; omega
    have hez : (s.extract 1 s.size).size ≤ s.size := by rw [← str_len, he, List.length_drop, hsl]; omega
    have HN := Lib.hid (show refNumV s.data.toList = (-(refParseR (s.data.toList.drop 1 ++ [64, 48])).1, (refParseR (s.data.toList.drop 1 ++ [64, 48])).2.2 && decide (0 < (refParseR (s.data.toList.drop 1 ++ [64, 48])).1)) by unfold refNumV; rw [if_pos hm, hb])
    have HP := Lib.hid (fun W => refParse_at (s.extract 1 s.size) W (by omega))
    rw [he] at HP
    obtain ⟨b0, b1⟩ := refParse_bd (s.data.toList.drop 1)
    generalize refParseR (s.data.toList.drop 1 ++ [64, 48]) = r at *
    obtain ⟨rt, rr, rk⟩ := r
    dsimp only at *
    have h00 : decide (0 < s.size) = true := decide_eq_true h0
    have hez2 : (s.extract 1 s.size).size ≤ 281474976710656 := by omega
    clear hm he hb h1 hez
    cases rk with
    | true =>
      go_enter Tryz.func33, Tryz.ntmps33
      go_wp2_with fail
      refine (HP.out _).mono ?_
      rintro e w1 ⟨rfl, hb⟩
      have HB := Lib.hid (hb.alloc hb.size (.cells #[.int .i64 rt, .int .i64 rr] 79))
      clear hb
      go_wp2
      go_quiet (fail)
      go_wp2
      go_ret2
      rw [HN.out]
      exact ⟨rfl, below_drewN HB.out _⟩
    | false =>
      go_enter Tryz.func33, Tryz.ntmps33
      go_wp2_with fail
      refine (HP.out _).mono ?_
      rintro e w1 ⟨rfl, hb⟩
      have HB := Lib.hid (hb.alloc hb.size (.cells #[.int .i64 rt, .int .i64 rr] 79))
      clear hb
      go_wp2
      go_quiet (fail)
      go_wp2
      go_ret2
      rw [HN.out]
      exact ⟨rfl, below_drewN HB.out _⟩
  | false =>
    have hb : bareL s.data.toList = s.data.toList := by unfold bareL; rw [if_neg (by rw [hm]; simp)]
    have HN := Lib.hid (show refNumV s.data.toList = ((refParseR (s.data.toList ++ [64, 48])).1, (refParseR (s.data.toList ++ [64, 48])).2.2) by unfold refNumV; rw [if_neg (by rw [hm]; simp), hb])
    have HP := Lib.hid (fun W => refParse_at s W (by omega))
    generalize refParseR (s.data.toList ++ [64, 48]) = r at *
    obtain ⟨rt, rr, rk⟩ := r
    dsimp only at *
    by_cases h0 : 0 < s.size
    · have hi : (((s[0]'h0).toNat : Int) == 45) = false := by
        rw [beq_eq_false_iff_ne]
        intro h
        unfold minusB at hm
        have := by8_get s.data.toList 0 (by omega)
        have e : s.data.toList[0]'(by omega) = s[0]'h0 := rfl
        rw [e] at this
        rw [hsl, decide_eq_true h0, decide_eq_true (by omega)] at hm
        cases hm
      have h00 : decide (0 < s.size) = true := decide_eq_true h0
      clear hm hb
      go_enter Tryz.func33, Tryz.ntmps33
      go_wp2_with fail
      refine (HP.out _).mono ?_
      rintro e w1 ⟨rfl, hb⟩
      have HB := Lib.hid (hb.alloc hb.size (.cells #[.int .i64 rt, .int .i64 rr] 79))
      clear hb
      go_wp2
      go_ret2
      rw [HN.out]
      exact ⟨rfl, HB.out⟩
    · have h00 : decide (0 < s.size) = false := decide_eq_false h0
      clear hm hb
      go_enter Tryz.func33, Tryz.ntmps33
      go_wp2_with fail
      refine (HP.out _).mono ?_
      rintro e w1 ⟨rfl, hb⟩
      have HB := Lib.hid (hb.alloc hb.size (.cells #[.int .i64 rt, .int .i64 rr] 79))
      clear hb
      go_wp2
      go_ret2
      rw [HN.out]
      exact ⟨rfl, HB.out⟩

end

section
open Go.RowKit

set_option maxRecDepth 100000 in
set_option maxHeartbeats 4000000 in
theorem refVparse_any (s : ByteArray) (w : World) (hs : s.size ≤ 281474976710656) : Calls Tryz.prog 9 #[.string s] w fun e w' => e = .returned (.tuple #[.agg #[.int .i64 (refParseV s.data.toList).1, .int .i64 (refParseV s.data.toList).2.1, .string (strV (refParseV s.data.toList).2.2.1)], .bool (refParseV s.data.toList).2.2.2]) ∧ Below w.heap.size w w' := by
  have hsl := str_len s
  have hb := (Below.refl w.heap.size w).alloc (Nat.le_refl _) (.cells #[.int .i64 0, .int .i64 0, .string ⟨#[]⟩] 23)
  have HV := Lib.hid (show VRes w w.heap.size (w.alloc (.cells #[.int .i64 0, .int .i64 0, .string ⟨#[]⟩] 23)) from ⟨Nat.le_refl _, ThreeAt.start w 0 0 ⟨#[]⟩, hb⟩)
  clear hb
  by_cases h1 : s.data.toList = [110, 111, 110, 101]
  · have HR := Lib.hid (show refParseV s.data.toList = (0, 0, [], true) by unfold refParseV; rw [if_pos h1])
    obtain rfl : s = ⟨#[110, 111, 110, 101]⟩ := by apply ByteArray.ext; apply Array.toList_inj.1; exact h1
    clear h1 hsl
    go_enter Tryz.func9, Tryz.ntmps9
    go_wp2
    refine bodyPost_ret (v := .tuple #[.agg #[.int .i64 0, .int .i64 0, .string ⟨#[]⟩], .bool true]) (by simp [results, Tryz.results9, go_sem]) rfl ?_
    rw [HR.out]
    exact ⟨rfl, (Below.refl w.heap.size w).alloc (Nat.le_refl _) _⟩
  by_cases h2 : s.data.toList = [121, 101, 115]
  · have HR := Lib.hid (show refParseV s.data.toList = (4, 1, [], true) by unfold refParseV; rw [if_neg h1, if_pos h2])
    obtain rfl : s = ⟨#[121, 101, 115]⟩ := by apply ByteArray.ext; apply Array.toList_inj.1; exact h2
    clear h1 h2 hsl
    go_enter Tryz.func9, Tryz.ntmps9
    go_wp2
    refine bodyPost_ret (v := .tuple #[.agg #[.int .i64 4, .int .i64 1, .string ⟨#[]⟩], .bool true]) (by simp [results, Tryz.results9, go_sem]) rfl ?_
    rw [HR.out]
    exact ⟨rfl, (Below.refl w.heap.size w).alloc (Nat.le_refl _) _⟩
  by_cases h3 : s.data.toList = [110, 111]
  · have HR := Lib.hid (show refParseV s.data.toList = (4, 0, [], true) by unfold refParseV; rw [if_neg h1, if_neg h2, if_pos h3])
    obtain rfl : s = ⟨#[110, 111]⟩ := by apply ByteArray.ext; apply Array.toList_inj.1; exact h3
    clear h1 h2 h3 hsl
    go_enter Tryz.func9, Tryz.ntmps9
    go_wp2
    refine bodyPost_ret (v := .tuple #[.agg #[.int .i64 4, .int .i64 0, .string ⟨#[]⟩], .bool true]) (by simp [results, Tryz.results9, go_sem]) rfl ?_
    rw [HR.out]
    exact ⟨rfl, (Below.refl w.heap.size w).alloc (Nat.le_refl _) _⟩
  have n1 := str_ne h1
  have n2 := str_ne h2
  have n3 := str_ne h3
  have HD := Lib.hid (show refParseV s.data.toList = (if 2 ≤ s.size ∧ by8 s.data.toList 0 = 34 ∧ by8 s.data.toList (s.size - 1) = 34 then (if Vm.okT ((s.data.toList.drop 1).take (s.size - 2)) = true then (3, 0, (s.data.toList.drop 1).take (s.size - 2), true) else (0, 0, [], false))
    else if 0 < s.size ∧ by8 s.data.toList (s.size - 1) = 102 then (if (refNumV (s.data.toList.take (s.size - 1))).2 = true then (2, (refNumV (s.data.toList.take (s.size - 1))).1, [], true) else (0, 0, [], false))
    else (if (refNumV s.data.toList).2 = true then (1, (refNumV s.data.toList).1, [], true) else (0, 0, [], false))) by
      unfold refParseV; rw [if_neg h1, if_neg h2, if_neg h3, hsl])
  clear h1 h2 h3
  have B0 : ∀ h : 0 < s.size, by8 s.data.toList 0 = (s[0]'h).toNat := fun h => by rw [by8_get _ _ (by omega)]; rfl
  have BL : ∀ h : 0 < s.size, by8 s.data.toList (s.size - 1) = (s[s.size - 1]'(Nat.sub_lt h Nat.one_pos)).toNat := fun h => by rw [by8_get _ _ (by omega)]; rfl
  have HB0 := Lib.hid B0
  have HBL := Lib.hid BL
  clear B0 BL
  have e1 : ((s.size : Int) - 1).toNat = s.size - 1 := by omega
  by_cases hq : 2 ≤ s.size ∧ by8 s.data.toList 0 = 34 ∧ by8 s.data.toList (s.size - 1) = 34
  · have hp : 0 < s.size := by omega
    have hp1 : s.size - 1 < s.size := by omega
    have t0 : (((s[0]'hp).toNat : Int) == 34) = true := by rw [beq_iff_eq]; have h := HB0.out hp; omega
    have tl : (((s[s.size - 1]'hp1).toNat : Int) == 34) = true := by rw [beq_iff_eq]; have h := HBL.out hp; omega
    have hx : (s.extract 1 (s.size - 1)).data.toList = (s.data.toList.drop 1).take (s.size - 2) := by
      rw [extract_strB, strB_toList, show s.size - 1 - 1 = s.size - 2 from by omega]
    have hxz : (s.extract 1 (s.size - 1)).size ≤ s.size := by rw [← str_len, hx]; simp; omega
    have HG := Lib.hid (fun W => good_any (s.extract 1 (s.size - 1)) W (by omega))
    rw [hx] at HG
    have d2 : decide (2 ≤ (s.size : Int)) = true := decide_eq_true (by omega)
    have d3 : 1 ≤ (s.size : Int) - 1 := by omega
    have d4 : (s.size : Int) - 1 ≤ (s.size : Int) := by omega
    have d5 : 0 ≤ (s.size : Int) - 1 := by omega
    have HX := Lib.hid hx
    cases hok : Vm.okT ((s.data.toList.drop 1).take (s.size - 2)) with
    | true =>
      have HR := Lib.hid (show refParseV s.data.toList = (3, 0, (s.extract 1 (s.size - 1)).data.toList, true) by rw [HD.out, if_pos hq, hok, if_pos rfl, hx])
      rw [hok] at HG
      clear hok hx hxz hq hsl
      go_enter Tryz.func9, Tryz.ntmps9
      go_wp2_with fail
      refine (HG.out _).mono ?_
      rintro e w' ⟨rfl, rfl⟩
      go_wp2
      refine bodyPost_ret (v := .tuple #[.agg #[.int .i64 3, .int .i64 0, .string (s.extract 1 (s.size - 1))], .bool true]) (by simp [results, Tryz.results9, go_sem]) rfl ?_
      rw [HR.out]
      exact ⟨by rw [strV_of], (Below.refl w.heap.size w).alloc (Nat.le_refl _) _⟩
    | false =>
      have HR := Lib.hid (show refParseV s.data.toList = (0, 0, [], false) by rw [HD.out, if_pos hq, hok, if_neg (by simp)])
      rw [hok] at HG
      clear hok hx hxz hq hsl
      go_enter Tryz.func9, Tryz.ntmps9
      go_wp2_with fail
      refine (HG.out _).mono ?_
      rintro e w' ⟨rfl, rfl⟩
      go_wp2
      refine bodyPost_ret (v := .tuple #[.agg #[.int .i64 0, .int .i64 0, .string ⟨#[]⟩], .bool false]) (by simp [results, Tryz.results9, go_sem]) rfl ?_
      rw [HR.out]
      exact ⟨rfl, (Below.refl w.heap.size w).alloc (Nat.le_refl _) _⟩
  have HD2 := Lib.hid (show refParseV s.data.toList = (if 0 < s.size ∧ by8 s.data.toList (s.size - 1) = 102 then (if (refNumV (s.data.toList.take (s.size - 1))).2 = true then (2, (refNumV (s.data.toList.take (s.size - 1))).1, [], true) else (0, 0, [], false))
    else (if (refNumV s.data.toList).2 = true then (1, (refNumV s.data.toList).1, [], true) else (0, 0, [], false))) by rw [HD.out, if_neg hq])
  clear HD
  by_cases hp : 0 < s.size
  · have hp1 : s.size - 1 < s.size := by omega
    have d0 : decide (0 < (s.size : Int)) = true := decide_eq_true (by omega)
    by_cases h2 : 2 ≤ s.size
    · have d2 : decide (2 ≤ (s.size : Int)) = true := decide_eq_true (by omega)
      by_cases hf : by8 s.data.toList 0 = 34
      · have t0 : (((s[0]'hp).toNat : Int) == 34) = true := by rw [beq_iff_eq]; have h := HB0.out hp; omega
        have hl34 : by8 s.data.toList (s.size - 1) ≠ 34 := fun h => hq ⟨h2, hf, h⟩
        have tl : (((s[s.size - 1]'hp1).toNat : Int) == 34) = false := by rw [beq_eq_false_iff_ne]; have h := HBL.out hp; omega
        clear hl34 hf
        by_cases hlast : by8 s.data.toList (s.size - 1) = 102
        · have u1 : (((s[s.size - 1]'hp1).toNat : Int) == 102) = true := by rw [beq_iff_eq]; have h := HBL.out hp; omega
          have hxz : (s.extract 0 (s.size - 1)).size ≤ s.size := by rw [← str_len, extract_strB, strB_toList, List.length_take, List.length_drop, hsl]; omega
          have d4 : (s.size : Int) - 1 ≤ (s.size : Int) := by omega
          have d5 : 0 ≤ (s.size : Int) - 1 := by omega
          have HN := Lib.hid (fun W => vnum_any (s.extract 0 (s.size - 1)) W (by omega))
          rw [show (s.extract 0 (s.size - 1)).data.toList = s.data.toList.take (s.size - 1) by rw [extract_strB, strB_toList]; simp] at HN
          generalize refNumV (s.data.toList.take (s.size - 1)) = r at *
          obtain ⟨rx, rk⟩ := r
          dsimp only at *
          cases rk with
          | true =>
            have HR := Lib.hid (show refParseV s.data.toList = (2, rx, [], true) by rw [HD2.out, if_pos ⟨hp, hlast⟩]; rfl)
            clear hq hsl hlast
            go_enter Tryz.func9, Tryz.ntmps9
            go_wp2_with fail
            refine (HN.out _).mono ?_
            rintro e w1 ⟨rfl, hb1⟩
            have HV1 := Lib.hid (HV.out.kept hb1)
            clear hb1
            obtain ⟨q0, q1, q2, hE⟩ := HV1.out.read (2) (rx) ⟨#[]⟩
            have HE := Lib.hid hE
            have y0 := HV1.out.2.1.free 0
            have y1 := HV1.out.2.1.free 1
            have y2 := HV1.out.2.1.free 2
            have z0 := HV1.out.2.1.cell0
            have z1 := HV1.out.2.1.cell1
            have z2 := HV1.out.2.1.cell2
            clear hE
            go_wp2
            refine bodyPost_ret (v := .tuple #[.agg #[.int .i64 (2), .int .i64 (rx), .string ⟨#[]⟩], .bool true]) (by simp [results, Tryz.results9, go_sem, q0, q1, q2]) rfl ?_
            rw [HR.out]
            exact ⟨rfl, HE.out⟩
          | false =>
            have HR := Lib.hid (show refParseV s.data.toList = (0, 0, [], false) by rw [HD2.out, if_pos ⟨hp, hlast⟩]; rfl)
            clear hq hsl hlast
            go_enter Tryz.func9, Tryz.ntmps9
            go_wp2_with fail
            refine (HN.out _).mono ?_
            rintro e w1 ⟨rfl, hb1⟩
            have HV1 := Lib.hid (HV.out.kept hb1)
            clear hb1
            obtain ⟨q0, q1, q2, hE⟩ := HV1.out.read (0) (0) ⟨#[]⟩
            have HE := Lib.hid hE
            have y0 := HV1.out.2.1.free 0
            have y1 := HV1.out.2.1.free 1
            have y2 := HV1.out.2.1.free 2
            have z0 := HV1.out.2.1.cell0
            have z1 := HV1.out.2.1.cell1
            have z2 := HV1.out.2.1.cell2
            clear hE
            go_wp2
            refine bodyPost_ret (v := .tuple #[.agg #[.int .i64 (0), .int .i64 (0), .string ⟨#[]⟩], .bool false]) (by simp [results, Tryz.results9, go_sem, q0, q1, q2]) rfl ?_
            rw [HR.out]
            exact ⟨rfl, HE.out⟩
        · have u1 : (((s[s.size - 1]'hp1).toNat : Int) == 102) = false := by rw [beq_eq_false_iff_ne]; have h := HBL.out hp; omega
          have HN := Lib.hid (fun W => vnum_any s W (by omega))
          generalize refNumV s.data.toList = r at *
          obtain ⟨rx, rk⟩ := r
          dsimp only at *
          cases rk with
          | true =>
            have HR := Lib.hid (show refParseV s.data.toList = (1, rx, [], true) by rw [HD2.out, if_neg (fun h => hlast h.2)]; rfl)
            clear hq hsl hlast
            go_enter Tryz.func9, Tryz.ntmps9
            go_wp2_with fail
            refine (HN.out _).mono ?_
            rintro e w1 ⟨rfl, hb1⟩
            have HV1 := Lib.hid (HV.out.kept hb1)
            clear hb1
            obtain ⟨q0, q1, q2, hE⟩ := HV1.out.read (1) (rx) ⟨#[]⟩
            have HE := Lib.hid hE
            have y0 := HV1.out.2.1.free 0
            have y1 := HV1.out.2.1.free 1
            have y2 := HV1.out.2.1.free 2
            have z0 := HV1.out.2.1.cell0
            have z1 := HV1.out.2.1.cell1
            have z2 := HV1.out.2.1.cell2
            clear hE
            go_wp2
            refine bodyPost_ret (v := .tuple #[.agg #[.int .i64 (1), .int .i64 (rx), .string ⟨#[]⟩], .bool true]) (by simp [results, Tryz.results9, go_sem, q0, q1, q2]) rfl ?_
            rw [HR.out]
            exact ⟨rfl, HE.out⟩
          | false =>
            have HR := Lib.hid (show refParseV s.data.toList = (0, 0, [], false) by rw [HD2.out, if_neg (fun h => hlast h.2)]; rfl)
            clear hq hsl hlast
            go_enter Tryz.func9, Tryz.ntmps9
            go_wp2_with fail
            refine (HN.out _).mono ?_
            rintro e w1 ⟨rfl, hb1⟩
            have HV1 := Lib.hid (HV.out.kept hb1)
            clear hb1
            obtain ⟨q0, q1, q2, hE⟩ := HV1.out.read (0) (0) ⟨#[]⟩
            have HE := Lib.hid hE
            have y0 := HV1.out.2.1.free 0
            have y1 := HV1.out.2.1.free 1
            have y2 := HV1.out.2.1.free 2
            have z0 := HV1.out.2.1.cell0
            have z1 := HV1.out.2.1.cell1
            have z2 := HV1.out.2.1.cell2
            clear hE
            go_wp2
            refine bodyPost_ret (v := .tuple #[.agg #[.int .i64 (0), .int .i64 (0), .string ⟨#[]⟩], .bool false]) (by simp [results, Tryz.results9, go_sem, q0, q1, q2]) rfl ?_
            rw [HR.out]
            exact ⟨rfl, HE.out⟩
      · have t0 : (((s[0]'hp).toNat : Int) == 34) = false := by rw [beq_eq_false_iff_ne]; have h := HB0.out hp; omega
        clear hf
        by_cases hlast : by8 s.data.toList (s.size - 1) = 102
        · have u1 : (((s[s.size - 1]'hp1).toNat : Int) == 102) = true := by rw [beq_iff_eq]; have h := HBL.out hp; omega
          have hxz : (s.extract 0 (s.size - 1)).size ≤ s.size := by rw [← str_len, extract_strB, strB_toList, List.length_take, List.length_drop, hsl]; omega
          have d4 : (s.size : Int) - 1 ≤ (s.size : Int) := by omega
          have d5 : 0 ≤ (s.size : Int) - 1 := by omega
          have HN := Lib.hid (fun W => vnum_any (s.extract 0 (s.size - 1)) W (by omega))
          rw [show (s.extract 0 (s.size - 1)).data.toList = s.data.toList.take (s.size - 1) by rw [extract_strB, strB_toList]; simp] at HN
          generalize refNumV (s.data.toList.take (s.size - 1)) = r at *
          obtain ⟨rx, rk⟩ := r
          dsimp only at *
          cases rk with
          | true =>
            have HR := Lib.hid (show refParseV s.data.toList = (2, rx, [], true) by rw [HD2.out, if_pos ⟨hp, hlast⟩]; rfl)
            clear hq hsl hlast
            go_enter Tryz.func9, Tryz.ntmps9
            go_wp2_with fail
            refine (HN.out _).mono ?_
            rintro e w1 ⟨rfl, hb1⟩
            have HV1 := Lib.hid (HV.out.kept hb1)
            clear hb1
            obtain ⟨q0, q1, q2, hE⟩ := HV1.out.read (2) (rx) ⟨#[]⟩
            have HE := Lib.hid hE
            have y0 := HV1.out.2.1.free 0
            have y1 := HV1.out.2.1.free 1
            have y2 := HV1.out.2.1.free 2
            have z0 := HV1.out.2.1.cell0
            have z1 := HV1.out.2.1.cell1
            have z2 := HV1.out.2.1.cell2
            clear hE
            go_wp2
            refine bodyPost_ret (v := .tuple #[.agg #[.int .i64 (2), .int .i64 (rx), .string ⟨#[]⟩], .bool true]) (by simp [results, Tryz.results9, go_sem, q0, q1, q2]) rfl ?_
            rw [HR.out]
            exact ⟨rfl, HE.out⟩
          | false =>
            have HR := Lib.hid (show refParseV s.data.toList = (0, 0, [], false) by rw [HD2.out, if_pos ⟨hp, hlast⟩]; rfl)
            clear hq hsl hlast
            go_enter Tryz.func9, Tryz.ntmps9
            go_wp2_with fail
            refine (HN.out _).mono ?_
            rintro e w1 ⟨rfl, hb1⟩
            have HV1 := Lib.hid (HV.out.kept hb1)
            clear hb1
            obtain ⟨q0, q1, q2, hE⟩ := HV1.out.read (0) (0) ⟨#[]⟩
            have HE := Lib.hid hE
            have y0 := HV1.out.2.1.free 0
            have y1 := HV1.out.2.1.free 1
            have y2 := HV1.out.2.1.free 2
            have z0 := HV1.out.2.1.cell0
            have z1 := HV1.out.2.1.cell1
            have z2 := HV1.out.2.1.cell2
            clear hE
            go_wp2
            refine bodyPost_ret (v := .tuple #[.agg #[.int .i64 (0), .int .i64 (0), .string ⟨#[]⟩], .bool false]) (by simp [results, Tryz.results9, go_sem, q0, q1, q2]) rfl ?_
            rw [HR.out]
            exact ⟨rfl, HE.out⟩
        · have u1 : (((s[s.size - 1]'hp1).toNat : Int) == 102) = false := by rw [beq_eq_false_iff_ne]; have h := HBL.out hp; omega
          have HN := Lib.hid (fun W => vnum_any s W (by omega))
          generalize refNumV s.data.toList = r at *
          obtain ⟨rx, rk⟩ := r
          dsimp only at *
          cases rk with
          | true =>
            have HR := Lib.hid (show refParseV s.data.toList = (1, rx, [], true) by rw [HD2.out, if_neg (fun h => hlast h.2)]; rfl)
            clear hq hsl hlast
            go_enter Tryz.func9, Tryz.ntmps9
            go_wp2_with fail
            refine (HN.out _).mono ?_
            rintro e w1 ⟨rfl, hb1⟩
            have HV1 := Lib.hid (HV.out.kept hb1)
            clear hb1
            obtain ⟨q0, q1, q2, hE⟩ := HV1.out.read (1) (rx) ⟨#[]⟩
            have HE := Lib.hid hE
            have y0 := HV1.out.2.1.free 0
            have y1 := HV1.out.2.1.free 1
            have y2 := HV1.out.2.1.free 2
            have z0 := HV1.out.2.1.cell0
            have z1 := HV1.out.2.1.cell1
            have z2 := HV1.out.2.1.cell2
            clear hE
            go_wp2
            refine bodyPost_ret (v := .tuple #[.agg #[.int .i64 (1), .int .i64 (rx), .string ⟨#[]⟩], .bool true]) (by simp [results, Tryz.results9, go_sem, q0, q1, q2]) rfl ?_
            rw [HR.out]
            exact ⟨rfl, HE.out⟩
          | false =>
            have HR := Lib.hid (show refParseV s.data.toList = (0, 0, [], false) by rw [HD2.out, if_neg (fun h => hlast h.2)]; rfl)
            clear hq hsl hlast
            go_enter Tryz.func9, Tryz.ntmps9
            go_wp2_with fail
            refine (HN.out _).mono ?_
            rintro e w1 ⟨rfl, hb1⟩
            have HV1 := Lib.hid (HV.out.kept hb1)
            clear hb1
            obtain ⟨q0, q1, q2, hE⟩ := HV1.out.read (0) (0) ⟨#[]⟩
            have HE := Lib.hid hE
            have y0 := HV1.out.2.1.free 0
            have y1 := HV1.out.2.1.free 1
            have y2 := HV1.out.2.1.free 2
            have z0 := HV1.out.2.1.cell0
            have z1 := HV1.out.2.1.cell1
            have z2 := HV1.out.2.1.cell2
            clear hE
            go_wp2
            refine bodyPost_ret (v := .tuple #[.agg #[.int .i64 (0), .int .i64 (0), .string ⟨#[]⟩], .bool false]) (by simp [results, Tryz.results9, go_sem, q0, q1, q2]) rfl ?_
            rw [HR.out]
            exact ⟨rfl, HE.out⟩
    · have d2 : decide (2 ≤ (s.size : Int)) = false := decide_eq_false (by omega)
      by_cases hlast : by8 s.data.toList (s.size - 1) = 102
      · have u1 : (((s[s.size - 1]'hp1).toNat : Int) == 102) = true := by rw [beq_iff_eq]; have h := HBL.out hp; omega
        have hxz : (s.extract 0 (s.size - 1)).size ≤ s.size := by rw [← str_len, extract_strB, strB_toList, List.length_take, List.length_drop, hsl]; omega
        have d4 : (s.size : Int) - 1 ≤ (s.size : Int) := by omega
        have d5 : 0 ≤ (s.size : Int) - 1 := by omega
        have HN := Lib.hid (fun W => vnum_any (s.extract 0 (s.size - 1)) W (by omega))
        rw [show (s.extract 0 (s.size - 1)).data.toList = s.data.toList.take (s.size - 1) by rw [extract_strB, strB_toList]; simp] at HN
        generalize refNumV (s.data.toList.take (s.size - 1)) = r at *
        obtain ⟨rx, rk⟩ := r
        dsimp only at *
        cases rk with
        | true =>
          have HR := Lib.hid (show refParseV s.data.toList = (2, rx, [], true) by rw [HD2.out, if_pos ⟨hp, hlast⟩]; rfl)
          clear hq hsl hlast
          go_enter Tryz.func9, Tryz.ntmps9
          go_wp2_with fail
          refine (HN.out _).mono ?_
          rintro e w1 ⟨rfl, hb1⟩
          have HV1 := Lib.hid (HV.out.kept hb1)
          clear hb1
          obtain ⟨q0, q1, q2, hE⟩ := HV1.out.read (2) (rx) ⟨#[]⟩
          have HE := Lib.hid hE
          have y0 := HV1.out.2.1.free 0
          have y1 := HV1.out.2.1.free 1
          have y2 := HV1.out.2.1.free 2
          have z0 := HV1.out.2.1.cell0
          have z1 := HV1.out.2.1.cell1
          have z2 := HV1.out.2.1.cell2
          clear hE
          go_wp2
          refine bodyPost_ret (v := .tuple #[.agg #[.int .i64 (2), .int .i64 (rx), .string ⟨#[]⟩], .bool true]) (by simp [results, Tryz.results9, go_sem, q0, q1, q2]) rfl ?_
          rw [HR.out]
          exact ⟨rfl, HE.out⟩
        | false =>
          have HR := Lib.hid (show refParseV s.data.toList = (0, 0, [], false) by rw [HD2.out, if_pos ⟨hp, hlast⟩]; rfl)
          clear hq hsl hlast
          go_enter Tryz.func9, Tryz.ntmps9
          go_wp2_with fail
          refine (HN.out _).mono ?_
          rintro e w1 ⟨rfl, hb1⟩
          have HV1 := Lib.hid (HV.out.kept hb1)
          clear hb1
          obtain ⟨q0, q1, q2, hE⟩ := HV1.out.read (0) (0) ⟨#[]⟩
          have HE := Lib.hid hE
          have y0 := HV1.out.2.1.free 0
          have y1 := HV1.out.2.1.free 1
          have y2 := HV1.out.2.1.free 2
          have z0 := HV1.out.2.1.cell0
          have z1 := HV1.out.2.1.cell1
          have z2 := HV1.out.2.1.cell2
          clear hE
          go_wp2
          refine bodyPost_ret (v := .tuple #[.agg #[.int .i64 (0), .int .i64 (0), .string ⟨#[]⟩], .bool false]) (by simp [results, Tryz.results9, go_sem, q0, q1, q2]) rfl ?_
          rw [HR.out]
          exact ⟨rfl, HE.out⟩
      · have u1 : (((s[s.size - 1]'hp1).toNat : Int) == 102) = false := by rw [beq_eq_false_iff_ne]; have h := HBL.out hp; omega
        have HN := Lib.hid (fun W => vnum_any s W (by omega))
        generalize refNumV s.data.toList = r at *
        obtain ⟨rx, rk⟩ := r
        dsimp only at *
        cases rk with
        | true =>
          have HR := Lib.hid (show refParseV s.data.toList = (1, rx, [], true) by rw [HD2.out, if_neg (fun h => hlast h.2)]; rfl)
          clear hq hsl hlast
          go_enter Tryz.func9, Tryz.ntmps9
          go_wp2_with fail
          refine (HN.out _).mono ?_
          rintro e w1 ⟨rfl, hb1⟩
          have HV1 := Lib.hid (HV.out.kept hb1)
          clear hb1
          obtain ⟨q0, q1, q2, hE⟩ := HV1.out.read (1) (rx) ⟨#[]⟩
          have HE := Lib.hid hE
          have y0 := HV1.out.2.1.free 0
          have y1 := HV1.out.2.1.free 1
          have y2 := HV1.out.2.1.free 2
          have z0 := HV1.out.2.1.cell0
          have z1 := HV1.out.2.1.cell1
          have z2 := HV1.out.2.1.cell2
          clear hE
          go_wp2
          refine bodyPost_ret (v := .tuple #[.agg #[.int .i64 (1), .int .i64 (rx), .string ⟨#[]⟩], .bool true]) (by simp [results, Tryz.results9, go_sem, q0, q1, q2]) rfl ?_
          rw [HR.out]
          exact ⟨rfl, HE.out⟩
        | false =>
          have HR := Lib.hid (show refParseV s.data.toList = (0, 0, [], false) by rw [HD2.out, if_neg (fun h => hlast h.2)]; rfl)
          clear hq hsl hlast
          go_enter Tryz.func9, Tryz.ntmps9
          go_wp2_with fail
          refine (HN.out _).mono ?_
          rintro e w1 ⟨rfl, hb1⟩
          have HV1 := Lib.hid (HV.out.kept hb1)
          clear hb1
          obtain ⟨q0, q1, q2, hE⟩ := HV1.out.read (0) (0) ⟨#[]⟩
          have HE := Lib.hid hE
          have y0 := HV1.out.2.1.free 0
          have y1 := HV1.out.2.1.free 1
          have y2 := HV1.out.2.1.free 2
          have z0 := HV1.out.2.1.cell0
          have z1 := HV1.out.2.1.cell1
          have z2 := HV1.out.2.1.cell2
          clear hE
          go_wp2
          refine bodyPost_ret (v := .tuple #[.agg #[.int .i64 (0), .int .i64 (0), .string ⟨#[]⟩], .bool false]) (by simp [results, Tryz.results9, go_sem, q0, q1, q2]) rfl ?_
          rw [HR.out]
          exact ⟨rfl, HE.out⟩
  · have d0 : decide (0 < (s.size : Int)) = false := decide_eq_false (by omega)
    have d2 : decide (2 ≤ (s.size : Int)) = false := decide_eq_false (by omega)
    have hlast := trivial
    have HN := Lib.hid (fun W => vnum_any s W (by omega))
    generalize refNumV s.data.toList = r at *
    obtain ⟨rx, rk⟩ := r
    dsimp only at *
    cases rk with
    | true =>
      have HR := Lib.hid (show refParseV s.data.toList = (1, rx, [], true) by rw [HD2.out, if_neg (fun h => hp h.1)]; rfl)
      clear hq hsl hlast
      go_enter Tryz.func9, Tryz.ntmps9
      go_wp2_with fail
      refine (HN.out _).mono ?_
      rintro e w1 ⟨rfl, hb1⟩
      have HV1 := Lib.hid (HV.out.kept hb1)
      clear hb1
      obtain ⟨q0, q1, q2, hE⟩ := HV1.out.read (1) (rx) ⟨#[]⟩
      have HE := Lib.hid hE
      have y0 := HV1.out.2.1.free 0
      have y1 := HV1.out.2.1.free 1
      have y2 := HV1.out.2.1.free 2
      have z0 := HV1.out.2.1.cell0
      have z1 := HV1.out.2.1.cell1
      have z2 := HV1.out.2.1.cell2
      clear hE
      go_wp2
      refine bodyPost_ret (v := .tuple #[.agg #[.int .i64 (1), .int .i64 (rx), .string ⟨#[]⟩], .bool true]) (by simp [results, Tryz.results9, go_sem, q0, q1, q2]) rfl ?_
      rw [HR.out]
      exact ⟨rfl, HE.out⟩
    | false =>
      have HR := Lib.hid (show refParseV s.data.toList = (0, 0, [], false) by rw [HD2.out, if_neg (fun h => hp h.1)]; rfl)
      clear hq hsl hlast
      go_enter Tryz.func9, Tryz.ntmps9
      go_wp2_with fail
      refine (HN.out _).mono ?_
      rintro e w1 ⟨rfl, hb1⟩
      have HV1 := Lib.hid (HV.out.kept hb1)
      clear hb1
      obtain ⟨q0, q1, q2, hE⟩ := HV1.out.read (0) (0) ⟨#[]⟩
      have HE := Lib.hid hE
      have y0 := HV1.out.2.1.free 0
      have y1 := HV1.out.2.1.free 1
      have y2 := HV1.out.2.1.free 2
      have z0 := HV1.out.2.1.cell0
      have z1 := HV1.out.2.1.cell1
      have z2 := HV1.out.2.1.cell2
      clear hE
      go_wp2
      refine bodyPost_ret (v := .tuple #[.agg #[.int .i64 (0), .int .i64 (0), .string ⟨#[]⟩], .bool false]) (by simp [results, Tryz.results9, go_sem, q0, q1, q2]) rfl ?_
      rw [HR.out]
      exact ⟨rfl, HE.out⟩

end

section
open Go.RowKit

theorem itoa_zero : Lib.itoa 0 = [48] := by
  unfold Lib.itoa
  rw [if_neg (by decide)]
  exact Lib.decDigits_one (by decide)
theorem print_cut (n : Int) : (strB (printB n 0)).extract 0 ((strB (printB n 0)).size - 2) = strV (Lib.itoa n) := by
  rw [extract_strB, strB_toList, strB_size]
  unfold printB
  rw [itoa_zero]
  have h : (Lib.itoa n ++ [64, 48]).length - 2 = (Lib.itoa n).length := by simp
  rw [h]
  show strB _ = strB _
  simp

set_option maxRecDepth 100000 in
set_option maxHeartbeats 1000000 in
theorem vdigits_any (n : Int) (w : World) (h0 : -1099511627776 ≤ n) (h1 : n ≤ 1099511627776) : Calls Tryz.prog 46 #[.int .i64 n] w fun e w' => e = .returned (.string (strV (Lib.itoa n))) ∧ Below w.heap.size w w' := by
  have HP := Lib.hid (fun W => refPrint_any n 0 W (by omega) (by omega) (by omega) (by omega))
  have HC := Lib.hid (print_cut n)
  have hz2 : 2 ≤ (strB (printB n 0)).size := by rw [strB_size]; unfold printB; rw [itoa_zero]; simp
  have hz3 : (strB (printB n 0)).size ≤ 100 := by
    rw [strB_size]; unfold printB; rw [itoa_zero]
    have := itoa_short n h0 h1
    rw [strV_size] at this
    simp; omega
  generalize strB (printB n 0) = s at *
  have e1 : ((s.size : Int) - 2).toNat = s.size - 2 := by omega
  have hb1 : 0 ≤ (s.size : Int) - 2 := by omega
  have hb2 : (s.size : Int) - 2 ≤ (s.size : Int) := by omega
  go_enter Tryz.func46, Tryz.ntmps46
  go_wp2_with fail
  refine (HP.out _).mono ?_
  rintro e w1 ⟨rfl, hb⟩
  have HB := Lib.hid hb
  clear hb
  go_wp2
  go_ret
  exact ⟨ret_str HC.out, HB.out⟩

set_option maxRecDepth 100000 in
set_option maxHeartbeats 4000000 in
theorem refVprint_any (k n : Int) (t : ByteArray) (w : World) (ht : t.size ≤ 4611686018427387904) : Calls Tryz.prog 22 #[.agg #[.int .i64 k, .int .i64 n, .string t]] w fun e w' => e = .returned (.string (strV (printV k n t.data.toList))) ∧ Below w.heap.size w w' := by
  have hb := (Below.refl w.heap.size w).alloc (Nat.le_refl _) (.cells #[.int .i64 k, .int .i64 n, .string t] 23)
  have HB := Lib.hid hb
  have HT := Lib.hid (ThreeAt.start w k n t)
  have HP : Hid (printV k n t.data.toList = if Vm.rightV k n t.data.toList = true then (if k = 2 then Lib.itoa n ++ [102] else if k = 1 then Lib.itoa n else if k = 3 then [34] ++ t.data.toList ++ [34] else if k = 4 then (if n = 1 then [121, 101, 115] else [110, 111]) else [110, 111, 110, 101]) else []) := Lib.hid rfl
  clear hb
  cases hr : Vm.rightV k n t.data.toList with
  | false =>
    have HRB := Lib.hid hr
    have HR := Lib.hid (show printV k n t.data.toList = [] by rw [HP.out, hr]; rfl)
    clear hr
    go_enter Tryz.func22, Tryz.ntmps22
    go_wp2_with fail
    refine (refVRight_any _ _ t _ ht).mono ?_
    rw [HRB.out]
    rintro e w1 ⟨rfl, hb1⟩
    have HB1 := Lib.hid (HB.out.trans (hb1.mono HB.out.size))
    have x0 := (HT.out.kept hb1).cell0
    have x1 := (HT.out.kept hb1).cell1
    have x2 := (HT.out.kept hb1).cell2
    clear hb1
    clear x0 x1 x2
    go_wp2
    go_ret
    rw [HR.out]
    exact ⟨rfl, HB1.out⟩
  | true =>
    have HRB := Lib.hid hr
    obtain ⟨n0, n1⟩ := right_n hr
    have htl := right_t hr
    rw [str_len] at htl
    have hk5 := right_kind hr
    have HR := Lib.hid (show printV k n t.data.toList = (if k = 2 then Lib.itoa n ++ [102] else if k = 1 then Lib.itoa n else if k = 3 then [34] ++ t.data.toList ++ [34] else if k = 4 then (if n = 1 then [121, 101, 115] else [110, 111]) else [110, 111, 110, 101]) by rw [HP.out, hr, if_pos rfl])
    clear hr
    rcases hk5 with rfl | rfl | rfl | rfl | rfl
    · go_enter Tryz.func22, Tryz.ntmps22
      go_wp2_with fail
      refine (refVRight_any _ _ t _ ht).mono ?_
      rw [HRB.out]
      rintro e w1 ⟨rfl, hb1⟩
      have HB1 := Lib.hid (HB.out.trans (hb1.mono HB.out.size))
      have x0 := (HT.out.kept hb1).cell0
      have x1 := (HT.out.kept hb1).cell1
      have x2 := (HT.out.kept hb1).cell2
      clear hb1
      clear x1 x2
      go_wp2
      go_ret
      rw [HR.out]
      exact ⟨rfl, HB1.out⟩
    · have hsz := itoa_short n n0 n1
      have HD := Lib.hid (fun W => vdigits_any n W n0 n1)
      go_enter Tryz.func22, Tryz.ntmps22
      go_wp2_with fail
      refine (refVRight_any _ _ t _ ht).mono ?_
      rw [HRB.out]
      rintro e w1 ⟨rfl, hb1⟩
      have HB1 := Lib.hid (HB.out.trans (hb1.mono HB.out.size))
      have x0 := (HT.out.kept hb1).cell0
      have x1 := (HT.out.kept hb1).cell1
      have x2 := (HT.out.kept hb1).cell2
      clear hb1
      go_wp2_with fail
      refine (HD.out _).mono ?_
      rintro e w2 ⟨rfl, hb2⟩
      have HB2 := Lib.hid (HB1.out.trans (hb2.mono HB1.out.size))
      clear hb2 x0 x1 x2
      generalize hs : strV (Lib.itoa n) = s at *
      have HS := Lib.hid hs
      clear hs
      go_wp2
      go_ret
      rw [HR.out]
      exact ⟨ret_str (by rw [← HS.out]; rfl), HB2.out⟩
    · have hsz := itoa_short n n0 n1
      have HD := Lib.hid (fun W => vdigits_any n W n0 n1)
      go_enter Tryz.func22, Tryz.ntmps22
      go_wp2_with fail
      refine (refVRight_any _ _ t _ ht).mono ?_
      rw [HRB.out]
      rintro e w1 ⟨rfl, hb1⟩
      have HB1 := Lib.hid (HB.out.trans (hb1.mono HB.out.size))
      have x0 := (HT.out.kept hb1).cell0
      have x1 := (HT.out.kept hb1).cell1
      have x2 := (HT.out.kept hb1).cell2
      clear hb1
      go_wp2_with fail
      refine (HD.out _).mono ?_
      rintro e w2 ⟨rfl, hb2⟩
      have HB2 := Lib.hid (HB1.out.trans (hb2.mono HB1.out.size))
      clear hb2 x0 x1 x2
      generalize hs : strV (Lib.itoa n) = s at *
      have HS := Lib.hid hs
      clear hs
      go_wp2
      go_ret
      rw [HR.out]
      exact ⟨ret_str (by rw [← HS.out]; exact strV_app1 _), HB2.out⟩
    · go_enter Tryz.func22, Tryz.ntmps22
      go_wp2_with fail
      refine (refVRight_any _ _ t _ ht).mono ?_
      rw [HRB.out]
      rintro e w1 ⟨rfl, hb1⟩
      have HB1 := Lib.hid (HB.out.trans (hb1.mono HB.out.size))
      have x0 := (HT.out.kept hb1).cell0
      have x1 := (HT.out.kept hb1).cell1
      have x2 := (HT.out.kept hb1).cell2
      clear hb1
      go_wp2
      go_ret
      rw [HR.out]
      exact ⟨ret_str (strV_quote t), HB1.out⟩
    · by_cases hn : n = 1
      · subst hn
        go_enter Tryz.func22, Tryz.ntmps22
        go_wp2_with fail
        refine (refVRight_any _ _ t _ ht).mono ?_
        rw [HRB.out]
        rintro e w1 ⟨rfl, hb1⟩
        have HB1 := Lib.hid (HB.out.trans (hb1.mono HB.out.size))
        have x0 := (HT.out.kept hb1).cell0
        have x1 := (HT.out.kept hb1).cell1
        have x2 := (HT.out.kept hb1).cell2
        clear hb1
        go_wp2
        go_ret
        rw [HR.out]
        exact ⟨rfl, HB1.out⟩
      · have hn' : (n == 1) = false := by simpa using hn
        have HF := Lib.hid (show (if n = 1 then ([121, 101, 115] : List UInt8) else [110, 111]) = [110, 111] from if_neg hn)
        rw [if_neg (by decide), if_neg (by decide), if_neg (by decide), if_pos rfl, HF.out] at HR
        clear hn HF
        go_enter Tryz.func22, Tryz.ntmps22
        go_wp2_with fail
        refine (refVRight_any _ _ t _ ht).mono ?_
        rw [HRB.out]
        rintro e w1 ⟨rfl, hb1⟩
        have HB1 := Lib.hid (HB.out.trans (hb1.mono HB.out.size))
        have x0 := (HT.out.kept hb1).cell0
        have x1 := (HT.out.kept hb1).cell1
        have x2 := (HT.out.kept hb1).cell2
        clear hb1
        go_wp2
        go_ret
        rw [HR.out]
        exact ⟨rfl, HB1.out⟩

end

section
open Go.RowKit

/-- are two values the same? -/
def sameV (k n : Int) (t : ByteArray) (k' n' : Int) (t' : ByteArray) : Bool := @decide (k = k' ∧ n = n' ∧ t.data.toList = t'.data.toList) inferInstance
theorem str_ne2 {t t' : ByteArray} (h : t.data.toList ≠ t'.data.toList) : (t.toList == t'.toList) = false := by
  rw [beq_eq_false_iff_ne, ByteArray.toList_eq, ByteArray.toList_eq]
  exact h
theorem str_eq2 {t t' : ByteArray} (h : t.data.toList = t'.data.toList) : t = t' := by
  apply ByteArray.ext
  apply Array.toList_inj.1
  exact h

set_option maxRecDepth 100000 in
set_option maxHeartbeats 1000000 in
theorem vsame_any (k n : Int) (t : ByteArray) (k' n' : Int) (t' : ByteArray) (w : World) :
    Calls Tryz.prog 20 #[.agg #[.int .i64 k, .int .i64 n, .string t], .agg #[.int .i64 k', .int .i64 n', .string t']] w fun e w' => e = .returned (.bool (sameV k n t k' n' t')) ∧ Below w.heap.size w w' := by
  have HV := Lib.hid (VTwo.start w k n t k' n' t')
  by_cases hk : k = k'
  · subst hk
    by_cases hn : n = n'
    · subst hn
      by_cases ht : t.data.toList = t'.data.toList
      · obtain rfl := str_eq2 ht
        have HS := Lib.hid (show sameV k n t k n t = true from decide_eq_true ⟨rfl, rfl, rfl⟩)
        clear ht
        go_enter Tryz.func20, Tryz.ntmps20
        go_wp2
        go_ret
        rw [HS.out]
        exact ⟨rfl, HV.out.2.2⟩
      · have HS := Lib.hid (show sameV k n t k n t' = false from decide_eq_false (fun h => ht h.2.2))
        have te := str_ne2 ht
        clear ht
        go_enter Tryz.func20, Tryz.ntmps20
        go_wp2
        go_ret
        rw [HS.out]
        exact ⟨rfl, HV.out.2.2⟩
    · have HS := Lib.hid (show sameV k n t k n' t' = false from decide_eq_false (fun h => hn h.2.1))
      have ne : (n == n') = false := by simpa using hn
      go_enter Tryz.func20, Tryz.ntmps20
      go_wp2
      go_ret
      rw [HS.out]
      exact ⟨rfl, HV.out.2.2⟩
  · have HS := Lib.hid (show sameV k n t k' n' t' = false from decide_eq_false (fun h => hk h.1))
    have ke : (k == k') = false := by simpa using hk
    go_enter Tryz.func20, Tryz.ntmps20
    go_wp2
    go_ret
    rw [HS.out]
    exact ⟨rfl, HV.out.2.2⟩

theorem vprint_all (k n : Int) (t : ByteArray) (w : World) (hw : Laid w) (ht : t.size ≤ 4611686018427387904) : Calls Tryz.prog 21 #[.agg #[.int .i64 k, .int .i64 n, .string t]] w fun e w' => e = .returned (.string (strV (printV k n t.data.toList))) ∧ Below w.heap.size w w' := by
  cases h : Vm.rightV k n t.data.toList with
  | true => exact vprint_laid k n t w hw h
  | false =>
    have hp : printV k n t.data.toList = [] := by unfold printV; rw [if_neg (by rw [h]; simp)]
    rw [hp]
    exact vprint_not k n t w ht h

end

end Go.Proofs.YtfakbbbkfmnnhaaGreatDoor
