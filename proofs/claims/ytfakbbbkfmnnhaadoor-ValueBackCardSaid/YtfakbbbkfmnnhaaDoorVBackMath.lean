/-
  PLAIN MATHEMATICS: a value that may be is read as it was written, in bytes and in text.
  No conditions.
-/
import Derived.Test.YtfakbbbkfmnnhaaDoorVParse
import Derived.Test.YtfakbbbkfmnnhaaDoorVTake
import Derived.Test.YtfakbbbkfmnnhaaDoorVPut
import Derived.Test.YtfakbbbkfmnnhaaDoorDigits
namespace Go.Proofs.YtfakbbbkfmnnhaaDoor
open Go.RowKit

theorem prefix_mem {l : List UInt8} {c : UInt8} (h : Lib.hasPrefix l [c] = true) : c ∈ l := by
  unfold Lib.hasPrefix at h
  cases l with
  | nil => simp at h
  | cons a l => simp at h; simp [h]
theorem suffix_mem {l : List UInt8} {c : UInt8} (h : Lib.hasSuffix l [c] = true) : c ∈ l := by
  unfold Lib.hasSuffix at h
  rw [List.isSuffixOf_iff_suffix] at h
  exact h.subset (by simp)
theorem suffix_app (a : List UInt8) (c : UInt8) : Lib.hasSuffix (a ++ [c]) [c] = true := by
  unfold Lib.hasSuffix
  rw [List.isSuffixOf_iff_suffix]
  exact List.suffix_append a [c]
theorem trimS_app (a : List UInt8) (c : UInt8) : Lib.trimSuffix (a ++ [c]) [c] = a := by
  unfold Lib.trimSuffix
  rw [if_pos (suffix_app a c)]
  simp
theorem trimS_not {l : List UInt8} {c : UInt8} (h : c ∉ l) : Lib.hasSuffix l [c] = false ∧ Lib.trimSuffix l [c] = l := by
  have h1 : Lib.hasSuffix l [c] = false := by
    cases hs : Lib.hasSuffix l [c] with
    | false => rfl
    | true => exact absurd (suffix_mem hs) h
  exact ⟨h1, by unfold Lib.trimSuffix; rw [if_neg (by rw [h1]; simp)]⟩
theorem prefix_not {l : List UInt8} {c : UInt8} (h : c ∉ l) : Lib.hasPrefix l [c] = false := by
  cases hs : Lib.hasPrefix l [c] with
  | false => rfl
  | true => exact absurd (prefix_mem hs) h
theorem itoa_no (n : Int) (c : UInt8) (h : c ≠ 45 ∧ (c.toNat < 48 ∨ 57 < c.toNat)) : c ∉ Lib.itoa n := by
  intro hc
  rcases itoa_chars n c hc with h1 | h1
  · exact h.1 h1
  · omega

theorem guess_none : guessV [110, 111, 110, 101] = (0, 0, []) := by decide
theorem guess_yes : guessV [121, 101, 115] = (4, 1, []) := by decide
theorem guess_no : guessV [110, 111] = (4, 0, []) := by decide
theorem guess_int (n : Int) (h0 : -1099511627776 ≤ n) (h1 : n ≤ 1099511627776) : guessV (Lib.itoa n) = (1, n, []) := by
  have a121 := itoa_no n 121 (by decide)
  have a110 := itoa_no n 110 (by decide)
  have a34 := itoa_no n 34 (by decide)
  have a102 := itoa_no n 102 (by decide)
  obtain ⟨s1, s2⟩ := trimS_not a102
  unfold guessV
  rw [if_neg (fun h => a121 (by rw [h]; simp)), if_neg (fun h => a110 (by rw [h]; simp)), if_neg (by rw [prefix_not a34]; simp), s2, atoi_itoa n (by omega) (by omega), s1]
  rfl
theorem guess_fix (n : Int) (h0 : -1099511627776 ≤ n) (h1 : n ≤ 1099511627776) : guessV (Lib.itoa n ++ [102]) = (2, n, []) := by
  have a34 : (34 : UInt8) ∉ Lib.itoa n ++ [102] := by
    intro h
    rcases List.mem_append.1 h with h | h
    · exact itoa_no n 34 (by decide) h
    · simp at h
  have a102 : (102 : UInt8) ∈ Lib.itoa n ++ [102] := by simp
  unfold guessV
  rw [if_neg (fun h => by rw [h] at a102; simp at a102), if_neg (fun h => by rw [h] at a102; simp at a102), if_neg (by rw [prefix_not a34]; simp), trimS_app, atoi_itoa n (by omega) (by omega), suffix_app]
  rfl
theorem guess_text (t : List UInt8) : guessV ([34] ++ t ++ [34]) = (3, 0, t) := by
  have hp : Lib.hasPrefix ([34] ++ t ++ [34]) [34] = true := by simp [Lib.hasPrefix]
  have hd : Lib.trimPrefix ([34] ++ t ++ [34]) [34] = t ++ [34] := by
    unfold Lib.trimPrefix
    rw [if_pos hp]
    simp
  unfold guessV
  rw [if_neg (by simp), if_neg (by simp), if_pos hp, hd, trimS_app]

theorem guess_print {k n : Int} {t : List UInt8} (h : Vm.rightV k n t = true) : guessV (printV k n t) = (k, n, t) := by
  have hp : printV k n t = (if k = 2 then Lib.itoa n ++ [102] else if k = 1 then Lib.itoa n else if k = 3 then [34] ++ t ++ [34] else if k = 4 then (if n = 1 then [121, 101, 115] else [110, 111]) else [110, 111, 110, 101]) := by
    unfold printV; rw [if_pos h]
  rw [hp]
  rcases right_kind h with rfl | rfl | rfl | rfl | rfl
  · obtain rfl := right_empty h (by decide)
    have hn : n = 0 := by rw [Vm.rightV_none] at h; simp at h; exact h
    subst hn
    exact guess_none
  · obtain rfl := right_empty h (by decide)
    obtain ⟨a, b⟩ := right_num h (Or.inl rfl)
    exact guess_int n a b
  · obtain rfl := right_empty h (by decide)
    obtain ⟨a, b⟩ := right_num h (Or.inr rfl)
    exact guess_fix n a b
  · obtain ⟨rfl, -⟩ := right_text h
    exact guess_text t
  · obtain rfl := right_empty h (by decide)
    rcases right_flag h with rfl | rfl
    · exact guess_no
    · exact guess_yes
theorem parse_printV {k n : Int} {t : List UInt8} (h : Vm.rightV k n t = true) : parseV (printV k n t) = (k, n, t, true) := by
  unfold parseV
  rw [guess_print h]
  dsimp only
  rw [if_pos ⟨h, rfl⟩]
theorem parseV_form (l : List UInt8) : parseV l = (0, 0, [], false) ∨ ∃ k n t, parseV l = (k, n, t, true) ∧ Vm.rightV k n t = true ∧ printV k n t = l ∧ t.length ≤ 64 := by
  unfold parseV
  split
  · next h => exact Or.inr ⟨_, _, _, rfl, h.1, h.2, right_t h.1⟩
  · exact Or.inl rfl

theorem take_backV {k n : Int} {t : List UInt8} (h : Vm.rightV k n t = true) : takeV (Wm.numB k.toNat ++ restV k n t) = (k, n, t, [], 0) := by
  have hraw : rawV (Wm.numB k.toNat ++ restV k n t) = (k, n, t, [], 0) := by
    have hk := right_kind h
    unfold rawV
    rw [uptoR_back k.toNat _ (by omega)]
    dsimp only
    rcases hk with rfl | rfl | rfl | rfl | rfl
    · obtain rfl := right_empty h (by decide)
      have hn : n = 0 := by rw [Vm.rightV_none] at h; simp at h; exact h
      subst hn
      rfl
    · obtain rfl := right_empty h (by decide)
      obtain ⟨a, b⟩ := right_num h (Or.inl rfl)
      have hf := foldV_le n a b
      have e : restV 1 n [] = Wm.numB (foldV n) ++ [] := by rw [List.append_nil]; rfl
      rw [e, uptoR_back _ _ (by omega)]
      dsimp only
      rw [if_pos (by decide), unfold_fold]
      rfl
    · obtain rfl := right_empty h (by decide)
      obtain ⟨a, b⟩ := right_num h (Or.inr rfl)
      have hf := foldV_le n a b
      have e : restV 2 n [] = Wm.numB (foldV n) ++ [] := by rw [List.append_nil]; rfl
      rw [e, uptoR_back _ _ (by omega)]
      dsimp only
      rw [if_pos (by decide), unfold_fold]
      rfl
    · obtain ⟨rfl, hl⟩ := right_text h
      have e : restV 3 0 t = Wm.numB t.length ++ t ++ [] := by rw [List.append_nil]; rfl
      rw [e, textR_back _ _ (by omega)]
      rfl
    · obtain rfl := right_empty h (by decide)
      have hn := right_flag h
      have e : restV 4 n [] = Wm.numB n.toNat ++ [] := by rw [List.append_nil]; rfl
      rw [e, uptoR_back _ _ (by omega)]
      dsimp only
      rw [if_neg (by decide), if_neg (by decide), if_pos (by decide)]
      rw [show ((n.toNat : Nat) : Int) = n by omega]
  unfold takeV
  rw [hraw]
  dsimp only
  rw [if_neg (by simp), if_pos h]

end Go.Proofs.YtfakbbbkfmnnhaaDoor
