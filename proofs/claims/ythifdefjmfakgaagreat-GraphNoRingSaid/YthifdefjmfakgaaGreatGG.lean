/-
  PLAIN MATHEMATICS of layer 4 (poskey): keys as fractions, the key between two, rows of keys: lists of bytes alone; no program, no world.
  No conditions.
  MAY A KEY BE (the program's Right).
  No conditions but sizes.
-/
import Derived.Lib.Bytes
import Derived.Lib.Bytealg
import Derived.Lib.Small
import Derived.Test.YthifdefjmfakgaaGreatGA
namespace Go.Proofs.YthifdefjmfakgaaGreat.Km

/-- byte i of a list, as a number; 0 behind its end -/
def dg (l : List UInt8) (i : Nat) : Nat := (l.getD i 0).toNat
theorem dg_get (l : List UInt8) (i : Nat) (h : i < l.length) : dg l i = l[i].toNat := by simp [dg, List.getD, List.getElem?_eq_getElem h]
/-- what strings.Compare answers -/
theorem compare_less : ∀ (a b : List UInt8), Lib.compareBytes a b = if a = b then 0 else if Op.bytesLess a b = true then -1 else 1
  | [], [] => by simp [Lib.compareBytes]
  | [], c :: b => by simp [Lib.compareBytes, Op.bytesLess]
  | c :: a, [] => by simp [Lib.compareBytes, Op.bytesLess]
  | c :: a, d :: b => by
    have ih := compare_less a b
    simp only [Lib.compareBytes, Op.bytesLess]
    by_cases h1 : c < d
    · rw [if_pos h1]
      have : ¬ c = d := by rintro rfl; exact absurd h1 (UInt8.lt_irrefl c)
      simp [h1, this]
    · rw [if_neg h1]
      by_cases h2 : d < c
      · rw [if_pos h2]
        have : ¬ c = d := by rintro rfl; exact absurd h2 (UInt8.lt_irrefl c)
        simp [h1, this]
      · rw [if_neg h2]
        have : c = d := UInt8.le_antisymm (UInt8.not_lt.1 h2) (UInt8.not_lt.1 h1)
        subst this
        rw [ih]
        simp [h1]
theorem less_irrefl : ∀ a : List UInt8, Op.bytesLess a a = false
  | [] => rfl
  | c :: a => by simp [Op.bytesLess, less_irrefl a, UInt8.lt_irrefl]
theorem less_total : ∀ a b : List UInt8, a ≠ b → Op.bytesLess a b = false → Op.bytesLess b a = true
  | [], [], h, _ => absurd rfl h
  | [], _ :: _, _, h => by simp [Op.bytesLess] at h
  | _ :: _, [], _, _ => by simp [Op.bytesLess]
  | c :: a, d :: b, hne, h => by
    simp only [Op.bytesLess, Bool.or_eq_false_iff, decide_eq_false_iff_not, Bool.and_eq_false_iff, beq_eq_false_iff_ne] at h
    simp only [Op.bytesLess, Bool.or_eq_true, decide_eq_true_eq, Bool.and_eq_true, beq_iff_eq]
    obtain ⟨h1, h2⟩ := h
    by_cases e : c = d
    · subst e
      refine Or.inr ⟨rfl, less_total a b (fun e => hne (by rw [e])) ?_⟩
      rcases h2 with h2 | h2
      · exact absurd rfl h2
      · exact h2
    · exact Or.inl (Classical.byContradiction fun h3 => e (UInt8.le_antisymm (UInt8.not_lt.1 h3) (UInt8.not_lt.1 h1)))
theorem less_trans : ∀ a b c : List UInt8, Op.bytesLess a b = true → Op.bytesLess b c = true → Op.bytesLess a c = true
  | _, [], _, h, _ => by simp [Op.bytesLess] at h
  | _, _ :: _, [], _, h => by simp [Op.bytesLess] at h
  | [], _ :: _, _ :: _, _, _ => by simp [Op.bytesLess]
  | x :: a, y :: b, z :: c, h, k => by
    have ih := less_trans a b c
    simp only [Op.bytesLess, Bool.or_eq_true, decide_eq_true_eq, Bool.and_eq_true, beq_iff_eq] at *
    rcases h with h | ⟨rfl, h⟩ <;> rcases k with k | ⟨rfl, k⟩
    · exact Or.inl (UInt8.lt_trans h k)
    · exact Or.inl h
    · exact Or.inl k
    · exact Or.inr ⟨rfl, ih h k⟩
theorem less_asymm (a b : List UInt8) (h : Op.bytesLess a b = true) : Op.bytesLess b a = false := by
  cases k : Op.bytesLess b a
  · rfl
  · have := less_trans a b a h k
    rw [less_irrefl] at this; cases this

theorem cmp_zero (a b : List UInt8) : Lib.compareBytes a b = 0 ↔ a = b := by
  rw [compare_less]
  by_cases h : a = b
  · subst h; simp
  · rw [if_neg h]
    cases k : Op.bytesLess a b <;> simp [h]

/-- may a key be? -/
def rightB (k : List UInt8) : Bool := @decide (1 ≤ k.length ∧ k.length ≤ 24 ∧ 0 < dg k (k.length - 1)) inferInstance
theorem rightB_iff (k : List UInt8) : rightB k = true ↔ 1 ≤ k.length ∧ k.length ≤ 24 ∧ 0 < dg k (k.length - 1) := by simp [rightB]
/-- may there be keys between two ends? -/
def endsB (a b : List UInt8) : Bool := @decide ((a = [] ∨ rightB a = true) ∧ (b = [] ∨ rightB b = true) ∧ (a = [] ∨ b = [] ∨ Op.bytesLess a b = true)) inferInstance
/-- a key's first bytes, zeros behind it -/
def low (a : List UInt8) : List UInt8 := a ++ List.replicate (24 - a.length) 0
/-- is what stands ahead of place n the beginning of b? -/
def headB (a b : List UInt8) (n : Nat) : Bool := Lib.hasPrefix b ((low a).take n)
/-- the greatest last byte at place n -/
def mo (a b : List UInt8) (n : Nat) : Nat := if b = [] ∨ headB a b n = false then 255 else if n + 1 < b.length then dg b n else dg b n - 1
/-- is there a key with n + 1 bytes? -/
def okB (a b : List UInt8) (n : Nat) : Bool := @decide (dg a n + 1 ≤ mo a b n) inferInstance
/-- the key with n + 1 bytes -/
def keyAt (a b : List UInt8) (n : Nat) : List UInt8 := (low a).take n ++ [UInt8.ofNat ((dg a n + 1 + mo a b n) / 2)]
/-- the key between, and the error's number: for ends that may be -/
def betwIn (a b : List UInt8) : List UInt8 × Int := match (List.range 24).find? (okB a b) with
  | some n => (keyAt a b n, 0)
  | none => ([], 32)
/-- the key between any two, and the error's number -/
def betw (a b : List UInt8) : List UInt8 × Int := if endsB a b = true then betwIn a b else ([], 1)

end Go.Proofs.YthifdefjmfakgaaGreat.Km

namespace Go.Proofs.YthifdefjmfakgaaGreat
open Go.RowKit

theorem size_list (k : ByteArray) : k.data.toList.length = k.size := by rw [Array.length_toList]; rfl
theorem dg_at (k : ByteArray) (i : Nat) (h : i < k.size) : Km.dg k.data.toList i = k[i].toNat := by
  rw [Km.dg_get _ _ (by rw [size_list]; exact h)]
  rfl
theorem right_size {k : ByteArray} : Km.rightB k.data.toList = true ↔ 1 ≤ k.size ∧ k.size ≤ 24 ∧ 0 < Km.dg k.data.toList (k.size - 1) := by
  rw [Km.rightB_iff, size_list]
theorem right_no {k : ByteArray} (h : ¬ (1 ≤ k.size ∧ k.size ≤ 24 ∧ 0 < Km.dg k.data.toList (k.size - 1))) : Km.rightB k.data.toList = false := by
  cases e : Km.rightB k.data.toList
  · rfl
  · exact absurd (right_size.1 e) h

theorem right_last {k : ByteArray} (h0 : 0 < k.size) (h1 : k.size ≤ 24) : Km.rightB k.data.toList = (((k[k.size - 1]'(by omega)).toNat : Int) != 0) := by
  have hd := dg_at k (k.size - 1) (by omega)
  by_cases h2 : 0 < Km.dg k.data.toList (k.size - 1)
  · rw [right_size.2 ⟨by omega, h1, h2⟩]
    rw [hd] at h2
    symm
    rw [bne_iff_ne]
    omega
  · rw [right_no (by omega)]
    rw [hd] at h2
    symm
    rw [bne_eq_false_iff_eq]
    omega
theorem ret_bool {a b : Bool} (h : a = b) : Ending.returned (.bool a) = .returned (.bool b) := by rw [h]

set_option maxHeartbeats 400000 in
theorem kright_any (k : ByteArray) (w : World) (_ : k.size ≤ 140737488355328) : Calls Tryz.prog 115 #[.string k] w fun e w' => e = .returned (.bool (Km.rightB k.data.toList)) ∧ w = w' := by
  by_cases h0 : k.size = 0
  · have HR := Lib.hid (right_no (k := k) (by omega))
    go_enter Tryz.func115, Tryz.ntmps115
    go_wp2
    go_ret
    exact ⟨ret_bool HR.out.symm, rfl⟩
  · by_cases h1 : k.size ≤ 24
    · have HR := Lib.hid (right_last (k := k) (by omega) h1)
      go_enter Tryz.func115, Tryz.ntmps115
      go_wp2
      go_ret
      exact ⟨ret_bool HR.out.symm, rfl⟩
    · have HR := Lib.hid (right_no (k := k) (by omega))
      go_enter Tryz.func115, Tryz.ntmps115
      go_wp2
      go_ret
      exact ⟨ret_bool HR.out.symm, rfl⟩

end Go.Proofs.YthifdefjmfakgaaGreat
