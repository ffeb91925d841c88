/-
  A VALUE's BYTES: folded, unfolded, Put, Take.
  No conditions.
-/
import Derived.Test.YtaplemkmkbjodaaGreatVal
import Derived.Test.YtaplemkmkbjodaaGreatGB
namespace Go.Proofs.YtaplemkmkbjodaaGreat
open Go.RowKit

/-- numbers below 0 laid between the others -/
def foldV (n : Int) : Nat := if n < 0 then (-2 * n - 1).toNat else (2 * n).toNat
def unfoldV (m : Nat) : Int := if m % 2 = 1 then -(((m + 1) / 2 : Nat) : Int) else ((m / 2 : Nat) : Int)
theorem unfold_fold (n : Int) : unfoldV (foldV n) = n := by
  unfold foldV unfoldV
  split <;> split <;> omega
theorem foldV_le (n : Int) (h0 : -1099511627776 ≤ n) (h1 : n ≤ 1099511627776) : foldV n ≤ 2199023255552 := by
  unfold foldV
  split <;> omega
theorem unfoldV_le (m : Nat) (h : m < 281474976710656) : -281474976710656 ≤ unfoldV m ∧ unfoldV m ≤ 281474976710656 := by
  unfold unfoldV
  split <;> omega

set_option maxRecDepth 100000 in
theorem folded_any (n : Int) (w : World) (h0 : -1099511627776 ≤ n) (h1 : n ≤ 1099511627776) : Calls Tryz.prog 117 #[.int .i64 n] w fun e w' => e = .returned (.int .i64 (foldV n : Nat)) ∧ w = w' := by
  by_cases h : n < 0
  · have HE := Lib.hid (show -2 * n - 1 = ((foldV n : Nat) : Int) by unfold foldV; rw [if_pos h]; omega)
    go_enter Tryz.func117, Tryz.ntmps117
    go_wp2
    go_ret
    exact ⟨ret_int HE.out, rfl⟩
  · have HE := Lib.hid (show 2 * n = ((foldV n : Nat) : Int) by unfold foldV; rw [if_neg h]; omega)
    have d0 : decide (n < 0) = false := decide_eq_false h
    go_enter Tryz.func117, Tryz.ntmps117
    go_wp2
    go_ret
    exact ⟨ret_int HE.out, rfl⟩

/-- what stands behind the Kind -/
def restV (k n : Int) (t : List UInt8) : List UInt8 :=
  if k = 3 then Wm.numB t.length ++ t else if k = 4 then Wm.numB n.toNat else if k = 0 then [] else Wm.numB (foldV n)
/-- a value's bytes, the error -/
def putV (k n : Int) (t : List UInt8) : List UInt8 × Nat := if Vm.rightV k n t = true then (Wm.numB k.toNat ++ restV k n t, 0) else ([], 1)

theorem right_kind {k n : Int} {t : List UInt8} (h : Vm.rightV k n t = true) : k = 0 ∨ k = 1 ∨ k = 2 ∨ k = 3 ∨ k = 4 := Classical.byContradiction fun hh => by
  rw [Vm.rightV_other k n _ (by omega) (by omega) (by omega) (by omega) (by omega)] at h
  cases h
theorem right_num {k n : Int} {t : List UInt8} (h : Vm.rightV k n t = true) (hk : k = 1 ∨ k = 2) : -1099511627776 ≤ n ∧ n ≤ 1099511627776 := by
  rw [Vm.rightV_num _ _ _ hk] at h
  simp only [Bool.and_eq_true, decide_eq_true_eq] at h
  exact h.1
theorem right_text {n : Int} {t : List UInt8} (h : Vm.rightV 3 n t = true) : n = 0 ∧ t.length ≤ 64 := by
  rw [Vm.rightV_text] at h
  simp only [Vm.okT, Bool.and_eq_true, decide_eq_true_eq] at h
  exact ⟨h.1, h.2.1⟩
theorem right_flag {n : Int} {t : List UInt8} (h : Vm.rightV 4 n t = true) : n = 0 ∨ n = 1 := by
  rw [Vm.rightV_flag] at h
  simp only [Bool.and_eq_true, decide_eq_true_eq] at h
  exact h.1
theorem right_empty {k n : Int} {t : List UInt8} (h : Vm.rightV k n t = true) (hk : k ≠ 3) : t = [] := by
  rcases right_kind h with rfl | rfl | rfl | rfl | rfl
  · rw [Vm.rightV_none] at h; simp at h; exact h.2
  · rw [Vm.rightV_num _ _ _ (Or.inl rfl)] at h; simp at h; exact h.2
  · rw [Vm.rightV_num _ _ _ (Or.inr rfl)] at h; simp at h; exact h.2
  · exact absurd rfl hk
  · rw [Vm.rightV_flag] at h; simp at h; exact h.2

theorem OwnX.only {E : TypeId} {w w' : World} {B k g n cap : Nat} {l : List UInt8} (h : Own E w B (.slice (some ⟨g, 0, none⟩) n cap) l) (ho : Only k w w') (hne : g ≠ k) : Own E w' B (.slice (some ⟨g, 0, none⟩) n cap) l :=
  World.ownsRow.kept (row := some k) h ho (by simp [Value.ownBlock, hne])
theorem ThreeAt.set1 {w : World} {b : Nat} {k n : Int} {t : ByteArray} (h : ThreeAt w b k n t) (n' : Int) : ThreeAt (w.setCell ⟨b, 1, none⟩ (.int .i64 n')) b k n' t := Go.Joins.block_setCell h (i := 1) (.int .i64 n')
theorem ThreeAt.set2 {w : World} {b : Nat} {k n : Int} {t : ByteArray} (h : ThreeAt w b k n t) (t' : ByteArray) : ThreeAt (w.setCell ⟨b, 2, none⟩ (.string t')) b k n t' := Go.Joins.block_setCell h (i := 2) (.string t')
theorem ThreeAt.only {w w' : World} {b c : Nat} {k n : Int} {t : ByteArray} (h : ThreeAt w b k n t) (ho : Only c w w') (hne : b ≠ c) : ThreeAt w' b k n t := (ho.block b h.size (by simpa using hne)).trans h

end Go.Proofs.YtaplemkmkbjodaaGreat
