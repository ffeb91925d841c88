/-
  THE DOCUMENT's Compare.
  No conditions but sizes.
-/
import Derived.Test.YtilkokhapcgolaaGreatKRight
namespace Go.Proofs.YtilkokhapcgolaaGreat
open Go.RowKit

theorem ret_i64 {a b : Int} (h : a = b) : Ending.returned (.int .i64 a) = .returned (.int .i64 b) := by rw [h]
theorem below_drewN {B : Nat} {a w : World} (h : Below B a w) (n : Nat) : Below B a (w.drewN n) := h.trans ⟨rfl, rfl, rfl, Nat.le_refl _, fun _ _ => rfl⟩
/-- so far the same -/
def Same (a b : List UInt8) (k : Nat) : Prop := ∀ m, m < k → Km.dg a m = Km.dg b m

theorem same_succ {a b : List UInt8} {k : Nat} (h : Same a b k) (hk : Km.dg a k = Km.dg b k) : Same a b (k + 1) := fun m hm => by
  by_cases e : m = k
  · subst e; exact hk
  · exact h m (by omega)

set_option maxHeartbeats 2000000 in
theorem refCompare_any (a b : ByteArray) (w : World) (ha : a.size ≤ 140737488355328) (_ : b.size ≤ 140737488355328) : Calls Tryz.prog 69 #[.string a, .string b] w fun e w' => e = .returned (.int .i64 (Lib.compareBytes a.data.toList b.data.toList)) ∧ Below w.heap.size w w' := by
  have LA := Lib.hid (size_list a)
  have LB := Lib.hid (size_list b)
  go_enter Tryz.func69, Tryz.ntmps69
  go_wp2
  go_loopw [5] (fun i wr => ∃ k : Nat, k ≤ a.size ∧ k ≤ b.size ∧ i = .int .i64 k ∧ Same a.data.toList b.data.toList k ∧ Below w.heap.size w wr) (fun i _ => a.size - (intOf i).toNat)
  case atStart => exact ⟨0, Nat.zero_le _, Nat.zero_le _, rfl, fun m hm => absurd hm (Nat.not_lt_zero _), Below.refl _ _⟩
  case round =>
    obtain ⟨k, h1, h2, rfl, he, hb0⟩ := hrel
    have HE := Lib.hid he
    have HW := Lib.hid hb0
    clear he hb0
    by_cases ka : k < a.size
    · by_cases kb : k < b.size
      · have DA := Lib.hid (dg_at a k ka)
        have DB := Lib.hid (dg_at b k kb)
        have g0 : (0 : Int) ≤ (k : Int) := by omega
        have g1 : (k : Int) < (a.size : Int) := by omega
        have g2 : (k : Int) < (b.size : Int) := by omega
        rcases Nat.lt_trichotomy a[k].toNat b[k].toNat with hl | hl | hl
        · have HC := Lib.hid (Km.cmp_lt (a := a.data.toList) (b := b.data.toList) (k := k) (by rw [LB.out]; exact kb) HE.out (by rw [LA.out]; omega) (Or.inr (by rw [DA.out, DB.out]; exact hl)))
          go_wp2
          go_quiet (fail)
          go_wp2
          go_ret
          exact ⟨ret_i64 HC.out.symm, by first | exact below_drewN HW.out _ | exact below_drewN (below_drewN HW.out _) _⟩
        · have HS : Hid (Same a.data.toList b.data.toList (k + 1)) := Lib.hid (same_succ HE.out (by rw [DA.out, DB.out]; exact hl))
          have n1 : ¬ a[k].toNat < b[k].toNat := by omega
          have n2 : ¬ b[k].toNat < a[k].toNat := by omega
          clear hl
          go_wp2
          go_quiet (fail)
          go_wp2
          go_quiet (fail)
          go_wp2
          go_roundw
          case rel => exact ⟨k + 1, ka, kb, by go_num, HS.out, by first | exact below_drewN HW.out _ | exact below_drewN (below_drewN HW.out _) _⟩
          case measure => simp [intOf]; omega
        · have HC := Lib.hid (Km.cmp_gt (a := a.data.toList) (b := b.data.toList) (k := k) (by rw [LA.out]; exact ka) HE.out (by rw [LB.out]; omega) (Or.inr (by rw [DA.out, DB.out]; exact hl)))
          have n1 : ¬ a[k].toNat < b[k].toNat := by omega
          go_wp2
          go_quiet (fail)
          go_wp2
          go_quiet (fail)
          go_wp2
          go_ret
          exact ⟨ret_i64 HC.out.symm, by first | exact below_drewN HW.out _ | exact below_drewN (below_drewN HW.out _) _⟩
      · obtain rfl : k = b.size := by omega
        have HC := Lib.hid (Km.cmp_gt (a := a.data.toList) (b := b.data.toList) (k := b.size) (by rw [LA.out]; exact ka) HE.out (by rw [LB.out]; omega) (Or.inl LB.out.symm))
        go_wp2
        go_ret
        exact ⟨ret_i64 HC.out.symm, HW.out⟩
    · obtain rfl : k = a.size := by omega
      by_cases kb : a.size < b.size
      · have HC := Lib.hid (Km.cmp_lt (a := a.data.toList) (b := b.data.toList) (k := a.size) (by rw [LB.out]; exact kb) HE.out (by rw [LA.out]; omega) (Or.inl LA.out.symm))
        go_wp2
        go_ret
        exact ⟨ret_i64 HC.out.symm, HW.out⟩
      · have hab : a.size = b.size := by omega
        have HC := Lib.hid (Km.cmp_eq (a := a.data.toList) (b := b.data.toList) (by rw [LA.out, LB.out]; exact hab) (fun m hm => HE.out m (by rw [LA.out] at hm; exact hm)))
        clear hab
        go_wp2
        go_ret
        exact ⟨ret_i64 HC.out.symm, HW.out⟩

end Go.Proofs.YtilkokhapcgolaaGreat
