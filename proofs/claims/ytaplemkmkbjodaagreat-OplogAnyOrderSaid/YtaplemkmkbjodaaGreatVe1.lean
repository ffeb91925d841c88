/-
  Right, of both sides; used; Total of both sides.
  No conditions.
-/
import Derived.Test.YtaplemkmkbjodaaGreatVKit
namespace Go.Proofs.YtaplemkmkbjodaaGreat
open Go.RowKit

theorem vret_bool {a b : Bool} (h : a = b) : Ending.returned (.bool a) = .returned (.bool b) := by rw [h]
theorem vOk_zero (a : Nat → Int) : vOk a 0 = true := rfl

set_option maxRecDepth 100000 in
set_option maxHeartbeats 1000000 in
theorem vecright_any (a : Nat → Int) (w : World) : Calls Tryz.prog 66 #[.agg (vecA a)] w fun e w' => e = .returned (.bool (vRight a)) ∧ Below w.heap.size w w' := by
  have hv := VAt.new w a 64
  have HB := Lib.hid ((Below.refl w.heap.size w).alloc (Nat.le_refl _) (.cells (vecA a) 64))
  go_enter Tryz.func66, Tryz.ntmps66
  go_wp2_with (refine wpList_load_vec vtP rfl _ rfl _ rfl _ (by assumption) ?_)
  clear hv
  go_loop [6] (fun i => ∃ k : Nat, k ≤ 16 ∧ i = .int .i64 (k : Int) ∧ vOk a k = true) (fun i => 16 - (intOf i).toNat)
  case atStart => exact ⟨0, by omega, rfl, rfl⟩
  case round =>
    obtain ⟨k, hk, rfl, ho⟩ := hrel
    have HO := Lib.hid ho
    clear ho
    by_cases hlt : k < 16
    · have ix := fun (W : World) => vtP.index W a k hlt
      by_cases h0 : a k < 0
      · have HR := Lib.hid (vRight_bad hlt (Or.inl h0))
        go_wp2
        go_ret
        exact ⟨vret_bool HR.out.symm, HB.out⟩
      · by_cases h1 : 512 < a k
        · have HR := Lib.hid (vRight_bad hlt (Or.inr h1))
          go_wp2
          go_ret
          exact ⟨vret_bool HR.out.symm, HB.out⟩
        · have HN := Lib.hid (vOk_succ HO.out (by omega) (by omega))
          go_wp2
          go_round
          case rel => exact ⟨k + 1, by omega, by go_num, HN.out⟩
          case measure => simp [intOf]; omega
    · obtain rfl : k = 16 := by omega
      go_wp2
      go_ret
      exact ⟨vret_bool HO.out.symm, HB.out⟩

set_option maxRecDepth 100000 in
set_option maxHeartbeats 1000000 in
theorem refRight_any (a : Nat → Int) (w : World) : Calls Tryz.prog 69 #[.agg (vecA a)] w fun e w' => e = .returned (.bool (vRight a)) ∧ Below w.heap.size w w' := by
  have HV := Lib.hid (VAt.new w a 24)
  have HB := Lib.hid ((Below.refl w.heap.size w).alloc (Nat.le_refl _) (.cells (vecA a) 24))
  go_enter Tryz.func69, Tryz.ntmps69
  go_wp2
  go_loop [3] (fun i => ∃ k : Nat, k ≤ 16 ∧ i = .int .i64 (k : Int) ∧ vOk a k = true) (fun i => 16 - (intOf i).toNat)
  case atStart => exact ⟨0, by omega, rfl, rfl⟩
  case round =>
    obtain ⟨k, hk, rfl, ho⟩ := hrel
    have HO := Lib.hid ho
    clear ho
    by_cases hlt : k < 16
    · have ix := HV.out.cell k hlt
      by_cases h0 : a k < 0
      · have HR := Lib.hid (vRight_bad hlt (Or.inl h0))
        go_wp2
        go_ret
        exact ⟨vret_bool HR.out.symm, HB.out⟩
      · by_cases h1 : 512 < a k
        · have HR := Lib.hid (vRight_bad hlt (Or.inr h1))
          go_wp2
          go_ret
          exact ⟨vret_bool HR.out.symm, HB.out⟩
        · have HN := Lib.hid (vOk_succ HO.out (by omega) (by omega))
          go_wp2
          go_round
          case rel => exact ⟨k + 1, by omega, by go_num, HN.out⟩
          case measure => simp [intOf]; omega
    · obtain rfl : k = 16 := by omega
      go_wp2
      go_ret
      exact ⟨vret_bool HO.out.symm, HB.out⟩

end Go.Proofs.YtaplemkmkbjodaaGreat
