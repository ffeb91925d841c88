/-
  Compare and Total, of both sides.
  No conditions.
-/
import Derived.Test.YtaplemkmkbjodaaGreatVe3
namespace Go.Proofs.YtaplemkmkbjodaaGreat
open Go.RowKit

theorem cmpF_ref (a b : Nat → Int) : cmpF a b = if coversB a b = true then (if coversB b a = true then 0 else 1) else if coversB b a = true then -1 else 2 := by
  unfold cmpF
  rw [eqv_covers]
  cases coversB a b <;> cases coversB b a <;> rfl

set_option maxRecDepth 100000 in
set_option maxHeartbeats 2000000 in
theorem total_any (a : Nat → Int) (w : World) : Calls Tryz.prog 43 #[.agg (vecA a)] w fun e w' => e = .returned (.int .i64 (totalF a)) ∧ Below w.heap.size w w' := by
  have V := VAt.new w a 64
  have HB0 := Lib.hid ((Below.refl w.heap.size w).alloc (Nat.le_refl _) (.cells (vecA a) 64))
  have HC := Lib.hid (fun W => vecright_any a W)
  by_cases hr : vRight a = true
  · have HR := Lib.hid hr
    have HT := Lib.hid (show totalF a = sumTo a 16 from by unfold totalF; rw [if_pos hr])
    rw [hr] at HC
    clear hr
    go_enter Tryz.func43, Tryz.ntmps43
    go_wp2_with (refine wpList_load_vec vtP rfl _ rfl _ rfl _ (by assumption) ?_)
    refine (HC.out _).mono ?_
    rintro e w1 ⟨rfl, hb1⟩
    have HB1 := Lib.hid (HB0.out.trans (hb1.mono HB0.out.size))
    have V' := V.kept hb1
    clear hb1 V
    go_wp2_with (refine wpList_load_vec vtP rfl _ rfl _ rfl _ (by assumption) ?_)
    clear V'
    go_loop [3, 10] (fun s i => ∃ k : Nat, k ≤ 16 ∧ i = .int .i64 (k : Int) ∧ s = .int .i64 (sumTo a k)) (fun _ i => 16 - (intOf i).toNat)
    case atStart => exact ⟨0, by omega, rfl, rfl⟩
    case round =>
      obtain ⟨k, hk, rfl, rfl⟩ := hrel
      by_cases hlt : k < 16
      · have ix := fun (W : World) => vtP.index W a k hlt
        obtain ⟨h1, h2⟩ := sumTo_bd HR.out k hk
        obtain ⟨h3, h4⟩ := vRight_iff.1 HR.out k hlt
        go_wp2
        go_round
        case rel => exact ⟨k + 1, by omega, by go_num, rfl⟩
        case measure => simp [intOf]; omega
      · obtain rfl : k = 16 := by omega
        go_wp2
        go_ret
        exact ⟨ret_int HT.out.symm, HB1.out⟩
  · have HT := Lib.hid (show totalF a = 0 from by unfold totalF; rw [if_neg hr])
    rw [show vRight a = false by simpa using hr] at HC
    clear hr
    go_enter Tryz.func43, Tryz.ntmps43
    go_wp2_with (refine wpList_load_vec vtP rfl _ rfl _ rfl _ (by assumption) ?_)
    refine (HC.out _).mono ?_
    rintro e w1 ⟨rfl, hb1⟩
    have HB1 := Lib.hid (HB0.out.trans (hb1.mono HB0.out.size))
    clear hb1 V
    go_wp2
    go_ret
    exact ⟨ret_int HT.out.symm, HB1.out⟩

end Go.Proofs.YtaplemkmkbjodaaGreat
