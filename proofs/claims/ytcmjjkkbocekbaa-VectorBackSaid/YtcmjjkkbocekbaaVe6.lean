/-
  The law's own helper: what must come.
  No conditions.
-/
import Derived.Test.YtcmjjkkbocekbaaVe5
import Derived.Test.YtcmjjkkbocekbaaLent
import Derived.Outline
namespace Go.Proofs.Ytcmjjkkbocekbaa
open Go.RowKit

def kA : Nat → Int := fun i => [2, 0, 1].getD i 0
def kB : Nat → Int := fun i => [1, 3].getD i 0
def kJ : Nat → Int := fun i => [2, 3, 1].getD i 0
theorem kJ_join : vecA (joinF kA kB) = vecA kJ := vecA_congr (by decide)
theorem k_cmp : cmpF kA kB = 2 := by decide
theorem k_covA : coversB kJ kA = true := by decide
theorem k_covB : coversB kJ kB = true := by decide
theorem k_total : totalF kJ = 6 := by decide
theorem k_put : vPut kJ = (vBytes kJ, 0) := by unfold vPut; rw [if_pos (by decide)]
theorem k_len : 1 < (vBytes kJ).length := by decide

set_option maxRecDepth 100000 in
set_option maxHeartbeats 2000000 in
theorem lawnum_any (n : Int) (w : World) : Calls Try.prog 7 #[.int .i64 n] w fun e w' => e = .returned (.int .i64 n) ∧ w = w' := by
  go_enter Try.func7, Try.ntmps7
  go_wp2
  go_ret
  exact ⟨rfl, rfl⟩

set_option maxRecDepth 100000 in
set_option maxHeartbeats 2000000 in
theorem vknows_any (w : World) : Calls Try.prog 29 #[] w fun e w' => e = .returned (.bool true) ∧ Below w.heap.size w w' := by
  have hEq : ∀ W : World, (Op.equalIn 10000 25 (.agg (vecA kJ)) (.agg #[Value.int IntKind.i64 2, Value.int IntKind.i64 3, Value.int IntKind.i64 1, Value.int IntKind.i64 0, Value.int IntKind.i64 0, Value.int IntKind.i64 0, Value.int IntKind.i64 0, Value.int IntKind.i64 0, Value.int IntKind.i64 0, Value.int IntKind.i64 0, Value.int IntKind.i64 0, Value.int IntKind.i64 0, Value.int IntKind.i64 0, Value.int IntKind.i64 0, Value.int IntKind.i64 0, Value.int IntKind.i64 0])).run Try.prog W = .ok true W := fun W => by
    have := vtP.eq W kJ kJ
    rw [eqv_refl] at this
    exact this
  go_enter Try.func29, Try.ntmps29
  obtain ⟨V1, V2, hb0⟩ := two_rows w kA kB 25 25 _ rfl
  have HB0 := Lib.hid hb0
  clear hb0
  have HJ := Lib.hid (fun W => join_any kA kB W)
  rw [kJ_join] at HJ
  go_wp2_with (refine wpList_load_vec vtP rfl _ rfl _ rfl _ (by assumption) ?_)
  refine (HJ.out _).mono ?_
  rintro e w1 ⟨rfl, hb1⟩
  have HV1 := Lib.hid (V1.kept hb1)
  have HV2 := Lib.hid (V2.kept hb1)
  have HB1 := Lib.hid (HB0.out.trans (hb1.mono HB0.out.size))
  clear V1 V2 hb1
  have V0 := VAt.new w1 (fun _ => 0) 25
  go_wp2_with (first | (refine wpList_load_vec vtP rfl _ rfl _ rfl _ (by assumption) ?_) | (refine wpList_store_vec vtP rfl _ _ rfl _ rfl (fun _ => 0) (kJ) (by assumption) rfl ?_; intro wn hvn hko hsz hbn))
  have HV0 := Lib.hid hvn
  have HB2 := Lib.hid (hbn _ _ (show Below w.heap.size w _ from (HB1.out).alloc HB1.out.size _) HB1.out.size)
  have HV1n := Lib.hid (show VAt wn w.heap.size kA from by
    obtain ⟨T, h⟩ := HV1.out.kept ((Below.refl w1.heap.size w1).alloc (Nat.le_refl _) _)
    exact ⟨T, (hko _ (by have := HV1.out.lt; omega)).trans h⟩)
  have HV2n := Lib.hid (show VAt wn (w.heap.size + 1) kB from by
    obtain ⟨T, h⟩ := HV2.out.kept ((Below.refl w1.heap.size w1).alloc (Nat.le_refl _) _)
    exact ⟨T, (hko _ (by have := HV2.out.lt; omega)).trans h⟩)
  clear hvn hko hsz hbn V0
  have HP := Lib.hid (fun W => put_any kJ W)
  rw [k_put] at HP
  have hkl := k_len
  generalize vBytes kJ = y at *
  refine (HP.out _).mono ?_
  rintro e w3 ⟨v3, rfl, hown3, hb3⟩
  try dsimp only at hown3
  obtain ⟨p3, c3, rfl, -⟩ := hown3.bs
  have HB3 := Lib.hid (HB2.out.trans (hb3.mono HB2.out.size))
  have V1 := HV1n.out.kept hb3
  have V2 := HV2n.out.kept hb3
  have V3 := HV0.out.kept hb3
  clear hown3 hb3
  have hlen : decide ((1 : Int) < (y.length : Int)) = true := decide_eq_true (by omega)
  go_wp2_with (first | (refine wpList_load_vecG vtP (by kernel_rfl) _ rfl _ rfl _ (by assumption) ?_) | (refine wpList_load_vec vtP rfl _ rfl _ rfl _ (by assumption) ?_))
  refine (lawnum_any _ _).mono ?_
  rintro e w' ⟨rfl, rfl⟩
  have HC := Lib.hid (fun W => compare_any kA kB W)
  rw [k_cmp] at HC
  go_wp2_with (first | (refine wpList_load_vecG vtP (by kernel_rfl) _ rfl _ rfl _ (by assumption) ?_) | (refine wpList_load_vec vtP rfl _ rfl _ rfl _ (by assumption) ?_))
  refine (HC.out _).mono ?_
  rintro e w4 ⟨rfl, hb⟩
  have HB3 := Lib.hid (HB3.out.trans (hb.mono HB3.out.size))
  have V1 := V1.kept hb
  have V2 := V2.kept hb
  have V3 := V3.kept hb
  clear hb
  have HA := Lib.hid (fun W => covers_any kJ kA W)
  rw [k_covA] at HA
  go_wp2_with (first | (refine wpList_load_vecG vtP (by kernel_rfl) _ rfl _ rfl _ (by assumption) ?_) | (refine wpList_load_vec vtP rfl _ rfl _ rfl _ (by assumption) ?_))
  refine (HA.out _).mono ?_
  rintro e w5 ⟨rfl, hb⟩
  have HB3 := Lib.hid (HB3.out.trans (hb.mono HB3.out.size))
  have V1 := V1.kept hb
  have V2 := V2.kept hb
  have V3 := V3.kept hb
  clear hb
  have HA := Lib.hid (fun W => covers_any kJ kB W)
  rw [k_covB] at HA
  go_wp2_with (first | (refine wpList_load_vecG vtP (by kernel_rfl) _ rfl _ rfl _ (by assumption) ?_) | (refine wpList_load_vec vtP rfl _ rfl _ rfl _ (by assumption) ?_))
  refine (HA.out _).mono ?_
  rintro e w6 ⟨rfl, hb⟩
  have HB3 := Lib.hid (HB3.out.trans (hb.mono HB3.out.size))
  have V1 := V1.kept hb
  have V2 := V2.kept hb
  have V3 := V3.kept hb
  clear hb
  have HA := Lib.hid (fun W => total_any kJ W)
  rw [k_total] at HA
  go_wp2_with (first | (refine wpList_load_vecG vtP (by kernel_rfl) _ rfl _ rfl _ (by assumption) ?_) | (refine wpList_load_vec vtP rfl _ rfl _ rfl _ (by assumption) ?_))
  refine (HA.out _).mono ?_
  rintro e w7 ⟨rfl, hb⟩
  have HB3 := Lib.hid (HB3.out.trans (hb.mono HB3.out.size))
  have V1 := V1.kept hb
  have V2 := V2.kept hb
  have V3 := V3.kept hb
  clear hb
  go_wp2
  go_ret
  exact ⟨rfl, HB3.out⟩

end Go.Proofs.Ytcmjjkkbocekbaa
