/-
  PRODUCTS: magnitude, signed, Times; the document's abs, signed, product, Times.
  No conditions.
-/
import Derived.Test.YtfakbbbkfmnnhaaGreatDoorVAdd
import Derived.Test.YtfakbbbkfmnnhaaGreatDoorShelf
namespace Go.Proofs.YtfakbbbkfmnnhaaGreatDoor
open Go.RowKit

set_option maxHeartbeats 400000 in
theorem magnitude_any (n : Int) (w : World) (h0 : -1099511627776 ≤ n) (h1 : n ≤ 1099511627776) : Calls Tryz.prog 64 #[.int .i64 n] w fun e w' => e = .returned (.int .u64 (n.natAbs : Int)) ∧ w' = w := by
  have HE := Lib.hid (show max n (-n) = (n.natAbs : Int) by omega)
  go_enter Tryz.func64, Tryz.ntmps64
  go_wp2
  go_ret
  exact ⟨ret_int HE.out, rfl⟩

/-- what 'signed' answers -/
def signV (k : Int) (p : Nat) (b : Bool) : Int × Int × Int := if 1099511627776 < p then (0, 0, 30) else Vm.ansV k (if b = true then -(p : Int) else (p : Int))

set_option maxRecDepth 100000 in
set_option maxHeartbeats 1000000 in
theorem vsigned_any (k : Int) (p : Nat) (b : Bool) (w : World) (hp : p ≤ 18446744073709551615) : Calls Tryz.prog 65 #[.int .i64 k, .int .u64 (p : Int), .bool b] w fun e w' => e = valE (signV k p b) ∧ Below w.heap.size w w' := by
  have HV := Lib.hid (show VRes w w.heap.size (w.alloc (.cells #[.int .i64 0, .int .i64 0, .string ⟨#[]⟩] 23)) from ⟨Nat.le_refl _, ThreeAt.start w 0 0 ⟨#[]⟩, (Below.refl w.heap.size w).alloc (Nat.le_refl _) _⟩)
  by_cases h : 1099511627776 < p
  · have HA := Lib.hid (show signV k p b = (0, 0, 30) by unfold signV; rw [if_pos h])
    clear hp
    go_enter Tryz.func65, Tryz.ntmps65
    go_wp2
    refine bodyPost_ret (v := .tuple #[.agg #[.int .i64 (0), .int .i64 (0), .string ⟨#[]⟩], .int .i64 (30)]) (by simp [results, Tryz.results65, go_sem]) rfl ?_
    rw [HA.out]
    exact ⟨rfl, (Below.refl w.heap.size w).alloc (Nat.le_refl _) _⟩
  · have h2 : (p : Int) ≤ 1099511627776 := by omega
    have d2 : decide (1099511627776 < (p : Int)) = false := decide_eq_false (by omega)
    cases b with
    | true =>
      have HA := Lib.hid (show signV k p true = Vm.ansV k (-(p : Int)) by unfold signV; rw [if_neg h]; rfl)
      have HQ := Lib.hid (fun W => vnumber_any k (-(p : Int)) W)
      generalize Vm.ansV k (-(p : Int)) = r at *
      obtain ⟨ra, rb, rc⟩ := r
      unfold valE at HQ
      dsimp only at HQ
      clear h hp
      go_enter Tryz.func65, Tryz.ntmps65
      go_wp2_with fail
      refine (HQ.out _).mono ?_
      rintro e w2 ⟨rfl, hb2⟩
      have HV2 := Lib.hid (HV.out.kept hb2)
      clear hb2
      obtain ⟨q0, q1, q2, hE⟩ := HV2.out.read ra rb ⟨#[]⟩
      have HE := Lib.hid hE
      have y0 := HV2.out.2.1.free 0
      have y1 := HV2.out.2.1.free 1
      have y2 := HV2.out.2.1.free 2
      have z0 := HV2.out.2.1.cell0
      have z1 := HV2.out.2.1.cell1
      have z2 := HV2.out.2.1.cell2
      clear hE
      go_wp2
      refine bodyPost_ret (v := .tuple #[.agg #[.int .i64 ra, .int .i64 rb, .string ⟨#[]⟩], .int .i64 rc]) (by simp [results, Tryz.results65, go_sem, q0, q1, q2]) rfl ?_
      rw [HA.out]
      exact ⟨rfl, HE.out⟩
    | false =>
      have HA := Lib.hid (show signV k p false = Vm.ansV k (p : Int) by unfold signV; rw [if_neg h]; rfl)
      have HQ := Lib.hid (fun W => vnumber_any k (p : Int) W)
      generalize Vm.ansV k (p : Int) = r at *
      obtain ⟨ra, rb, rc⟩ := r
      unfold valE at HQ
      dsimp only at HQ
      clear h hp
      go_enter Tryz.func65, Tryz.ntmps65
      go_wp2_with fail
      refine (HQ.out _).mono ?_
      rintro e w2 ⟨rfl, hb2⟩
      have HV2 := Lib.hid (HV.out.kept hb2)
      clear hb2
      obtain ⟨q0, q1, q2, hE⟩ := HV2.out.read ra rb ⟨#[]⟩
      have HE := Lib.hid hE
      have y0 := HV2.out.2.1.free 0
      have y1 := HV2.out.2.1.free 1
      have y2 := HV2.out.2.1.free 2
      have z0 := HV2.out.2.1.cell0
      have z1 := HV2.out.2.1.cell1
      have z2 := HV2.out.2.1.cell2
      clear hE
      go_wp2
      refine bodyPost_ret (v := .tuple #[.agg #[.int .i64 ra, .int .i64 rb, .string ⟨#[]⟩], .int .i64 rc]) (by simp [results, Tryz.results65, go_sem, q0, q1, q2]) rfl ?_
      rw [HA.out]
      exact ⟨rfl, HE.out⟩

/-- the sign of a product, as the program asks for it -/
theorem sign_of (n n' : Int) (p : Nat) : (if (!(decide (n < 0) == decide (n' < 0))) = true then -(p : Int) else (p : Int)) = Vm.sgnV n n' p := by
  unfold Vm.sgnV
  by_cases a : n < 0 <;> by_cases b : n' < 0 <;> simp [a, b]
theorem sgn_out (n n' : Int) (p : Nat) (h : 1099511627776 < p) : Vm.sgnV n n' p < -1099511627776 ∨ 1099511627776 < Vm.sgnV n n' p := by
  unfold Vm.sgnV
  split <;> omega
theorem signV_sgn (k n n' : Int) (p : Nat) (hk : k = 1 ∨ k = 2) : signV k p (!(decide (n < 0) == decide (n' < 0))) = Vm.ansV k (Vm.sgnV n n' p) := by
  unfold signV
  by_cases h : 1099511627776 < p
  · rw [if_pos h, Vm.ansV_out _ _ hk (sgn_out n n' p h)]
  · rw [if_neg h, sign_of]
theorem ans_capped (k n n' : Int) (p : Nat) (hk : k = 1 ∨ k = 2) : Vm.ansV k (Vm.sgnV n n' (min p 2199023255552)) = Vm.ansV k (Vm.sgnV n n' p) := by
  by_cases h : p ≤ 2199023255552
  · rw [Nat.min_eq_left h]
  · rw [Nat.min_eq_right (by omega), Vm.ansV_out _ _ hk (sgn_out n n' _ (by omega)), Vm.ansV_out _ _ hk (sgn_out n n' _ (by omega))]
theorem wraps_u64 (n : Int) (h0 : 0 ≤ n) (h1 : n < 2 ^ 64) : IntKind.u64.wrap n = n := by rw [IntKind.wrap_u64]; omega
theorem and_u64 (p : Nat) (hp : p < 18446744073709551616) : bits BinOp.and .u64 ((p : Int) / 32768) 1 = ((p / 32768 % 2 : Nat) : Int) := by
  have h := (Go.bits_nat .u64 64 (by decide) wraps_u64 (p / 32768) 1 (by omega) (by decide)).1
  rw [Nat.and_one_is_mod] at h
  have e : ((p / 32768 : Nat) : Int) = (p : Int) / 32768 := by omega
  rw [e] at h
  exact h
theorem round_u64 (p : Nat) (hp : p < 18446744073709551616) : IntKind.u64.wrap ((p : Int) / 65536 + bits BinOp.and .u64 ((p : Int) / 32768) 1) = (((p + 32768) / 65536 : Nat) : Int) := by
  rw [and_u64 p hp, wraps_u64 _ (by omega) (by omega)]
  omega
theorem abs_le (n : Int) (h0 : -1099511627776 ≤ n) (h1 : n ≤ 1099511627776) : n.natAbs ≤ 1099511627776 := by omega
theorem prod_le (x y : Nat) (hx : x ≤ 1099511627776) (hy : y ≤ 1099511627776) : x * y ≤ 1208925819614629174706176 := by
  have := Nat.mul_le_mul hx hy
  simpa using this

end Go.Proofs.YtfakbbbkfmnnhaaGreatDoor
