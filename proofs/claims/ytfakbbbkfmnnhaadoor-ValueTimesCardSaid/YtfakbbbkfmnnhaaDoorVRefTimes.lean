/-
  PRODUCTS: the document's product and Times.
  No conditions.
-/
import Derived.Test.YtfakbbbkfmnnhaaDoorVTimes
import Derived.Deep.RegionHeld3
namespace Go.Proofs.YtfakbbbkfmnnhaaDoor
open Go.RowKit

/-- the document's product: of two numbers, by 1 or 65536 -/
theorem mul_le_of {x y a b : Nat} (h : x ≤ a) (k : y ≤ b) : x * y ≤ a * b := Nat.mul_le_mul h k

set_option maxRecDepth 100000 in
set_option maxHeartbeats 1000000 in
theorem product_one (x y : Nat) (w : World) (hx : x ≤ 1099511627776) (hy : y ≤ 1099511627776) : Calls Tryd.prog 31 #[.int .i64 (x : Int), .int .i64 (y : Int), .int .i64 1] w fun e w' => e = .returned (.int .i64 ((min (x * y) 2199023255552 : Nat) : Int)) ∧ w' = w := by
  have hp := Vm.prod_parts x y
  have hh := mul_le_of hx (show y / 1048576 ≤ 1048576 by omega)
  have hl := mul_le_of hx (show y % 1048576 ≤ 1048575 by omega)
  have e1 : (x : Int) * ((y : Int) / 1048576) = ((x * (y / 1048576) : Nat) : Int) := by simp
  have e2 : (x : Int) * ((y : Int) % 1048576) = ((x * (y % 1048576) : Nat) : Int) := by simp
  generalize x * (y / 1048576) = h at *
  generalize x * (y % 1048576) = l at *
  generalize x * y = p at *
  have w1 : IntKind.i64.wrap ((x : Int) * ((y : Int) / 1048576)) = (h : Int) := by rw [e1, IntKind.wrap_i64]; omega
  have w2 : IntKind.i64.wrap ((x : Int) * ((y : Int) % 1048576)) = (l : Int) := by rw [e2, IntKind.wrap_i64]; omega
  clear e1 e2
  have hh' : (h : Int) ≤ 1152921504606846976 := by omega
  have hl' : (l : Int) ≤ 1152921504606846976 := by omega
  have hh0 : 0 ≤ (h : Int) := by omega
  have hl0 : 0 ≤ (l : Int) := by omega
  by_cases hb : 2097152 ≤ h
  · have HE := Lib.hid (show (2199023255552 : Int) = ((min p 2199023255552 : Nat) : Int) by omega)
    have db : decide (2097152 ≤ (h : Int)) = true := decide_eq_true (by omega)
    clear hp hh hl hb
    go_enter Tryd.func31, Tryd.ntmps31
    go_wp2
    go_ret
    exact ⟨ret_int HE.out, rfl⟩
  · have HE := Lib.hid (show min ((h : Int) * 1048576 + (l : Int)) 2199023255552 = ((min p 2199023255552 : Nat) : Int) by omega)
    have db : decide (2097152 ≤ (h : Int)) = false := decide_eq_false (by omega)
    have hb' : (h : Int) ≤ 2097151 := by omega
    clear hp hh hl hb
    go_enter Tryd.func31, Tryd.ntmps31
    go_wp2
    go_ret
    exact ⟨ret_int HE.out, rfl⟩

set_option maxRecDepth 100000 in
set_option maxHeartbeats 1000000 in
theorem product_fix (x y : Nat) (w : World) (hx : x ≤ 1099511627776) (hy : y ≤ 1099511627776) : Calls Tryd.prog 31 #[.int .i64 (x : Int), .int .i64 (y : Int), .int .i64 65536] w fun e w' => e = .returned (.int .i64 ((min ((x * y + 32768) / 65536) 2199023255552 : Nat) : Int)) ∧ w' = w := by
  have hp := Vm.prod_parts x y
  have hh := mul_le_of hx (show y / 1048576 ≤ 1048576 by omega)
  have hl := mul_le_of hx (show y % 1048576 ≤ 1048575 by omega)
  have e1 : (x : Int) * ((y : Int) / 1048576) = ((x * (y / 1048576) : Nat) : Int) := by simp
  have e2 : (x : Int) * ((y : Int) % 1048576) = ((x * (y % 1048576) : Nat) : Int) := by simp
  have hr := Vm.prod_round (x * (y / 1048576)) (x * (y % 1048576))
  rw [← hp] at hr
  generalize x * (y / 1048576) = h at *
  generalize x * (y % 1048576) = l at *
  generalize x * y = p at *
  generalize (p + 32768) / 65536 = q at *
  have w1 : IntKind.i64.wrap ((x : Int) * ((y : Int) / 1048576)) = (h : Int) := by rw [e1, IntKind.wrap_i64]; omega
  have w2 : IntKind.i64.wrap ((x : Int) * ((y : Int) % 1048576)) = (l : Int) := by rw [e2, IntKind.wrap_i64]; omega
  clear e1 e2 hp
  have hh' : (h : Int) ≤ 1152921504606846976 := by omega
  have hl' : (l : Int) ≤ 1152921504606846976 := by omega
  have hh0 : 0 ≤ (h : Int) := by omega
  have hl0 : 0 ≤ (l : Int) := by omega
  by_cases hb : 137438953472 ≤ h
  · have HE := Lib.hid (show (2199023255552 : Int) = ((min q 2199023255552 : Nat) : Int) by omega)
    have db : decide (137438953472 ≤ (h : Int)) = true := decide_eq_true (by omega)
    clear hr hh hl hb
    go_enter Tryd.func31, Tryd.ntmps31
    go_wp2
    go_ret
    exact ⟨ret_int HE.out, rfl⟩
  · have HE := Lib.hid (show min ((h : Int) * 16 + ((l : Int) + 32768) / 65536) 2199023255552 = ((min q 2199023255552 : Nat) : Int) by omega)
    have db : decide (137438953472 ≤ (h : Int)) = false := decide_eq_false (by omega)
    have hb' : (h : Int) ≤ 137438953471 := by omega
    clear hr hh hl hb
    go_enter Tryd.func31, Tryd.ntmps31
    go_wp2
    go_ret
    exact ⟨ret_int HE.out, rfl⟩

end Go.Proofs.YtfakbbbkfmnnhaaDoor
