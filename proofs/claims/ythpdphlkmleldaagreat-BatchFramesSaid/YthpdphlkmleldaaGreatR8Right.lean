/-
  THE DOCUMENT's Right over batches: the same answer as the program's.
  No conditions but sizes.
-/
import Derived.Test.YthpdphlkmleldaaGreatGG
import Derived.Test.YthpdphlkmleldaaGreatRoRight
namespace Go.Proofs.YthpdphlkmleldaaGreat
open Go.RowKit

set_option maxRecDepth 100000 in
set_option maxHeartbeats 8000000 in
theorem r8right_any (x : Bat) (p : Option Addr) (c : Nat) (w : World) (hs : Szs x.ops) (h : Bops w x p c) : Calls Tryz.prog 13 #[.agg (btA x p c)] w fun e w' => e = .returned (.bool (rightT x)) ∧ Below w.heap.size w w' := by
  obtain ⟨l, h⟩ := h
  have HX := Lib.hid (AgAt.new w (btA x p c) 24)
  have HB := Lib.hid ((Below.refl w.heap.size w).alloc (Nat.le_refl _) (.cells (btA x p c) 24))
  have HOS := Lib.hid (h.kept ((Below.refl w.heap.size w).alloc (Nat.le_refl _) (.cells (btA x p c) 24)))
  have HSZ := Lib.hid hs
  have hlen := hs.len
  obtain ⟨x0, x1, x2, x3⟩ := BtAt.cells HX.out
  have HHN := Lib.hid (fun hn => headT_no (x := x) hn)
  have HHY := Lib.hid (fun hn => headT_yes (x := x) hn)
  have HRH := Lib.hid (fun hn => rightT_head (x := x) hn)
  have HRN := Lib.hid (fun hn => rightT_nohead (x := x) hn)
  have hw1 : IntKind.i64.wrap (1099511627776 - (x.ops.length : Int)) = 1099511627776 - (x.ops.length : Int) := by rw [IntKind.wrap_i64]; omega
  have hw2 : IntKind.i64.wrap (1099511627776 - (x.ops.length : Int) + 1) = 1099511627776 - (x.ops.length : Int) + 1 := by rw [IntKind.wrap_i64]; omega
  clear h hs
  by_cases h0 : 0 ≤ x.r
  rotate_left
  · have d0 : decide (x.r < 0) = true := decide_eq_true (by omega)
    have HR := Lib.hid (HRN.out (HHN.out (by omega)))
    clear HOS HSZ
    generalize x.ops.length = n at *
    go_enter Tryz.func13, Tryz.ntmps13
    go_wp2
    go_ret
    exact ⟨ret_b HR.out.symm, HB.out⟩
  have d0 : decide (x.r < 0) = false := decide_eq_false (by omega)
  by_cases h1 : x.r ≤ 15
  rotate_left
  · have d1 : decide ((16 : Int) ≤ x.r) = true := decide_eq_true (by omega)
    have HR := Lib.hid (HRN.out (HHN.out (by omega)))
    clear HOS HSZ
    generalize x.ops.length = n at *
    go_enter Tryz.func13, Tryz.ntmps13
    go_wp2
    go_ret
    exact ⟨ret_b HR.out.symm, HB.out⟩
  have d1 : decide ((16 : Int) ≤ x.r) = false := decide_eq_false (by omega)
  by_cases h2 : 1 ≤ x.s
  rotate_left
  · have d2 : decide (x.s < 1) = true := decide_eq_true (by omega)
    have HR := Lib.hid (HRN.out (HHN.out (by omega)))
    clear HOS HSZ
    generalize x.ops.length = n at *
    go_enter Tryz.func13, Tryz.ntmps13
    go_wp2
    go_ret
    exact ⟨ret_b HR.out.symm, HB.out⟩
  have d2 : decide (x.s < 1) = false := decide_eq_false (by omega)
  by_cases h3 : x.s ≤ 512
  rotate_left
  · have d3 : decide ((512 : Int) < x.s) = true := decide_eq_true (by omega)
    have HR := Lib.hid (HRN.out (HHN.out (by omega)))
    clear HOS HSZ
    generalize x.ops.length = n at *
    go_enter Tryz.func13, Tryz.ntmps13
    go_wp2
    go_ret
    exact ⟨ret_b HR.out.symm, HB.out⟩
  have d3 : decide ((512 : Int) < x.s) = false := decide_eq_false (by omega)
  by_cases h4 : 1 ≤ x.ops.length
  rotate_left
  · have d4 : decide ((x.ops.length : Int) < 1) = true := decide_eq_true (by omega)
    have HR := Lib.hid (HRN.out (HHN.out (by omega)))
    clear HOS HSZ
    generalize x.ops.length = n at *
    go_enter Tryz.func13, Tryz.ntmps13
    go_wp2
    go_ret
    exact ⟨ret_b HR.out.symm, HB.out⟩
  have d4 : decide ((x.ops.length : Int) < 1) = false := decide_eq_false (by omega)
  by_cases h5 : x.ops.length ≤ 64
  rotate_left
  · have d5 : decide ((64 : Int) < (x.ops.length : Int)) = true := decide_eq_true (by omega)
    have HR := Lib.hid (HRN.out (HHN.out (by omega)))
    clear HOS HSZ
    generalize x.ops.length = n at *
    go_enter Tryz.func13, Tryz.ntmps13
    go_wp2
    go_ret
    exact ⟨ret_b HR.out.symm, HB.out⟩
  have d5 : decide ((64 : Int) < (x.ops.length : Int)) = false := decide_eq_false (by omega)
  by_cases h6 : 1 ≤ x.t
  rotate_left
  · have d6 : decide (x.t < 1) = true := decide_eq_true (by omega)
    have HR := Lib.hid (HRN.out (HHN.out (by omega)))
    clear HOS HSZ
    generalize x.ops.length = n at *
    go_enter Tryz.func13, Tryz.ntmps13
    go_wp2
    go_ret
    exact ⟨ret_b HR.out.symm, HB.out⟩
  have d6 : decide (x.t < 1) = false := decide_eq_false (by omega)
  by_cases h7 : x.t ≤ 1099511627776 - ((x.ops.length : Int) - 1)
  rotate_left
  · have d7 : decide (1099511627776 - (x.ops.length : Int) + 1 < x.t) = true := decide_eq_true (by omega)
    have HR := Lib.hid (HRN.out (HHN.out (by omega)))
    clear HOS HSZ
    generalize x.ops.length = n at *
    go_enter Tryz.func13, Tryz.ntmps13
    go_wp2
    go_ret
    exact ⟨ret_b HR.out.symm, HB.out⟩
  have d7 : decide (1099511627776 - (x.ops.length : Int) + 1 < x.t) = false := decide_eq_false (by omega)
  have HR0 := Lib.hid (HRH.out (HHY.out (by omega)))
  obtain ⟨b, o, rfl, hb⟩ := HOS.out.rd.addr (by rw [enCells_length, HOS.out.len]; omega)
  clear HHN HHY HRH HRN h0 h1 h2 h3 h6 h7
  go_enter Tryz.func13, Tryz.ntmps13
  go_wp2
  go_loopw [4] (fun i wr => ∃ k : Nat, k ≤ x.ops.length ∧ i = .int .i64 (k : Int) ∧ (∀ j, j < k → rightO (opOf x.ops j) = true) ∧ BtAt wr w.heap.size x (some ⟨b, o, none⟩) c ∧ Os wr (some ⟨b, o, none⟩) c l x.ops ∧ Below w.heap.size w wr) (fun i _ => x.ops.length - (intOf i).toNat)
  case atStart => exact ⟨0, Nat.zero_le _, rfl, fun j hj => absurd hj (Nat.not_lt_zero _), HX.out, HOS.out, HB.out⟩
  case round =>
    clear x0 x1 x2 x3 HX HOS HB d0 d1 d2 d3 d4 d5 d6 d7 hw1 hw2
    obtain ⟨k, hk, rfl, ho, hx, hos, hbw⟩ := hrel
    have HO := Lib.hid ho
    have HX := Lib.hid hx
    have HOS := Lib.hid hos
    have HBW := Lib.hid hbw
    clear ho hx hos hbw
    by_cases hlt : k < x.ops.length
    · have e0 : decide ((k : Int) < (x.ops.length : Int)) = true := decide_eq_true (by omega)
      have HXK := Lib.hid (HOS.out.x k)
      have HPA := Lib.hid (HOS.out.paOf hlt)
      have HLL := Lib.hid (show k < l.length by rw [HOS.out.len]; exact hlt)
      have HN := Lib.hid (rright_any (opOf x.ops k) (enOf l k).q (enOf l k).c wr (HSZ.out.of hlt) HPA.out)
      have HNO := Lib.hid (fun h => all_no (l := x.ops) (f := rightO) hlt h)
      have HST := Lib.hid (show rightO (opOf x.ops k) = true → ∀ j, j < k + 1 → rightO (opOf x.ops j) = true from fun he j hj => by
        rcases Nat.lt_or_ge j k with e | e
        · exact HO.out j e
        · obtain rfl : j = k := by omega
          exact he)
      have x3 := (BtAt.cells HX.out).2.2.2
      go_wp2_with (refine wpList_load_en otR rfl _ rfl _ _ _ rfl _ HOS.out.rd HLL.out ?_; rw [HXK.out])
      refine HN.out.mono ?_
      cases hr : rightO (opOf x.ops k) with
      | false =>
        have HR := Lib.hid (HR0.out.trans (HNO.out hr))
        rintro e w1 ⟨rfl, hb1⟩
        have HB4 := Lib.hid (HBW.out.trans (hb1.mono HBW.out.size))
        clear hb1
        go_wp2
        go_ret
        exact ⟨ret_b HR.out.symm, HB4.out⟩
      | true =>
        have HR := Lib.hid (HST.out hr)
        rintro e w1 ⟨rfl, hb1⟩
        have HB4 := Lib.hid (HBW.out.trans (hb1.mono HBW.out.size))
        have HX4 := Lib.hid (AgAt.kept HX.out hb1)
        have HO4 := Lib.hid (HOS.out.kept hb1)
        clear hb1 x3
        go_wp2
        go_roundw
        case rel => exact ⟨k + 1, by omega, by go_num, HR.out, HX4.out, HO4.out, HB4.out⟩
        case measure => simp [intOf]; omega
    · obtain rfl : k = x.ops.length := by omega
      have e0 : decide ((x.ops.length : Int) < (x.ops.length : Int)) = false := decide_eq_false (by omega)
      have HR := Lib.hid (HR0.out.trans (all_yes (l := x.ops) (f := rightO) HO.out))
      clear HO HOS
      generalize x.ops.length = n at *
      go_wp2
      go_ret
      exact ⟨ret_b HR.out.symm, HBW.out⟩
end Go.Proofs.YthpdphlkmleldaaGreat
