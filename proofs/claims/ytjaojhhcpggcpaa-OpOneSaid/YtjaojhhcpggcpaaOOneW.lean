/-
  OpOne: two ops that may be have the same bytes just if they are the same.
  No conditions.
-/
import Derived.Test.YtjaojhhcpggcpaaOLawKit
namespace Go.Proofs.Ytjaojhhcpggcpaa
open Go.RowKit

theorem two_ops (w : World) (x y : Opp) (q r : Option Addr) (c d : Nat) (ha : Pa w x q c) (hb : Pa w y r d) :
    ∀ W, W = (w.alloc (.cells (opA x q c) 28)).alloc (.cells (opA y r d) 28) → OpAt W w.heap.size x q c ∧ OpAt W (w.heap.size + 1) y r d ∧ Pa W x q c ∧ Pa W y r d ∧ Below w.heap.size w W := by
  rintro W rfl
  have h1 : ∀ (w : World) (o : Obj), Below w.heap.size w (w.alloc o) := fun w o => (Below.refl _ _).alloc (Nat.le_refl _) _
  have e1 : (w.alloc (.cells (opA x q c) 28)).heap.size = w.heap.size + 1 := by simp
  have k := OpAt.new (w.alloc (.cells (opA x q c) 28)) y r d 28
  rw [e1] at k
  exact ⟨(OpAt.new w x q c _).kept (h1 _ _), k, (ha.kept (h1 _ _)).kept (h1 _ _), (hb.kept (h1 _ _)).kept (h1 _ _), (h1 _ _).trans ((h1 _ _).mono (by simp))⟩
theorem strB_ne {l m : List UInt8} (h : l ≠ m) : ((strB l).toList == (strB m).toList) = false := by
  rw [strB_tl, strB_tl, beq_eq_false_iff_ne]
  exact h
set_option maxRecDepth 100000 in
set_option maxHeartbeats 8000000 in
theorem opOne_walk (x : Opp) (q : Option Addr) (c : Nat) (y : Opp) (r : Option Addr) (d : Nat) (w : World) (hpx : Pa w x q c) (hpy : Pa w y r d) :
    Calls Try.prog 4 #[.agg (opA x q c), .agg (opA y r d)] w (Yes w) := by
  obtain ⟨hx, hy, hpa, hpb, hb⟩ := two_ops w x y q r c d hpx hpy _ rfl
  have HX := Lib.hid hx
  have HY := Lib.hid hy
  have HPA := Lib.hid hpa
  have HPB := Lib.hid hpb
  have HB := Lib.hid hb
  have HLX := Lib.hid (fun W => long_any x q c W)
  have HLY := Lib.hid (fun W => long_any y r d W)
  clear hpa hpb hb hpx hpy
  cases hlx : longB x with
  | true =>
    rw [hlx] at HLX
    go_enter Try.func4, Try.ntmps4
    go_wp2_with (first | (refine wpList_load_opG otR (by kernel_rfl) _ rfl _ rfl _ _ _ (by assumption) ?_) | (refine wpList_load_op otR rfl _ rfl _ rfl _ _ _ (by assumption) ?_))
    refine (HLX.out _).mono ?_
    rintro e w1 ⟨rfl, hb1⟩
    clear hx hy
    replace HX := Lib.hid (HX.out.kept hb1)
    replace HY := Lib.hid (HY.out.kept hb1)
    replace HPA := Lib.hid (HPA.out.kept hb1)
    replace HPB := Lib.hid (HPB.out.kept hb1)
    replace HB := Lib.hid (HB.out.trans (hb1.mono HB.out.size))
    clear hb1
    have hx := HX.out
    have hy := HY.out
    go_wp2_with fail
    refine (oknows_any _).mono ?_
    rintro e w1 ⟨rfl, hb1⟩
    clear hx hy
    replace HX := Lib.hid (HX.out.kept hb1)
    replace HY := Lib.hid (HY.out.kept hb1)
    replace HPA := Lib.hid (HPA.out.kept hb1)
    replace HPB := Lib.hid (HPB.out.kept hb1)
    replace HB := Lib.hid (HB.out.trans (hb1.mono HB.out.size))
    clear hb1
    go_wp2
    go_ret
    exact ⟨rfl, HB.out⟩
  | false =>
    rw [hlx] at HLX
    have HSx := Lib.hid (long_sz hlx)
    have HLNx := Lib.hid (long_no hlx)
    clear hlx
    cases hly : longB y with
    | true =>
      rw [hly] at HLY
      go_enter Try.func4, Try.ntmps4
      go_wp2_with (first | (refine wpList_load_opG otR (by kernel_rfl) _ rfl _ rfl _ _ _ (by assumption) ?_) | (refine wpList_load_op otR rfl _ rfl _ rfl _ _ _ (by assumption) ?_))
      refine (HLX.out _).mono ?_
      rintro e w1 ⟨rfl, hb1⟩
      clear hx hy
      replace HX := Lib.hid (HX.out.kept hb1)
      replace HY := Lib.hid (HY.out.kept hb1)
      replace HPA := Lib.hid (HPA.out.kept hb1)
      replace HPB := Lib.hid (HPB.out.kept hb1)
      replace HB := Lib.hid (HB.out.trans (hb1.mono HB.out.size))
      clear hb1
      have hx := HX.out
      have hy := HY.out
      go_wp2_with (first | (refine wpList_load_opG otR (by kernel_rfl) _ rfl _ rfl _ _ _ (by assumption) ?_) | (refine wpList_load_op otR rfl _ rfl _ rfl _ _ _ (by assumption) ?_))
      refine (HLY.out _).mono ?_
      rintro e w1 ⟨rfl, hb1⟩
      clear hx hy
      replace HX := Lib.hid (HX.out.kept hb1)
      replace HY := Lib.hid (HY.out.kept hb1)
      replace HPA := Lib.hid (HPA.out.kept hb1)
      replace HPB := Lib.hid (HPB.out.kept hb1)
      replace HB := Lib.hid (HB.out.trans (hb1.mono HB.out.size))
      clear hb1
      have hx := HX.out
      have hy := HY.out
      go_wp2_with fail
      refine (oknows_any _).mono ?_
      rintro e w1 ⟨rfl, hb1⟩
      clear hx hy
      replace HX := Lib.hid (HX.out.kept hb1)
      replace HY := Lib.hid (HY.out.kept hb1)
      replace HPA := Lib.hid (HPA.out.kept hb1)
      replace HPB := Lib.hid (HPB.out.kept hb1)
      replace HB := Lib.hid (HB.out.trans (hb1.mono HB.out.size))
      clear hb1
      go_wp2
      go_ret
      exact ⟨rfl, HB.out⟩
    | false =>
      rw [hly] at HLY
      have HSy := Lib.hid (long_sz hly)
      have HLNy := Lib.hid (long_no hly)
      clear hly
      cases hrx : rightO x with
      | false =>
        have HRX := Lib.hid (putO_err hrx)
        clear hrx
        go_enter Try.func4, Try.ntmps4
        go_wp2_with (first | (refine wpList_load_opG otR (by kernel_rfl) _ rfl _ rfl _ _ _ (by assumption) ?_) | (refine wpList_load_op otR rfl _ rfl _ rfl _ _ _ (by assumption) ?_))
        refine (HLX.out _).mono ?_
        rintro e w1 ⟨rfl, hb1⟩
        clear hx hy
        replace HX := Lib.hid (HX.out.kept hb1)
        replace HY := Lib.hid (HY.out.kept hb1)
        replace HPA := Lib.hid (HPA.out.kept hb1)
        replace HPB := Lib.hid (HPB.out.kept hb1)
        replace HB := Lib.hid (HB.out.trans (hb1.mono HB.out.size))
        clear hb1
        have hx := HX.out
        have hy := HY.out
        go_wp2_with (first | (refine wpList_load_opG otR (by kernel_rfl) _ rfl _ rfl _ _ _ (by assumption) ?_) | (refine wpList_load_op otR rfl _ rfl _ rfl _ _ _ (by assumption) ?_))
        refine (HLY.out _).mono ?_
        rintro e w1 ⟨rfl, hb1⟩
        clear hx hy
        replace HX := Lib.hid (HX.out.kept hb1)
        replace HY := Lib.hid (HY.out.kept hb1)
        replace HPA := Lib.hid (HPA.out.kept hb1)
        replace HPB := Lib.hid (HPB.out.kept hb1)
        replace HB := Lib.hid (HB.out.trans (hb1.mono HB.out.size))
        clear hb1
        have hx := HX.out
        have hy := HY.out
        go_wp2_with (first | (refine wpList_load_opG otR (by kernel_rfl) _ rfl _ rfl _ _ _ (by assumption) ?_) | (refine wpList_load_op otR rfl _ rfl _ rfl _ _ _ (by assumption) ?_))
        refine (own_any x q c _ HPA.out (by have := HLNx.out.1; omega)).mono ?_
        rintro e w1 ⟨q2, c2, rfl, hp2, hb1⟩
        have HP2 := Lib.hid hp2
        clear hx hy hp2
        replace HX := Lib.hid (HX.out.kept hb1)
        replace HY := Lib.hid (HY.out.kept hb1)
        replace HPA := Lib.hid (HPA.out.kept hb1)
        replace HPB := Lib.hid (HPB.out.kept hb1)
        replace HB := Lib.hid (HB.out.trans (hb1.mono HB.out.size))
        clear hb1
        go_wp2_with fail
        refine (oput_any x q2 c2 _ HSx.out HP2.out).mono ?_
        rw [HRX.out]
        rintro e w1 ⟨v3, rfl, hown, hb1⟩
        dsimp only at hown
        obtain ⟨px, kx, rfl, hbs, -, -, -, -⟩ := hown.bs
        have HBSx := Lib.hid hbs
        clear hown hbs
        clear HBSx
        replace HX := Lib.hid (HX.out.kept hb1)
        replace HY := Lib.hid (HY.out.kept hb1)
        replace HPA := Lib.hid (HPA.out.kept hb1)
        replace HPB := Lib.hid (HPB.out.kept hb1)
        replace HB := Lib.hid (HB.out.trans (hb1.mono HB.out.size))
        clear hb1
        have hx := HX.out
        have hy := HY.out
        go_wp2_with (first | (refine wpList_load_opG otR (by kernel_rfl) _ rfl _ rfl _ _ _ (by assumption) ?_) | (refine wpList_load_op otR rfl _ rfl _ rfl _ _ _ (by assumption) ?_))
        refine (own_any y r d _ HPB.out (by have := HLNy.out.1; omega)).mono ?_
        rintro e w1 ⟨q2, c2, rfl, hp2, hb1⟩
        have HP2 := Lib.hid hp2
        clear hx hy hp2
        replace HX := Lib.hid (HX.out.kept hb1)
        replace HY := Lib.hid (HY.out.kept hb1)
        replace HPA := Lib.hid (HPA.out.kept hb1)
        replace HPB := Lib.hid (HPB.out.kept hb1)
        replace HB := Lib.hid (HB.out.trans (hb1.mono HB.out.size))
        clear hb1
        go_wp2_with fail
        refine (oput_any y q2 c2 _ HSy.out HP2.out).mono ?_
        generalize putO y = py at *
        obtain ⟨bsy, ey⟩ := py
        rintro e w1 ⟨v3, rfl, hown, hb1⟩
        dsimp only at hown
        obtain ⟨py, ky, rfl, hbs, -, -, -, -⟩ := hown.bs
        have HBSy := Lib.hid hbs
        clear hown hbs
        clear HBSy
        replace HX := Lib.hid (HX.out.kept hb1)
        replace HY := Lib.hid (HY.out.kept hb1)
        replace HPA := Lib.hid (HPA.out.kept hb1)
        replace HPB := Lib.hid (HPB.out.kept hb1)
        replace HB := Lib.hid (HB.out.trans (hb1.mono HB.out.size))
        clear hb1
        go_wp2_with fail
        refine (onum_any _ _).mono ?_
        rintro e w' ⟨rfl, rfl⟩
        have hx := HX.out
        have hy := HY.out
        go_wp2_with fail
        refine (oknows_any _).mono ?_
        rintro e w1 ⟨rfl, hb1⟩
        clear hx hy
        replace HX := Lib.hid (HX.out.kept hb1)
        replace HY := Lib.hid (HY.out.kept hb1)
        replace HPA := Lib.hid (HPA.out.kept hb1)
        replace HPB := Lib.hid (HPB.out.kept hb1)
        replace HB := Lib.hid (HB.out.trans (hb1.mono HB.out.size))
        clear hb1
        go_wp2
        go_ret
        exact ⟨rfl, HB.out⟩
      | true =>
        have HRX := Lib.hid (putO_ok hrx)
        cases hry : rightO y with
        | false =>
          have HRY := Lib.hid (putO_err hry)
          clear hry hrx
          go_enter Try.func4, Try.ntmps4
          go_wp2_with (first | (refine wpList_load_opG otR (by kernel_rfl) _ rfl _ rfl _ _ _ (by assumption) ?_) | (refine wpList_load_op otR rfl _ rfl _ rfl _ _ _ (by assumption) ?_))
          refine (HLX.out _).mono ?_
          rintro e w1 ⟨rfl, hb1⟩
          clear hx hy
          replace HX := Lib.hid (HX.out.kept hb1)
          replace HY := Lib.hid (HY.out.kept hb1)
          replace HPA := Lib.hid (HPA.out.kept hb1)
          replace HPB := Lib.hid (HPB.out.kept hb1)
          replace HB := Lib.hid (HB.out.trans (hb1.mono HB.out.size))
          clear hb1
          have hx := HX.out
          have hy := HY.out
          go_wp2_with (first | (refine wpList_load_opG otR (by kernel_rfl) _ rfl _ rfl _ _ _ (by assumption) ?_) | (refine wpList_load_op otR rfl _ rfl _ rfl _ _ _ (by assumption) ?_))
          refine (HLY.out _).mono ?_
          rintro e w1 ⟨rfl, hb1⟩
          clear hx hy
          replace HX := Lib.hid (HX.out.kept hb1)
          replace HY := Lib.hid (HY.out.kept hb1)
          replace HPA := Lib.hid (HPA.out.kept hb1)
          replace HPB := Lib.hid (HPB.out.kept hb1)
          replace HB := Lib.hid (HB.out.trans (hb1.mono HB.out.size))
          clear hb1
          have hx := HX.out
          have hy := HY.out
          go_wp2_with (first | (refine wpList_load_opG otR (by kernel_rfl) _ rfl _ rfl _ _ _ (by assumption) ?_) | (refine wpList_load_op otR rfl _ rfl _ rfl _ _ _ (by assumption) ?_))
          refine (own_any x q c _ HPA.out (by have := HLNx.out.1; omega)).mono ?_
          rintro e w1 ⟨q2, c2, rfl, hp2, hb1⟩
          have HP2 := Lib.hid hp2
          clear hx hy hp2
          replace HX := Lib.hid (HX.out.kept hb1)
          replace HY := Lib.hid (HY.out.kept hb1)
          replace HPA := Lib.hid (HPA.out.kept hb1)
          replace HPB := Lib.hid (HPB.out.kept hb1)
          replace HB := Lib.hid (HB.out.trans (hb1.mono HB.out.size))
          clear hb1
          go_wp2_with fail
          refine (oput_any x q2 c2 _ HSx.out HP2.out).mono ?_
          rw [HRX.out]
          generalize opB x = bsx at *
          rintro e w1 ⟨v3, rfl, hown, hb1⟩
          dsimp only at hown
          obtain ⟨px, kx, rfl, hbs, -, -, -, -⟩ := hown.bs
          have HBSx := Lib.hid hbs
          clear hown hbs
          clear HBSx
          replace HX := Lib.hid (HX.out.kept hb1)
          replace HY := Lib.hid (HY.out.kept hb1)
          replace HPA := Lib.hid (HPA.out.kept hb1)
          replace HPB := Lib.hid (HPB.out.kept hb1)
          replace HB := Lib.hid (HB.out.trans (hb1.mono HB.out.size))
          clear hb1
          have hx := HX.out
          have hy := HY.out
          go_wp2_with (first | (refine wpList_load_opG otR (by kernel_rfl) _ rfl _ rfl _ _ _ (by assumption) ?_) | (refine wpList_load_op otR rfl _ rfl _ rfl _ _ _ (by assumption) ?_))
          refine (own_any y r d _ HPB.out (by have := HLNy.out.1; omega)).mono ?_
          rintro e w1 ⟨q2, c2, rfl, hp2, hb1⟩
          have HP2 := Lib.hid hp2
          clear hx hy hp2
          replace HX := Lib.hid (HX.out.kept hb1)
          replace HY := Lib.hid (HY.out.kept hb1)
          replace HPA := Lib.hid (HPA.out.kept hb1)
          replace HPB := Lib.hid (HPB.out.kept hb1)
          replace HB := Lib.hid (HB.out.trans (hb1.mono HB.out.size))
          clear hb1
          go_wp2_with fail
          refine (oput_any y q2 c2 _ HSy.out HP2.out).mono ?_
          rw [HRY.out]
          rintro e w1 ⟨v3, rfl, hown, hb1⟩
          dsimp only at hown
          obtain ⟨py, ky, rfl, hbs, -, -, -, -⟩ := hown.bs
          have HBSy := Lib.hid hbs
          clear hown hbs
          clear HBSy
          replace HX := Lib.hid (HX.out.kept hb1)
          replace HY := Lib.hid (HY.out.kept hb1)
          replace HPA := Lib.hid (HPA.out.kept hb1)
          replace HPB := Lib.hid (HPB.out.kept hb1)
          replace HB := Lib.hid (HB.out.trans (hb1.mono HB.out.size))
          clear hb1
          go_wp2_with fail
          refine (onum_any _ _).mono ?_
          rintro e w' ⟨rfl, rfl⟩
          go_wp2_with fail
          refine (onum_any _ _).mono ?_
          rintro e w' ⟨rfl, rfl⟩
          have hx := HX.out
          have hy := HY.out
          go_wp2_with fail
          refine (oknows_any _).mono ?_
          rintro e w1 ⟨rfl, hb1⟩
          clear hx hy
          replace HX := Lib.hid (HX.out.kept hb1)
          replace HY := Lib.hid (HY.out.kept hb1)
          replace HPA := Lib.hid (HPA.out.kept hb1)
          replace HPB := Lib.hid (HPB.out.kept hb1)
          replace HB := Lib.hid (HB.out.trans (hb1.mono HB.out.size))
          clear hb1
          go_wp2
          go_ret
          exact ⟨rfl, HB.out⟩
        | true =>
          have HRY := Lib.hid (putO_ok hry)
          have HLX2 := Lib.hid (opB_len hrx)
          have HLY2 := Lib.hid (opB_len hry)
          have HEQ := Lib.hid (show ((strB (opB x)).toList == (strB (opB y)).toList) = sameO x y by
            cases hs : sameO x y with
            | true => rw [sameO_iff.1 hs]; exact beq_self_eq_true _
            | false => exact strB_ne (fun h => by rw [opB_inj hrx hry h, sameO_refl] at hs; cases hs))
          clear hry hrx
          go_enter Try.func4, Try.ntmps4
          go_wp2_with (first | (refine wpList_load_opG otR (by kernel_rfl) _ rfl _ rfl _ _ _ (by assumption) ?_) | (refine wpList_load_op otR rfl _ rfl _ rfl _ _ _ (by assumption) ?_))
          refine (HLX.out _).mono ?_
          rintro e w1 ⟨rfl, hb1⟩
          clear hx hy
          replace HX := Lib.hid (HX.out.kept hb1)
          replace HY := Lib.hid (HY.out.kept hb1)
          replace HPA := Lib.hid (HPA.out.kept hb1)
          replace HPB := Lib.hid (HPB.out.kept hb1)
          replace HB := Lib.hid (HB.out.trans (hb1.mono HB.out.size))
          clear hb1
          have hx := HX.out
          have hy := HY.out
          go_wp2_with (first | (refine wpList_load_opG otR (by kernel_rfl) _ rfl _ rfl _ _ _ (by assumption) ?_) | (refine wpList_load_op otR rfl _ rfl _ rfl _ _ _ (by assumption) ?_))
          refine (HLY.out _).mono ?_
          rintro e w1 ⟨rfl, hb1⟩
          clear hx hy
          replace HX := Lib.hid (HX.out.kept hb1)
          replace HY := Lib.hid (HY.out.kept hb1)
          replace HPA := Lib.hid (HPA.out.kept hb1)
          replace HPB := Lib.hid (HPB.out.kept hb1)
          replace HB := Lib.hid (HB.out.trans (hb1.mono HB.out.size))
          clear hb1
          have hx := HX.out
          have hy := HY.out
          go_wp2_with (first | (refine wpList_load_opG otR (by kernel_rfl) _ rfl _ rfl _ _ _ (by assumption) ?_) | (refine wpList_load_op otR rfl _ rfl _ rfl _ _ _ (by assumption) ?_))
          refine (own_any x q c _ HPA.out (by have := HLNx.out.1; omega)).mono ?_
          rintro e w1 ⟨q2, c2, rfl, hp2, hb1⟩
          have HP2 := Lib.hid hp2
          clear hx hy hp2
          replace HX := Lib.hid (HX.out.kept hb1)
          replace HY := Lib.hid (HY.out.kept hb1)
          replace HPA := Lib.hid (HPA.out.kept hb1)
          replace HPB := Lib.hid (HPB.out.kept hb1)
          replace HB := Lib.hid (HB.out.trans (hb1.mono HB.out.size))
          clear hb1
          go_wp2_with fail
          refine (oput_any x q2 c2 _ HSx.out HP2.out).mono ?_
          rw [HRX.out]
          generalize opB x = bsx at *
          rintro e w1 ⟨v3, rfl, hown, hb1⟩
          dsimp only at hown
          obtain ⟨px, kx, rfl, hbs, -, -, -, -⟩ := hown.bs
          have HBSx := Lib.hid hbs
          clear hown hbs
          replace HX := Lib.hid (HX.out.kept hb1)
          replace HY := Lib.hid (HY.out.kept hb1)
          replace HPA := Lib.hid (HPA.out.kept hb1)
          replace HPB := Lib.hid (HPB.out.kept hb1)
          replace HB := Lib.hid (HB.out.trans (hb1.mono HB.out.size))
          clear hb1
          have hx := HX.out
          have hy := HY.out
          go_wp2_with (first | (refine wpList_load_opG otR (by kernel_rfl) _ rfl _ rfl _ _ _ (by assumption) ?_) | (refine wpList_load_op otR rfl _ rfl _ rfl _ _ _ (by assumption) ?_))
          refine (own_any y r d _ HPB.out (by have := HLNy.out.1; omega)).mono ?_
          rintro e w1 ⟨q2, c2, rfl, hp2, hb1⟩
          have HP2 := Lib.hid hp2
          clear hx hy hp2
          replace HX := Lib.hid (HX.out.kept hb1)
          replace HY := Lib.hid (HY.out.kept hb1)
          replace HPA := Lib.hid (HPA.out.kept hb1)
          replace HPB := Lib.hid (HPB.out.kept hb1)
          replace HBSx := Lib.hid (HBSx.out.kept hb1)
          replace HB := Lib.hid (HB.out.trans (hb1.mono HB.out.size))
          clear hb1
          go_wp2_with fail
          refine (oput_any y q2 c2 _ HSy.out HP2.out).mono ?_
          rw [HRY.out]
          generalize opB y = bsy at *
          rintro e w1 ⟨v3, rfl, hown, hb1⟩
          dsimp only at hown
          obtain ⟨py, ky, rfl, hbs, -, -, -, -⟩ := hown.bs
          have HBSy := Lib.hid hbs
          clear hown hbs
          replace HX := Lib.hid (HX.out.kept hb1)
          replace HY := Lib.hid (HY.out.kept hb1)
          replace HPA := Lib.hid (HPA.out.kept hb1)
          replace HPB := Lib.hid (HPB.out.kept hb1)
          replace HBSx := Lib.hid (HBSx.out.kept hb1)
          replace HB := Lib.hid (HB.out.trans (hb1.mono HB.out.size))
          clear hb1
          go_wp2_with fail
          refine (onum_any _ _).mono ?_
          rintro e w' ⟨rfl, rfl⟩
          go_wp2_with fail
          refine (onum_any _ _).mono ?_
          rintro e w' ⟨rfl, rfl⟩
          go_wp2
          refine wp_region_held_drew (S := Bel w1) (by kernel_rfl) (Bel.start w1) (fun hS => ?_)
          refine wpAnyH_take (i := 0) (v := ?_) rfl (by kernel_rfl) (by kernel_rfl) (by kernel_rfl) (fun _ _ _ h => h) (Or.inl ⟨by kernel_rfl, ?_⟩) hS ?_
          rotate_left
          · intro W hSW
            go_simp
            all_goals with_reducible rfl
          refine wpAnyH_take (i := 1) (v := ?_) rfl (by kernel_rfl) (by kernel_rfl) (by kernel_rfl) (fun _ _ _ h => h) (Or.inl ⟨by kernel_rfl, ?_⟩) hS ?_
          rotate_left
          · intro W hSW
            have k1 := (HBSx.out.bel hSW).conv (P := Try.prog) kx 31 5 9 Try.underlying31 Try.underlying5 Try.underlying9
            go_simp
            all_goals with_reducible rfl
          refine wpAnyH_take (i := 2) (v := ?_) rfl (by kernel_rfl) (by kernel_rfl) (by kernel_rfl) (fun _ _ _ h => h) (Or.inl ⟨by kernel_rfl, ?_⟩) hS ?_
          rotate_left
          · intro W hSW
            go_simp
            all_goals with_reducible rfl
          refine wpAnyH_take (i := 3) (v := ?_) rfl (by kernel_rfl) (by kernel_rfl) (by kernel_rfl) (fun _ _ _ h => h) (Or.inl ⟨by kernel_rfl, ?_⟩) hS ?_
          rotate_left
          · intro W hSW
            have k1 := (HBSy.out.bel hSW).conv (P := Try.prog) ky 31 5 9 Try.underlying31 Try.underlying5 Try.underlying9
            go_simp
            all_goals with_reducible rfl
          go_simp
          refine wpAnyH_take (i := 4) (v := ?_) rfl (by kernel_rfl) (by kernel_rfl) (by kernel_rfl) (fun _ _ _ h => h) (Or.inl ⟨by kernel_rfl, ?_⟩) hS ?_
          rotate_left
          · intro W hSW
            have hq := HEQ.out
            go_simp
            all_goals with_reducible rfl
          refine wpAnyH_take (i := 5) (v := .agg (opA _ _ _)) rfl (by kernel_rfl) (by kernel_rfl) (by kernel_rfl) (fun _ _ _ h => h) (Or.inl ⟨by kernel_rfl, fun W hSW => exec_load_op otR rfl rfl (HX.out.bel hSW)⟩) hS ?_
          refine wpAnyH_take (i := 7) (v := .agg (opA _ _ _)) rfl (by kernel_rfl) (by kernel_rfl) (by kernel_rfl) (fun _ _ _ h => h) (Or.inl ⟨by kernel_rfl, fun W hSW => exec_load_op otR rfl rfl (HY.out.bel hSW)⟩) hS ?_
          go_simp
          refine wpAnyH_ready (rs := [6]) (by kernel_rfl) (by simp) ?_
          refine AllReadyH.cons rfl (fun K hK => ?_) AllReadyH.nil
          go_simp
          go_wp2_with ((go_at_call 9; refine (own_any x q c _ (HPA.out.bel hS) (by have := HLNx.out.1; omega)).mono ?_; rintro e wa ⟨qa, ca, rfl, hpa, hbn⟩))
          refine hK.out _ _ (hS.trans hbn) (fun hS => ?_)
          clear hK K
          refine wpAnyH_ready (rs := [8]) (by kernel_rfl) (by simp) ?_
          refine AllReadyH.cons rfl (fun K hK => ?_) AllReadyH.nil
          go_simp
          go_wp2_with ((go_at_call 9; refine (own_any y r d _ (HPB.out.bel hS) (by have := HLNy.out.1; omega)).mono ?_; rintro e wb ⟨qb, cb, rfl, hpb, hbn⟩))
          have HQA := Lib.hid (hpa.kept hbn)
          have HQB := Lib.hid hpb
          clear hpa hpb
          refine hK.out _ _ (hS.trans hbn) (fun hS => ?_)
          clear hK K
          refine wpAnyH_ready (rs := [9]) (by kernel_rfl) (by simp) ?_
          refine AllReadyH.cons rfl (fun K hK => ?_) AllReadyH.nil
          go_simp
          go_wp2_with ((go_at_call 14; refine (same_any x y _ _ _ _ _ HSx.out HQA.out HQB.out).mono ?_; rintro e wc ⟨rfl, hbn⟩))
          refine hK.out _ _ (hS.trans hbn) (fun hS => ?_)
          clear hK K
          generalize sameO x y = bb at *
          refine wpAnyH_take (i := 10) (v := ?_) rfl (by kernel_rfl) (by kernel_rfl) (by kernel_rfl) (fun _ _ _ h => h) (Or.inl ⟨by kernel_rfl, ?_⟩) hS ?_
          rotate_left
          · intro W hSW
            go_simp
            all_goals with_reducible rfl
          go_simp
          refine wpAnyH_take (i := 11) (v := ?_) rfl (by kernel_rfl) (by kernel_rfl) (by kernel_rfl) (fun _ _ _ h => h) (Or.inl ⟨by kernel_rfl, ?_⟩) hS ?_
          rotate_left
          · intro W hSW
            go_simp
            all_goals with_reducible rfl
          refine wpAnyH_ready (rs := [12]) (by kernel_rfl) (by simp) ?_
          refine AllReadyH.cons rfl (fun K hK => ?_) AllReadyH.nil
          go_simp
          go_wp2_with ((go_at_call 7; refine (oknows_any _).mono ?_; rintro e wd ⟨rfl, hbn⟩))
          refine hK.out _ _ (hS.trans hbn) (fun hS => ?_)
          clear hK K
          refine wpAnyH_take (i := 13) (v := ?_) rfl (by kernel_rfl) (by kernel_rfl) (by kernel_rfl) (fun _ _ _ h => h) (Or.inl ⟨by kernel_rfl, ?_⟩) hS ?_
          rotate_left
          · intro W hSW
            go_simp
            all_goals with_reducible rfl
          refine wpAnyH_take (i := 14) (v := ?_) rfl (by kernel_rfl) (by kernel_rfl) (by kernel_rfl) (fun _ _ _ h => h) (Or.inl ⟨by kernel_rfl, ?_⟩) hS ?_
          rotate_left
          · intro W hSW
            go_simp
            all_goals with_reducible rfl
          have HSF := Lib.hid hS
          refine wpAnyH_done (by kernel_rfl) ?_ _
          go_simp
          go_wp2
          go_ret
          exact ⟨rfl, HB.out.trans (Below.mono HSF.out HB.out.size)⟩
end Go.Proofs.Ytjaojhhcpggcpaa
