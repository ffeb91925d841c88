/-
  Node, Place, digit, the error's number.
  No conditions.
-/
import Derived.Test.YtjaojhhcpggcpaaOMem
namespace Go.Proofs.Ytjaojhhcpggcpaa
open Go.RowKit

theorem onum_any (n : Int) (w : World) : Calls Try.prog 10 #[.int .i64 n] w fun e w' => e = .returned (.int .i64 n) ∧ w = w' := by
  go_enter Try.func10, Try.ntmps10
  go_wp2
  go_ret
  exact ⟨rfl, rfl⟩

theorem digit_any (b : Bool) (w : World) : Calls Try.prog 26 #[.bool b] w fun e w' => e = .returned (.int .i64 (digO b : Nat)) ∧ w = w' := by
  cases b
  · go_enter Try.func26, Try.ntmps26
    go_wp2
    go_ret
    exact ⟨rfl, rfl⟩
  · go_enter Try.func26, Try.ntmps26
    go_wp2
    go_ret
    exact ⟨rfl, rfl⟩

set_option maxRecDepth 100000 in
set_option maxHeartbeats 1000000 in
theorem onode_any (t r : Int) (w : World) : Calls Try.prog 18 #[.agg #[.int .i64 t, .int .i64 r]] w fun e w' => e = .returned (.bool (okNode t r)) ∧ Below w.heap.size w w' := by
  have HB := Lib.hid ((Below.refl w.heap.size w).alloc (Nat.le_refl _) (.cells #[.int .i64 t, .int .i64 r] 23))
  have HT := Lib.hid (TwoAt.start w t r)
  cases hR : rightB t r with
  | false =>
    have HR := Lib.hid (show okNode t r = false by unfold okNode; rw [hR]; rfl)
    have HRB := Lib.hid hR
    clear hR
    go_enter Try.func18, Try.ntmps18
    go_wp2_with fail
    refine (right_any t r _).mono ?_
    rw [HRB.out]
    rintro e w1 ⟨rfl, hb1⟩
    have HB1 := Lib.hid (HB.out.trans (hb1.mono (by simp)))
    clear hb1
    go_wp2
    go_ret
    exact ⟨ret_b HR.out.symm, HB1.out⟩
  | true =>
    have HRB := Lib.hid hR
    have HR := Lib.hid (show okNode t r = decide (1 ≤ t) by unfold okNode; rw [hR]; rfl)
    clear hR
    go_enter Try.func18, Try.ntmps18
    go_wp2_with fail
    refine (right_any t r _).mono ?_
    rw [HRB.out]
    rintro e w1 ⟨rfl, hb1⟩
    have HB1 := Lib.hid (HB.out.trans (hb1.mono (by simp)))
    have c0 := (HT.out.kept hb1).cell0
    clear hb1
    go_wp2
    go_ret
    exact ⟨ret_b HR.out.symm, HB1.out⟩

/-- three stamps, boxed one behind the other -/
theorem three_boxes (w : World) (a b c d e f : Int) : ∀ W, W = ((w.alloc (.cells #[.int .i64 a, .int .i64 b] 23)).alloc (.cells #[.int .i64 c, .int .i64 d] 23)).alloc (.cells #[.int .i64 e, .int .i64 f] 23) →
    TwoAt W w.heap.size a b ∧ TwoAt W (w.heap.size + 1) c d ∧ TwoAt W (w.heap.size + 1 + 1) e f ∧ Below w.heap.size w W := by
  rintro W rfl
  have h1 : ∀ (w : World) (o : Obj), Below w.heap.size w (w.alloc o) := fun w o => (Below.refl _ _).alloc (Nat.le_refl _) _
  have k2 := TwoAt.start (w.alloc (.cells #[.int .i64 a, .int .i64 b] 23)) c d
  have k3 := TwoAt.start ((w.alloc (.cells #[.int .i64 a, .int .i64 b] 23)).alloc (.cells #[.int .i64 c, .int .i64 d] 23)) e f
  have e1 : ∀ (w : World) (o : Obj), (w.alloc o).heap.size = w.heap.size + 1 := fun w o => by simp
  simp only [e1] at k2 k3
  exact ⟨((TwoAt.start w a b).kept (h1 _ _)).kept (h1 _ _), k2.kept (h1 _ _), k3, (h1 _ _).trans (((h1 _ _).mono (by simp)).trans ((h1 _ _).mono (by simp; omega)))⟩
set_option maxRecDepth 100000 in
set_option maxHeartbeats 1000000 in
theorem oplace_any (t r : Int) (w : World) : Calls Try.prog 19 #[.agg #[.int .i64 t, .int .i64 r]] w fun e w' => e = .returned (.bool (okPlace t r)) ∧ Below w.heap.size w w' := by
  obtain ⟨T0, T1, T2, hb⟩ := three_boxes w t r 0 0 0 1 _ rfl
  have HB := Lib.hid hb
  have HT0 := Lib.hid T0
  have HT1 := Lib.hid T1
  have HT2 := Lib.hid T2
  clear hb T0 T1 T2
  cases hR : okNode t r with
  | true =>
    have HR := Lib.hid (show okPlace t r = true by unfold okPlace; rw [hR]; rfl)
    have HRB := Lib.hid hR
    clear hR
    go_enter Try.func19, Try.ntmps19
    go_wp2_with fail
    refine (onode_any t r _).mono ?_
    rw [HRB.out]
    rintro e w1 ⟨rfl, hb1⟩
    have HB1 := Lib.hid (HB.out.trans (hb1.mono (by simp; omega)))
    clear hb1
    go_wp2
    go_ret
    exact ⟨ret_b HR.out.symm, HB1.out⟩
  | false =>
    have HRB := Lib.hid hR
    have HR := Lib.hid (show okPlace t r = (isZ t r || isT t r) by unfold okPlace; rw [hR]; rfl)
    clear hR
    by_cases ht : t = 0
    · subst ht
      by_cases h0 : r = 0
      · subst h0
        have HV := Lib.hid (show (isZ 0 0 || isT 0 0) = true from rfl)
        go_enter Try.func19, Try.ntmps19
        go_wp2_with fail
        refine (onode_any _ _ _).mono ?_
        rw [HRB.out]
        rintro e w1 ⟨rfl, hb1⟩
        have HB1 := Lib.hid (HB.out.trans (hb1.mono (by simp; omega)))
        have x0 := (HT0.out.kept hb1).cell0
        have x1 := (HT0.out.kept hb1).cell1
        have y0 := (HT1.out.kept hb1).cell0
        have y1 := (HT1.out.kept hb1).cell1
        have z0 := (HT2.out.kept hb1).cell0
        have z1 := (HT2.out.kept hb1).cell1
        clear hb1
        go_wp2
        go_ret
        exact ⟨ret_b (HR.out.trans HV.out).symm, HB1.out⟩
      · have e0 : (r == 0) = false := by simpa using h0
        by_cases h1 : r = 1
        · subst h1
          have HV := Lib.hid (show (isZ 0 1 || isT 0 1) = true from rfl)
          go_enter Try.func19, Try.ntmps19
          go_wp2_with fail
          refine (onode_any _ _ _).mono ?_
          rw [HRB.out]
          rintro e w1 ⟨rfl, hb1⟩
          have HB1 := Lib.hid (HB.out.trans (hb1.mono (by simp; omega)))
          have x0 := (HT0.out.kept hb1).cell0
          have x1 := (HT0.out.kept hb1).cell1
          have y0 := (HT1.out.kept hb1).cell0
          have y1 := (HT1.out.kept hb1).cell1
          have z0 := (HT2.out.kept hb1).cell0
          have z1 := (HT2.out.kept hb1).cell1
          clear hb1
          go_wp2
          go_ret
          exact ⟨ret_b (HR.out.trans HV.out).symm, HB1.out⟩
        · have e1 : (r == 1) = false := by simpa using h1
          have HV := Lib.hid (show (isZ 0 r || isT 0 r) = false by unfold isZ isT; rw [e0, e1]; rfl)
          go_enter Try.func19, Try.ntmps19
          go_wp2_with fail
          refine (onode_any _ _ _).mono ?_
          rw [HRB.out]
          rintro e w1 ⟨rfl, hb1⟩
          have HB1 := Lib.hid (HB.out.trans (hb1.mono (by simp; omega)))
          have x0 := (HT0.out.kept hb1).cell0
          have x1 := (HT0.out.kept hb1).cell1
          have y0 := (HT1.out.kept hb1).cell0
          have y1 := (HT1.out.kept hb1).cell1
          have z0 := (HT2.out.kept hb1).cell0
          have z1 := (HT2.out.kept hb1).cell1
          clear hb1
          go_wp2
          go_ret
          exact ⟨ret_b (HR.out.trans HV.out).symm, HB1.out⟩
    · have e0 : (t == 0) = false := by simpa using ht
      have HV := Lib.hid (show (isZ t r || isT t r) = false by unfold isZ isT; rw [e0]; rfl)
      go_enter Try.func19, Try.ntmps19
      go_wp2_with fail
      refine (onode_any _ _ _).mono ?_
      rw [HRB.out]
      rintro e w1 ⟨rfl, hb1⟩
      have HB1 := Lib.hid (HB.out.trans (hb1.mono (by simp; omega)))
      have x0 := (HT0.out.kept hb1).cell0
      have x1 := (HT0.out.kept hb1).cell1
      have y0 := (HT1.out.kept hb1).cell0
      have y1 := (HT1.out.kept hb1).cell1
      have z0 := (HT2.out.kept hb1).cell0
      have z1 := (HT2.out.kept hb1).cell1
      clear hb1
      go_wp2
      go_ret
      exact ⟨ret_b (HR.out.trans HV.out).symm, HB1.out⟩
end Go.Proofs.Ytjaojhhcpggcpaa
