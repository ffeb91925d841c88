/-
  THE DOCUMENT's Max; append of a list of stamps, inside a region that draws its order.
  No conditions.
-/
import Derived.Test.YtbggbpdkphhhdaaDoorMax
import Derived.Test.YtbggbpdkphhhdaaDoorRef2
namespace Go.Proofs.YtbggbpdkphhhdaaDoor
open Go.RowKit

set_option maxRecDepth 100000 in
set_option maxHeartbeats 1000000 in
theorem refMax_some (p : Option Addr) (c : Nat) (l : List (Int × Int)) (w : World) (h : Stamps w p l) (h0 : 0 < l.length) (hl : l.length ≤ 4611686018427387904) :
    Calls Tryd.prog 29 #[.slice p l.length c] w fun e w' => e = .returned (.agg #[.int .i64 (maxL l l.length).1, .int .i64 (maxL l l.length).2]) ∧ Below w.heap.size w w' := by
  obtain ⟨b, o, rfl, -⟩ := h h0
  have HS := Lib.hid h
  obtain ⟨c0, c1⟩ := h.cells 0 h0
  rw [Nat.zero_mul, Nat.add_zero] at c0 c1
  have hblt : b < w.heap.size := cell_lt c0
  have HI := Lib.hid (MInv.start w (stAt l 0))
  have tl : (((l.length : Nat) : Int) == 0) = false := by rw [beq_eq_false_iff_ne]; omega
  rw [← maxL_one l] at HI
  clear h
  go_enter Tryd.func29, Tryd.ntmps29
  go_wp2
  go_loopw [4] (fun i wr => ∃ k : Nat, 1 ≤ k ∧ k ≤ l.length ∧ i = .int .i64 k ∧ MInv w (maxL l k) wr) (fun i _ => l.length - (intOf i).toNat)
  case atStart => exact ⟨1, Nat.le_refl _, h0, rfl, by rw [maxL_one] at HI ⊢; exact HI.out⟩
  case round =>
    obtain ⟨k, hk1, hk, rfl, hI⟩ := hrel
    have HI2 := Lib.hid hI
    obtain ⟨m0, m1, r0, r1, z0, z1, y0, y1, hb⟩ := hI
    have hs : w.heap.size + 1 < wr.heap.size := cell_lt m0
    by_cases hlt : k < l.length
    · have HM := Lib.hid (maxL_succ l k hk1 hlt)
      obtain ⟨x0, x1⟩ := HS.out.cells k hlt
      rw [← hb.cell (p := ⟨b, o + k * 2, none⟩) (by simpa using hblt)] at x0
      rw [← hb.cell (p := ⟨b, o + k * 2 + 1, none⟩) (by simpa using hblt)] at x1
      have hx : wr.cell? ⟨b, o + k * 2, none⟩ = some (.int .i64 (stAt l k).1) ∧ wr.cell? ⟨b, o + k * 2 + 1, none⟩ = some (.int .i64 (stAt l k).2) := ⟨x0, x1⟩
      have HX := Lib.hid hx
      clear c0 c1 hb HI hx
      generalize hm : maxL l k = m at *
      generalize stAt l k = x at *
      obtain ⟨mx, my⟩ := m
      obtain ⟨xx, xy⟩ := x
      dsimp only at *
      have hC := fun W => refCompare_any xx xy mx my W
      by_cases hgt : 0 < cmpS xx xy mx my
      · have HG := Lib.hid (show maxS (mx, my) (xx, xy) = (xx, xy) from if_pos hgt)
        generalize cmpS xx xy mx my = v at *
        have HCH := Lib.hid hC
        clear hC hm
        go_wp2
        go_region_with (go_at_call 27; refine (HCH.out _).mono ?_; rintro e w' ⟨rfl, hbc⟩)
        all_goals
          have hbw : Below wr.heap.size wr w' := (Below.refl wr.heap.size wr).drew.trans hbc
          have HI3 := Lib.hid (HI2.out.kept hbw)
          obtain ⟨n0, n1, s0, s1, -⟩ := HI2.out.kept hbw
          obtain ⟨x2, x3⟩ := HX.out
          rw [← hbw.cell (p := ⟨b, o + k * 2, none⟩) (by simp; omega)] at x2
          rw [← hbw.cell (p := ⟨b, o + k * 2 + 1, none⟩) (by simp; omega)] at x3
          clear hbc hbw x0 x1 m0 m1 r0 r1 z0 z1 y0 y1
          go_wp2
          go_roundw
          case rel =>
            refine ⟨k + 1, by omega, by omega, by go_num, ?_⟩
            rw [HM.out, HG.out]
            exact HI3.out.set xx xy
          case measure => simp [intOf]; omega
      · have HG := Lib.hid (show maxS (mx, my) (xx, xy) = (mx, my) from if_neg hgt)
        generalize cmpS xx xy mx my = v at *
        have dg : decide (0 < v) = false := decide_eq_false hgt
        have HCH := Lib.hid hC
        clear hC hm
        go_wp2
        go_region_with (go_at_call 27; refine (HCH.out _).mono ?_; rintro e w' ⟨rfl, hbc⟩)
        all_goals
          have hbw : Below wr.heap.size wr w' := (Below.refl wr.heap.size wr).drew.trans hbc
          have HI3 := Lib.hid (HI2.out.kept hbw)
          clear hbc hbw x0 x1 m0 m1 r0 r1 z0 z1 y0 y1
          go_wp2
          go_roundw
          case rel =>
            refine ⟨k + 1, by omega, by omega, by go_num, ?_⟩
            rw [HM.out, HG.out]
            exact HI3.out
          case measure => simp [intOf]; omega
    · obtain rfl : k = l.length := by omega
      have q0 : (wr.setCell ⟨w.heap.size, 0, none⟩ (.int .i64 (maxL l l.length).1)).cell? ⟨w.heap.size, 0, none⟩ = some (.int .i64 (maxL l l.length).1) := cell_same z0
      have q1 : (wr.setCell ⟨w.heap.size, 0, none⟩ (.int .i64 (maxL l l.length).1)).cell? ⟨w.heap.size, 1, none⟩ = some (.int .i64 0) := by rw [cell_other (by simp)]; exact z1
      have q2 : ((wr.setCell ⟨w.heap.size, 0, none⟩ (.int .i64 (maxL l l.length).1)).setCell ⟨w.heap.size, 1, none⟩ (.int .i64 (maxL l l.length).2)).cell? ⟨w.heap.size, 1, none⟩ = some (.int .i64 (maxL l l.length).2) := cell_same q1
      have HE := Lib.hid ((hb.setCell (p := ⟨w.heap.size, 0, none⟩) (by simp) (.int .i64 (maxL l l.length).1)).setCell (p := ⟨w.heap.size, 1, none⟩) (by simp) (.int .i64 (maxL l l.length).2))
      go_wp2
      exact bodyPost_ret (v := .agg #[.int .i64 (maxL l l.length).1, .int .i64 (maxL l l.length).2]) (by simp [results, Tryd.results29, go_sem, q0, q2]) rfl ⟨rfl, HE.out⟩


set_option maxRecDepth 100000 in
theorem refMax_any (p : Option Addr) (c : Nat) (l : List (Int × Int)) (w : World) (h : Stamps w p l) (hl : l.length ≤ 4611686018427387904) :
    Calls Tryd.prog 29 #[.slice p l.length c] w fun e w' => e = .returned (.agg #[.int .i64 (maxOf l).1, .int .i64 (maxOf l).2]) ∧ Below w.heap.size w w' := by
  by_cases h0 : l.length = 0
  · have HB := Lib.hid ((Below.refl w.heap.size w).alloc (Nat.le_refl _) (.cells #[.int .i64 0, .int .i64 0] 23))
    have HM := Lib.hid (show maxOf l = (0, 0) from if_pos h0)
    rw [h0]
    clear h h0
    go_enter Tryd.func29, Tryd.ntmps29
    go_wp2
    refine bodyPost_ret (v := .agg #[.int .i64 0, .int .i64 0]) (by simp [results, Tryd.results29, go_sem]) rfl ?_
    rw [HM.out]
    exact ⟨rfl, HB.out⟩
  · rw [show maxOf l = maxL l l.length from if_neg h0]
    exact refMax_some p c l w h (by omega) hl

end Go.Proofs.YtbggbpdkphhhdaaDoor
