/-
  THE GREATEST STAMP: slices.MaxFunc at stamps and stamp.Compare, and stamp.Max; lists of stamps in memory.
  No conditions.
-/
import Derived.Test.YtaplemkmkbjodaaGreatGC
namespace Go.Proofs.YtaplemkmkbjodaaGreat
open Go.RowKit

/-- stamp i of a list -/
def stAt (l : List (Int × Int)) (i : Nat) : Int × Int := l.getD i (0, 0)
/-- the slice (p, the list's length, whatever capacity) reads as these stamps -/
def Stamps (w : World) (p : Option Addr) (l : List (Int × Int)) : Prop :=
  0 < l.length → ∃ b o, p = some ⟨b, o, none⟩ ∧ ∀ i, i < l.length → w.cell? ⟨b, o + i * 2, none⟩ = some (.int .i64 (stAt l i).1) ∧ w.cell? ⟨b, o + i * 2 + 1, none⟩ = some (.int .i64 (stAt l i).2)

theorem Stamps.nil (w : World) (p : Option Addr) : Stamps w p [] := fun h => absurd h (Nat.lt_irrefl 0)
theorem Stamps.kept {w w' : World} {p : Option Addr} {l : List (Int × Int)} (h : Stamps w p l) (hb : Below w.heap.size w w') : Stamps w' p l := by
  intro h0
  obtain ⟨b, o, rfl, hc⟩ := h h0
  have hlt : b < w.heap.size := cell_lt (hc 0 h0).1
  exact ⟨b, o, rfl, fun i hi => ⟨by rw [hb.cell (by simpa using hlt)]; exact (hc i hi).1, by rw [hb.cell (by simpa using hlt)]; exact (hc i hi).2⟩⟩

/-- the greater of two: the second only where it is greater -/
def maxS (m x : Int × Int) : Int × Int := if 0 < cmpS x.1 x.2 m.1 m.2 then x else m
/-- the greatest of the first k -/
def maxL (l : List (Int × Int)) (k : Nat) : Int × Int := ((l.take k).drop 1).foldl maxS (stAt l 0)
theorem maxL_one (l : List (Int × Int)) : maxL l 1 = stAt l 0 := by
  unfold maxL
  cases l <;> simp [stAt]
theorem maxL_succ (l : List (Int × Int)) (k : Nat) (h0 : 1 ≤ k) (h : k < l.length) : maxL l (k + 1) = maxS (maxL l k) (stAt l k) := by
  unfold maxL
  rw [List.take_succ_eq_append_getElem h, List.drop_append_of_le_length (by simp; omega), List.foldl_append]
  simp [stAt, List.getD, List.getElem?_eq_getElem h]

theorem Stamps.cells {w : World} {b o : Nat} {l : List (Int × Int)} (h : Stamps w (some ⟨b, o, none⟩) l) (i : Nat) (hi : i < l.length) : w.cell? ⟨b, o + i * 2, none⟩ = some (.int .i64 (stAt l i).1) ∧ w.cell? ⟨b, o + i * 2 + 1, none⟩ = some (.int .i64 (stAt l i).2) := by
  obtain ⟨b', o', e, hc⟩ := h (by omega)
  simp only [Option.some.injEq, Addr.mk.injEq] at e
  obtain ⟨rfl, rfl, -⟩ := e
  exact hc i hi

/-- in the loop: B the heap's size ahead of the call; the result's cell and the greatest so far -/
def MInv (w0 : World) (m : Int × Int) (wr : World) : Prop :=
  wr.cell? ⟨w0.heap.size + 1, 0, none⟩ = some (.int .i64 m.1) ∧ wr.cell? ⟨w0.heap.size + 1, 1, none⟩ = some (.int .i64 m.2) ∧ wr.frozen? ⟨w0.heap.size + 1, 0, none⟩ = false ∧ wr.frozen? ⟨w0.heap.size + 1, 1, none⟩ = false ∧
  wr.cell? ⟨w0.heap.size, 0, none⟩ = some (.int .i64 0) ∧ wr.cell? ⟨w0.heap.size, 1, none⟩ = some (.int .i64 0) ∧ wr.frozen? ⟨w0.heap.size, 0, none⟩ = false ∧ wr.frozen? ⟨w0.heap.size, 1, none⟩ = false ∧ Below w0.heap.size w0 wr
theorem MInv.kept {w0 wr w' : World} {m : Int × Int} (h : MInv w0 m wr) (hb : Below wr.heap.size wr w') : MInv w0 m w' := by
  obtain ⟨m0, m1, r0, r1, z0, z1, y0, y1, h9⟩ := h
  have hs : w0.heap.size + 1 < wr.heap.size := cell_lt m0
  have c : ∀ o, w'.cell? ⟨w0.heap.size + 1, o, none⟩ = wr.cell? ⟨w0.heap.size + 1, o, none⟩ := fun o => hb.cell (by simpa using hs)
  have f : ∀ o, w'.frozen? ⟨w0.heap.size + 1, o, none⟩ = wr.frozen? ⟨w0.heap.size + 1, o, none⟩ := fun o => hb.frozen (by simpa using hs)
  have c' : ∀ o, w'.cell? ⟨w0.heap.size, o, none⟩ = wr.cell? ⟨w0.heap.size, o, none⟩ := fun o => hb.cell (by simp; omega)
  have f' : ∀ o, w'.frozen? ⟨w0.heap.size, o, none⟩ = wr.frozen? ⟨w0.heap.size, o, none⟩ := fun o => hb.frozen (by simp; omega)
  exact ⟨by rw [c]; exact m0, by rw [c]; exact m1, by rw [f]; exact r0, by rw [f]; exact r1, by rw [c']; exact z0, by rw [c']; exact z1, by rw [f']; exact y0, by rw [f']; exact y1, h9.trans (hb.mono (by omega))⟩
theorem MInv.set {w0 wr : World} {m : Int × Int} (h : MInv w0 m wr) (x y : Int) : MInv w0 (x, y) ((wr.setCell ⟨w0.heap.size + 1, 0, none⟩ (.int .i64 x)).setCell ⟨w0.heap.size + 1, 1, none⟩ (.int .i64 y)) := by
  obtain ⟨m0, m1, r0, r1, z0, z1, y0, y1, h9⟩ := h
  have hs : w0.heap.size + 1 < wr.heap.size := cell_lt m0
  refine ⟨?_, ?_, by simpa using r0, by simpa using r1, ?_, ?_, by simpa using y0, by simpa using y1, (h9.setCell (by simp) _).setCell (by simp) _⟩
  · rw [cell_other (by simp)]; exact cell_same m0
  · exact cell_same (by rw [cell_other (by simp)]; exact m1)
  · rw [cell_other (by simp), cell_other (by simp)]; exact z0
  · rw [cell_other (by simp), cell_other (by simp)]; exact z1

theorem MInv.start (w0 : World) (m : Int × Int) : MInv w0 m ((w0.alloc (.cells #[.int .i64 0, .int .i64 0] 50)).alloc (.cells #[.int .i64 m.1, .int .i64 m.2] 50)) := by
  refine ⟨?_, ?_, ?_, ?_, ?_, ?_, ?_, ?_, ((Below.refl _ _).alloc (Nat.le_refl _) _).alloc (by simp) _⟩
  · rw [World.cell?_alloc_at _ _ _ _ (by simp)]; rfl
  · rw [World.cell?_alloc_at _ _ _ _ (by simp)]; rfl
  · rw [World.frozen?_alloc_at _ _ _ _ (by simp)]
  · rw [World.frozen?_alloc_at _ _ _ _ (by simp)]
  · rw [(Below.alloc (Below.refl _ _) (Nat.le_refl _) (.cells #[.int .i64 m.1, .int .i64 m.2] 50)).cell (by simp)]; rw [World.cell?_alloc_at _ _ _ _ rfl]; rfl
  · rw [(Below.alloc (Below.refl _ _) (Nat.le_refl _) (.cells #[.int .i64 m.1, .int .i64 m.2] 50)).cell (by simp)]; rw [World.cell?_alloc_at _ _ _ _ rfl]; rfl
  · rw [(Below.alloc (Below.refl _ _) (Nat.le_refl _) (.cells #[.int .i64 m.1, .int .i64 m.2] 50)).frozen (by simp)]; rw [World.frozen?_alloc_at _ _ _ _ rfl]
  · rw [(Below.alloc (Below.refl _ _) (Nat.le_refl _) (.cells #[.int .i64 m.1, .int .i64 m.2] 50)).frozen (by simp)]; rw [World.frozen?_alloc_at _ _ _ _ rfl]

set_option maxRecDepth 100000 in
set_option maxHeartbeats 1000000 in
theorem maxFunc_any (p : Option Addr) (c : Nat) (l : List (Int × Int)) (w : World) (h : Stamps w p l) (h0 : 0 < l.length) (hl : l.length ≤ 4611686018427387904) :
    Calls Tryz.prog 75 #[.slice p l.length c, .func (.func 76) #[] #[]] w fun e w' => e = .returned (.agg #[.int .i64 (maxL l l.length).1, .int .i64 (maxL l l.length).2]) ∧ Below w.heap.size w w' := by
  obtain ⟨b, o, rfl, -⟩ := h h0
  have HS := Lib.hid h
  obtain ⟨c0, c1⟩ := h.cells 0 h0
  rw [Nat.zero_mul, Nat.add_zero] at c0 c1
  have hblt : b < w.heap.size := cell_lt c0
  have HI := Lib.hid (MInv.start w (stAt l 0))
  rw [← maxL_one l] at HI
  clear h
  go_enter Tryz.func75, Tryz.ntmps75
  go_wp2
  go_loopw [6] (fun i wr => ∃ k : Nat, 1 ≤ k ∧ k ≤ l.length ∧ i = .int .i64 k ∧ MInv w (maxL l k) wr) (fun i _ => l.length - (intOf i).toNat)
  case atStart => exact ⟨1, Nat.le_refl _, h0, rfl, by rw [maxL_one] at HI ⊢; exact HI.out⟩
  case round =>
    obtain ⟨k, hk1, hk, rfl, hI⟩ := hrel
    have HI2 := Lib.hid hI
    obtain ⟨m0, m1, r0, r1, z0, z1, y0, y1, hb⟩ := hI
    have hs : w.heap.size + 1 < wr.heap.size := cell_lt m0
    by_cases hlt : k < l.length
    · have HM := Lib.hid (maxL_succ l k hk1 hlt)
      obtain ⟨x0, x1⟩ := HS.out.cells k hlt
      rw [← hb.cell (p := ⟨b, o + k * 2, none⟩) (by simpa using hblt)] at x0
      rw [← hb.cell (p := ⟨b, o + k * 2 + 1, none⟩) (by simpa using hblt)] at x1
      have hx : wr.cell? ⟨b, o + k * 2, none⟩ = some (.int .i64 (stAt l k).1) ∧ wr.cell? ⟨b, o + k * 2 + 1, none⟩ = some (.int .i64 (stAt l k).2) := ⟨x0, x1⟩
      have HX := Lib.hid hx
      clear c0 c1 hb HI hx
      generalize hm : maxL l k = m at *
      generalize stAt l k = x at *
      obtain ⟨mx, my⟩ := m
      obtain ⟨xx, xy⟩ := x
      dsimp only at *
      have hC := fun W => compare_any xx xy mx my W
      by_cases hgt : 0 < cmpS xx xy mx my
      · have HG := Lib.hid (show maxS (mx, my) (xx, xy) = (xx, xy) from if_pos hgt)
        generalize cmpS xx xy mx my = v at *
        have HCH := Lib.hid hC
        clear hC hm
        go_wp2
        go_region_with (go_at_call 76; refine (HCH.out _).mono ?_; rintro e w' ⟨rfl, hbc⟩)
        all_goals
          have hbw : Below wr.heap.size wr w' := (Below.refl wr.heap.size wr).drew.trans hbc
          have HI3 := Lib.hid (HI2.out.kept hbw)
          obtain ⟨n0, n1, s0, s1, -⟩ := HI2.out.kept hbw
          obtain ⟨x2, x3⟩ := HX.out
          rw [← hbw.cell (p := ⟨b, o + k * 2, none⟩) (by simp; omega)] at x2
          rw [← hbw.cell (p := ⟨b, o + k * 2 + 1, none⟩) (by simp; omega)] at x3
          clear hbc hbw x0 x1 m0 m1 r0 r1 z0 z1 y0 y1
          go_wp2
          go_roundw
          case rel =>
            refine ⟨k + 1, by omega, by omega, by go_num, ?_⟩
            rw [HM.out, HG.out]
            exact HI3.out.set xx xy
          case measure => simp [intOf]; omega
      · have HG := Lib.hid (show maxS (mx, my) (xx, xy) = (mx, my) from if_neg hgt)
        generalize cmpS xx xy mx my = v at *
        have dg : decide (0 < v) = false := decide_eq_false hgt
        have HCH := Lib.hid hC
        clear hC hm
        go_wp2
        go_region_with (go_at_call 76; refine (HCH.out _).mono ?_; rintro e w' ⟨rfl, hbc⟩)
        all_goals
          have hbw : Below wr.heap.size wr w' := (Below.refl wr.heap.size wr).drew.trans hbc
          have HI3 := Lib.hid (HI2.out.kept hbw)
          clear hbc hbw x0 x1 m0 m1 r0 r1 z0 z1 y0 y1
          go_wp2
          go_roundw
          case rel =>
            refine ⟨k + 1, by omega, by omega, by go_num, ?_⟩
            rw [HM.out, HG.out]
            exact HI3.out
          case measure => simp [intOf]; omega
    · obtain rfl : k = l.length := by omega
      have q0 : (wr.setCell ⟨w.heap.size, 0, none⟩ (.int .i64 (maxL l l.length).1)).cell? ⟨w.heap.size, 0, none⟩ = some (.int .i64 (maxL l l.length).1) := cell_same z0
      have q1 : (wr.setCell ⟨w.heap.size, 0, none⟩ (.int .i64 (maxL l l.length).1)).cell? ⟨w.heap.size, 1, none⟩ = some (.int .i64 0) := by rw [cell_other (by simp)]; exact z1
      have q2 : ((wr.setCell ⟨w.heap.size, 0, none⟩ (.int .i64 (maxL l l.length).1)).setCell ⟨w.heap.size, 1, none⟩ (.int .i64 (maxL l l.length).2)).cell? ⟨w.heap.size, 1, none⟩ = some (.int .i64 (maxL l l.length).2) := cell_same q1
      have HE := Lib.hid ((hb.setCell (p := ⟨w.heap.size, 0, none⟩) (by simp) (.int .i64 (maxL l l.length).1)).setCell (p := ⟨w.heap.size, 1, none⟩) (by simp) (.int .i64 (maxL l l.length).2))
      go_wp2
      exact bodyPost_ret (v := .agg #[.int .i64 (maxL l l.length).1, .int .i64 (maxL l l.length).2]) (by simp [results, Tryz.results75, go_sem, q0, q2]) rfl ⟨rfl, HE.out⟩

/-- the greatest; of none: zeros -/
def maxOf (l : List (Int × Int)) : Int × Int := if l.length = 0 then (0, 0) else maxL l l.length

set_option maxRecDepth 100000 in
set_option maxHeartbeats 1000000 in
theorem max_any (p : Option Addr) (c : Nat) (l : List (Int × Int)) (w : World) (h : Stamps w p l) (hl : l.length ≤ 4611686018427387904) :
    Calls Tryz.prog 56 #[.slice p l.length c] w fun e w' => e = .returned (.agg #[.int .i64 (maxOf l).1, .int .i64 (maxOf l).2]) ∧ Below w.heap.size w w' := by
  have hb := (Below.refl w.heap.size w).alloc (Nat.le_refl _) (.cells #[.int .i64 0, .int .i64 0] 50)
  have HB := Lib.hid hb
  by_cases h0 : l.length = 0
  · have HM := Lib.hid (show maxOf l = (0, 0) from if_pos h0)
    rw [h0]
    clear hb h h0
    go_enter Tryz.func56, Tryz.ntmps56
    go_wp2
    refine bodyPost_ret (v := .agg #[.int .i64 0, .int .i64 0]) (by simp [results, Tryz.results56, go_sem]) rfl ?_
    rw [HM.out]
    exact ⟨rfl, HB.out⟩
  · have hml : maxOf l = maxL l l.length := if_neg h0
    have te : (((l.length : Nat) : Int) == 0) = false := by rw [beq_eq_false_iff_ne]; omega
    have HC := Lib.hid (maxFunc_any p c l _ (h.kept hb) (by omega) hl)
    rw [← hml] at HC
    generalize maxOf l = m at *
    obtain ⟨mx, my⟩ := m
    dsimp only at *
    have h1 : 0 < l.length := by omega
    clear hb h h0 hml
    go_enter Tryz.func56, Tryz.ntmps56
    go_wp2_with fail
    refine HC.out.mono ?_
    rintro e w1 ⟨rfl, hb1⟩
    have c0 := hb1.cell (p := ⟨w.heap.size, 0, none⟩) (by simp)
    have c1 := hb1.cell (p := ⟨w.heap.size, 1, none⟩) (by simp)
    have f0 := hb1.frozen (p := ⟨w.heap.size, 0, none⟩) (by simp)
    have f1 := hb1.frozen (p := ⟨w.heap.size, 1, none⟩) (by simp)
    rw [World.cell?_alloc_at _ _ _ _ rfl] at c0 c1
    rw [World.frozen?_alloc_at _ _ _ _ rfl] at f0 f1
    have c0' : w1.cell? ⟨w.heap.size, 0, none⟩ = some (.int .i64 0) := c0
    have c1' : w1.cell? ⟨w.heap.size, 1, none⟩ = some (.int .i64 0) := c1
    have HB1 := Lib.hid (HB.out.trans (hb1.mono (by simp)))
    clear hb1 c0 c1
    have q0 : (w1.setCell ⟨w.heap.size, 0, none⟩ (.int .i64 mx)).cell? ⟨w.heap.size, 0, none⟩ = some (.int .i64 mx) := cell_same c0'
    have q1 : (w1.setCell ⟨w.heap.size, 0, none⟩ (.int .i64 mx)).cell? ⟨w.heap.size, 1, none⟩ = some (.int .i64 0) := by rw [cell_other (by simp)]; exact c1'
    have q2 : ((w1.setCell ⟨w.heap.size, 0, none⟩ (.int .i64 mx)).setCell ⟨w.heap.size, 1, none⟩ (.int .i64 my)).cell? ⟨w.heap.size, 1, none⟩ = some (.int .i64 my) := cell_same q1
    have HE := Lib.hid ((HB1.out.setCell (p := ⟨w.heap.size, 0, none⟩) (by simp) (.int .i64 mx)).setCell (p := ⟨w.heap.size, 1, none⟩) (by simp) (.int .i64 my))
    go_wp2
    exact bodyPost_ret (v := .agg #[.int .i64 mx, .int .i64 my]) (by simp [results, Tryz.results56, go_sem, q0, q2]) rfl ⟨rfl, HE.out⟩

end Go.Proofs.YtaplemkmkbjodaaGreat
