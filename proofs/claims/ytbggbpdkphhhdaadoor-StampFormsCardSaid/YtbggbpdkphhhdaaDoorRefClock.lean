/-
  THE DOCUMENT's CLOCK (Right, New, Next, See), and one turn on both clocks.
  No conditions.
-/
import Derived.Test.YtbggbpdkphhhdaaDoorAhead
namespace Go.Proofs.YtbggbpdkphhhdaaDoor
open Go.RowKit

set_option maxRecDepth 100000 in
set_option maxHeartbeats 1000000 in
theorem refRight_any (t r : Int) (w : World) :
    Calls Tryd.prog 17 #[.agg #[.int .i64 t, .int .i64 r]] w fun e w' => e = .returned (.bool (rightB t r)) ∧ Below w.heap.size w w' := by
  have hb := (Below.refl w.heap.size w).alloc (Nat.le_refl _) (.cells #[.int .i64 t, .int .i64 r] 23)
  have HB := Lib.hid hb
  clear hb
  by_cases h0 : 0 ≤ t
  · by_cases h1 : t ≤ 1099511627776
    · by_cases h2 : 0 ≤ r
      · by_cases h3 : r < 16
        · have HR := Lib.hid (show rightB t r = true from decide_eq_true ⟨h0, h1, h2, by omega⟩)
          go_enter Tryd.func17, Tryd.ntmps17
          go_wp2
          go_ret
          rw [HR.out]
          exact ⟨rfl, HB.out⟩
        · have HR := Lib.hid (show rightB t r = false from decide_eq_false (fun h => h3 (by omega)))
          have d3 : decide (r < 16) = false := decide_eq_false h3
          go_enter Tryd.func17, Tryd.ntmps17
          go_wp2
          go_ret
          rw [HR.out]
          exact ⟨rfl, HB.out⟩
      · have HR := Lib.hid (show rightB t r = false from decide_eq_false (fun h => h2 h.2.2.1))
        have d3 : decide (0 ≤ r) = false := decide_eq_false h2
        go_enter Tryd.func17, Tryd.ntmps17
        go_wp2
        go_ret
        rw [HR.out]
        exact ⟨rfl, HB.out⟩
    · have HR := Lib.hid (show rightB t r = false from decide_eq_false (fun h => h1 h.2.1))
      have d3 : decide (t ≤ 1099511627776) = false := decide_eq_false h1
      go_enter Tryd.func17, Tryd.ntmps17
      go_wp2
      go_ret
      rw [HR.out]
      exact ⟨rfl, HB.out⟩
  · have HR := Lib.hid (show rightB t r = false from decide_eq_false (fun h => h0 h.1))
    have d3 : decide (0 ≤ t) = false := decide_eq_false h0
    go_enter Tryd.func17, Tryd.ntmps17
    go_wp2
    go_ret
    rw [HR.out]
    exact ⟨rfl, HB.out⟩


/-- the document's clock, at block b: its replica, its time -/
def RClk (w : World) (b : Nat) (rep tm : Int) : Prop :=
  w.cell? ⟨b, 0, none⟩ = some (.int .i64 rep) ∧ w.cell? ⟨b, 1, none⟩ = some (.int .i64 tm) ∧ w.frozen? ⟨b, 1, none⟩ = false
theorem RClk.lt {w : World} {b : Nat} {rep tm : Int} (h : RClk w b rep tm) : b < w.heap.size := cell_lt h.1
theorem RClk.kept {w w' : World} {b : Nat} {rep tm : Int} (h : RClk w b rep tm) (hb : Below w.heap.size w w') : RClk w' b rep tm := by
  have hlt := h.lt
  obtain ⟨h0, h1, h3⟩ := h
  exact ⟨by rw [hb.cell (by simpa using hlt)]; exact h0, by rw [hb.cell (by simpa using hlt)]; exact h1, by rw [hb.frozen (by simpa using hlt)]; exact h3⟩
theorem RClk.set {w : World} {b : Nat} {rep tm : Int} (h : RClk w b rep tm) (tm' : Int) : RClk (w.setCell ⟨b, 1, none⟩ (.int .i64 tm')) b rep tm' := by
  obtain ⟨h0, h2, h3⟩ := h
  exact ⟨by rw [cell_other (by simp)]; exact h0, cell_same h2, by simpa using h3⟩
theorem Only.cell {b : Nat} {w w' : World} (h : Only b w w') {k o : Nat} (hk : k < w.heap.size) (hne : k ≠ b) : w'.cell? ⟨k, o, none⟩ = w.cell? ⟨k, o, none⟩ := by
  have := h.block k hk (by simpa using hne)
  simp [World.cell?, this]
theorem Only.frozen {b : Nat} {w w' : World} (h : Only b w w') {k o : Nat} (hk : k < w.heap.size) (hne : k ≠ b) : w'.frozen? ⟨k, o, none⟩ = w.frozen? ⟨k, o, none⟩ := by
  have := h.block k hk (by simpa using hne)
  simp [World.frozen?, this]
theorem RClk.only {w w' : World} {b b' : Nat} {rep tm : Int} (h : RClk w b rep tm) (ho : Only b' w w') (hne : b ≠ b') : RClk w' b rep tm := by
  have hlt := h.lt
  obtain ⟨h0, h1, h3⟩ := h
  exact ⟨by rw [ho.cell hlt hne]; exact h0, by rw [ho.cell hlt hne]; exact h1, by rw [ho.frozen hlt hne]; exact h3⟩
theorem Clk.only {w w' : World} {b b' : Nat} {rep tm : Int} (h : Clk w b rep tm) (ho : Only b' w w') (hne : b ≠ b') : Clk w' b rep tm := by
  have hlt := h.lt
  obtain ⟨h0, h1, h2, h3⟩ := h
  exact ⟨by rw [ho.cell hlt hne]; exact h0, by rw [ho.cell hlt hne]; exact h1, by rw [ho.cell hlt hne]; exact h2, by rw [ho.frozen hlt hne]; exact h3⟩

set_option maxRecDepth 100000 in
set_option maxHeartbeats 1000000 in
theorem refNext_any (b : Nat) (rep tm c : Int) (w : World) (h : RClk w b rep tm) (h0 : 0 ≤ tm) (h1 : tm ≤ 1099511627776) :
    Calls Tryd.prog 51 #[.pointer (some ⟨b, 0, none⟩), .int .i64 c] w fun e w' => e = .returned (.tuple #[.agg #[.int .i64 (nextR rep tm c).1, .int .i64 (nextR rep tm c).2.1], .int .i64 (nextR rep tm c).2.2.1]) ∧ RClk w' b rep (nextR rep tm c).2.2.2 ∧ Only b w w' := by
  have hb := (Below.refl w.heap.size w).alloc (Nat.le_refl _) (.cells #[.int .i64 0, .int .i64 0] 23)
  have HB := Lib.hid hb
  have hk := h.kept hb
  have H := Lib.hid hk
  have hlt := h.lt
  have HS := Lib.hid (h.set (tm + c))
  clear h hb
  by_cases hc : c < 1
  · have HR := Lib.hid (show nextR rep tm c = (0, 0, 1, tm) by unfold nextR; rw [if_pos hc])
    go_enter Tryd.func51, Tryd.ntmps51
    go_wp2
    refine bodyPost_ret (v := .tuple #[.agg #[.int .i64 0, .int .i64 0], .int .i64 1]) (by simp [results, Tryd.results51, go_sem]) rfl ?_
    rw [HR.out]
    exact ⟨rfl, H.out, Only.of_below HB.out⟩
  · by_cases hg : 1099511627776 - tm < c
    · have HR := Lib.hid (show nextR rep tm c = (0, 0, 30, tm) by unfold nextR; rw [if_neg hc, if_pos hg])
      obtain ⟨-, k2, k3⟩ := hk
      go_enter Tryd.func51, Tryd.ntmps51
      go_wp2
      refine bodyPost_ret (v := .tuple #[.agg #[.int .i64 0, .int .i64 0], .int .i64 30]) (by simp [results, Tryd.results51, go_sem]) rfl ?_
      rw [HR.out]
      exact ⟨rfl, H.out, Only.of_below HB.out⟩
    · have HR := Lib.hid (show nextR rep tm c = (tm + 1, rep, 0, tm + c) by unfold nextR; rw [if_neg hc, if_neg hg])
      obtain ⟨k1, k2, k3⟩ := hk
      go_enter Tryd.func51, Tryd.ntmps51
      go_wp2
      go_region
      go_wp2
      refine bodyPost_ret (v := .tuple #[.agg #[.int .i64 (tm + 1), .int .i64 rep], .int .i64 0]) (by simp [results, Tryd.results51, go_sem]) rfl ?_
      rw [HR.out]
      exact ⟨rfl, HS.out.kept (below_two _ _ _), (Only.set b 1 w _).trans (Only.of_below (below_two _ _ _))⟩

set_option maxRecDepth 100000 in
set_option maxHeartbeats 1000000 in
theorem refSee_any (b : Nat) (rep tm t r : Int) (w : World) (h : RClk w b rep tm) :
    Calls Tryd.prog 52 #[.pointer (some ⟨b, 0, none⟩), .agg #[.int .i64 t, .int .i64 r]] w fun e w' => e = .returned (.int .i64 (seeR tm t r).1) ∧ RClk w' b rep (seeR tm t r).2 ∧ Only b w w' := by
  have hb := (Below.refl w.heap.size w).alloc (Nat.le_refl _) (.cells #[.int .i64 t, .int .i64 r] 23)
  have hk := h.kept hb
  have H := Lib.hid hk
  have HB := Lib.hid hb
  have hlt := h.lt
  clear h hb
  cases hR : rightB t r with
  | false =>
    have HR := Lib.hid (show seeR tm t r = (1, tm) by unfold seeR; rw [if_neg (by simp [hR])])
    have HRB := Lib.hid hR
    clear hR
    go_enter Tryd.func52, Tryd.ntmps52
    go_wp2_with fail
    refine (refRight_any t r _).mono ?_
    rw [HRB.out]
    rintro e w1 ⟨rfl, hb1⟩
    have HB1 := Lib.hid hb1
    clear hb1
    go_wp2
    go_ret
    rw [HR.out]
    exact ⟨rfl, H.out.kept HB1.out, Only.of_below (HB.out.trans (HB1.out.mono (by simp)))⟩
  | true =>
    have HR := Lib.hid (show seeR tm t r = (0, max tm t) by unfold seeR; rw [if_pos hR])
    have HRB := Lib.hid hR
    clear hR
    go_enter Tryd.func52, Tryd.ntmps52
    go_wp2_with fail
    refine (refRight_any t r _).mono ?_
    rw [HRB.out]
    rintro e w1 ⟨rfl, hb1⟩
    have HB1 := Lib.hid hb1
    have HC := Lib.hid (H.out.kept hb1)
    obtain ⟨k1, k2, k3⟩ := H.out.kept hb1
    have hc : w1.cell? ⟨w.heap.size, 0, none⟩ = some (.int .i64 t) := by rw [hb1.cell (by simp)]; rw [World.cell?_alloc_at _ _ _ _ rfl]; rfl
    have HOn := Lib.hid (Only.of_below (b := b) (HB.out.trans (HB1.out.mono (by simp))))
    clear hb1 hk
    by_cases hm : tm < t
    · have HM := Lib.hid (show max tm t = t by omega)
      go_wp2
      go_region
      go_wp2
      go_ret
      rw [HR.out, HM.out]
      exact ⟨rfl, (HC.out.set t).kept (Below.refl _ _).drew, HOn.out.trans ((Only.set b 1 w1 _).trans (Only.of_below (Below.refl _ _).drew))⟩
    · have HM := Lib.hid (show max tm t = tm by omega)
      have d1 : decide (tm < t) = false := decide_eq_false hm
      go_wp2
      go_region
      go_wp2
      go_ret
      rw [HR.out, HM.out]
      exact ⟨rfl, (HC.out.set tm).kept (Below.refl _ _).drew, HOn.out.trans ((Only.set b 1 w1 _).trans (Only.of_below (Below.refl _ _).drew))⟩

set_option maxRecDepth 100000 in
theorem refNew_yes (rep tm : Int) (w : World) (h : rightB tm rep = true) : Calls Tryd.prog 34 #[.int .i64 rep, .int .i64 tm] w fun e w' => ∃ b, e = .returned (.pointer (some ⟨b, 0, none⟩)) ∧ RClk w' b rep tm ∧ w.heap.size ≤ b ∧ Below w.heap.size w w' := by
  have HRB := Lib.hid h
  clear h
  go_enter Tryd.func34, Tryd.ntmps34
  go_wp2_with fail
  refine (refRight_any tm rep _).mono ?_
  rw [HRB.out]
  rintro e w1 ⟨rfl, hb1⟩
  have hs := hb1.size
  have HB := Lib.hid (hb1.alloc hs (.cells #[.int .i64 rep, .int .i64 tm] 87))
  have HS := Lib.hid hs
  clear hb1 hs
  go_wp2
  go_ret
  refine ⟨w1.heap.size, rfl, ⟨?_, ?_, ?_⟩, HS.out, HB.out⟩
  · rw [World.cell?_alloc_at _ _ _ _ rfl]; rfl
  · rw [World.cell?_alloc_at _ _ _ _ rfl]; rfl
  · rw [World.frozen?_alloc_at _ _ _ _ rfl]
set_option maxRecDepth 100000 in
theorem refNew_no (rep tm : Int) (w : World) (h : rightB tm rep = false) : Calls Tryd.prog 34 #[.int .i64 rep, .int .i64 tm] w fun e w' => e = .returned (.pointer none) ∧ Below w.heap.size w w' := by
  have HRB := Lib.hid h
  clear h
  go_enter Tryd.func34, Tryd.ntmps34
  go_wp2_with fail
  refine (refRight_any tm rep _).mono ?_
  rw [HRB.out]
  rintro e w1 ⟨rfl, hb1⟩
  have HB := Lib.hid hb1
  clear hb1
  go_wp2
  go_ret
  exact ⟨rfl, HB.out⟩

end Go.Proofs.YtbggbpdkphhhdaaDoor
