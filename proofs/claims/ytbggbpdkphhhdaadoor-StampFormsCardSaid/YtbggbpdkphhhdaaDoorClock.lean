/-
  CLOCKS: New, Next, See, Time of the program's clock: one that New made, and one that is nobody's.
  No conditions.
-/
import Derived.Test.YtbggbpdkphhhdaaDoorStamp
namespace Go.Proofs.YtbggbpdkphhhdaaDoor
open Go.RowKit

/-- a clock that New made, at block b: its replica, its time -/
def Clk (w : World) (b : Nat) (rep tm : Int) : Prop :=
  w.cell? ⟨b, 0, none⟩ = some (.bool true) ∧ w.cell? ⟨b, 1, none⟩ = some (.int .i64 rep) ∧ w.cell? ⟨b, 2, none⟩ = some (.int .i64 tm) ∧ w.frozen? ⟨b, 2, none⟩ = false
/-- no clock, or one that nobody made -/
def DeadClk (w : World) (r : Value) : Prop :=
  r = .pointer none ∨ ∃ b, r = .pointer (some ⟨b, 0, none⟩) ∧ w.cell? ⟨b, 0, none⟩ = some (.bool false)

theorem Clk.lt {w : World} {b : Nat} {rep tm : Int} (h : Clk w b rep tm) : b < w.heap.size := cell_lt h.1
theorem Clk.kept {w w' : World} {b : Nat} {rep tm : Int} (h : Clk w b rep tm) (hb : Below w.heap.size w w') : Clk w' b rep tm := by
  have hlt := h.lt
  obtain ⟨h0, h1, h2, h3⟩ := h
  exact ⟨by rw [hb.cell (by simpa using hlt)]; exact h0, by rw [hb.cell (by simpa using hlt)]; exact h1, by rw [hb.cell (by simpa using hlt)]; exact h2, by rw [hb.frozen (by simpa using hlt)]; exact h3⟩
theorem Clk.set {w : World} {b : Nat} {rep tm : Int} (h : Clk w b rep tm) (tm' : Int) : Clk (w.setCell ⟨b, 2, none⟩ (.int .i64 tm')) b rep tm' := by
  obtain ⟨h0, h1, h2, h3⟩ := h
  exact ⟨by rw [cell_other (by simp)]; exact h0, by rw [cell_other (by simp)]; exact h1, cell_same h2, by simpa using h3⟩
theorem DeadClk.kept {w w' : World} {r : Value} (h : DeadClk w r) (hb : Below w.heap.size w w') : DeadClk w' r := by
  rcases h with h | ⟨b, h, h0⟩
  · exact Or.inl h
  · have hlt : b < w.heap.size := cell_lt h0
    exact Or.inr ⟨b, h, by rw [hb.cell (by simpa using hlt)]; exact h0⟩

set_option maxRecDepth 100000 in
theorem ours_live (b : Nat) (rep tm : Int) (w : World) (h : Clk w b rep tm) : Calls Tryd.prog 53 #[.pointer (some ⟨b, 0, none⟩)] w fun e w' => e = .returned (.bool true) ∧ w = w' := by
  obtain ⟨h0, -⟩ := h
  go_enter Tryd.func53, Tryd.ntmps53
  go_wp2
  go_ret
  exact ⟨rfl, rfl⟩
set_option maxRecDepth 100000 in
theorem ours_dead (r : Value) (w : World) (h : DeadClk w r) : Calls Tryd.prog 53 #[r] w fun e w' => e = .returned (.bool false) ∧ w = w' := by
  rcases h with rfl | ⟨b, rfl, h0⟩
  all_goals
    go_enter Tryd.func53, Tryd.ntmps53
    go_wp2
    go_ret
    exact ⟨rfl, rfl⟩
set_option maxRecDepth 100000 in
theorem time_live (b : Nat) (rep tm : Int) (w : World) (h : Clk w b rep tm) : Calls Tryd.prog 38 #[.pointer (some ⟨b, 0, none⟩)] w fun e w' => e = .returned (.int .i64 tm) ∧ w = w' := by
  have H := Lib.hid h
  obtain ⟨-, -, h2, -⟩ := h
  go_enter Tryd.func38, Tryd.ntmps38
  go_wp2_with fail
  refine (ours_live b rep tm _ H.out).mono ?_
  rintro e w' ⟨rfl, rfl⟩
  go_wp2
  go_ret
  exact ⟨rfl, rfl⟩
set_option maxRecDepth 100000 in
theorem time_dead (r : Value) (w : World) (h : DeadClk w r) : Calls Tryd.prog 38 #[r] w fun e w' => e = .returned (.int .i64 0) ∧ w = w' := by
  have H := Lib.hid h
  clear h
  go_enter Tryd.func38, Tryd.ntmps38
  go_wp2_with fail
  refine (ours_dead r _ H.out).mono ?_
  rintro e w' ⟨rfl, rfl⟩
  go_wp2
  go_ret
  exact ⟨rfl, rfl⟩
set_option maxRecDepth 100000 in
theorem see_dead (r : Value) (t p : Int) (w : World) (h : DeadClk w r) : Calls Tryd.prog 37 #[r, .agg #[.int .i64 t, .int .i64 p]] w fun e w' => e = .returned (.int .i64 1) ∧ Below w.heap.size w w' := by
  have hb := (Below.refl w.heap.size w).alloc (Nat.le_refl _) (.cells #[.int .i64 t, .int .i64 p] 23)
  have HB := Lib.hid hb
  have H := Lib.hid (h.kept hb)
  clear h hb
  go_enter Tryd.func37, Tryd.ntmps37
  go_wp2_with fail
  refine (ours_dead r _ H.out).mono ?_
  rintro e w' ⟨rfl, rfl⟩
  go_wp2
  go_ret
  exact ⟨rfl, HB.out⟩
set_option maxRecDepth 100000 in
theorem next_dead (r : Value) (c : Int) (w : World) (h : DeadClk w r) : Calls Tryd.prog 36 #[r, .int .i64 c] w fun e w' => e = .returned (.tuple #[.agg #[.int .i64 0, .int .i64 0], .int .i64 1]) ∧ Below w.heap.size w w' := by
  have hb := (Below.refl w.heap.size w).alloc (Nat.le_refl _) (.cells #[.int .i64 0, .int .i64 0] 23)
  have HB := Lib.hid hb
  have H := Lib.hid (h.kept hb)
  clear h hb
  go_enter Tryd.func36, Tryd.ntmps36
  go_wp2_with fail
  refine (ours_dead r _ H.out).mono ?_
  rintro e w' ⟨rfl, rfl⟩
  go_wp2
  exact bodyPost_ret (v := .tuple #[.agg #[.int .i64 0, .int .i64 0], .int .i64 1]) (by simp [results, Tryd.results36, go_sem]) rfl ⟨rfl, HB.out⟩

theorem below_two (w : World) (o o' : Obj) : Below w.heap.size w ((w.alloc o).alloc o').drew := (((Below.refl w.heap.size w).alloc (Nat.le_refl _) o).alloc (by simp) o').drew
/-- what Next answers: the stamp's time and replica, the error, the clock's time behind it -/
def nextR (rep tm c : Int) : Int × Int × Int × Int :=
  if c < 1 then (0, 0, 1, tm) else if 1099511627776 - tm < c then (0, 0, 30, tm) else (tm + 1, rep, 0, tm + c)

theorem Only.of_below {b : Nat} {w w' : World} (hb : Below w.heap.size w w') : Only b w w' := ⟨hb.os, hb.tape, hb.output, hb.size, fun k hk _ => hb.block k hk⟩

set_option maxRecDepth 100000 in
set_option maxHeartbeats 1000000 in
theorem next_live (b : Nat) (rep tm c : Int) (w : World) (h : Clk w b rep tm) (h0 : 0 ≤ tm) (h1 : tm ≤ 1099511627776) :
    Calls Tryd.prog 36 #[.pointer (some ⟨b, 0, none⟩), .int .i64 c] w fun e w' => e = .returned (.tuple #[.agg #[.int .i64 (nextR rep tm c).1, .int .i64 (nextR rep tm c).2.1], .int .i64 (nextR rep tm c).2.2.1]) ∧ Clk w' b rep (nextR rep tm c).2.2.2 ∧ Only b w w' := by
  have hb := (Below.refl w.heap.size w).alloc (Nat.le_refl _) (.cells #[.int .i64 0, .int .i64 0] 23)
  have HB := Lib.hid hb
  have hk := h.kept hb
  have H := Lib.hid hk
  have hlt := h.lt
  have HS := Lib.hid (h.set (tm + c))
  clear h hb
  by_cases hc : c < 1
  · have HR := Lib.hid (show nextR rep tm c = (0, 0, 1, tm) by unfold nextR; rw [if_pos hc])
    go_enter Tryd.func36, Tryd.ntmps36
    go_wp2_with fail
    refine (ours_live b rep tm _ H.out).mono ?_
    rintro e w' ⟨rfl, rfl⟩
    go_wp2
    refine bodyPost_ret (v := .tuple #[.agg #[.int .i64 0, .int .i64 0], .int .i64 1]) (by simp [results, Tryd.results36, go_sem]) rfl ?_
    rw [HR.out]
    exact ⟨rfl, H.out, Only.of_below HB.out⟩
  · by_cases hg : 1099511627776 - tm < c
    · have HR := Lib.hid (show nextR rep tm c = (0, 0, 30, tm) by unfold nextR; rw [if_neg hc, if_pos hg])
      obtain ⟨-, -, k2, k3⟩ := hk
      go_enter Tryd.func36, Tryd.ntmps36
      go_wp2_with fail
      refine (ours_live b rep tm _ H.out).mono ?_
      rintro e w' ⟨rfl, rfl⟩
      go_wp2
      refine bodyPost_ret (v := .tuple #[.agg #[.int .i64 0, .int .i64 0], .int .i64 30]) (by simp [results, Tryd.results36, go_sem]) rfl ?_
      rw [HR.out]
      exact ⟨rfl, H.out, Only.of_below HB.out⟩
    · have HR := Lib.hid (show nextR rep tm c = (tm + 1, rep, 0, tm + c) by unfold nextR; rw [if_neg hc, if_neg hg])
      obtain ⟨-, k1, k2, k3⟩ := hk
      go_enter Tryd.func36, Tryd.ntmps36
      go_wp2_with fail
      refine (ours_live b rep tm _ H.out).mono ?_
      rintro e w' ⟨rfl, rfl⟩
      go_wp2
      go_region
      go_wp2
      refine bodyPost_ret (v := .tuple #[.agg #[.int .i64 (tm + 1), .int .i64 rep], .int .i64 0]) (by simp [results, Tryd.results36, go_sem]) rfl ?_
      rw [HR.out]
      exact ⟨rfl, HS.out.kept (below_two _ _ _), (Only.set b 2 w _).trans (Only.of_below (below_two _ _ _))⟩

/-- what See answers: the error, the clock's time behind it -/
def seeR (tm t r : Int) : Int × Int := if rightB t r = true then (0, max tm t) else (1, tm)

set_option maxRecDepth 100000 in
set_option maxHeartbeats 1000000 in
theorem see_live (b : Nat) (rep tm t r : Int) (w : World) (h : Clk w b rep tm) :
    Calls Tryd.prog 37 #[.pointer (some ⟨b, 0, none⟩), .agg #[.int .i64 t, .int .i64 r]] w fun e w' => e = .returned (.int .i64 (seeR tm t r).1) ∧ Clk w' b rep (seeR tm t r).2 ∧ Only b w w' := by
  have hb := (Below.refl w.heap.size w).alloc (Nat.le_refl _) (.cells #[.int .i64 t, .int .i64 r] 23)
  have hk := h.kept hb
  have H := Lib.hid hk
  have HB := Lib.hid hb
  have hlt := h.lt
  clear h hb
  cases hR : rightB t r with
  | false =>
    have HR := Lib.hid (show seeR tm t r = (1, tm) by unfold seeR; rw [if_neg (by simp [hR])])
    have HRB := Lib.hid hR
    clear hR
    go_enter Tryd.func37, Tryd.ntmps37
    go_wp2_with fail
    refine (ours_live b rep tm _ H.out).mono ?_
    rintro e w' ⟨rfl, rfl⟩
    go_wp2_with fail
    refine (right_any t r _).mono ?_
    rw [HRB.out]
    rintro e w1 ⟨rfl, hb1⟩
    have HB1 := Lib.hid hb1
    clear hb1
    go_wp2
    go_ret
    rw [HR.out]
    exact ⟨rfl, H.out.kept HB1.out, Only.of_below (HB.out.trans (HB1.out.mono (by simp)))⟩
  | true =>
    have HR := Lib.hid (show seeR tm t r = (0, max tm t) by unfold seeR; rw [if_pos hR])
    have HRB := Lib.hid hR
    clear hR
    go_enter Tryd.func37, Tryd.ntmps37
    go_wp2_with fail
    refine (ours_live b rep tm _ H.out).mono ?_
    rintro e w' ⟨rfl, rfl⟩
    go_wp2_with fail
    refine (right_any t r _).mono ?_
    rw [HRB.out]
    rintro e w1 ⟨rfl, hb1⟩
    have HB1 := Lib.hid hb1
    have HC := Lib.hid (H.out.kept hb1)
    obtain ⟨-, k1, k2, k3⟩ := H.out.kept hb1
    have hc : w1.cell? ⟨w.heap.size, 0, none⟩ = some (.int .i64 t) := by rw [hb1.cell (by simp)]; rw [World.cell?_alloc_at _ _ _ _ rfl]; rfl
    have HOn := Lib.hid (Only.of_below (b := b) (HB.out.trans (HB1.out.mono (by simp))))
    clear hb1 hk
    by_cases hm : tm < t
    · have HM := Lib.hid (show max tm t = t by omega)
      go_wp2
      go_region
      go_wp2
      go_ret
      rw [HR.out, HM.out]
      exact ⟨rfl, (HC.out.set t).kept (Below.refl _ _).drew, HOn.out.trans ((Only.set b 2 w1 _).trans (Only.of_below (Below.refl _ _).drew))⟩
    · have HM := Lib.hid (show max tm t = tm by omega)
      have d1 : decide (tm < t) = false := decide_eq_false hm
      go_wp2
      go_region
      go_wp2
      go_ret
      rw [HR.out, HM.out]
      exact ⟨rfl, (HC.out.set tm).kept (Below.refl _ _).drew, HOn.out.trans ((Only.set b 2 w1 _).trans (Only.of_below (Below.refl _ _).drew))⟩

/-- New -/
def MadeClk (rep tm : Int) (w : World) (e : Ending) (w' : World) : Prop := ∃ b, e = .returned (.tuple #[.pointer (some ⟨b, 0, none⟩), .int .i64 0]) ∧ Clk w' b rep tm ∧ w.heap.size ≤ b ∧ Below w.heap.size w w'

set_option maxRecDepth 100000 in
theorem new_yes (rep tm : Int) (w : World) (h : rightB tm rep = true) : Calls Tryd.prog 33 #[.int .i64 rep, .int .i64 tm] w (MadeClk rep tm w) := by
  have HRB := Lib.hid h
  clear h
  go_enter Tryd.func33, Tryd.ntmps33
  go_wp2_with fail
  refine (right_any tm rep _).mono ?_
  rw [HRB.out]
  rintro e w1 ⟨rfl, hb1⟩
  have hs := hb1.size
  have HB := Lib.hid (hb1.alloc hs (.cells #[.bool true, .int .i64 rep, .int .i64 tm] 64))
  have HS := Lib.hid hs
  clear hb1 hs
  go_wp2
  go_ret2
  refine ⟨w1.heap.size, rfl, ⟨?_, ?_, ?_, ?_⟩, HS.out, HB.out⟩
  · rw [World.cell?_alloc_at _ _ _ _ rfl]; rfl
  · rw [World.cell?_alloc_at _ _ _ _ rfl]; rfl
  · rw [World.cell?_alloc_at _ _ _ _ rfl]; rfl
  · rw [World.frozen?_alloc_at _ _ _ _ rfl]
set_option maxRecDepth 100000 in
theorem new_no (rep tm : Int) (w : World) (h : rightB tm rep = false) : Calls Tryd.prog 33 #[.int .i64 rep, .int .i64 tm] w fun e w' => e = .returned (.tuple #[.pointer none, .int .i64 1]) ∧ Below w.heap.size w w' := by
  have HRB := Lib.hid h
  clear h
  go_enter Tryd.func33, Tryd.ntmps33
  go_wp2_with fail
  refine (right_any tm rep _).mono ?_
  rw [HRB.out]
  rintro e w1 ⟨rfl, hb1⟩
  have HB := Lib.hid hb1
  clear hb1
  go_wp2
  go_ret2
  exact ⟨rfl, HB.out⟩

end Go.Proofs.YtbggbpdkphhhdaaDoor
