/-
  STAMPAHEAD: the walk: what Next answers is above all that was seen and answered. Lists of acts in memory.
  No conditions.
-/
import Derived.Test.YtbggbpdkphhhdaaDoorKnows2
namespace Go.Proofs.YtbggbpdkphhhdaaDoor
open Go.RowKit

/-- an act: its kind, its number, its stamp -/
structure ActD where
  kind : Int
  n : Int
  t : Int
  r : Int
def actAt (l : List ActD) (i : Nat) : ActD := l.getD i ⟨0, 0, 0, 0⟩
/-- the slice (p, the list's length, whatever capacity) reads as these acts -/
def Acts (w : World) (p : Option Addr) (l : List ActD) : Prop :=
  0 < l.length → ∃ b o, p = some ⟨b, o, none⟩ ∧ ∀ i, i < l.length →
    w.cell? ⟨b, o + i * 4, none⟩ = some (.int .i64 (actAt l i).kind) ∧ w.cell? ⟨b, o + i * 4 + 1, none⟩ = some (.int .i64 (actAt l i).n) ∧
    w.cell? ⟨b, o + i * 4 + 2, none⟩ = some (.int .i64 (actAt l i).t) ∧ w.cell? ⟨b, o + i * 4 + 3, none⟩ = some (.int .i64 (actAt l i).r)
theorem Acts.kept {w w' : World} {p : Option Addr} {l : List ActD} (h : Acts w p l) (hb : Below w.heap.size w w') : Acts w' p l := by
  intro h0
  obtain ⟨b, o, rfl, hc⟩ := h h0
  have hlt : b < w.heap.size := cell_lt (hc 0 h0).1
  refine ⟨b, o, rfl, fun i hi => ?_⟩
  obtain ⟨h1, h2, h3, h4⟩ := hc i hi
  exact ⟨by rw [hb.cell (by simpa using hlt)]; exact h1, by rw [hb.cell (by simpa using hlt)]; exact h2, by rw [hb.cell (by simpa using hlt)]; exact h3, by rw [hb.cell (by simpa using hlt)]; exact h4⟩
theorem Acts.cells {w : World} {b o : Nat} {l : List ActD} (h : Acts w (some ⟨b, o, none⟩) l) (i : Nat) (hi : i < l.length) :
    w.cell? ⟨b, o + i * 4, none⟩ = some (.int .i64 (actAt l i).kind) ∧ w.cell? ⟨b, o + i * 4 + 1, none⟩ = some (.int .i64 (actAt l i).n) ∧
    w.cell? ⟨b, o + i * 4 + 2, none⟩ = some (.int .i64 (actAt l i).t) ∧ w.cell? ⟨b, o + i * 4 + 3, none⟩ = some (.int .i64 (actAt l i).r) := by
  obtain ⟨b', o', e, hc⟩ := h (by omega)
  simp only [Option.some.injEq, Addr.mk.injEq] at e
  obtain ⟨rfl, rfl, -⟩ := e
  exact hc i hi

theorem tmod16 (x : Int) : -15 ≤ x.tmod 16 ∧ x.tmod 16 ≤ 15 := by
  rcases Int.eq_nat_or_neg x with ⟨n, rfl | rfl⟩
  · rw [show ((n : Int).tmod 16) = ((n % 16 : Nat) : Int) from rfl]; omega
  · rw [Int.neg_tmod, show ((n : Int).tmod 16) = ((n % 16 : Nat) : Int) from rfl]; omega

/-- a clock, and all that was there stays -/
def ARel (w0 : World) (b : Nat) (q tm : Int) (wr : World) : Prop := Clk wr b q tm ∧ w0.heap.size ≤ b ∧ Below w0.heap.size w0 wr
theorem ARel.kept {w0 w w' : World} {b : Nat} {q tm : Int} (h : ARel w0 b q tm w) (hb : Below w.heap.size w w') : ARel w0 b q tm w' :=
  ⟨h.1.kept hb, h.2.1, h.2.2.trans (hb.mono h.2.2.size)⟩
theorem ARel.only {w0 w w' : World} {b : Nat} {q tm tm' : Int} (h : ARel w0 b q tm w) (hc : Clk w' b q tm') (hb : Only b w w') : ARel w0 b q tm' w' :=
  ⟨hc, h.2.1, hb.below h.2.2 h.2.1 h.2.2.size⟩

set_option maxRecDepth 100000 in
set_option maxHeartbeats 20000000 in
theorem stampAhead_walk (rep : Int) (p : Option Addr) (c : Nat) (l : List ActD) (w : World) (_ : (Lit.int .i64 rep).wf = true) (hl : Acts w p l) (_ : l.length ≤ c) (_ : p = none → c = 0) (hlen : l.length ≤ 17592186043904) :
    Calls Tryd.prog 7 #[.int .i64 rep, .slice p l.length c] w fun e w' => e = .returned (.bool true) ∧ Below w.heap.size w w' := by
  obtain ⟨t0, t1⟩ := tmod16 rep
  have hq0 : 0 ≤ rep.tmod 16 % 16 := by omega
  have hq1 : rep.tmod 16 % 16 ≤ 15 := by omega
  have HN := Lib.hid (new_yes (rep.tmod 16 % 16) 0 w (decide_eq_true ⟨by omega, by omega, hq0, hq1⟩))
  have HL := Lib.hid hl
  clear hl
  go_enter Tryd.func7, Tryd.ntmps7
  go_wp2_with fail
  ((with_reducible refine HN.out.mono ?_))
  rintro e w1 ⟨b, rfl, hk1, hB1, hb1⟩
  have HR1 := Lib.hid (show ARel w b _ 0 w1 from ⟨hk1, hB1, hb1⟩)
  clear hk1 hb1
  go_wp2_with fail
  refine (lawNum2_any 0 _).mono ?_
  rintro e w' ⟨rfl, rfl⟩
  go_wp2_with fail
  refine (knows2_any _).mono ?_
  rintro e w2 ⟨rfl, hb2⟩
  have HR2 := Lib.hid (HR1.out.kept hb2)
  clear hb2
  go_wp2
  go_loopw [7, 8] (fun top i wr => ∃ (k : Nat) (tm : Int), k ≤ l.length ∧ i = .int .i64 k ∧ top = .int .i64 tm ∧ 0 ≤ tm ∧ tm ≤ 1099511627776 ∧ ARel w b (rep.tmod 16 % 16) tm wr) (fun _ i _ => l.length - (intOf i).toNat)
  case atStart => exact ⟨0, 0, Nat.zero_le _, rfl, rfl, by omega, by omega, HR2.out⟩
  case round =>
    obtain ⟨k, tm, hk, rfl, rfl, h0, h1, hR⟩ := hrel
    have HR := Lib.hid hR
    clear hR HR1 HR2
    by_cases hlt : k < l.length
    · obtain ⟨b0, o0, rfl, -⟩ := HL.out (by omega)
      obtain ⟨x0, x1, x2, x3⟩ := HL.out.cells k hlt
      have hb0 : b0 < w.heap.size := cell_lt x0
      have e : ∀ o, wr.cell? ⟨b0, o, none⟩ = w.cell? ⟨b0, o, none⟩ := fun o => HR.out.2.2.cell (by simpa using hb0)
      have HXW := Lib.hid (And.intro x1 x2)
      rw [← e] at x0 x1 x2 x3
      clear e
      generalize actAt l k = a at *
      obtain ⟨ak, an, at', ar⟩ := a
      dsimp only at *
      by_cases hk1 : ak = 1
      · subst hk1
        have HS := Lib.hid (fun W h => see_live b (rep.tmod 16 % 16) tm at' ar W h)
        cases hRB : rightB at' ar with
        | false =>
          have hs : seeR tm at' ar = (1, tm) := by unfold seeR; rw [if_neg (by simp [hRB])]
          rw [hs] at HS
          clear hs hRB
          go_wp2_with fail
          refine (HS.out _ HR.out.1).mono ?_
          rintro e w3 ⟨rfl, hk3, ho3⟩
          have HR3 := Lib.hid (HR.out.only hk3 ho3)
          clear hk3 ho3
          go_wp2_with fail
          refine (lawNum2_any 1 _).mono ?_
          rintro e w' ⟨rfl, rfl⟩
          go_wp2
          go_roundw
          case rel => exact ⟨k + 1, tm, by omega, by go_num, rfl, h0, h1, HR3.out⟩
          case measure => simp [intOf]; omega
        | true =>
          obtain ⟨r0, r1, r2, r3⟩ := rightB_yes hRB
          have hs : seeR tm at' ar = (0, max tm at') := by unfold seeR; rw [if_pos hRB]
          rw [hs] at HS
          clear hs hRB
          go_wp2_with fail
          refine (HS.out _ HR.out.1).mono ?_
          rintro e w3 ⟨rfl, hk3, ho3⟩
          have HR3 := Lib.hid (HR.out.only hk3 ho3)
          have y2 := HXW.out.2
          rw [← HR3.out.2.2.cell (p := ⟨b0, o0 + k * 4 + 2, none⟩) (by simpa using hb0)] at y2
          clear x0 x1 x2 x3 hk3 ho3
          go_wp2_with fail
          refine (lawNum2_any 0 _).mono ?_
          rintro e w' ⟨rfl, rfl⟩
          go_wp2
          go_roundw
          case rel => exact ⟨k + 1, max tm at', by omega, by go_num, rfl, by omega, by omega, HR3.out⟩
          case measure => simp [intOf]; omega
      · have te : (ak == 1) = false := by rw [beq_eq_false_iff_ne]; exact hk1
        have HS := Lib.hid (next_live b (rep.tmod 16 % 16) tm an _ HR.out.1 h0 h1)
        by_cases hc : an < 1
        · have hs : nextR (rep.tmod 16 % 16) tm an = (0, 0, 1, tm) := by unfold nextR; rw [if_pos hc]
          rw [hs] at HS
          clear hs
          go_wp2_with fail
          refine HS.out.mono ?_
          rintro e w3 ⟨rfl, hk3, ho3⟩
          have HR3 := Lib.hid ((HR.out.only hk3 ho3).kept ((Below.refl w3.heap.size w3).alloc (Nat.le_refl _) (.cells #[.int .i64 0, .int .i64 0] 23)))
          clear hk3 ho3 x0 x1 x2 x3
          go_wp2_with fail
          refine (lawNum2_any 1 _).mono ?_
          rintro e w' ⟨rfl, rfl⟩
          go_wp2
          go_roundw
          case rel => exact ⟨k + 1, tm, by omega, by go_num, rfl, h0, h1, HR3.out⟩
          case measure => simp [intOf]; omega
        · by_cases hg : 1099511627776 - tm < an
          · have hs : nextR (rep.tmod 16 % 16) tm an = (0, 0, 30, tm) := by unfold nextR; rw [if_neg hc, if_pos hg]
            rw [hs] at HS
            clear hs
            go_wp2_with fail
            refine HS.out.mono ?_
            rintro e w3 ⟨rfl, hk3, ho3⟩
            have HR3 := Lib.hid ((HR.out.only hk3 ho3).kept ((Below.refl w3.heap.size w3).alloc (Nat.le_refl _) (.cells #[.int .i64 0, .int .i64 0] 23)))
            clear hk3 ho3 x0 x1 x2 x3
            go_wp2_with fail
            refine (lawNum2_any 30 _).mono ?_
            rintro e w' ⟨rfl, rfl⟩
            go_wp2
            go_roundw
            case rel => exact ⟨k + 1, tm, by omega, by go_num, rfl, h0, h1, HR3.out⟩
            case measure => simp [intOf]; omega
          · have hs : nextR (rep.tmod 16 % 16) tm an = (tm + 1, rep.tmod 16 % 16, 0, tm + an) := by unfold nextR; rw [if_neg hc, if_neg hg]
            rw [hs] at HS
            clear hs
            go_wp2_with fail
            refine HS.out.mono ?_
            rintro e w3 ⟨rfl, hk3, ho3⟩
            have HR0 := HR.out.only hk3 ho3
            have HR3 := Lib.hid (HR0.kept ((Below.refl w3.heap.size w3).alloc (Nat.le_refl _) (.cells #[.int .i64 (tm + 1), .int .i64 (rep.tmod 16 % 16)] 23)))
            have y1 := HXW.out.1
            rw [← HR0.2.2.cell (p := ⟨b0, o0 + k * 4 + 1, none⟩) (by simpa using hb0)] at y1
            have hlt3 : b0 < w3.heap.size := by have := HR0.2.2.size; omega
            clear HR0 hk3 ho3 x0 x1 x2 x3
            go_wp2_with fail
            refine (lawNum2_any 0 _).mono ?_
            rintro e w' ⟨rfl, rfl⟩
            go_wp2
            go_quiet (fail)
            go_wp2_with fail
            refine (time_live b (rep.tmod 16 % 16) (tm + an) _ (HR3.out.1.kept (below_drewN (Below.refl _ _) _))).mono ?_
            rintro e w' ⟨rfl, rfl⟩
            go_wp2
            go_roundw
            case rel => exact ⟨k + 1, tm + an, by omega, by go_num, by go_num, by omega, by omega, HR3.out.kept (below_drewN (Below.refl _ _) _)⟩
            case measure => simp [intOf]; omega
    · obtain rfl : k = l.length := by omega
      go_wp2
      go_ret
      exact ⟨rfl, HR.out.2.2⟩

end Go.Proofs.YtbggbpdkphhhdaaDoor
