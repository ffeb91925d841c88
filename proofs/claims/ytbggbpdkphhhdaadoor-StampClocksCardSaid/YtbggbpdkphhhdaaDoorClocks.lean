/-
  STAMPCLOCKS: the walk: two clocks, by turns, each as the document's.
  No conditions.
-/
import Derived.Test.YtbggbpdkphhhdaaDoorStep
namespace Go.Proofs.YtbggbpdkphhhdaaDoor
open Go.RowKit

theorem step_any (bc br : Nat) (rep tm : Int) (a : ActD) (w : World) (h : Pair w bc br rep tm) :
    Calls Tryd.prog 35 #[.pointer (some ⟨bc, 0, none⟩), .pointer (some ⟨br, 0, none⟩), .agg #[.int .i64 a.kind, .int .i64 a.n, .int .i64 a.t, .int .i64 a.r]] w (Stepped bc br rep w) := by
  obtain ⟨k, n, t, r⟩ := a
  by_cases hk : k = 0
  · subst hk; exact step_next bc br rep tm n t r w h
  · exact step_see bc br rep tm k n t r w h hk

theorem Pair.kept {w w' : World} {bc br : Nat} {rep tm : Int} (h : Pair w bc br rep tm) (hb : Below w.heap.size w w') : Pair w' bc br rep tm :=
  ⟨h.1.kept hb, h.2.1.kept hb, h.2.2.1, h.2.2.2.1, h.2.2.2.2⟩
theorem Pair.only2 {w w' : World} {bc br x y : Nat} {rep tm : Int} (h : Pair w bc br rep tm) (ho : Only2 x y w w') (h1 : bc ≠ x) (h2 : bc ≠ y) (h3 : br ≠ x) (h4 : br ≠ y) : Pair w' bc br rep tm :=
  ⟨h.1.only2 ho h1 h2, h.2.1.only2 ho h3 h4, h.2.2.1, h.2.2.2.1, h.2.2.2.2⟩

/-- both pairs of clocks, apart; all that was there stays -/
def Both (w0 : World) (bc br bd bq : Nat) (rep : Int) (w : World) : Prop :=
  (∃ tm, Pair w bc br rep tm) ∧ (∃ tm, Pair w bd bq 1 tm) ∧ (bc ≠ bd ∧ bc ≠ bq ∧ br ≠ bd ∧ br ≠ bq) ∧ (w0.heap.size ≤ bc ∧ w0.heap.size ≤ br ∧ w0.heap.size ≤ bd ∧ w0.heap.size ≤ bq) ∧ Below w0.heap.size w0 w
theorem Both.kept {w0 w w' : World} {bc br bd bq : Nat} {rep : Int} (h : Both w0 bc br bd bq rep w) (hb : Below w.heap.size w w') : Both w0 bc br bd bq rep w' := by
  obtain ⟨⟨t1, h1⟩, ⟨t2, h2⟩, h3, h4, h5⟩ := h
  exact ⟨⟨t1, h1.kept hb⟩, ⟨t2, h2.kept hb⟩, h3, h4, h5.trans (hb.mono h5.size)⟩
theorem Both.one {w0 w w' : World} {bc br bd bq : Nat} {rep : Int} (h : Both w0 bc br bd bq rep w) (hp : ∃ tm, Pair w' bc br rep tm) (ho : Only2 bc br w w') : Both w0 bc br bd bq rep w' := by
  obtain ⟨-, ⟨t2, h2⟩, ⟨a, b, c, d⟩, ⟨e, f, g, i⟩, h5⟩ := h
  exact ⟨hp, ⟨t2, h2.only2 ho (Ne.symm a) (Ne.symm c) (Ne.symm b) (Ne.symm d)⟩, ⟨a, b, c, d⟩, ⟨e, f, g, i⟩, ho.below h5 e f h5.size⟩
theorem Both.two {w0 w w' : World} {bc br bd bq : Nat} {rep : Int} (h : Both w0 bc br bd bq rep w) (hp : ∃ tm, Pair w' bd bq 1 tm) (ho : Only2 bd bq w w') : Both w0 bc br bd bq rep w' := by
  obtain ⟨⟨t1, h1⟩, -, ⟨a, b, c, d⟩, ⟨e, f, g, i⟩, h5⟩ := h
  exact ⟨⟨t1, h1.only2 ho a b c d⟩, hp, ⟨a, b, c, d⟩, ⟨e, f, g, i⟩, ho.below h5 g i h5.size⟩

/-- act k of a list that was there, in a later world -/
theorem Acts.later {w w' : World} {b o : Nat} {l : List ActD} (h : Acts w (some ⟨b, o, none⟩) l) (hb : Below w.heap.size w w') (k : Nat) (hk : k < l.length) :
    w'.cell? ⟨b, o + k * 4, none⟩ = some (.int .i64 (actAt l k).kind) ∧ w'.cell? ⟨b, o + k * 4 + 1, none⟩ = some (.int .i64 (actAt l k).n) ∧
    w'.cell? ⟨b, o + k * 4 + 2, none⟩ = some (.int .i64 (actAt l k).t) ∧ w'.cell? ⟨b, o + k * 4 + 3, none⟩ = some (.int .i64 (actAt l k).r) := (h.kept hb).cells k hk

set_option maxRecDepth 100000 in
set_option maxHeartbeats 20000000 in
theorem stampClocks_yes (rep tm : Int) (p1 p2 : Option Addr) (c1 c2 : Nat) (l1 l2 : List ActD) (w : World) (hR : rightB tm rep = true) (h1 : Acts w p1 l1) (h2 : Acts w p2 l2) (hl1 : l1.length ≤ 17592186043904) (hl2 : l2.length ≤ 17592186043904) :
    Calls Tryd.prog 4 #[.int .i64 rep, .int .i64 tm, .slice p1 l1.length c1, .slice p2 l2.length c2] w fun e w' => e = .returned (.bool true) ∧ Below w.heap.size w w' := by
  obtain ⟨r0, r1, r2, r3⟩ := rightB_yes hR
  have HR := Lib.hid hR
  have H1 := Lib.hid h1
  have H2 := Lib.hid h2
  clear hR h1 h2
  go_enter Tryd.func4, Tryd.ntmps4
  go_wp2_with fail
  refine (new_yes rep tm _ HR.out).mono ?_
  rintro e w1 ⟨bc, rfl, hk1, hB1, hb1⟩
  have HC1 := Lib.hid hk1
  have hbc : bc < w1.heap.size := hk1.lt
  have HB1 := Lib.hid hb1
  have hs1 := hb1.size
  clear hk1 hb1
  go_wp2_with fail
  refine (new_yes 1 0 _ (by decide)).mono ?_
  rintro e w2 ⟨bd, rfl, hk2, hB2, hb2⟩
  have HC2 := Lib.hid (HC1.out.kept hb2)
  have HD2 := Lib.hid hk2
  have hbd : bd < w2.heap.size := hk2.lt
  have HB2 := Lib.hid (HB1.out.trans (hb2.mono hs1))
  have hs2 := hb2.size
  clear hk2 hb2 HC1
  go_wp2_with fail
  refine (refNew_yes rep tm _ HR.out).mono ?_
  rintro e w3 ⟨br, rfl, hk3, hB3, hb3⟩
  have HC3 := Lib.hid (HC2.out.kept hb3)
  have HD3 := Lib.hid (HD2.out.kept hb3)
  have HR3 := Lib.hid hk3
  have hbr : br < w3.heap.size := hk3.lt
  have HB3 := Lib.hid (HB2.out.trans (hb3.mono (by omega)))
  have hs3 := hb3.size
  clear hk3 hb3 HC2 HD2
  go_wp2_with fail
  refine (refNew_yes 1 0 _ (by decide)).mono ?_
  rintro e w4 ⟨bq, rfl, hk4, hB4, hb4⟩
  have HBo := Lib.hid (show Both w bc br bd bq rep w4 from ⟨⟨tm, HC3.out.kept hb4, HR3.out.kept hb4, by omega, r0, r1⟩, ⟨0, HD3.out.kept hb4, hk4, by omega, by omega, by omega⟩, ⟨by omega, by omega, by omega, by omega⟩, ⟨by omega, by omega, by omega, by omega⟩, HB3.out.trans (hb4.mono (by omega))⟩)
  clear hk4 hb4 HC3 HD3 HR3 HB3 HB2 HB1 hs1 hs2 hs3 hB1 hB2 hB3 hB4 hbc hbd hbr r0 r1 r2 r3
  go_wp2_with fail
  refine (lawNum2_any 0 _).mono ?_
  rintro e w' ⟨rfl, rfl⟩
  go_wp2_with fail
  refine (lawNum2_any 0 _).mono ?_
  rintro e w' ⟨rfl, rfl⟩
  go_wp2_with fail
  refine (knows2_any _).mono ?_
  rintro e w5 ⟨rfl, hb5⟩
  have HBo5 := Lib.hid (HBo.out.kept hb5)
  clear hb5 HBo
  go_wp2
  go_loopw [15] (fun i wr => ∃ k : Nat, k ≤ 17592186043904 ∧ i = .int .i64 k ∧ Both w bc br bd bq rep wr) (fun i _ => l1.length + l2.length - (intOf i).toNat)
  case atStart => exact ⟨0, by omega, rfl, HBo5.out⟩
  case round =>
    obtain ⟨k, hk, rfl, hbo⟩ := hrel
    have HB := Lib.hid hbo
    clear hbo HBo5
    by_cases hk1 : k < l1.length
    · obtain ⟨b1, o1, rfl, -⟩ := H1.out (by omega)
      obtain ⟨⟨t1, hp1⟩, -⟩ := HB.out
      obtain ⟨x0, x1, x2, x3⟩ := H1.out.later HB.out.2.2.2.2 k hk1
      have HS := Lib.hid (step_any bc br rep t1 (actAt l1 k) _ hp1)
      clear hp1
      generalize actAt l1 k = a at *
      obtain ⟨ak, an, at', ar⟩ := a
      dsimp only at *
      by_cases hk2 : k < l2.length
      · obtain ⟨b2, o2, rfl, -⟩ := H2.out (by omega)
        go_wp2_with fail
        refine HS.out.mono ?_
        rintro e w6 ⟨rfl, hp6, ho6⟩
        have HB6 := Lib.hid (HB.out.one hp6 ho6)
        obtain ⟨-, ⟨t2, hp2⟩, -⟩ := HB6.out
        clear x0 x1 x2 x3 hp6 ho6
        obtain ⟨x0, x1, x2, x3⟩ := H2.out.later HB6.out.2.2.2.2 k hk2
        have HS2 := Lib.hid (step_any bd bq 1 t2 (actAt l2 k) _ hp2)
        clear hp2
        generalize actAt l2 k = a2 at *
        obtain ⟨ak2, an2, at2, ar2⟩ := a2
        dsimp only at *
        go_wp2_with fail
        refine HS2.out.mono ?_
        rintro e w7 ⟨rfl, hp7, ho7⟩
        have HB7 := Lib.hid (HB6.out.two hp7 ho7)
        clear x0 x1 x2 x3 hp7 ho7
        go_wp2
        go_roundw
        case rel => exact ⟨k + 1, by omega, by go_num, HB7.out⟩
        case measure => simp [intOf]; omega
      · go_wp2_with fail
        refine HS.out.mono ?_
        rintro e w6 ⟨rfl, hp6, ho6⟩
        have HB6 := Lib.hid (HB.out.one hp6 ho6)
        clear x0 x1 x2 x3 hp6 ho6
        go_wp2
        go_roundw
        case rel => exact ⟨k + 1, by omega, by go_num, HB6.out⟩
        case measure => simp [intOf]; omega
    · by_cases hk2 : k < l2.length
      · obtain ⟨b2, o2, rfl, -⟩ := H2.out (by omega)
        obtain ⟨-, ⟨t2, hp2⟩, -⟩ := HB.out
        obtain ⟨x0, x1, x2, x3⟩ := H2.out.later HB.out.2.2.2.2 k hk2
        have HS2 := Lib.hid (step_any bd bq 1 t2 (actAt l2 k) _ hp2)
        clear hp2
        generalize actAt l2 k = a2 at *
        obtain ⟨ak2, an2, at2, ar2⟩ := a2
        dsimp only at *
        go_wp2_with fail
        refine HS2.out.mono ?_
        rintro e w7 ⟨rfl, hp7, ho7⟩
        have HB7 := Lib.hid (HB.out.two hp7 ho7)
        clear x0 x1 x2 x3 hp7 ho7
        go_wp2
        go_roundw
        case rel => exact ⟨k + 1, by omega, by go_num, HB7.out⟩
        case measure => simp [intOf]; omega
      · go_wp2
        go_ret
        exact ⟨rfl, HB.out.2.2.2.2⟩

/-- one pair of clocks; all that was there stays -/
def Alone (w0 : World) (bd bq : Nat) (w : World) : Prop := (∃ tm, Pair w bd bq 1 tm) ∧ (w0.heap.size ≤ bd ∧ w0.heap.size ≤ bq) ∧ Below w0.heap.size w0 w
theorem Alone.kept {w0 w w' : World} {bd bq : Nat} (h : Alone w0 bd bq w) (hb : Below w.heap.size w w') : Alone w0 bd bq w' := by
  obtain ⟨⟨t2, h2⟩, h4, h5⟩ := h
  exact ⟨⟨t2, h2.kept hb⟩, h4, h5.trans (hb.mono h5.size)⟩
theorem Alone.two {w0 w w' : World} {bd bq : Nat} (h : Alone w0 bd bq w) (hp : ∃ tm, Pair w' bd bq 1 tm) (ho : Only2 bd bq w w') : Alone w0 bd bq w' := by
  obtain ⟨-, ⟨g, i⟩, h5⟩ := h
  exact ⟨hp, ⟨g, i⟩, ho.below h5 g i h5.size⟩

set_option maxRecDepth 100000 in
set_option maxHeartbeats 20000000 in
theorem stampClocks_no (rep tm : Int) (p1 p2 : Option Addr) (c1 c2 : Nat) (l1 l2 : List ActD) (w : World) (hR : rightB tm rep = false) (h2 : Acts w p2 l2) (hl1 : l1.length ≤ 17592186043904) (hl2 : l2.length ≤ 17592186043904) :
    Calls Tryd.prog 4 #[.int .i64 rep, .int .i64 tm, .slice p1 l1.length c1, .slice p2 l2.length c2] w fun e w' => e = .returned (.bool true) ∧ Below w.heap.size w w' := by
  have HR := Lib.hid hR
  have H2 := Lib.hid h2
  clear hR h2
  go_enter Tryd.func4, Tryd.ntmps4
  go_wp2_with fail
  refine (new_no rep tm _ HR.out).mono ?_
  rintro e w1 ⟨rfl, hb1⟩
  have HB1 := Lib.hid hb1
  have hs1 := hb1.size
  clear hb1
  go_wp2_with fail
  refine (new_yes 1 0 _ (by decide)).mono ?_
  rintro e w2 ⟨bd, rfl, hk2, hB2, hb2⟩
  have HD2 := Lib.hid hk2
  have hbd : bd < w2.heap.size := hk2.lt
  have HB2 := Lib.hid (HB1.out.trans (hb2.mono hs1))
  have hs2 := hb2.size
  clear hk2 hb2
  go_wp2_with fail
  refine (refNew_no rep tm _ HR.out).mono ?_
  rintro e w3 ⟨rfl, hb3⟩
  have HD3 := Lib.hid (HD2.out.kept hb3)
  have HB3 := Lib.hid (HB2.out.trans (hb3.mono (by omega)))
  have hs3 := hb3.size
  clear hb3 HD2
  go_wp2_with fail
  refine (refNew_yes 1 0 _ (by decide)).mono ?_
  rintro e w4 ⟨bq, rfl, hk4, hB4, hb4⟩
  have HBo := Lib.hid (show Alone w bd bq w4 from ⟨⟨0, HD3.out.kept hb4, hk4, by omega, by omega, by omega⟩, ⟨by omega, by omega⟩, HB3.out.trans (hb4.mono (by omega))⟩)
  clear hk4 hb4 HD3 HB3 HB2 HB1 hs1 hs2 hs3 hB2 hB4 hbd
  go_wp2_with fail
  refine (lawNum2_any 1 _).mono ?_
  rintro e w' ⟨rfl, rfl⟩
  go_wp2_with fail
  refine (lawNum2_any 1 _).mono ?_
  rintro e w' ⟨rfl, rfl⟩
  go_wp2_with fail
  refine (lawNum2_any 0 _).mono ?_
  rintro e w' ⟨rfl, rfl⟩
  go_wp2_with fail
  refine (knows2_any _).mono ?_
  rintro e w5 ⟨rfl, hb5⟩
  have HBo5 := Lib.hid (HBo.out.kept hb5)
  clear hb5 HBo
  go_wp2
  go_loopw [15] (fun i wr => ∃ k : Nat, k ≤ 17592186043904 ∧ i = .int .i64 k ∧ Alone w bd bq wr) (fun i _ => l1.length + l2.length - (intOf i).toNat)
  case atStart => exact ⟨0, by omega, rfl, HBo5.out⟩
  case round =>
    obtain ⟨k, hk, rfl, hbo⟩ := hrel
    have HB := Lib.hid hbo
    clear hbo HBo5
    by_cases hk1 : k < l1.length
    all_goals
      by_cases hk2 : k < l2.length
      · obtain ⟨b2, o2, rfl, -⟩ := H2.out (by omega)
        obtain ⟨⟨t2, hp2⟩, -⟩ := HB.out
        obtain ⟨x0, x1, x2, x3⟩ := H2.out.later HB.out.2.2 k hk2
        have HS2 := Lib.hid (step_any bd bq 1 t2 (actAt l2 k) _ hp2)
        clear hp2
        generalize actAt l2 k = a2 at *
        obtain ⟨ak2, an2, at2, ar2⟩ := a2
        dsimp only at *
        go_wp2_with fail
        refine HS2.out.mono ?_
        rintro e w7 ⟨rfl, hp7, ho7⟩
        have HB7 := Lib.hid (HB.out.two hp7 ho7)
        clear x0 x1 x2 x3 hp7 ho7
        go_wp2
        go_roundw
        case rel => exact ⟨k + 1, by omega, by go_num, HB7.out⟩
        case measure => simp [intOf]; omega
      · go_wp2
        first
          | (go_roundw
             case rel => exact ⟨k + 1, by omega, by go_num, HB.out⟩
             case measure => simp [intOf]; omega)
          | (go_ret
             exact ⟨rfl, HB.out.2.2⟩)

theorem stampClocks_walk (rep tm : Int) (p1 : Option Addr) (c1 : Nat) (l1 : List ActD) (p2 : Option Addr) (c2 : Nat) (l2 : List ActD) (w : World) (_ : (Lit.int .i64 rep).wf = true) (_ : (Lit.int .i64 tm).wf = true)
    (h1 : Acts w p1 l1) (_ : l1.length ≤ c1) (_ : p1 = none → c1 = 0) (hl1 : l1.length ≤ 17592186043904) (h2 : Acts w p2 l2) (_ : l2.length ≤ c2) (_ : p2 = none → c2 = 0) (hl2 : l2.length ≤ 17592186043904) :
    Calls Tryd.prog 4 #[.int .i64 rep, .int .i64 tm, .slice p1 l1.length c1, .slice p2 l2.length c2] w fun e w' => e = .returned (.bool true) ∧ Below w.heap.size w w' := by
  cases hR : rightB tm rep with
  | true => exact stampClocks_yes rep tm p1 p2 c1 c2 l1 l2 w hR h1 h2 hl1 hl2
  | false => exact stampClocks_no rep tm p1 p2 c1 c2 l1 l2 w hR h2 hl1 hl2

end Go.Proofs.YtbggbpdkphhhdaaDoor
