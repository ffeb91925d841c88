/-
  THE ORDER of stamps and items: Compare and Before, the program's and the document's: what they answer, of any numbers; nothing below the call's own memory turns.
  No conditions.
-/
import Derived.Test.YtaplemkmkbjodaaGreatGC
import Derived.Deep.RegionWith
namespace Go.Proofs.YtaplemkmkbjodaaGreat
open Go.RowKit

theorem qcell_same {w : World} {a : Addr} {u v : Value} (h : w.cell? a = some u) : (w.setCell a v).cell? a = some v := World.cell?_setCell_same' w a v (by rw [h]; rfl)
theorem qcell_other {w : World} {a b : Addr} {v : Value} (h : a ≠ b) : (w.setCell a v).cell? b = w.cell? b := by
  apply World.cell?_setCell_other
  exact h

/-- how two stamps stand -/
def qcmpS (t r t' r' : Int) : Int := if t = t' then (if r = r' then 0 else if r < r' then -1 else 1) else if t < t' then -1 else 1

set_option maxRecDepth 100000 in
set_option maxHeartbeats 1000000 in
theorem qcompare_any (t r t' r' : Int) (w : World) :
    Calls Tryz.prog 76 #[.agg #[.int .i64 t, .int .i64 r], .agg #[.int .i64 t', .int .i64 r']] w fun e w' => e = .returned (.int .i64 (qcmpS t r t' r')) ∧ Below w.heap.size w w' := by
  have hb := ((Below.refl w.heap.size w).alloc (Nat.le_refl _) (.cells #[.int .i64 t, .int .i64 r] 50)).alloc (by simp) (.cells #[.int .i64 t', .int .i64 r'] 50)
  have HB := Lib.hid hb
  clear hb
  by_cases h0 : t = t'
  · subst h0
    by_cases h1 : r = r'
    · subst h1
      have HR := Lib.hid (show qcmpS t r t r = 0 from by simp [qcmpS])
      go_enter Tryz.func76, Tryz.ntmps76
      go_wp2
      go_ret
      rw [HR.out]
      exact ⟨rfl, HB.out⟩
    · have e1 : ((r == r') : Bool) = false := by simpa using h1
      by_cases h2 : r < r'
      · have HR := Lib.hid (show qcmpS t r t r' = -1 from by simp [qcmpS, h1, h2])
        go_enter Tryz.func76, Tryz.ntmps76
        go_wp2
        go_ret
        rw [HR.out]
        exact ⟨rfl, HB.out⟩
      · have d2 : decide (r < r') = false := decide_eq_false h2
        have HR := Lib.hid (show qcmpS t r t r' = 1 from by simp [qcmpS, h1, h2])
        go_enter Tryz.func76, Tryz.ntmps76
        go_wp2
        go_ret
        rw [HR.out]
        exact ⟨rfl, HB.out⟩
  · have e1 : ((t == t') : Bool) = false := by simpa using h0
    by_cases h2 : t < t'
    · have HR := Lib.hid (show qcmpS t r t' r' = -1 from by simp [qcmpS, h0, h2])
      go_enter Tryz.func76, Tryz.ntmps76
      go_wp2
      go_ret
      rw [HR.out]
      exact ⟨rfl, HB.out⟩
    · have d2 : decide (t < t') = false := decide_eq_false h2
      have HR := Lib.hid (show qcmpS t r t' r' = 1 from by simp [qcmpS, h0, h2])
      go_enter Tryz.func76, Tryz.ntmps76
      go_wp2
      go_ret
      rw [HR.out]
      exact ⟨rfl, HB.out⟩

set_option maxRecDepth 100000 in
set_option maxHeartbeats 1000000 in
theorem qrefCompare_any (t r t' r' : Int) (w : World) :
    Calls Tryz.prog 93 #[.agg #[.int .i64 t, .int .i64 r], .agg #[.int .i64 t', .int .i64 r']] w fun e w' => e = .returned (.int .i64 (qcmpS t r t' r')) ∧ Below w.heap.size w w' := by
  have hb := ((Below.refl w.heap.size w).alloc (Nat.le_refl _) (.cells #[.int .i64 t, .int .i64 r] 50)).alloc (by simp) (.cells #[.int .i64 t', .int .i64 r'] 50)
  have HB := Lib.hid hb
  clear hb
  by_cases h0 : t = t'
  · subst h0
    by_cases h1 : r = r'
    · subst h1
      have HR := Lib.hid (show qcmpS t r t r = 0 from by simp [qcmpS])
      go_enter Tryz.func93, Tryz.ntmps93
      go_wp2
      go_ret
      rw [HR.out]
      exact ⟨rfl, HB.out⟩
    · by_cases h2 : r < r'
      · have HR := Lib.hid (show qcmpS t r t r' = -1 from by simp [qcmpS, h1, h2])
        go_enter Tryz.func93, Tryz.ntmps93
        go_wp2
        go_ret
        rw [HR.out]
        exact ⟨rfl, HB.out⟩
      · have d2 : decide (r < r') = false := decide_eq_false h2
        have h3 : r' < r := by omega
        have HR := Lib.hid (show qcmpS t r t r' = 1 from by simp [qcmpS, h1, h2])
        go_enter Tryz.func93, Tryz.ntmps93
        go_wp2
        go_ret
        rw [HR.out]
        exact ⟨rfl, HB.out⟩
  · have e1 : ((t == t') : Bool) = false := by simpa using h0
    by_cases h2 : t < t'
    · have HR := Lib.hid (show qcmpS t r t' r' = -1 from by simp [qcmpS, h0, h2])
      go_enter Tryz.func93, Tryz.ntmps93
      go_wp2
      go_ret
      rw [HR.out]
      exact ⟨rfl, HB.out⟩
    · have d2 : decide (t < t') = false := decide_eq_false h2
      have h3 : t' < t := by omega
      have HR := Lib.hid (show qcmpS t r t' r' = 1 from by simp [qcmpS, h0, h2])
      go_enter Tryz.func93, Tryz.ntmps93
      go_wp2
      go_ret
      rw [HR.out]
      exact ⟨rfl, HB.out⟩

/-- how two stamps stand, as a number -/
def cmpV (a b : Qm.St) : Int := qcmpS a.1 a.2 b.1 b.2
theorem cmpV_lt {a b : Qm.St} (h : Qm.ltS a b) : cmpV a b = -1 := by
  obtain ⟨a, x⟩ := a
  obtain ⟨b, y⟩ := b
  unfold Qm.ltS at h
  dsimp only at h
  unfold cmpV qcmpS
  dsimp only
  repeat' split
  all_goals omega
theorem cmpV_gt {a b : Qm.St} (h : Qm.ltS b a) : cmpV a b = 1 := by
  obtain ⟨a, x⟩ := a
  obtain ⟨b, y⟩ := b
  unfold Qm.ltS at h
  dsimp only at h
  unfold cmpV qcmpS
  dsimp only
  repeat' split
  all_goals omega
theorem cmpV_eq (a : Qm.St) : cmpV a a = 0 := by simp [cmpV, qcmpS]

def stV (a : Qm.St) : Value := .agg #[.int .i64 a.1, .int .i64 a.2]
def itV (x : Qm.It) : Value := .agg #[.int .i64 x.1.1, .int .i64 x.1.2, .int .i64 x.2]

set_option maxRecDepth 100000 in
set_option maxHeartbeats 1000000 in
theorem before_any (t r g t' r' g' : Int) (w : World) :
    Calls Tryz.prog 146 #[.agg #[.int .i64 t, .int .i64 r, .int .i64 g], .agg #[.int .i64 t', .int .i64 r', .int .i64 g']] w fun e w' => e = .returned (.bool (decide (Qm.ltI ((t, r), g) ((t', r'), g')))) ∧ Below w.heap.size w w' := by
  have hb := ((Below.refl w.heap.size w).alloc (Nat.le_refl _) (.cells #[.int .i64 t, .int .i64 r, .int .i64 g] 115)).alloc (by simp) (.cells #[.int .i64 t', .int .i64 r', .int .i64 g'] 115)
  have HB := Lib.hid hb
  clear hb
  have HC := Lib.hid (fun W => qcompare_any t r t' r' W)
  rcases Qm.ltS_tri (t, r) (t', r') with h | h | h
  · have e : qcmpS t r t' r' = -1 := cmpV_lt h
    have HR := Lib.hid (show decide (Qm.ltI ((t, r), g) ((t', r'), g')) = true from decide_eq_true (Or.inl h))
    rw [e] at HC
    clear h e
    go_enter Tryz.func146, Tryz.ntmps146
    go_wp2_with fail
    refine (HC.out _).mono ?_
    rintro e w1 ⟨rfl, hb1⟩
    have HB1 := Lib.hid (HB.out.trans (hb1.mono (by simp; omega)))
    clear hb1
    go_wp2_with fail
    go_ret
    rw [HR.out]
    exact ⟨rfl, HB1.out⟩
  · obtain ⟨rfl, rfl⟩ := Prod.mk.inj h
    have e : qcmpS t r t r = 0 := cmpV_eq (t, r)
    rw [e] at HC
    clear h e
    by_cases hg : g < g'
    · have HR := Lib.hid (show decide (Qm.ltI ((t, r), g) ((t, r), g')) = true from decide_eq_true (Or.inr ⟨rfl, hg⟩))
      go_enter Tryz.func146, Tryz.ntmps146
      go_wp2_with fail
      refine (HC.out _).mono ?_
      rintro e w1 ⟨rfl, hb1⟩
      have HB1 := Lib.hid (HB.out.trans (hb1.mono (by simp; omega)))
      have hc := fun (o : Nat) => hb1.cell (p := ⟨w.heap.size, o, none⟩) (by simp; omega)
      have hd := fun (o : Nat) => hb1.cell (p := ⟨w.heap.size + 1, o, none⟩) (by simp)
      have c2 := hc 2
      have d2 := hd 2
      clear hb1 hc hd
      go_wp2_with fail
      go_ret
      rw [HR.out]
      exact ⟨rfl, HB1.out⟩
    · have HR := Lib.hid (show decide (Qm.ltI ((t, r), g) ((t, r), g')) = false from decide_eq_false (fun h => h.elim (fun k => Qm.ltS_irrefl _ k) (fun k => hg k.2)))
      have dg : decide (g < g') = false := decide_eq_false hg
      go_enter Tryz.func146, Tryz.ntmps146
      go_wp2_with fail
      refine (HC.out _).mono ?_
      rintro e w1 ⟨rfl, hb1⟩
      have HB1 := Lib.hid (HB.out.trans (hb1.mono (by simp; omega)))
      have hc := fun (o : Nat) => hb1.cell (p := ⟨w.heap.size, o, none⟩) (by simp; omega)
      have hd := fun (o : Nat) => hb1.cell (p := ⟨w.heap.size + 1, o, none⟩) (by simp)
      have c2 := hc 2
      have d2 := hd 2
      clear hb1 hc hd
      go_wp2_with fail
      go_ret
      rw [HR.out]
      exact ⟨rfl, HB1.out⟩
  · have e : qcmpS t r t' r' = 1 := cmpV_gt h
    have HR := Lib.hid (show decide (Qm.ltI ((t, r), g) ((t', r'), g')) = false from decide_eq_false (fun k => k.elim (fun k => Qm.ltS_asymm h k) (fun k => by have h2 : (t, r) = (t', r') := k.1; rw [h2] at h; exact Qm.ltS_irrefl _ h)))
    rw [e] at HC
    clear h e
    go_enter Tryz.func146, Tryz.ntmps146
    go_wp2_with fail
    refine (HC.out _).mono ?_
    rintro e w1 ⟨rfl, hb1⟩
    have HB1 := Lib.hid (HB.out.trans (hb1.mono (by simp; omega)))
    clear hb1
    go_wp2_with fail
    go_ret
    rw [HR.out]
    exact ⟨rfl, HB1.out⟩

end Go.Proofs.YtaplemkmkbjodaaGreat
