/-
  THE ORDER of stamps and items: Compare and Before, the program's and the document's: what they answer, of any numbers; nothing below the call's own memory turns.
  No conditions.
-/
import Derived.Test.YtcenmkcencdlcaaQMem
import Derived.Deep.RegionWith
namespace Go.Proofs.Ytcenmkcencdlcaa
open Go.RowKit

theorem qcell_same {w : World} {a : Addr} {u v : Value} (h : w.cell? a = some u) : (w.setCell a v).cell? a = some v := World.cell?_setCell_same' w a v (by rw [h]; rfl)
theorem qcell_other {w : World} {a b : Addr} {v : Value} (h : a ≠ b) : (w.setCell a v).cell? b = w.cell? b := by
  apply World.cell?_setCell_other
  exact h

/-- how two stamps stand -/
def qcmpS (t r t' r' : Int) : Int := if t = t' then (if r = r' then 0 else if r < r' then -1 else 1) else if t < t' then -1 else 1

set_option maxRecDepth 100000 in
set_option maxHeartbeats 1000000 in
theorem qcompare_any (t r t' r' : Int) (w : World) :
    Calls Try.prog 49 #[.agg #[.int .i64 t, .int .i64 r], .agg #[.int .i64 t', .int .i64 r']] w fun e w' => e = .returned (.int .i64 (qcmpS t r t' r')) ∧ Below w.heap.size w w' := by
  have hb := ((Below.refl w.heap.size w).alloc (Nat.le_refl _) (.cells #[.int .i64 t, .int .i64 r] 32)).alloc (by simp) (.cells #[.int .i64 t', .int .i64 r'] 32)
  have HB := Lib.hid hb
  clear hb
  by_cases h0 : t = t'
  · subst h0
    by_cases h1 : r = r'
    · subst h1
      have HR := Lib.hid (show qcmpS t r t r = 0 from by simp [qcmpS])
      go_enter Try.func49, Try.ntmps49
      go_wp2
      go_ret
      rw [HR.out]
      exact ⟨rfl, HB.out⟩
    · have e1 : ((r == r') : Bool) = false := by simpa using h1
      by_cases h2 : r < r'
      · have HR := Lib.hid (show qcmpS t r t r' = -1 from by simp [qcmpS, h1, h2])
        go_enter Try.func49, Try.ntmps49
        go_wp2
        go_ret
        rw [HR.out]
        exact ⟨rfl, HB.out⟩
      · have d2 : decide (r < r') = false := decide_eq_false h2
        have HR := Lib.hid (show qcmpS t r t r' = 1 from by simp [qcmpS, h1, h2])
        go_enter Try.func49, Try.ntmps49
        go_wp2
        go_ret
        rw [HR.out]
        exact ⟨rfl, HB.out⟩
  · have e1 : ((t == t') : Bool) = false := by simpa using h0
    by_cases h2 : t < t'
    · have HR := Lib.hid (show qcmpS t r t' r' = -1 from by simp [qcmpS, h0, h2])
      go_enter Try.func49, Try.ntmps49
      go_wp2
      go_ret
      rw [HR.out]
      exact ⟨rfl, HB.out⟩
    · have d2 : decide (t < t') = false := decide_eq_false h2
      have HR := Lib.hid (show qcmpS t r t' r' = 1 from by simp [qcmpS, h0, h2])
      go_enter Try.func49, Try.ntmps49
      go_wp2
      go_ret
      rw [HR.out]
      exact ⟨rfl, HB.out⟩

set_option maxRecDepth 100000 in
set_option maxHeartbeats 1000000 in
theorem qrefCompare_any (t r t' r' : Int) (w : World) :
    Calls Try.prog 58 #[.agg #[.int .i64 t, .int .i64 r], .agg #[.int .i64 t', .int .i64 r']] w fun e w' => e = .returned (.int .i64 (qcmpS t r t' r')) ∧ Below w.heap.size w w' := by
  have hb := ((Below.refl w.heap.size w).alloc (Nat.le_refl _) (.cells #[.int .i64 t, .int .i64 r] 32)).alloc (by simp) (.cells #[.int .i64 t', .int .i64 r'] 32)
  have HB := Lib.hid hb
  clear hb
  by_cases h0 : t = t'
  · subst h0
    by_cases h1 : r = r'
    · subst h1
      have HR := Lib.hid (show qcmpS t r t r = 0 from by simp [qcmpS])
      go_enter Try.func58, Try.ntmps58
      go_wp2
      go_ret
      rw [HR.out]
      exact ⟨rfl, HB.out⟩
    · by_cases h2 : r < r'
      · have HR := Lib.hid (show qcmpS t r t r' = -1 from by simp [qcmpS, h1, h2])
        go_enter Try.func58, Try.ntmps58
        go_wp2
        go_ret
        rw [HR.out]
        exact ⟨rfl, HB.out⟩
      · have d2 : decide (r < r') = false := decide_eq_false h2
        have h3 : r' < r := by omega
        have HR := Lib.hid (show qcmpS t r t r' = 1 from by simp [qcmpS, h1, h2])
        go_enter Try.func58, Try.ntmps58
        go_wp2
        go_ret
        rw [HR.out]
        exact ⟨rfl, HB.out⟩
  · have e1 : ((t == t') : Bool) = false := by simpa using h0
    by_cases h2 : t < t'
    · have HR := Lib.hid (show qcmpS t r t' r' = -1 from by simp [qcmpS, h0, h2])
      go_enter Try.func58, Try.ntmps58
      go_wp2
      go_ret
      rw [HR.out]
      exact ⟨rfl, HB.out⟩
    · have d2 : decide (t < t') = false := decide_eq_false h2
      have h3 : t' < t := by omega
      have HR := Lib.hid (show qcmpS t r t' r' = 1 from by simp [qcmpS, h0, h2])
      go_enter Try.func58, Try.ntmps58
      go_wp2
      go_ret
      rw [HR.out]
      exact ⟨rfl, HB.out⟩

/-- how two stamps stand, as a number -/
def cmpV (a b : Qm.St) : Int := qcmpS a.1 a.2 b.1 b.2
theorem cmpV_lt {a b : Qm.St} (h : Qm.ltS a b) : cmpV a b = -1 := by
  obtain ⟨a, x⟩ := a
  obtain ⟨b, y⟩ := b
  unfold Qm.ltS at h
  dsimp only at h
  unfold cmpV qcmpS
  dsimp only
  repeat' split
  all_goals omega
theorem cmpV_gt {a b : Qm.St} (h : Qm.ltS b a) : cmpV a b = 1 := by
  obtain ⟨a, x⟩ := a
  obtain ⟨b, y⟩ := b
  unfold Qm.ltS at h
  dsimp only at h
  unfold cmpV qcmpS
  dsimp only
  repeat' split
  all_goals omega
theorem cmpV_eq (a : Qm.St) : cmpV a a = 0 := by simp [cmpV, qcmpS]

def stV (a : Qm.St) : Value := .agg #[.int .i64 a.1, .int .i64 a.2]
def itV (x : Qm.It) : Value := .agg #[.int .i64 x.1.1, .int .i64 x.1.2, .int .i64 x.2]

end Go.Proofs.Ytcenmkcencdlcaa
