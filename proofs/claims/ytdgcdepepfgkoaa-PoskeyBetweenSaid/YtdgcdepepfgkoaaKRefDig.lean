/-
  THE DOCUMENT's digits: digit, carry, first (the least number of so many bytes above a key).
  No conditions but sizes.
-/
import Derived.Test.YtdgcdepepfgkoaaKEnds
import Derived.Deep.OwnRows
import Derived.Laws.MakeOwn
namespace Go.Proofs.Ytdgcdepepfgkoaa
open Go.RowKit

set_option maxHeartbeats 1000000 in
theorem digit_any (a : ByteArray) (k : Nat) (w : World) (_ : a.size ≤ 140737488355328) (_ : k ≤ 140737488355328) : Calls Try.prog 35 #[.string a, .int .i64 k] w fun e w' => e = .returned (.int .i64 (Km.dg a.data.toList k : Nat)) ∧ w = w' := by
  by_cases h : k < a.size
  · have hx := (dg_at a k h).symm
    have hlt := Km.dg_lt a.data.toList k
    generalize Km.dg a.data.toList k = x at *
    have h0 : (0 : Int) ≤ (k : Int) := by omega
    have h1 : (0 : Int) ≤ (x : Int) := by omega
    have h2 : (x : Int) ≤ 255 := by omega
    clear hlt
    go_enter Try.func35, Try.ntmps35
    go_wp2
    go_ret
    exact ⟨rfl, rfl⟩
  · have HD := Lib.hid (Km.dg_end a.data.toList k (by rw [size_list]; omega))
    go_enter Try.func35, Try.ntmps35
    go_wp2
    go_ret
    exact ⟨by rw [HD.out]; rfl, rfl⟩

/-- a row of digits -/
def dgs (f : Nat → Nat) : Nat → Value := fun i => .int .i64 (f i : Nat)
/-- the greatest place ahead of n whose digit may be raised -/
def topF (f : Nat → Nat) : Nat → Option Nat
  | 0 => none
  | n + 1 => if f n < 255 then some n else topF f n
/-- the digits with one more at place j -/
def carD (f : Nat → Nat) (j k : Nat) : Nat := if k < j then f k else if k = j then f j + 1 else 0

theorem topF_some {f : Nat → Nat} : ∀ {n j : Nat}, topF f n = some j → j < n ∧ f j < 255 ∧ ∀ k, j < k → k < n → ¬ f k < 255
  | 0, j, h => by cases h
  | n + 1, j, h => by
    unfold topF at h
    split at h
    · next hf => cases h; exact ⟨by omega, hf, fun k h1 h2 => by omega⟩
    · next hf =>
      obtain ⟨h1, h2, h3⟩ := topF_some h
      exact ⟨by omega, h2, fun k h4 h5 => by
        by_cases e : k = n
        · subst e; exact hf
        · exact h3 k h4 (by omega)⟩
theorem topF_none {f : Nat → Nat} : ∀ {n : Nat}, topF f n = none → ∀ k, k < n → ¬ f k < 255
  | 0, _, k, hk => by omega
  | n + 1, h, k, hk => by
    unfold topF at h
    split at h
    · cases h
    · next hf =>
      by_cases e : k = n
      · subst e; exact hf
      · exact topF_none h k (by omega)

/-- what carry answers: from block B on all may have changed -/
def Carried (B g n : Nat) (f : Nat → Nat) (w : World) (e : Ending) (w' : World) : Prop :=
  Below B w w' ∧ w.heap.size ≤ w'.heap.size ∧ ((topF f n = none ∧ e = .returned (.bool false)) ∨ ∃ j, topF f n = some j ∧ e = .returned (.bool true) ∧ w'.rowIs g 3 n (dgs (carD f j)))

/-- so far all places from m on were full -/
theorem topF_down {f : Nat → Nat} : ∀ {n m : Nat}, m ≤ n → (∀ k, m ≤ k → k < n → ¬ f k < 255) → topF f n = topF f m
  | 0, m, h, _ => by obtain rfl : m = 0 := by omega
                     rfl
  | n + 1, m, h, hk => by
    by_cases e : m = n + 1
    · subst e; rfl
    · rw [topF, if_neg (hk n (by omega) (by omega))]
      exact topF_down (by omega) fun k h1 h2 => hk k h1 (by omega)
/-- the row while carry goes down -/
def downD (f : Nat → Nat) (m k : Nat) : Nat := if k < m then f k else 0

set_option maxRecDepth 100000 in
set_option maxHeartbeats 2000000 in
theorem carry_any (B g n : Nat) (f : Nat → Nat) (w : World) (hB : B ≤ g) (hn : n ≤ 24) (hf : ∀ k, k < n → f k ≤ 255) (h : w.rowIs g 3 n (dgs f)) :
    Calls Try.prog 36 #[.slice (some ⟨g, 0, none⟩) n n] w (Carried B g n f w) := by
  have HR := Lib.hid (h.congr (g := dgs (downD f n)) fun i hi => by simp [dgs, downD, hi])
  clear h
  go_enter Try.func36, Try.ntmps36
  go_wp2
  go_loopw [3] (fun i wr => ∃ (m : Nat) (z : Int), m ≤ n ∧ Hid (z = (m : Int) - 1) ∧ i = .int .i64 z ∧ Hid (∀ k, m ≤ k → k < n → ¬ f k < 255) ∧ wr.rowIs g 3 n (dgs (downD f m)) ∧ Below B w wr ∧ w.heap.size ≤ wr.heap.size) (fun i _ => (intOf i + 1).toNat)
  case atStart => exact ⟨n, _, Nat.le_refl _, Lib.hid rfl, rfl, Lib.hid (fun k h1 h2 => by omega), HR.out, Below.refl _ _, Nat.le_refl _⟩
  case round =>
    obtain ⟨m, z, hm, HZ, rfl, HF, hrow, hb, hs⟩ := hrel
    have HB0 := Lib.hid hb
    have HS0 := Lib.hid hs
    have HROW := Lib.hid hrow
    clear hb hs
    rcases Nat.eq_zero_or_pos m with rfl | hpos
    · obtain rfl : z = -1 := by have := HZ.out; omega
      clear HZ
      have HT := Lib.hid (show topF f n = none from topF_down (Nat.zero_le n) HF.out)
      go_wp2
      go_ret
      exact ⟨HB0.out, HS0.out, Or.inl ⟨HT.out, rfl⟩⟩
    · obtain ⟨p, rfl⟩ : ∃ p, m = p + 1 := ⟨m - 1, by omega⟩
      obtain rfl : z = (p : Int) := by have := HZ.out; omega
      clear HZ
      have hp : p < n := by omega
      have hc := hrow.cell hp
      have hfz := hrow.frozen p
      have e1 : dgs (downD f (p + 1)) p = .int .i64 (f p : Nat) := by simp [dgs, downD]
      rw [e1] at hc
      have hx := hf p hp
      have HX := Lib.hid (show f p = f p from rfl)
      generalize hxe : f p = x at hc hx HX
      have HXE := Lib.hid hxe
      clear hxe hrow e1 HX
      have g0 : (0 : Int) ≤ (p : Int) := by omega
      have g1 : (p : Int) < (n : Int) := by omega
      have g2 : (0 : Int) ≤ (x : Int) := by omega
      have g3 : (x : Int) ≤ 255 := by omega
      by_cases h255 : x < 255
      · have HT := Lib.hid (show topF f n = some p from (topF_down hm HF.out).trans (by rw [topF, HXE.out, if_pos h255]))
        have HN := Lib.hid ((HROW.out.set p (.int .i64 ((x : Int) + 1))).congr (g := dgs (carD f p)) fun j hj => by
          by_cases e : j = p
          · subst e; simp [dgs, carD, HXE.out]
          · by_cases e2 : j < p
            · simp [dgs, carD, downD, e, e2, show j < p + 1 from by omega]
            · simp [dgs, carD, downD, e, e2, show ¬ j < p + 1 from by omega])
        have HB1 := Lib.hid (HB0.out.setCell (p := ⟨g, p, none⟩) (by simpa using hB) (.int .i64 ((x : Int) + 1)))
        go_wp2
        go_ret
        exact ⟨HB1.out, by simpa using HS0.out, Or.inr ⟨p, HT.out, rfl, HN.out⟩⟩
      · have HF2 := Lib.hid (show ∀ k, p ≤ k → k < n → ¬ f k < 255 from fun k h1 h2 => by
          by_cases e : k = p
          · subst e; rw [HXE.out]; exact h255
          · exact HF.out k (by omega) h2)
        have HN := Lib.hid ((HROW.out.set p (.int .i64 0)).congr (g := dgs (downD f p)) fun j hj => by
          by_cases e : j = p
          · subst e; simp [dgs, downD]
          · by_cases e2 : j < p
            · simp [dgs, downD, e, e2, show j < p + 1 from by omega]
            · simp [dgs, downD, e, e2, show ¬ j < p + 1 from by omega])
        have HB1 := Lib.hid (HB0.out.setCell (p := ⟨g, p, none⟩) (by simpa using hB) (.int .i64 0))
        go_wp2
        go_roundw
        case rel => exact ⟨p, _, by omega, Lib.hid rfl, rfl, HF2, HN.out, HB1.out, by simpa using HS0.out⟩
        case measure => simp [intOf]

end Go.Proofs.Ytdgcdepepfgkoaa
