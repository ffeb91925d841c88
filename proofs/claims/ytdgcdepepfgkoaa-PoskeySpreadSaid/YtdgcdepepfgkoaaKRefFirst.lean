/-
  THE DOCUMENT's first: the least number of so many bytes above a key.
  No conditions but sizes.
-/
import Derived.Test.YtdgcdepepfgkoaaKRefDig
namespace Go.Proofs.Ytdgcdepepfgkoaa
open Go.RowKit

/-- what first answers -/
def First (a : List UInt8) (n : Nat) (w : World) (e : Ending) (w' : World) : Prop :=
  Below w.heap.size w w' ∧ ((topF (Km.dg a) n = none ∧ e = .returned (.slice none 0 0)) ∨ ∃ j g, topF (Km.dg a) n = some j ∧ e = .returned (.slice (some ⟨g, 0, none⟩) n n) ∧ w.heap.size ≤ g ∧ w'.rowIs g 3 n (dgs (carD (Km.dg a) j)))

/-- the row while it is filled -/
def upD (f : Nat → Nat) (m k : Nat) : Nat := if k < m then f k else 0

theorem info_int : (Try.prog.info? 3).map (fun i => (i.zero, i.size, i.bytes)) = some (some (.int .i64 0), 1, 8) := by kernel_rfl
theorem make_ints (n : Nat) (hn : n ≤ 24) (w : World) : (Instr.makeSlice 44 (.int .i64 (n : Int)) (.int .i64 (n : Int))).run Try.prog w = .ok (.slice (some ⟨w.heap.size, 0, none⟩) n n) (w.alloc (.cells (madeCells #[.int .i64 0] n) 3)) := by
  obtain ⟨i0, hi, hz0, hz1, hz2⟩ := info_parts info_int
  have h := run_make (P := Try.prog) w 44 3 i0 (.int .i64 0) Try.underlying44 hi hz0 .i64 .i64 (n : Int) (n : Int) (by omega) (Int.le_refl _) (by rw [hz2]; omega) (by omega)
  rw [hz1, Int.toNat_natCast, Nat.mul_one] at h
  exact h

set_option maxRecDepth 100000 in
set_option maxHeartbeats 2000000 in
theorem first_any (a : ByteArray) (n : Nat) (w : World) (ha : a.size ≤ 140737488355328) (hn : n ≤ 24) :
    Calls Try.prog 23 #[.string a, .int .i64 n] w (First a.data.toList n w) := by
  have hmk := make_ints n hn
  have HM := Lib.hid (World.rowIs_made w (.int .i64 0) n 3)
  have HB := Lib.hid ((Below.refl w.heap.size w).alloc (Nat.le_refl _) (.cells (madeCells #[.int .i64 0] n) 3))
  have HD := Lib.hid (fun k w hk => digit_any a k w ha hk)
  go_enter Try.func23, Try.ntmps23
  go_wp2
  clear hmk
  go_loopw [6] (fun i wr => ∃ k : Nat, k ≤ n ∧ i = .int .i64 k ∧ wr.rowIs w.heap.size 3 n (dgs (upD (Km.dg a.data.toList) k)) ∧ Below w.heap.size w wr) (fun i _ => n - (intOf i).toNat)
  case atStart => exact ⟨0, Nat.zero_le _, rfl, HM.out.congr fun i hi => by simp [dgs, upD], HB.out⟩
  case round =>
    obtain ⟨k, hk, rfl, hrow, hb⟩ := hrel
    have HB0 := Lib.hid hb
    have HROW := Lib.hid hrow
    clear hb
    by_cases hlt : k < n
    · have hc := hrow.cell hlt
      have hfz := hrow.frozen k
      have g0 : (0 : Int) ≤ (k : Int) := by omega
      have g1 : (k : Int) < (n : Int) := by omega
      have HN := Lib.hid ((HROW.out.set k (.int .i64 (Km.dg a.data.toList k : Nat))).congr (g := dgs (upD (Km.dg a.data.toList) (k + 1))) fun j hj => by
        by_cases e : j = k
        · subst e; simp [dgs, upD]
        · by_cases e2 : j < k
          · simp [dgs, upD, e, e2, show j < k + 1 from by omega]
          · simp [dgs, upD, e, e2, show ¬ j < k + 1 from by omega])
      have HB1 := Lib.hid (HB0.out.setCell (p := ⟨w.heap.size, k, none⟩) (by simp) (.int .i64 (Km.dg a.data.toList k : Nat)))
      generalize dgs (upD (Km.dg a.data.toList) k) k = v at *
      clear hrow
      go_wp2_with fail
      refine (HD.out _ _ (by omega)).mono ?_
      rintro e w' ⟨rfl, rfl⟩
      go_wp2
      go_roundw
      case rel => exact ⟨k + 1, by omega, by go_num, HN.out, HB1.out⟩
      case measure => simp [intOf]; omega
    · obtain rfl : k = n := by omega
      have HC := Lib.hid (carry_any w.heap.size w.heap.size k (Km.dg a.data.toList) wr (Nat.le_refl _) hn (fun j _ => by have := Km.dg_lt a.data.toList j; omega) (hrow.congr fun j hj => by simp [dgs, upD, hj]))
      clear hrow
      go_wp2_with fail
      refine (HC.out).mono ?_
      rintro e w2 ⟨hb2, -, ⟨ht, rfl⟩ | ⟨j, ht, rfl, hr⟩⟩
      · have HE := Lib.hid (HB0.out.trans hb2)
        have HT := Lib.hid ht
        clear hb2 ht
        go_wp2
        go_ret
        exact ⟨HE.out, Or.inl ⟨HT.out, rfl⟩⟩
      · have HE := Lib.hid (HB0.out.trans hb2)
        have HT := Lib.hid ht
        have HR := Lib.hid hr
        clear hb2 ht hr
        go_wp2
        go_ret
        exact ⟨HE.out, Or.inr ⟨j, _, HT.out, rfl, Nat.le_refl _, HR.out⟩⟩

end Go.Proofs.Ytdgcdepepfgkoaa
