/-
  STAMPNIL: the walk: no clock, and one that nobody made, answer ErrArg and zeros.
  No conditions.
-/
import Derived.Test.YtbggbpdkphhhdaaDoorKnows2
namespace Go.Proofs.YtbggbpdkphhhdaaDoor
open Go.RowKit

set_option maxRecDepth 100000 in
set_option maxHeartbeats 1000000 in
theorem stampNil_walk (n t r : Int) (w : World) (_ : (Lit.int .i64 n).wf = true) (_ : (Lit.int .i64 t).wf = true) (_ : (Lit.int .i64 r).wf = true) : Calls Tryd.prog 5 #[.int .i64 n, .agg #[.int .i64 t, .int .i64 r]] w fun e w' => e = .returned (.bool true) ∧ Below w.heap.size w w' := by
  have HB0 := Lib.hid ((Below.refl w.heap.size w).alloc (Nat.le_refl _) (.cells #[.int .i64 t, .int .i64 r] 23))
  have HC0 : Hid ((w.alloc (.cells #[.int .i64 t, .int .i64 r] 23)).cell? ⟨w.heap.size, 0, none⟩ = some (.int .i64 t) ∧ (w.alloc (.cells #[.int .i64 t, .int .i64 r] 23)).cell? ⟨w.heap.size, 1, none⟩ = some (.int .i64 r)) := by
    show _ ∧ _
    exact ⟨by rw [World.cell?_alloc_at _ _ _ _ rfl]; rfl, by rw [World.cell?_alloc_at _ _ _ _ rfl]; rfl⟩
  have hsz : (w.alloc (.cells #[.int .i64 t, .int .i64 r] 23)).heap.size = w.heap.size + 1 := by simp
  have HSZ := Lib.hid hsz
  clear hsz
  go_enter Tryd.func5, Tryd.ntmps5
  go_wp2
  go_loopw [5, 6] (fun c i wr => ∃ k : Nat, k ≤ 2 ∧ i = .int .i64 k ∧ DeadClk wr c ∧ Below w.heap.size w wr ∧ w.heap.size < wr.heap.size ∧ wr.cell? ⟨w.heap.size, 0, none⟩ = some (.int .i64 t) ∧ wr.cell? ⟨w.heap.size, 1, none⟩ = some (.int .i64 r)) (fun _ i _ => 2 - (intOf i).toNat)
  case atStart => exact ⟨0, by omega, rfl, Or.inl rfl, HB0.out, by rw [HSZ.out]; omega, HC0.out.1, HC0.out.2⟩
  case round =>
    obtain ⟨k, hk, rfl, hd, hb, hs, c0, c1⟩ := hrel
    have HD := Lib.hid hd
    clear hd HB0 HC0 HSZ
    by_cases hlt : k < 2
    · go_wp2_with fail
      refine (next_dead _ n _ HD.out).mono ?_
      rintro e w1 ⟨rfl, hb1⟩
      have hs1 := hb1.size
      have HB1 := Lib.hid hb1
      have d0 := hb1.cell (p := ⟨w.heap.size, 0, none⟩) (by simpa using hs)
      have d1 := hb1.cell (p := ⟨w.heap.size, 1, none⟩) (by simpa using hs)
      rw [c0] at d0
      rw [c1] at d1
      have hlt1 : w.heap.size < w1.heap.size := by omega
      have HD1 := Lib.hid ((HD.out.kept hb1).kept ((Below.refl w1.heap.size w1).alloc (Nat.le_refl _) (.cells #[.int .i64 0, .int .i64 0] 23)))
      clear hb1
      go_wp2_with fail
      refine (lawNum2_any 1 _).mono ?_
      rintro e w' ⟨rfl, rfl⟩
      go_wp2_with fail
      refine (see_dead _ t r _ HD1.out).mono ?_
      rintro e w2 ⟨rfl, hb2⟩
      have HD2 := Lib.hid (HD1.out.kept hb2)
      have HB2 := Lib.hid hb2
      clear hb2
      go_wp2_with fail
      refine (lawNum2_any 1 _).mono ?_
      rintro e w' ⟨rfl, rfl⟩
      go_wp2_with fail
      refine (time_dead _ _ HD2.out).mono ?_
      rintro e w' ⟨rfl, rfl⟩
      go_wp2
      go_roundw
      case rel =>
        have h12 : Below wr.heap.size wr w2 := (HB1.out.alloc hs1 _).trans (HB2.out.mono (by simp; omega))
        have h13 := h12.alloc h12.size (.cells #[.bool false, .int .i64 0, .int .i64 0] 64)
        refine ⟨k + 1, by omega, by go_num, Or.inr ⟨w2.heap.size, rfl, ?_⟩, hb.trans (h13.mono (by omega)), ?_, ?_, ?_⟩
        · rw [World.cell?_alloc_at _ _ _ _ rfl]; rfl
        · have := h13.size; omega
        · rw [h13.cell (by simpa using hs)]; exact c0
        · rw [h13.cell (by simpa using hs)]; exact c1
      case measure => simp [intOf]; omega
    · obtain rfl : k = 2 := by omega
      go_wp2_with fail
      refine (knows2_any _).mono ?_
      rintro e w' ⟨rfl, hbk⟩
      go_wp2
      go_ret
      exact ⟨rfl, hb.trans (Below.mono hbk (by omega))⟩

end Go.Proofs.YtbggbpdkphhhdaaDoor
