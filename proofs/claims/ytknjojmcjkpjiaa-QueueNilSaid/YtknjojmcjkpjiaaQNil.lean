/-
  QueueNil: no queue, and one that nobody made: the law's walk.
  No conditions.
-/
import Derived.Test.YtknjojmcjkpjiaaQKnows
namespace Go.Proofs.Ytknjojmcjkpjiaa
open Go.RowKit

theorem NoQ.below {w w' : World} {v : Value} (h : NoQ w v) (hb : Below w.heap.size w w') : NoQ w' v := by
  rcases h with h | ⟨b, h, hc⟩
  · exact Or.inl h
  · exact Or.inr ⟨b, h, by rw [hb.cell (cell_lt hc)]; exact hc⟩

set_option maxRecDepth 100000 in
set_option maxHeartbeats 4000000 in
theorem queueNil_walk (t r k : Int) (w : World) : Calls Try.prog 4 #[.agg #[.int .i64 t, .int .i64 r, .int .i64 k]] w (Yes w) := by
  have HB0 := Lib.hid ((Below.refl w.heap.size w).alloc (Nat.le_refl _) (.cells #[.int .i64 t, .int .i64 r, .int .i64 k] 36))
  have HK := Lib.hid (fun W => knows_any W)
  have HNUM := Lib.hid (fun n W => num_any n W)
  go_enter Try.func4, Try.ntmps4
  go_wp2
  go_loopw [3, 4] (fun v i wr => ∃ n : Nat, n ≤ 2 ∧ i = .int .i64 (n : Int) ∧ NoQ wr v ∧ Below (w.heap.size + 1) (w.alloc (.cells #[.int .i64 t, .int .i64 r, .int .i64 k] 36)) wr) (fun _ i _ => 2 - (intOf i).toNat)
  case atStart => exact ⟨0, by omega, rfl, Or.inl rfl, Below.refl _ _⟩
  case round =>
    obtain ⟨n, hn, rfl, hq, hb⟩ := hrel
    have HQ0 := Lib.hid hq
    have HB := Lib.hid hb
    have hsz := hb.size
    simp only [World.size_alloc] at hsz
    by_cases hlt : n < 2
    · have HP := Lib.hid (qpop_no _ wr hq)
      clear hq hb
      go_wp2_with fail
      refine HP.out.mono ?_
      rintro e w1 ⟨rfl, hb1⟩
      have hb2 := hb1.alloc hb1.size (.cells #[.int .i64 0, .int .i64 0, .int .i64 0] 40)
      have HQ1 := Lib.hid (HQ0.out.below hb2)
      have HP2 := Lib.hid (qpeek_no _ _ HQ1.out)
      have HB2 := Lib.hid (HB.out.trans (hb2.mono (by omega)))
      clear hb1 hb2
      unfold itB
      go_wp2_with fail
      refine HP2.out.mono ?_
      rintro e w2 ⟨rfl, hb3⟩
      have hb4 := hb3.alloc hb3.size (.cells #[.int .i64 0, .int .i64 0, .int .i64 0] 40)
      have HQ2 := Lib.hid (HQ1.out.below hb4)
      have HB4 := Lib.hid (HB2.out.trans (hb4.mono (by have := HB2.out.size; simp only [World.size_alloc] at this ⊢; omega)))
      have HP3 := Lib.hid (qpush_no _ t r k _ HQ2.out)
      have hcc := fun o => HB4.out.cell (p := ⟨w.heap.size, o, none⟩) (by simp)
      have c0 := hcc 0
      have c1 := hcc 1
      have c2 := hcc 2
      clear hb3 hb4 hcc
      unfold itB
      rw [World.cell?_alloc_at _ _ _ _ rfl] at c0 c1 c2
      go_wp2_with fail
      refine HP3.out.mono ?_
      rintro e w3 ⟨rfl, hb5⟩
      have HQ3 := Lib.hid (HQ2.out.below hb5)
      have HL := Lib.hid (qlen_no _ _ HQ3.out)
      have HB5 := Lib.hid (HB4.out.trans (hb5.mono (by have := HB4.out.size; simp only [World.size_alloc] at this ⊢; omega)))
      clear hb5 c0 c1 c2
      go_wp2_with fail
      refine (HNUM.out _ _).mono ?_
      rintro e w4 ⟨rfl, rfl⟩
      go_wp2_with fail
      refine HL.out.mono ?_
      rintro e w4 ⟨rfl, rfl⟩
      go_wp2
      go_roundw
      case rel => exact ⟨n + 1, by omega, by go_num, Or.inr ⟨_, rfl, World.cell?_alloc_at _ _ _ _ rfl⟩, HB5.out.alloc (by have := HB5.out.size; simp only [World.size_alloc] at this ⊢; omega) _⟩
      case measure => simp [intOf]; omega
    · obtain rfl : n = 2 := by omega
      clear hq hb
      go_wp2_with fail
      refine (HK.out _).mono ?_
      rintro e w1 ⟨rfl, hb1⟩
      have HE := Lib.hid ((HB0.out.trans (HB.out.mono (by omega))).trans (hb1.mono (by omega)))
      clear hb1
      go_wp2
      go_ret
      exact ⟨rfl, HE.out⟩

end Go.Proofs.Ytknjojmcjkpjiaa
