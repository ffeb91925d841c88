/-
  WHAT EACH STATEMENT OF LAYER 2 BEGINS WITH: knows() answers true; nothing below the call's own memory has turned.
  No conditions.
-/
import Derived.Test.YtbggbpdkphhhdaaDoorClock
import Derived.Test.YtbggbpdkphhhdaaDoorShelf
namespace Go.Proofs.YtbggbpdkphhhdaaDoor
open Go.RowKit

set_option maxRecDepth 100000 in
theorem lawNum2_any (k : Int) (w : World) : Calls Tryd.prog 16 #[.int .i64 k] w fun e w' => e = .returned (.int .i64 k) ∧ w = w' := by
  go_enter Tryd.func16, Tryd.ntmps16
  go_wp2
  go_ret
  exact ⟨rfl, rfl⟩

theorem itoa_two (w : World) : Calls Tryd.prog 49 #[.int .i64 2] w fun e w' => e = .returned (.string ⟨#[50]⟩) ∧ w' = w := by
  have h := Tryd.strconv_Itoa_small 2 (by decide) w
  rw [Lib.decDigits_one (by decide)] at h
  exact h
theorem itoa_five (w : World) : Calls Tryd.prog 49 #[.int .i64 5] w fun e w' => e = .returned (.string ⟨#[53]⟩) ∧ w' = w := by
  have h := Tryd.strconv_Itoa_small 5 (by decide) w
  rw [Lib.decDigits_one (by decide)] at h
  exact h

set_option maxRecDepth 100000 in
theorem print_know (w : World) : Calls Tryd.prog 30 #[.agg #[.int .i64 5, .int .i64 2]] w fun e w' => e = .returned (.string ⟨#[53, 64, 50]⟩) ∧ Below w.heap.size w w' := by
  have HB := Lib.hid ((Below.refl w.heap.size w).alloc (Nat.le_refl _) (.cells #[.int .i64 5, .int .i64 2] 23))
  go_enter Tryd.func30, Tryd.ntmps30
  go_wp2
  go_quiet ((first | (go_at_call 49; exact Calls.quiet_of_same (itoa_two _)) | (go_at_call 49; exact Calls.quiet_of_same (itoa_five _))))
  go_wp2
  go_ret
  exact ⟨congrArg (fun s => Ending.returned (.string s)) (by decide), below_drewN HB.out nq⟩

theorem cmp_know : cmpS 5 2 5 3 = -1 := by decide
theorem next_know : nextR 2 4 3 = (5, 2, 0, 7) := by decide

set_option maxRecDepth 100000 in
set_option maxHeartbeats 1000000 in
theorem knows2_any (w : World) : Calls Tryd.prog 32 #[] w fun e w' => e = .returned (.bool true) ∧ Below w.heap.size w w' := by
  go_enter Tryd.func32, Tryd.ntmps32
  go_wp2_with fail
  refine (new_yes 2 4 w (by decide)).mono ?_
  rintro e w1 ⟨b, rfl, hk1, hB1, hb1⟩
  have hlt := hk1.lt
  go_wp2_with fail
  refine (next_live b 2 4 3 _ hk1 (by decide) (by decide)).mono ?_
  rw [next_know]
  rintro e w2 ⟨rfl, hk2, ho2⟩
  have hb2 := ho2.below hb1 hB1 hb1.size
  have HB := Lib.hid (hb2.alloc hb2.size (.cells #[.int .i64 5, .int .i64 2] 23))
  have HK := Lib.hid (hk2.kept (Below.alloc (Below.refl w2.heap.size w2) (Nat.le_refl _) (.cells #[.int .i64 5, .int .i64 2] 23)))
  clear hk1 hk2 ho2 hb1 hb2
  go_wp2_with fail
  refine (lawNum2_any 0 _).mono ?_
  rintro e w' ⟨rfl, rfl⟩
  go_wp2_with fail
  refine (lawNum2_any 0 _).mono ?_
  rintro e w' ⟨rfl, rfl⟩
  go_wp2_with fail
  refine (time_live b 2 7 _ HK.out).mono ?_
  rintro e w' ⟨rfl, rfl⟩
  go_wp2_with fail
  refine (print_know _).mono ?_
  rintro e w3 ⟨rfl, hb3⟩
  have hc := hb3.cell (p := ⟨w2.heap.size, 0, none⟩) (by simp)
  have hc1 := hb3.cell (p := ⟨w2.heap.size, 1, none⟩) (by simp)
  rw [World.cell?_alloc_at _ _ _ _ rfl] at hc hc1
  have HB3 := Lib.hid (HB.out.trans (hb3.mono (by simpa using HB.out.size)))
  clear hb3
  go_wp2_with fail
  refine (compare_any 5 2 5 3 _).mono ?_
  rw [cmp_know]
  rintro e w4 ⟨rfl, hb4⟩
  have HB4 := Lib.hid (HB3.out.trans (hb4.mono (by simpa using HB3.out.size)))
  clear hb4
  go_wp2
  go_ret
  exact ⟨rfl, HB4.out⟩

end Go.Proofs.YtbggbpdkphhhdaaDoor
