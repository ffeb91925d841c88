/-
  THE LAW's OWN HELPER: a key between two that stand side by side.
  No conditions.
-/
import Derived.Test.YtdgcdepepfgkoaaKBetween
namespace Go.Proofs.Ytdgcdepepfgkoaa
open Go.RowKit

theorem betw_open : Km.betw [] [] = ([128], 0) := by decide +kernel
theorem betw_side : Km.betw [128] [129] = ([128, 128], 0) := by decide +kernel
theorem between_open (w : World) : Calls Try.prog 9 #[.string ⟨#[]⟩, .string ⟨#[]⟩] w fun e w' => e = .returned (.tuple #[.string ⟨#[128]⟩, .int .i64 0]) ∧ Below w.heap.size w w' := by
  have h := between_any ⟨#[]⟩ ⟨#[]⟩ w (by decide) (by decide)
  rw [show Km.betw (⟨#[]⟩ : ByteArray).data.toList (⟨#[]⟩ : ByteArray).data.toList = ([128], 0) from betw_open] at h
  exact h
theorem between_side (w : World) : Calls Try.prog 9 #[.string ⟨#[128]⟩, .string ⟨#[129]⟩] w fun e w' => e = .returned (.tuple #[.string ⟨#[128, 128]⟩, .int .i64 0]) ∧ Below w.heap.size w w' := by
  have h := between_any ⟨#[128]⟩ ⟨#[129]⟩ w (by decide) (by decide)
  rw [show Km.betw (⟨#[128]⟩ : ByteArray).data.toList (⟨#[129]⟩ : ByteArray).data.toList = ([128, 128], 0) from betw_side] at h
  exact h
theorem right_side (w : World) : Calls Try.prog 12 #[.string ⟨#[128, 128]⟩] w fun e w' => e = .returned (.bool true) ∧ w = w' := by
  have h := right_any ⟨#[128, 128]⟩ w (by decide)
  rw [show Km.rightB (⟨#[128, 128]⟩ : ByteArray).data.toList = true by decide +kernel] at h
  exact h
theorem compare_side (w : World) : Calls Try.prog 14 #[.string ⟨#[128]⟩, .string ⟨#[128, 128]⟩] w fun e w' => e = .returned (.int .i64 (-1)) ∧ w = w' := by
  have h := compare_any ⟨#[128]⟩ ⟨#[128, 128]⟩ w
  rw [show Lib.compareBytes (⟨#[128]⟩ : ByteArray).data.toList (⟨#[128, 128]⟩ : ByteArray).data.toList = -1 by decide +kernel] at h
  exact h

set_option maxRecDepth 100000 in
set_option maxHeartbeats 2000000 in
theorem knows_any (w : World) : Calls Try.prog 16 #[] w fun e w' => e = .returned (.bool true) ∧ Below w.heap.size w w' := by
  go_enter Try.func16, Try.ntmps16
  go_wp2_with fail
  refine (between_open _).mono ?_
  rintro e w1 ⟨rfl, hb1⟩
  have H1 := Lib.hid hb1
  clear hb1
  go_wp2_with fail
  refine (between_side _).mono ?_
  rintro e w2 ⟨rfl, hb2⟩
  have H2 := Lib.hid (H1.out.trans (hb2.mono H1.out.size))
  clear hb2
  go_wp2_with fail
  refine (num_any _ _).mono ?_
  rintro e w3 ⟨rfl, rfl⟩
  go_wp2_with fail
  refine (num_any _ _).mono ?_
  rintro e w3 ⟨rfl, rfl⟩
  go_wp2_with fail
  refine (right_side _).mono ?_
  rintro e w3 ⟨rfl, rfl⟩
  go_wp2_with fail
  refine (compare_side _).mono ?_
  rintro e w3 ⟨rfl, rfl⟩
  go_wp2
  go_ret
  exact ⟨rfl, H2.out⟩

end Go.Proofs.Ytdgcdepepfgkoaa
