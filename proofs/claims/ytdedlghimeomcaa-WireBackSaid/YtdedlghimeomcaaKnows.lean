/-
  WHAT EACH STATEMENT OF LAYER 1 BEGINS WITH: knows() answers true; nothing below the call's own memory has turned.
-/
import Derived.Test.YtdedlghimeomcaaLent
import Derived.Test.YtdedlghimeomcaaUnframe
import Derived.Lib.SlBytesConst
namespace Go.Proofs.Ytdedlghimeomcaa
open Go.RowKit

theorem know_num : numW 300 = ([2, 1, 44], 0) := by decide
theorem know_frame : frameW [97, 98] = (Wm.frameB [97, 98], 0) := by decide
theorem know_frame9 : (Wm.frameB [97, 98]).length = 9 := by decide +kernel
theorem know_unf : unfR (Wm.frameB [97, 98] ++ [9]) = ([97, 98], 9, 0) := by decide +kernel

set_option maxHeartbeats 1000000 in
theorem knows_any (w : World) : Calls Try.prog 16 #[] w fun e w' => e = .returned (.bool true) ∧ Below w.heap.size w w' := by
  obtain ⟨i0, hi, hz0, hz1, hz2⟩ := info_parts info_u8
  have kc := fun (w : World) (C : Array Value) (n c : Nat) => Lib.run_convert_bytes_const (P := Try.prog) w 22 5 C n c Try.underlying22 Try.underlying5
  go_enter Try.func16, Try.ntmps16
  go_wp2_with fail
  refine (num_any 300 w).mono ?_
  rw [know_num]
  rintro e w1 ⟨v1, rfl, hown1, hb1⟩
  dsimp only at hown1
  obtain ⟨p1, c1, rfl, hbs1, -, -, hpn1, -⟩ := hown1.bs
  have HB1 := Lib.hid hbs1
  have hs1 := hb1.size
  clear hown1 hbs1
  have hbl : Bs (w1.alloc (.cells #[.int .u8 97, .int .u8 98] 5 (2, 3))) (some ⟨w1.heap.size, 0, none⟩) [97, 98] := fun _ => ⟨_, _, rfl, fun i hi => by
    rw [Nat.zero_add, World.cell?_alloc_mark]
    match i, hi with
    | 0, _ => rfl
    | 1, _ => rfl⟩
  have HFR := Lib.hid (frame_any (some ⟨w1.heap.size, 0, none⟩) 2 [97, 98] _ hbl (by decide) (by simp))
  have hb2 := (Below.refl w1.heap.size w1).alloc (Nat.le_refl _) (.cells #[.int .u8 97, .int .u8 98] 5 (2, 3))
  clear hbl
  go_wp2_with fail
  refine HFR.out.mono ?_
  rw [know_frame]
  rintro e w3 ⟨v3, rfl, hown3, hb3⟩
  dsimp only at hown3
  have hbw3 := hb2.trans (Below.mono hb3 (by simp))
  have hs3 := hbw3.size
  obtain ⟨p3, c3, rfl, hbs3, -, -, hpn3, -⟩ := hown3.bs
  have HU := Lib.hid know_unf
  have HL := Lib.hid know_frame9
  generalize Wm.frameB [97, 98] = fr at *
  have HO4 := Lib.hid (Own.lit (E := 5) w3 #[] [] rfl (by decide))
  have HB4 := Lib.hid (hbs3.kept (Below.alloc (Below.refl w3.heap.size w3) (Nat.le_refl _) (.cells #[] 5)))
  have hb4 := (Below.refl w3.heap.size w3).alloc (Nat.le_refl _) (.cells #[] 5)
  have hfl : fr.length ≤ 9 := by rw [HL.out]; omega
  clear hown3 hbs3 hb2 hb3
  go_wp2_with (at_builtin; refine wpList_append_bs rfl _ _ 22 rfl w3.heap.size 5 i0 Try.underlying22 hi hz0 hz1 hz2 _ _ rfl HO4.out p3 c3 fr rfl HB4.out hpn3 ?b1 ?b2 ?_)
  case b1 => simp; omega
  case b2 => simp
  intro v5 w5 hown5 hbel5 hgrow5 hnil5
  clear hgrow5 hnil5
  have hown5' : Own 5 w5 w3.heap.size v5 fr := hown5
  have hb5 := hb4.trans hbel5
  have hs5 := hb5.size
  have HO5 := Lib.hid (hown5'.alloc (.cells #[.int .u8 9] 5))
  have HB5 := Lib.hid (Bs.new1 w5 9 9 5 rfl)
  have hb6 := hb5.alloc hs5 (.cells #[.int .u8 9] 5)
  clear hown5 hown5' hbel5 hb4 hb5
  go_wp2_with (at_builtin; refine wpList_append_bs rfl _ _ 22 rfl w3.heap.size 5 i0 Try.underlying22 hi hz0 hz1 hz2 _ _ rfl HO5.out (some ⟨w5.heap.size, 0, none⟩) 1 [9] rfl HB5.out (by simp) ?d1 ?d2 ?_)
  case d1 => simp; omega
  case d2 => simp; omega
  intro v7 w7 hown7 hbel7 hgrow7 hnil7
  clear hgrow7 hnil7
  have hown7' : Own 5 w7 w3.heap.size v7 (fr ++ [9]) := hown7
  have hb7 := hb6.trans hbel7
  have hs7 := hb7.size
  obtain ⟨p7, c7, rfl, hbs7, hc7, -, hpn7, -⟩ := hown7'.bs
  have hl9 : (fr ++ [9]).length ≤ 100 := by simp; omega
  have HU7 := Lib.hid (unframe_any p7 (fr ++ [9]).length c7 (fr ++ [9]) w7 rfl hbs7 (by omega) hc7)
  clear hown7 hown7' hbel7 hb6 hbs7 hc7
  generalize fr ++ [9] = f9 at *
  go_wp2_with fail
  refine HU7.out.mono ?_
  rw [HU.out]
  rintro e w8 ⟨v8, rfl, hown8, hb8⟩
  dsimp only at hown8
  have hb9 := hb7.trans (Below.mono hb8 hs7)
  have hb10 : Below w1.heap.size w1 w8 := hbw3.trans (Below.mono hb9 hs3)
  have hb11 : Below w.heap.size w w8 := hb1.trans (Below.mono hb10 hs1)
  obtain ⟨p8, c8, rfl, hbs8, -⟩ := hown8.bs
  have k1 : (convert 22 9 (.slice p1 3 c1)).run Try.prog w8 = .ok (.string ⟨#[2, 1, 44]⟩) w8 := (HB1.out.kept hb10).conv c1 22 5 9 Try.underlying22 Try.underlying5 Try.underlying9
  have k2 : (convert 22 9 (.slice p8 2 c8)).run Try.prog w8 = .ok (.string ⟨#[97, 98]⟩) w8 := hbs8.conv c8 22 5 9 Try.underlying22 Try.underlying5 Try.underlying9
  have hlen : ((9 : Int) == (fr.length : Int)) = true := by rw [HL.out]; rfl
  clear hown8 hbs8 hb8 hb7 hb9 hb10 hbw3 hb1
  go_wp2
  go_ret
  exact ⟨rfl, hb11⟩

end Go.Proofs.Ytdedlghimeomcaa
