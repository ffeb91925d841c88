/-
  VALUEBACK: the walk, of a value that may not be.
  Conditions: the row's listed variables ('Laid').
-/
import Derived.Test.YtfakbbbkfmnnhaaDoorVBackK
import Derived.Deep.RegionHeld3
namespace Go.Proofs.YtfakbbbkfmnnhaaDoor
open Go.RowKit

set_option maxRecDepth 100000 in
set_option maxHeartbeats 2000000 in
theorem valueBack_no (k n : Int) (t s : ByteArray) (w : World) (ht : t.size ≤ 140737488351232) (hs : s.size ≤ 140737488351232) (hL : Laid w) (hR : Vm.rightV k n t.data.toList = false) :
    Calls Tryd.prog 6 #[.agg #[.int .i64 k, .int .i64 n, .string t], .string s] w fun e w' => e = .returned (.bool true) ∧ Below w.heap.size w w' := by
  have HV0 := Lib.hid (VB.start w k n t hL)
  have HPS := Lib.hid (fun W h => vparse_any s W (by omega) h)
  have HF := Lib.hid (parseV_form s.data.toList)
  have HPU := Lib.hid (show putV k n t.data.toList = ([], 1) by unfold putV; rw [if_neg (by simp [hR])])
  have HPR := Lib.hid (fun W => vprint_not k n t W (by omega) hR)
  have HRT := Lib.hid (fun W => vright_any k n t W (by omega))
  rw [hR] at HRT
  have HP0 := Lib.hid (fun W h => vparse_any ⟨#[]⟩ W (by decide) h)
  generalize parseV (⟨#[]⟩ : ByteArray).data.toList = g at *
  obtain ⟨ga, gb, gc, gd⟩ := g
  dsimp only at HP0
  generalize strV gc = gs at *
  clear hR hL
  rcases HF.out with hq | ⟨pk, pn, pt, hq, hr, hpr, hl⟩
  · have HPQ := HPS
    rw [hq] at HPQ
    dsimp only at HPQ
    rw [show strV [] = (⟨#[]⟩ : ByteArray) from rfl] at HPQ
    clear hq HF HPS
    go_enter Tryd.func6, Tryd.ntmps6
    go_wp2_with fail
    refine (vput_any k n t _ (by omega)).mono ?_
    rw [HPU.out]
    rintro e w1 ⟨v1, rfl, hown1, hb⟩
    obtain ⟨p1, k1, rfl, -⟩ := hown1.bs
    have HV_1 := Lib.hid (HV0.out.kept hb)
    clear hown1 hb
    have a0 := HV_1.out.1.cell0
    have a1 := HV_1.out.1.cell1
    have a2 := HV_1.out.1.cell2
    go_wp2_with fail
    refine (HPR.out _).mono ?_
    rintro e wp ⟨rfl, hb⟩
    have HV_p := Lib.hid (HV_1.out.kept hb)
    clear hb a0 a1 a2
    go_wp2_with fail
    refine (HP0.out _ HV_p.out.2.1).mono ?_
    rintro e w2 ⟨rfl, hb⟩
    have hbx := hb.trans (((Below.refl w2.heap.size w2).alloc (Nat.le_refl _) (.cells #[.int .i64 ga, .int .i64 gb, .string gs] 23)).mono hb.size)
    have HV_2 := Lib.hid (HV_p.out.kept hbx)
    clear hb hbx
    go_wp2_with fail
    refine (HPQ.out _ HV_2.out.2.1).mono ?_
    rintro e w3 ⟨rfl, hb⟩
    have hbx := hb.trans (((Below.refl w3.heap.size w3).alloc (Nat.le_refl _) (.cells #[.int .i64 0, .int .i64 0, .string ⟨#[]⟩] 23)).mono hb.size)
    have HV_5 := Lib.hid (HV_2.out.kept hbx)
    clear hb hbx
    go_wp2_with fail
    refine (lawNum3_any 1 _).mono ?_
    rintro e w' ⟨rfl, rfl⟩
    have a0 := HV_5.out.1.cell0
    have a1 := HV_5.out.1.cell1
    have a2 := HV_5.out.1.cell2
    go_wp2_with fail
    refine (HRT.out _).mono ?_
    rintro e w6 ⟨rfl, hb⟩
    have HV_6 := Lib.hid (HV_5.out.kept hb)
    clear hb a0 a1 a2
    have a0 := HV_6.out.1.cell0
    have a1 := HV_6.out.1.cell1
    have a2 := HV_6.out.1.cell2
    go_wp2_with fail
    refine (HPR.out _).mono ?_
    rintro e w7 ⟨rfl, hb⟩
    have HV_7 := Lib.hid (HV_6.out.kept hb)
    clear hb a0 a1 a2
    go_wp2_with fail
    refine (knows3_any _).mono ?_
    rintro e w8 ⟨rfl, hb⟩
    have HV_8 := Lib.hid (HV_7.out.kept hb)
    clear hb
    go_wp2
    go_ret
    exact ⟨rfl, HV_8.out.2.2⟩
  · have HPQ := HPS
    rw [hq] at HPQ
    dsimp only at HPQ
    have HRW := Lib.hid (fun W => vright_any pk pn (strV pt) W (by rw [strV_size]; omega))
    have HPW := Lib.hid (fun W h => vprint_laid pk pn (strV pt) W h (by rw [strV_toList]; exact hr))
    rw [strV_toList, hr] at HRW
    rw [strV_toList, hpr, strV_of] at HPW
    generalize strV pt = u at *
    clear hq hr hpr hl HF HPS
    go_enter Tryd.func6, Tryd.ntmps6
    go_wp2_with fail
    refine (vput_any k n t _ (by omega)).mono ?_
    rw [HPU.out]
    rintro e w1 ⟨v1, rfl, hown1, hb⟩
    obtain ⟨p1, k1, rfl, -⟩ := hown1.bs
    have HV_1 := Lib.hid (HV0.out.kept hb)
    clear hown1 hb
    have a0 := HV_1.out.1.cell0
    have a1 := HV_1.out.1.cell1
    have a2 := HV_1.out.1.cell2
    go_wp2_with fail
    refine (HPR.out _).mono ?_
    rintro e wp ⟨rfl, hb⟩
    have HV_p := Lib.hid (HV_1.out.kept hb)
    clear hb a0 a1 a2
    go_wp2_with fail
    refine (HP0.out _ HV_p.out.2.1).mono ?_
    rintro e w2 ⟨rfl, hb⟩
    have hbx := hb.trans (((Below.refl w2.heap.size w2).alloc (Nat.le_refl _) (.cells #[.int .i64 ga, .int .i64 gb, .string gs] 23)).mono hb.size)
    have HV_2 := Lib.hid (HV_p.out.kept hbx)
    clear hb hbx
    go_wp2_with fail
    refine (HPQ.out _ HV_2.out.2.1).mono ?_
    rintro e w3 ⟨rfl, hb⟩
    have hbx := hb.trans (((Below.refl w3.heap.size w3).alloc (Nat.le_refl _) (.cells #[.int .i64 pk, .int .i64 pn, .string u] 23)).mono hb.size)
    have HV_3 := Lib.hid (HV_2.out.kept hbx)
    have HW_3 := Lib.hid (ThreeAt.start w3 pk pn u)
    clear hb hbx
    go_wp2_with fail
    refine (HRW.out _).mono ?_
    rintro e w4 ⟨rfl, hb⟩
    have HV_4 := Lib.hid (HV_3.out.kept hb)
    have HW_4 := Lib.hid (HW_3.out.kept hb)
    clear hb
    have a0 := HW_4.out.cell0
    have a1 := HW_4.out.cell1
    have a2 := HW_4.out.cell2
    go_wp2_with fail
    refine (HPW.out _ HV_4.out.2.1).mono ?_
    rintro e w5 ⟨rfl, hb⟩
    have HV_5 := Lib.hid (HV_4.out.kept hb)
    clear hb a0 a1 a2
    go_wp2_with fail
    refine (lawNum3_any 1 _).mono ?_
    rintro e w' ⟨rfl, rfl⟩
    have a0 := HV_5.out.1.cell0
    have a1 := HV_5.out.1.cell1
    have a2 := HV_5.out.1.cell2
    go_wp2_with fail
    refine (HRT.out _).mono ?_
    rintro e w6 ⟨rfl, hb⟩
    have HV_6 := Lib.hid (HV_5.out.kept hb)
    clear hb a0 a1 a2
    have a0 := HV_6.out.1.cell0
    have a1 := HV_6.out.1.cell1
    have a2 := HV_6.out.1.cell2
    go_wp2_with fail
    refine (HPR.out _).mono ?_
    rintro e w7 ⟨rfl, hb⟩
    have HV_7 := Lib.hid (HV_6.out.kept hb)
    clear hb a0 a1 a2
    go_wp2_with fail
    refine (knows3_any _).mono ?_
    rintro e w8 ⟨rfl, hb⟩
    have HV_8 := Lib.hid (HV_7.out.kept hb)
    clear hb
    go_wp2
    go_ret
    exact ⟨rfl, HV_8.out.2.2⟩

end Go.Proofs.YtfakbbbkfmnnhaaDoor
