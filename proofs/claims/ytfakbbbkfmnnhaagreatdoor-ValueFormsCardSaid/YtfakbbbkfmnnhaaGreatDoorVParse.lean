/-
  PARSE of values, at every string.
  Conditions: the row's listed variables ('Laid').
-/
import Derived.Test.YtfakbbbkfmnnhaaGreatDoorVGuess
namespace Go.Proofs.YtfakbbbkfmnnhaaGreatDoor
open Go.RowKit

theorem prints_laid (n : Int) (h0 : -1099511627776 ≤ n) (h1 : n ≤ 1099511627776) : Prints n Laid :=
  ⟨fun _ _ h hb => h.kept hb, fun W h => itoa_any n W (by omega) (by omega) h⟩
theorem right_n {k n : Int} {t : List UInt8} (h : Vm.rightV k n t = true) : -1099511627776 ≤ n ∧ n ≤ 1099511627776 := by
  unfold Vm.rightV at h
  have := of_decide_eq_true h
  omega
theorem right_t {k n : Int} {t : List UInt8} (h : Vm.rightV k n t = true) : t.length ≤ 64 := by
  unfold Vm.rightV at h
  have h := of_decide_eq_true h
  rcases h with ⟨-, -, h⟩ | ⟨-, -, h⟩ | ⟨-, -, h⟩ | ⟨-, -, h⟩
  · unfold Vm.okT at h
    simp only [Bool.and_eq_true, decide_eq_true_eq] at h
    exact h.1
  · simp [h]
  · simp [h]
  · simp [h]
/-- Print, under the row's listed variables -/
theorem vprint_laid (k n : Int) (t : ByteArray) (w : World) (hw : Laid w) (hR : Vm.rightV k n t.data.toList = true) : Calls Tryz.prog 21 #[.agg #[.int .i64 k, .int .i64 n, .string t]] w fun e w' => e = .returned (.string (strV (printV k n t.data.toList))) ∧ Below w.heap.size w w' :=
  vprint_gen k n t Laid (prints_laid n (right_n hR).1 (right_n hR).2) w hw (by have := right_t hR; rw [str_len] at this; omega)
/-- .. and of a value that may not be -/
theorem vprint_not (k n : Int) (t : ByteArray) (w : World) (ht : t.size ≤ 4611686018427387904) (hR : Vm.rightV k n t.data.toList = false) : Calls Tryz.prog 21 #[.agg #[.int .i64 k, .int .i64 n, .string t]] w fun e w' => e = .returned (.string ⟨#[]⟩) ∧ Below w.heap.size w w' := by
  have HB := Lib.hid ((Below.refl w.heap.size w).alloc (Nat.le_refl _) (.cells #[.int .i64 k, .int .i64 n, .string t] 23))
  have HRT := Lib.hid (fun W => vright_any k n t W ht)
  rw [hR] at HRT
  clear hR
  go_enter Tryz.func21, Tryz.ntmps21
  go_wp2_with fail
  refine (HRT.out _).mono ?_
  rintro e w1 ⟨rfl, hb1⟩
  have HB1 := Lib.hid (HB.out.trans (hb1.mono HB.out.size))
  clear hb1
  go_wp2
  go_ret
  exact ⟨rfl, HB1.out⟩

theorem clone_str (s : ByteArray) (w : World) (hs : s.size ≤ 281474976710656) : Calls Tryz.prog 31 #[.string s] w fun e w' => e = .returned (.string s) ∧ Below w.heap.size w w' := by
  have HC := Lib.hid (Tryz.stringslite_Clone s w hs)
  go_enter Tryz.func31, Tryz.ntmps31
  go_wp2_with fail
  refine HC.out.mono ?_
  rintro e w1 ⟨rfl, hb1⟩
  have HB1 := Lib.hid hb1
  clear hb1
  go_wp2
  go_ret
  exact ⟨rfl, HB1.out⟩

/-- what Parse answers -/
def parseV (l : List UInt8) : Int × Int × List UInt8 × Bool :=
  if Vm.rightV (guessV l).1 (guessV l).2.1 (guessV l).2.2 = true ∧ printV (guessV l).1 (guessV l).2.1 (guessV l).2.2 = l then ((guessV l).1, (guessV l).2.1, (guessV l).2.2, true) else (0, 0, [], false)

set_option maxRecDepth 100000 in
set_option maxHeartbeats 4000000 in
theorem vparse_any (s : ByteArray) (w : World) (hs : s.size ≤ 281474976710656) (hL : Laid w) :
    Calls Tryz.prog 8 #[.string s] w fun e w' => e = .returned (.tuple #[.agg #[.int .i64 (parseV s.data.toList).1, .int .i64 (parseV s.data.toList).2.1, .string (strV (parseV s.data.toList).2.2.1)], .bool (parseV s.data.toList).2.2.2]) ∧ Below w.heap.size w w' := by
  have hb := (Below.refl w.heap.size w).alloc (Nat.le_refl _) (.cells #[.int .i64 0, .int .i64 0, .string ⟨#[]⟩] 23)
  have HV := Lib.hid (show VRes w w.heap.size (w.alloc (.cells #[.int .i64 0, .int .i64 0, .string ⟨#[]⟩] 23)) from ⟨Nat.le_refl _, ThreeAt.start w 0 0 ⟨#[]⟩, hb⟩)
  have HL := Lib.hid (hL.kept hb)
  have HG := Lib.hid (fun W h => guess_any s W hs h)
  have hgl := guessV_le s.data.toList
  rw [str_len] at hgl
  have HPD : Hid (parseV s.data.toList = if Vm.rightV (guessV s.data.toList).1 (guessV s.data.toList).2.1 (guessV s.data.toList).2.2 = true ∧ printV (guessV s.data.toList).1 (guessV s.data.toList).2.1 (guessV s.data.toList).2.2 = s.data.toList then ((guessV s.data.toList).1, (guessV s.data.toList).2.1, (guessV s.data.toList).2.2, true) else (0, 0, [], false)) := Lib.hid rfl
  generalize guessV s.data.toList = g at *
  obtain ⟨gk, gn, gt⟩ := g
  dsimp only at *
  have htl := strV_toList gt
  have htz := strV_size gt
  generalize hgs : strV gt = t at *
  have HGS := Lib.hid hgs
  obtain rfl : gt = t.data.toList := htl.symm
  have hts : t.size ≤ 281474976710656 := by rw [htz]; omega
  clear hb hL htl htz hgs hgl
  cases hR : Vm.rightV gk gn t.data.toList with
  | false =>
    have HP : Hid (parseV s.data.toList = (0, 0, [], false)) := Lib.hid (by rw [HPD.out, if_neg (fun h => by rw [hR] at h; cases h.1)])
    have HRT := Lib.hid (fun W => vright_any gk gn t W (by omega))
    rw [hR] at HRT
    clear hR
    go_enter Tryz.func8, Tryz.ntmps8
    go_wp2_with fail
    refine (HG.out _ HL.out).mono ?_
    rintro e w1 ⟨rfl, hb1⟩
    have HV1 := Lib.hid ((HV.out.kept hb1).kept ((Below.refl _ _).alloc (Nat.le_refl _) (.cells #[.int .i64 gk, .int .i64 gn, .string t] 23)))
    clear hb1
    go_wp2_with fail
    refine (HRT.out _).mono ?_
    rintro e w2 ⟨rfl, hb2⟩
    have HV2 := Lib.hid (HV1.out.kept hb2)
    clear hb2
    obtain ⟨q0, q1, q2, hE⟩ := HV2.out.read 0 0 ⟨#[]⟩
    have HE := Lib.hid hE
    have y0 := HV2.out.2.1.free 0
    have y1 := HV2.out.2.1.free 1
    have y2 := HV2.out.2.1.free 2
    have z0 := HV2.out.2.1.cell0
    have z1 := HV2.out.2.1.cell1
    have z2 := HV2.out.2.1.cell2
    clear hE
    go_wp2
    refine bodyPost_ret (v := .tuple #[.agg #[.int .i64 0, .int .i64 0, .string ⟨#[]⟩], .bool false]) (by simp [results, Tryz.results8, go_sem, q0, q1, q2]) rfl ?_
    rw [HP.out]
    exact ⟨rfl, HE.out⟩
  | true =>
    have HRT := Lib.hid (fun W => vright_any gk gn t W (by omega))
    have HPR := Lib.hid (fun W h => vprint_laid gk gn t W h hR)
    rw [hR] at HRT
    by_cases hpl : printV gk gn t.data.toList = s.data.toList
    · have HP : Hid (parseV s.data.toList = (gk, gn, t.data.toList, true)) := Lib.hid (by rw [HPD.out, if_pos ⟨hR, hpl⟩])
      have hps : strV (printV gk gn t.data.toList) = s := by rw [hpl]; rfl
      rw [hps] at HPR
      have HC := Lib.hid (fun W => clone_str t W hts)
      clear hR hpl hps
      go_enter Tryz.func8, Tryz.ntmps8
      go_wp2_with fail
      refine (HG.out _ HL.out).mono ?_
      rintro e w1 ⟨rfl, hb1⟩
      have hbx := hb1.trans (((Below.refl w1.heap.size w1).alloc (Nat.le_refl _) (.cells #[.int .i64 gk, .int .i64 gn, .string t] 23)).mono hb1.size)
      have HV1 := Lib.hid (HV.out.kept hbx)
      have HL1 := Lib.hid (HL.out.kept hbx)
      have HT1 := Lib.hid (ThreeAt.start w1 gk gn t)
      have hne : w.heap.size < w1.heap.size := by have h := (HV.out.kept hb1).2.1.size; exact h
      clear hb1 hbx
      go_wp2_with fail
      refine (HRT.out _).mono ?_
      rintro e w2 ⟨rfl, hb2⟩
      have HV2 := Lib.hid (HV1.out.kept hb2)
      have HL2 := Lib.hid (HL1.out.kept hb2)
      have HT2 := Lib.hid (HT1.out.kept hb2)
      clear hb2
      have x0 := HT2.out.cell0
      have x1 := HT2.out.cell1
      have x2 := HT2.out.cell2
      go_wp2_with fail
      refine (HPR.out _ HL2.out).mono ?_
      rintro e w3 ⟨rfl, hb3⟩
      have HV3 := Lib.hid (HV2.out.kept hb3)
      have HT3 := Lib.hid (HT2.out.kept hb3)
      clear hb3 x0 x1 x2
      have x2 := HT3.out.cell2
      go_wp2_with fail
      refine (HC.out _).mono ?_
      rintro e w4 ⟨rfl, hb4⟩
      have HV4 := Lib.hid (HV3.out.kept hb4)
      have HT4 := Lib.hid (HT3.out.kept hb4)
      clear hb4 x2
      have u2 := HT4.out.free 2
      have x2 := HT4.out.cell2
      have hT5 : ThreeAt (w4.setCell ⟨w1.heap.size, 2, none⟩ (.string t)) w1.heap.size gk gn t := Go.Joins.block_setCell HT4.out (i := 2) (.string t)
      have HT5 := Lib.hid hT5
      have HV5 := Lib.hid (show VRes w w.heap.size (w4.setCell ⟨w1.heap.size, 2, none⟩ (.string t)) from ⟨HV4.out.1, (Below.heap_setCell w4 ⟨w1.heap.size, 2, none⟩ (.string t) w.heap.size (by simp; omega)).trans HV4.out.2.1, HV4.out.2.2.setCell (p := ⟨w1.heap.size, 2, none⟩) (by simp; omega) _⟩)
      clear hT5
      have v0 := HT5.out.cell0
      have v1 := HT5.out.cell1
      have v2 := HT5.out.cell2
      obtain ⟨q0, q1, q2, hE⟩ := HV5.out.read gk gn t
      have HE := Lib.hid hE
      have y0 := HV5.out.2.1.free 0
      have y1 := HV5.out.2.1.free 1
      have y2 := HV5.out.2.1.free 2
      have z0 := HV5.out.2.1.cell0
      have z1 := HV5.out.2.1.cell1
      have z2 := HV5.out.2.1.cell2
      clear hE
      go_wp2
      refine bodyPost_ret (v := .tuple #[.agg #[.int .i64 gk, .int .i64 gn, .string t], .bool true]) (by simp [results, Tryz.results8, go_sem, q0, q1, q2]) rfl ?_
      rw [HP.out]
      exact ⟨by rw [strV_of], HE.out⟩
    · have HP : Hid (parseV s.data.toList = (0, 0, [], false)) := Lib.hid (by rw [HPD.out, if_neg (fun h => hpl h.2)])
      have te1 : ((strV (printV gk gn t.data.toList)).toList == s.toList) = false := by
        rw [beq_eq_false_iff_ne, ByteArray.toList_eq, ByteArray.toList_eq, strV_toList]
        exact hpl
      generalize strV (printV gk gn t.data.toList) = ps at *
      clear hR hpl
      go_enter Tryz.func8, Tryz.ntmps8
      go_wp2_with fail
      refine (HG.out _ HL.out).mono ?_
      rintro e w1 ⟨rfl, hb1⟩
      have hbx := hb1.trans (((Below.refl w1.heap.size w1).alloc (Nat.le_refl _) (.cells #[.int .i64 gk, .int .i64 gn, .string t] 23)).mono hb1.size)
      have HV1 := Lib.hid (HV.out.kept hbx)
      have HL1 := Lib.hid (HL.out.kept hbx)
      have HT1 := Lib.hid (ThreeAt.start w1 gk gn t)
      clear hb1 hbx
      go_wp2_with fail
      refine (HRT.out _).mono ?_
      rintro e w2 ⟨rfl, hb2⟩
      have HV2 := Lib.hid (HV1.out.kept hb2)
      have HL2 := Lib.hid (HL1.out.kept hb2)
      have HT2 := Lib.hid (HT1.out.kept hb2)
      clear hb2
      have x0 := HT2.out.cell0
      have x1 := HT2.out.cell1
      have x2 := HT2.out.cell2
      go_wp2_with fail
      refine (HPR.out _ HL2.out).mono ?_
      rintro e w3 ⟨rfl, hb3⟩
      have HV3 := Lib.hid (HV2.out.kept hb3)
      clear hb3 x0 x1 x2
      obtain ⟨q0, q1, q2, hE⟩ := HV3.out.read 0 0 ⟨#[]⟩
      have HE := Lib.hid hE
      have y0 := HV3.out.2.1.free 0
      have y1 := HV3.out.2.1.free 1
      have y2 := HV3.out.2.1.free 2
      have z0 := HV3.out.2.1.cell0
      have z1 := HV3.out.2.1.cell1
      have z2 := HV3.out.2.1.cell2
      clear hE
      go_wp2
      refine bodyPost_ret (v := .tuple #[.agg #[.int .i64 0, .int .i64 0, .string ⟨#[]⟩], .bool false]) (by simp [results, Tryz.results8, go_sem, q0, q1, q2]) rfl ?_
      rw [HP.out]
      exact ⟨rfl, HE.out⟩

end Go.Proofs.YtfakbbbkfmnnhaaGreatDoor
