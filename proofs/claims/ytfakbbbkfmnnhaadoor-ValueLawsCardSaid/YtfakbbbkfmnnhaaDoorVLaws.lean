/-
  VALUELAWS: the walk: sums and products can be turned round; what is added can be taken away; a quotient of Ints times the divisor is no further from 0 than what was divided.
  No conditions.
-/
import Derived.Test.YtfakbbbkfmnnhaaDoorVPrint
import Derived.Test.YtfakbbbkfmnnhaaDoorVOver
namespace Go.Proofs.YtfakbbbkfmnnhaaDoor
open Go.RowKit

set_option maxRecDepth 100000 in
set_option maxHeartbeats 8000000 in
theorem valueLaws_walk (k n : Int) (t : ByteArray) (k' n' : Int) (t' : ByteArray) (w : World) (_ : (Lit.int .i64 k).wf = true) (_ : (Lit.int .i64 n).wf = true) (ht : t.size ≤ 140737488351232) (_ : (Lit.int .i64 k').wf = true) (_ : (Lit.int .i64 n').wf = true) (ht' : t'.size ≤ 140737488351232) :
    Calls Tryd.prog 7 #[.agg #[.int .i64 k, .int .i64 n, .string t], .agg #[.int .i64 k', .int .i64 n', .string t']] w fun e w' => e = .returned (.bool true) ∧ Below w.heap.size w w' := by
  have HW := Lib.hid (VTwo.start w k n t k' n' t')
  have HA := Lib.hid (fun W => vadd_any k n t k' n' t' W (by omega) (by omega))
  have HA2 := Lib.hid (fun W => vadd_any k' n' t' k n t W (by omega) (by omega))
  rw [Vm.addV_comm k' n' t'.data.toList k n t.data.toList] at HA2
  have HT := Lib.hid (fun W => vtimes_any k n t k' n' t' W (by omega) (by omega))
  have HT2 := Lib.hid (fun W => vtimes_any k' n' t' k n t W (by omega) (by omega))
  rw [Vm.timesV_comm k' n' t'.data.toList k n t.data.toList] at HT2
  have HO := Lib.hid (fun W => vover_any k n t k' n' t' W (by omega) (by omega))
  have HBK := Lib.hid (fun (a b : Int) (h : Vm.addV k n t.data.toList k' n' t'.data.toList = (a, b, 0)) => Vm.addV_back h)
  have HOB := Lib.hid (fun (a b : Int) (hk : k = 1) (h : Vm.overV k n t.data.toList k' n' t'.data.toList = (a, b, 0)) => Vm.overV_back (hk ▸ h))
  generalize Vm.addV k n t.data.toList k' n' t'.data.toList = rx at *
  generalize Vm.timesV k n t.data.toList k' n' t'.data.toList = rp at *
  generalize Vm.overV k n t.data.toList k' n' t'.data.toList = ro at *
  obtain ⟨xa, xb, xc⟩ := rx
  obtain ⟨pa, pb, pc⟩ := rp
  obtain ⟨oa, ob, oc⟩ := ro
  unfold valE at HA HA2 HT HT2 HO
  dsimp only at HA HA2 HT HT2 HO
  go_enter Tryd.func7, Tryd.ntmps7
  go_wp2_with fail
  refine (HA.out _).mono ?_
  rintro e w1 ⟨rfl, hb⟩
  have hbx := hb.trans (((Below.refl w1.heap.size w1).alloc (Nat.le_refl _) (.cells #[.int .i64 xa, .int .i64 xb, .string ⟨#[]⟩] 23)).mono hb.size)
  have HW_1 := Lib.hid (HW.out.kept hbx)
  have HX_1 := Lib.hid (ThreeAt.start w1 xa xb ⟨#[]⟩)
  clear hb hbx
  have a0 := HW_1.out.1.cell0
  have a1 := HW_1.out.1.cell1
  have a2 := HW_1.out.1.cell2
  have b0 := HW_1.out.2.1.cell0
  have b1 := HW_1.out.2.1.cell1
  have b2 := HW_1.out.2.1.cell2
  go_wp2_with fail
  refine (HA2.out _).mono ?_
  rintro e w2 ⟨rfl, hb⟩
  have hbx := hb.trans (((Below.refl w2.heap.size w2).alloc (Nat.le_refl _) (.cells #[.int .i64 xa, .int .i64 xb, .string ⟨#[]⟩] 23)).mono hb.size)
  have HW_2 := Lib.hid (HW_1.out.kept hbx)
  have HX_2 := Lib.hid (HX_1.out.kept hbx)
  have HY_2 := Lib.hid (ThreeAt.start w2 xa xb ⟨#[]⟩)
  clear hb hbx a0 a1 a2 b0 b1 b2
  have a0 := HW_2.out.1.cell0
  have a1 := HW_2.out.1.cell1
  have a2 := HW_2.out.1.cell2
  have b0 := HW_2.out.2.1.cell0
  have b1 := HW_2.out.2.1.cell1
  have b2 := HW_2.out.2.1.cell2
  go_wp2_with fail
  refine (HT.out _).mono ?_
  rintro e w3 ⟨rfl, hb⟩
  have hbx := hb.trans (((Below.refl w3.heap.size w3).alloc (Nat.le_refl _) (.cells #[.int .i64 pa, .int .i64 pb, .string ⟨#[]⟩] 23)).mono hb.size)
  have HW_3 := Lib.hid (HW_2.out.kept hbx)
  have HX_3 := Lib.hid (HX_2.out.kept hbx)
  have HY_3 := Lib.hid (HY_2.out.kept hbx)
  have HP_3 := Lib.hid (ThreeAt.start w3 pa pb ⟨#[]⟩)
  clear hb hbx a0 a1 a2 b0 b1 b2
  have a0 := HW_3.out.1.cell0
  have a1 := HW_3.out.1.cell1
  have a2 := HW_3.out.1.cell2
  have b0 := HW_3.out.2.1.cell0
  have b1 := HW_3.out.2.1.cell1
  have b2 := HW_3.out.2.1.cell2
  go_wp2_with fail
  refine (HT2.out _).mono ?_
  rintro e w4 ⟨rfl, hb⟩
  have hbx := hb.trans (((Below.refl w4.heap.size w4).alloc (Nat.le_refl _) (.cells #[.int .i64 pa, .int .i64 pb, .string ⟨#[]⟩] 23)).mono hb.size)
  have HW_4 := Lib.hid (HW_3.out.kept hbx)
  have HX_4 := Lib.hid (HX_3.out.kept hbx)
  have HY_4 := Lib.hid (HY_3.out.kept hbx)
  have HP_4 := Lib.hid (HP_3.out.kept hbx)
  have HQ_4 := Lib.hid (ThreeAt.start w4 pa pb ⟨#[]⟩)
  clear hb hbx a0 a1 a2 b0 b1 b2
  have a0 := HX_4.out.cell0
  have a1 := HX_4.out.cell1
  have a2 := HX_4.out.cell2
  have b0 := HY_4.out.cell0
  have b1 := HY_4.out.cell1
  have b2 := HY_4.out.cell2
  have c0 := HP_4.out.cell0
  have c1 := HP_4.out.cell1
  have c2 := HP_4.out.cell2
  have d0 := HQ_4.out.cell0
  have d1 := HQ_4.out.cell1
  have d2 := HQ_4.out.cell2
  go_wp2_with fail
  refine (lawNum3_any xc _).mono ?_
  rintro e w' ⟨rfl, rfl⟩
  go_wp2_with fail
  refine (lawNum3_any xc _).mono ?_
  rintro e w' ⟨rfl, rfl⟩
  go_wp2_with fail
  refine (lawNum3_any pc _).mono ?_
  rintro e w' ⟨rfl, rfl⟩
  go_wp2_with fail
  refine (lawNum3_any pc _).mono ?_
  rintro e w' ⟨rfl, rfl⟩
  go_wp2_with fail
  refine (knows3_any _).mono ?_
  rintro e w5 ⟨rfl, hb⟩
  have HW_5 := Lib.hid (HW_4.out.kept hb)
  have HX_5 := Lib.hid (HX_4.out.kept hb)
  clear hb a0 a1 a2 b0 b1 b2 c0 c1 c2 d0 d1 d2
  go_wp2_with fail
  refine (lawNum3_any xc _).mono ?_
  rintro e w' ⟨rfl, rfl⟩
  by_cases hx : xc = 0
  · subst hx
    obtain ⟨ht0, hback, hn0, hn1⟩ := HBK.out xa xb rfl
    obtain rfl := str_nil ht0
    have HS := Lib.hid (fun W => vadd_any xa xb ⟨#[]⟩ k' (-n') ⟨#[]⟩ W (by decide) (by decide))
    rw [show (⟨#[]⟩ : ByteArray).data.toList = [] from rfl, hback] at HS
    unfold valE at HS
    dsimp only at HS
    clear ht0 hback
    have a0 := HX_5.out.cell0
    have a1 := HX_5.out.cell1
    have a2 := HX_5.out.cell2
    have b0 := HW_5.out.2.1.cell0
    have b1 := HW_5.out.2.1.cell1
    go_wp2_with fail
    refine (HS.out _).mono ?_
    rintro e w6 ⟨rfl, hb⟩
    have hbx := hb.trans (((Below.refl w6.heap.size w6).alloc (Nat.le_refl _) (.cells #[.int .i64 k, .int .i64 n, .string ⟨#[]⟩] 23)).mono hb.size)
    have HW_6 := Lib.hid (HW_5.out.kept hbx)
    have HZ_6 := Lib.hid (ThreeAt.start w6 k n ⟨#[]⟩)
    clear hb hbx a0 a1 a2 b0 b1
    go_wp2_with fail
    refine (lawNum3_any 0 _).mono ?_
    rintro e w' ⟨rfl, rfl⟩
    have a0 := HZ_6.out.cell0
    have a1 := HZ_6.out.cell1
    have a2 := HZ_6.out.cell2
    have b0 := HW_6.out.1.cell0
    have b1 := HW_6.out.1.cell1
    have b2 := HW_6.out.1.cell2
    have c0 := HW_6.out.2.1.cell0
    have c1 := HW_6.out.2.1.cell1
    have c2 := HW_6.out.2.1.cell2
    go_wp2_with fail
    refine (HO.out _).mono ?_
    rintro e w7 ⟨rfl, hb⟩
    have hbx := hb.trans (((Below.refl w7.heap.size w7).alloc (Nat.le_refl _) (.cells #[.int .i64 oa, .int .i64 ob, .string ⟨#[]⟩] 23)).mono hb.size)
    have HW_7 := Lib.hid (HW_6.out.kept hbx)
    have HO_7 := Lib.hid (ThreeAt.start w7 oa ob ⟨#[]⟩)
    clear hb hbx a0 a1 a2 b0 b1 b2 c0 c1 c2
    go_wp2_with fail
    refine (lawNum3_any oc _).mono ?_
    rintro e w' ⟨rfl, rfl⟩
    have b0 := HW_7.out.1.cell0
    by_cases ho : oc = 0
    · subst ho
      by_cases hk1 : k = 1
      · obtain ⟨m, hm0, hm1, hm2⟩ := HOB.out oa ob hk1 rfl
        subst hk1
        have HM := Lib.hid (fun W => vtimes_any oa ob ⟨#[]⟩ k' n' t' W (by decide) (by omega))
        rw [show (⟨#[]⟩ : ByteArray).data.toList = [] from rfl, hm0] at HM
        unfold valE at HM
        dsimp only at HM
        clear hm0
        have a0 := HO_7.out.cell0
        have a1 := HO_7.out.cell1
        have a2 := HO_7.out.cell2
        have c0 := HW_7.out.2.1.cell0
        have c1 := HW_7.out.2.1.cell1
        have c2 := HW_7.out.2.1.cell2
        go_wp2_with fail
        refine (HM.out _).mono ?_
        rintro e w8 ⟨rfl, hb⟩
        have hbx := hb.trans (((Below.refl w8.heap.size w8).alloc (Nat.le_refl _) (.cells #[.int .i64 1, .int .i64 m, .string ⟨#[]⟩] 23)).mono hb.size)
        have HW_8 := Lib.hid (HW_7.out.kept hbx)
        have HMM_8 := Lib.hid (ThreeAt.start w8 1 m ⟨#[]⟩)
        clear hb hbx a0 a1 a2 b0 c0 c1 c2
        have m1 := HMM_8.out.cell1
        have n1 := HW_8.out.1.cell1
        by_cases hp : 0 < m
        · obtain ⟨q1, q2⟩ := hm1 hp
          clear hm1 hm2
          have e1 : decide (n < m) = false := decide_eq_false (by omega)
          have e2 : decide (n < 0) = false := decide_eq_false (by omega)
          have e3 : decide (m < 0) = false := decide_eq_false (by omega)
          go_wp2_with fail
          refine (lawNum3_any 0 _).mono ?_
          rintro e w' ⟨rfl, rfl⟩
          go_wp2
          go_ret
          exact ⟨rfl, HW_8.out.2.2⟩
        · have e0 : decide (0 < m) = false := decide_eq_false hp
          by_cases hq : m < 0
          · obtain ⟨q1, q2⟩ := hm2 hq
            clear hm1 hm2
            have e1 : decide (m < n) = false := decide_eq_false (by omega)
            have e2 : decide (0 < n) = false := decide_eq_false (by omega)
            go_wp2_with fail
            refine (lawNum3_any 0 _).mono ?_
            rintro e w' ⟨rfl, rfl⟩
            go_wp2
            go_ret
            exact ⟨rfl, HW_8.out.2.2⟩
          · have e1 : decide (m < 0) = false := decide_eq_false hq
            clear hm1 hm2
            go_wp2_with fail
            refine (lawNum3_any 0 _).mono ?_
            rintro e w' ⟨rfl, rfl⟩
            go_wp2
            go_ret
            exact ⟨rfl, HW_8.out.2.2⟩
      · have hk1' : (k == 1) = false := by simpa using hk1
        clear hk1
        go_wp2
        go_ret
        exact ⟨rfl, HW_7.out.2.2⟩
    · have ho' : (oc == 0) = false := by simpa using ho
      clear ho
      go_wp2
      go_ret
      exact ⟨rfl, HW_7.out.2.2⟩
  · have hx' : (xc == 0) = false := by simpa using hx
    clear hx
    have a0 := HW_5.out.1.cell0
    have a1 := HW_5.out.1.cell1
    have a2 := HW_5.out.1.cell2
    have b0 := HW_5.out.2.1.cell0
    have b1 := HW_5.out.2.1.cell1
    have b2 := HW_5.out.2.1.cell2
    go_wp2_with fail
    refine (HO.out _).mono ?_
    rintro e w7 ⟨rfl, hb⟩
    have hbx := hb.trans (((Below.refl w7.heap.size w7).alloc (Nat.le_refl _) (.cells #[.int .i64 oa, .int .i64 ob, .string ⟨#[]⟩] 23)).mono hb.size)
    have HW_7 := Lib.hid (HW_5.out.kept hbx)
    have HO_7 := Lib.hid (ThreeAt.start w7 oa ob ⟨#[]⟩)
    clear hb hbx a0 a1 a2 b0 b1 b2
    go_wp2_with fail
    refine (lawNum3_any oc _).mono ?_
    rintro e w' ⟨rfl, rfl⟩
    have b0 := HW_7.out.1.cell0
    by_cases ho : oc = 0
    · subst ho
      by_cases hk1 : k = 1
      · obtain ⟨m, hm0, hm1, hm2⟩ := HOB.out oa ob hk1 rfl
        subst hk1
        have HM := Lib.hid (fun W => vtimes_any oa ob ⟨#[]⟩ k' n' t' W (by decide) (by omega))
        rw [show (⟨#[]⟩ : ByteArray).data.toList = [] from rfl, hm0] at HM
        unfold valE at HM
        dsimp only at HM
        clear hm0
        have a0 := HO_7.out.cell0
        have a1 := HO_7.out.cell1
        have a2 := HO_7.out.cell2
        have c0 := HW_7.out.2.1.cell0
        have c1 := HW_7.out.2.1.cell1
        have c2 := HW_7.out.2.1.cell2
        go_wp2_with fail
        refine (HM.out _).mono ?_
        rintro e w8 ⟨rfl, hb⟩
        have hbx := hb.trans (((Below.refl w8.heap.size w8).alloc (Nat.le_refl _) (.cells #[.int .i64 1, .int .i64 m, .string ⟨#[]⟩] 23)).mono hb.size)
        have HW_8 := Lib.hid (HW_7.out.kept hbx)
        have HMM_8 := Lib.hid (ThreeAt.start w8 1 m ⟨#[]⟩)
        clear hb hbx a0 a1 a2 b0 c0 c1 c2
        have m1 := HMM_8.out.cell1
        have n1 := HW_8.out.1.cell1
        by_cases hp : 0 < m
        · obtain ⟨q1, q2⟩ := hm1 hp
          clear hm1 hm2
          have e1 : decide (n < m) = false := decide_eq_false (by omega)
          have e2 : decide (n < 0) = false := decide_eq_false (by omega)
          have e3 : decide (m < 0) = false := decide_eq_false (by omega)
          go_wp2_with fail
          refine (lawNum3_any 0 _).mono ?_
          rintro e w' ⟨rfl, rfl⟩
          go_wp2
          go_ret
          exact ⟨rfl, HW_8.out.2.2⟩
        · have e0 : decide (0 < m) = false := decide_eq_false hp
          by_cases hq : m < 0
          · obtain ⟨q1, q2⟩ := hm2 hq
            clear hm1 hm2
            have e1 : decide (m < n) = false := decide_eq_false (by omega)
            have e2 : decide (0 < n) = false := decide_eq_false (by omega)
            go_wp2_with fail
            refine (lawNum3_any 0 _).mono ?_
            rintro e w' ⟨rfl, rfl⟩
            go_wp2
            go_ret
            exact ⟨rfl, HW_8.out.2.2⟩
          · have e1 : decide (m < 0) = false := decide_eq_false hq
            clear hm1 hm2
            go_wp2_with fail
            refine (lawNum3_any 0 _).mono ?_
            rintro e w' ⟨rfl, rfl⟩
            go_wp2
            go_ret
            exact ⟨rfl, HW_8.out.2.2⟩
      · have hk1' : (k == 1) = false := by simpa using hk1
        clear hk1
        go_wp2
        go_ret
        exact ⟨rfl, HW_7.out.2.2⟩
    · have ho' : (oc == 0) = false := by simpa using ho
      clear ho
      go_wp2
      go_ret
      exact ⟨rfl, HW_7.out.2.2⟩

end Go.Proofs.YtfakbbbkfmnnhaaDoor
