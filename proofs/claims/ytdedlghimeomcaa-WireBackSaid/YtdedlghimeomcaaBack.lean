/-
  WIREBACK's WALK: rows of numbers and texts are read as they were written, and a frame of them with anything behind it is unframed.
-/
import Derived.Test.YtdedlghimeomcaaRows2
import Derived.Test.YtdedlghimeomcaaKnows
import Derived.Test.YtdedlghimeomcaaNil
import Derived.Test.YtdedlghimeomcaaRef
import Derived.Deep.RegionWith
import Derived.Deep.DeepMust
namespace Go.Proofs.Ytdedlghimeomcaa
open Go.RowKit

theorem textW_good (y : ByteArray) (h : y.size ≤ 1048576) : textW y.data.toList = (Wm.numB y.size ++ y.data.toList, 0) := by
  have e : y.data.toList.length = y.size := by rw [Array.length_toList]; rfl
  unfold textW
  rw [if_pos (by omega), e]
theorem textlen_le (y : ByteArray) (h : y.size ≤ 1048576) : (Wm.numB y.size ++ y.data.toList).length ≤ 1048590 := by
  have e : y.data.toList.length = y.size := by rw [Array.length_toList]; rfl
  have := numB_small y.size
  simp only [List.length_append]
  omega
theorem strB_data (y : ByteArray) : strB y.data.toList = y := by
  cases y
  simp [strB]
theorem textW_bad (y : ByteArray) (h : ¬ y.size ≤ 1048576) : textW y.data.toList = ([], 6) := by
  have e : y.data.toList.length = y.size := by rw [Array.length_toList]; rfl
  unfold textW
  rw [if_neg (by omega)]

set_option maxHeartbeats 8000000 in
set_option maxRecDepth 100000 in
theorem wireBack_walk (p0 : Option Addr) (c0 : Nat) (ls : List Int) (p1 : Option Addr) (c1 : Nat) (ss : List ByteArray) (p2 : Option Addr) (c2 : Nat) (mr : List UInt8) (w : World)
    (h0 : Ints w p0 ls ∧ ∀ x ∈ ls, (Lit.int .i64 x).wf = true) (_k0 : ls.length ≤ c0) (_n0 : p0 = none → c0 = 0) (z0 : ls.length ≤ 17592186043904)
    (h1 : Strs w p1 ss ∧ ∀ x ∈ ss, x.size ≤ maxLen) (_k1 : ss.length ≤ c1) (_n1 : p1 = none → c1 = 0) (z1 : ss.length ≤ 8796093021952)
    (h2 : Bs w p2 mr) (_k2 : mr.length ≤ c2) (n2 : p2 = none → c2 = 0) (z2 : mr.length ≤ 140737488351232) :
    Calls Try.prog 6 #[.slice p0 ls.length c0, .slice p1 ss.length c1, .slice p2 mr.length c2] w fun e w' => e = .returned (.bool true) ∧ Below w.heap.size w w' := by
  obtain ⟨i0, hi, hz0, hz1, hz2⟩ := info_parts info_u8
  have H0 := Lib.hid h0.1
  have W0 := Lib.hid h0.2
  have H1 := Lib.hid h1.1
  have S1 := Lib.hid h1.2
  have H2 := Lib.hid h2
  clear h0 h1 h2
  go_enter Try.func6, Try.ntmps6
  go_wp2
  go_loopw [7, 8] (fun v i wr => ∃ j : Nat, (j ≤ ls.length ∨ j ≤ ss.length) ∧ i = .int .i64 j ∧ Own 5 wr w.heap.size v (rowsB ls ss j) ∧ Below w.heap.size w wr ∧ (rowsB ls ss j).length ≤ 20000
      ∧ (∀ k, k < j → k < ls.length → 0 ≤ ls.getD k 0 ∧ ls.getD k 0 ≤ 281474976710655) ∧ (∀ k, k < j → k < ss.length → (ss.getD k ByteArray.empty).size ≤ 1048576)) (fun _ i _ => ls.length + ss.length + 1 - (intOf i).toNat)
  case atStart => exact ⟨0, Or.inl (Nat.zero_le _), rfl, Own.nil _ _ _, Below.refl _ _, by simp [rowsB], fun k hk => absurd hk (Nat.not_lt_zero k), fun k hk => absurd hk (Nat.not_lt_zero k)⟩
  case round =>
    obtain ⟨j, hj, rfl, hown, hb, hT, hvl, hvs⟩ := hrel
    have hs := hb.size
    have hjb : j ≤ 17592186043904 := by omega
    have HO := Lib.hid hown
    have HVL := Lib.hid hvl
    have HVS := Lib.hid hvs
    have HRB := Lib.hid (show rowsB ls ss (j + 1) = rowsB ls ss j ++ rowB ls ss j from rfl)
    clear hown hvl hvs
    generalize hT0 : rowsB ls ss j = T at *
    have HT0 := Lib.hid hT0
    clear hT0
    by_cases hij : j < ls.length
    ·
      obtain ⟨bl, ol, el, hcl⟩ := (H0.out.kept hb) (by omega)
      subst el
      have hclj := hcl j hij
      have hwx := W0.out (ls.getD j 0) (by simp [List.getD, List.getElem?_eq_getElem hij])
      obtain ⟨x, hXE⟩ : ∃ x, ls.getD j 0 = x := ⟨_, rfl⟩
      rw [hXE] at hclj hwx
      have HXQ := Lib.hid hXE
      have hxr : -9223372036854775808 ≤ x ∧ x ≤ 9223372036854775807 := by simpa [Lit.wf, IntKind.min, IntKind.max, IntKind.signed, IntKind.bits] using hwx
      obtain ⟨hx1, hx2⟩ := hxr
      clear hcl hXE hwx
      by_cases hx : 0 ≤ x ∧ x ≤ 281474976710655
      ·
        obtain ⟨hx3, hx4⟩ := hx
        have HNX := Lib.hid (show numW x = (Wm.numB x.toNat, 0) by unfold numW; rw [if_pos ⟨hx3, hx4⟩])
        go_wp2_with fail
        refine (num_any x wr).mono ?_
        rw [HNX.out]
        rintro e wa ⟨va, rfl, howna, hba⟩
        dsimp only at howna
        have hbw1 : Below w.heap.size w wa := hb.trans (Below.mono hba hs)
        have hs1 := hbw1.size
        obtain ⟨pa, ca, rfl, hbsa, -, -, hpna, -⟩ := howna.bs
        have HBA := Lib.hid hbsa
        have HOA := Lib.hid (HO.out.below hba)
        have HLA := Lib.hid (show (Wm.numB x.toNat).length ≤ 7 from numB_small _)
        generalize hxa : Wm.numB x.toNat = xa at *
        have HXA := Lib.hid hxa
        clear hxa
        have hla : xa.length ≤ 7 := HLA.out
        clear howna hbsa hba
        go_wp2_with fail
        refine (lawNum_any _ _).mono ?_
        rintro e w' ⟨rfl, rfl⟩
        go_wp2_with (at_builtin; refine wpList_append_bs rfl _ _ 22 rfl w.heap.size 5 i0 Try.underlying22 hi hz0 hz1 hz2 _ _ rfl HOA.out pa ca xa rfl HBA.out hpna ?a1 ?a2 ?_)
        case a1 => omega
        case a2 => exact hs1
        intro v1 w1 hown1 hbel1 hgrow1 hnil1
        clear hgrow1 hnil1
        have hown1' : Own 5 w1 w.heap.size v1 (T ++ xa) := hown1
        have hb1 := hbw1.trans hbel1
        have hs2 := hb1.size
        have HO1 := Lib.hid hown1'
        have hl1 : (T ++ xa).length ≤ 20007 := by simp; omega
        clear hown1 hown1' hbel1 hbw1
        generalize hT1 : T ++ xa = T1 at *
        have HT1 := Lib.hid hT1
        clear hT1
        have HVL2 := Lib.hid (show ∀ k, k < j + 1 → k < ls.length → 0 ≤ ls.getD k 0 ∧ ls.getD k 0 ≤ 281474976710655 from fun k hk hkl => by
          rcases Nat.lt_or_ge k j with q | q
          · exact HVL.out k q hkl
          · obtain rfl : k = j := by omega
            rw [HXQ.out]; exact ⟨hx3, hx4⟩)
        by_cases hsj : j < ss.length
        ·
          have SC := Lib.hid (H1.out.kept hb1)
          obtain ⟨bs, os, es, hcs⟩ := SC.out (by omega)
          subst es
          have hcsj := hcs j hsj
          have hy : (ss.getD j ByteArray.empty).size ≤ maxLen := S1.out _ (by simp [List.getD, List.getElem?_eq_getElem hsj])
          obtain ⟨y, hYE⟩ : ∃ y, ss.getD j ByteArray.empty = y := ⟨_, rfl⟩
          rw [hYE] at hcsj hy
          have YEQ := Lib.hid hYE
          clear hcs hYE
          by_cases hyl : y.size ≤ 1048576
          ·
            have HTY := Lib.hid (textW_good y hyl)
            go_wp2_with fail
            refine (text_any y w1 hy).mono ?_
            rw [HTY.out]
            rintro e wc ⟨vc, rfl, hownc, hbc⟩
            dsimp only at hownc
            have hbw2 : Below w.heap.size w wc := hb1.trans (Below.mono hbc hs2)
            have hs3 := hbw2.size
            obtain ⟨pc, cc, rfl, hbsc, -, -, hpnc, -⟩ := hownc.bs
            have HBC := Lib.hid hbsc
            have HOC := Lib.hid (HO1.out.below hbc)
            have hlc := textlen_le y hyl
            generalize hyc : Wm.numB y.size ++ y.data.toList = yc at *
            have HYC := Lib.hid hyc
            clear hownc hbsc hbc hyc
            go_wp2_with fail
            refine (lawNum_any _ _).mono ?_
            rintro e w' ⟨rfl, rfl⟩
            go_wp2_with (at_builtin; refine wpList_append_bs rfl _ _ 22 rfl w.heap.size 5 i0 Try.underlying22 hi hz0 hz1 hz2 _ _ rfl HOC.out pc cc yc rfl HBC.out hpnc ?b1 ?b2 ?_)
            case b1 => omega
            case b2 => exact hs3
            intro v2 w2 hown2 hbel2 hgrow2 hnil2
            clear hgrow2 hnil2
            have hown2' : Own 5 w2 w.heap.size v2 (T1 ++ yc) := hown2
            have hb2 := hbw2.trans hbel2
            have hs4 := hb2.size
            have HO2 := Lib.hid hown2'
            have hl2 : (T1 ++ yc).length ≤ 2000000 := by simp; omega
            clear hown2 hown2' hbel2 hbw2
            generalize hT2 : T1 ++ yc = T2 at *
            have HT2 := Lib.hid hT2
            clear hT2
            have HVS2 := Lib.hid (show ∀ k, k < j + 1 → k < ss.length → (ss.getD k ByteArray.empty).size ≤ 1048576 from fun k hk hkl => by
              rcases Nat.lt_or_ge k j with q | q
              · exact HVS.out k q hkl
              · obtain rfl : k = j := by omega
                rw [YEQ.out]; exact hyl)
            obtain ⟨pd, cd, hvd, -⟩ := HO2.out.bs
            subst hvd
            have HRW := Lib.hid (show rowsB ls ss (j + 1) = T2 by
              rw [HRB.out]
              unfold rowB
              rw [if_pos hij, if_pos hsj, HXQ.out, YEQ.out, HXA.out, HYC.out, ← HT2.out, ← HT1.out, List.append_assoc])
            by_cases hbig : 20000 < T2.length
            ·
              go_wp2_with fail
              refine (knows_any _).mono ?_
              rintro e w' ⟨rfl, hbk⟩
              go_wp2
              go_ret
              exact ⟨rfl, hb2.trans (Below.mono hbk hs4)⟩
            · go_wp2
              go_roundw
              case rel => exact ⟨j + 1, by omega, by go_num, by rw [HRW.out]; exact HO2.out, hb2, by rw [HRW.out]; omega, HVL2.out, HVS2.out⟩
              case measure => simp [intOf]; omega
          ·
            have HTY := Lib.hid (textW_bad y hyl)
            have hyl2 : 1048576 < y.size := by omega
            go_wp2_with fail
            refine (text_any y w1 hy).mono ?_
            rw [HTY.out]
            rintro e wc ⟨vc, rfl, hownc, hbc⟩
            have hbw2 : Below w.heap.size w wc := hb1.trans (Below.mono hbc hs2)
            have hs3 := hbw2.size
            have hcs2 := SC.out.kept hbc
            obtain ⟨bs2, os2, e2, hc2⟩ := hcs2 (by omega)
            simp only [Option.some.injEq, Addr.mk.injEq] at e2
            obtain ⟨rfl, rfl, -⟩ := e2
            have hc2j := hc2 j hsj
            rw [YEQ.out] at hc2j
            clear hc2 hownc hbc
            go_wp2_with fail
            refine (lawNum_any _ _).mono ?_
            rintro e w' ⟨rfl, rfl⟩
            go_wp2_with fail
            refine (knows_any _).mono ?_
            rintro e w' ⟨rfl, hbk⟩
            go_wp2
            go_ret
            exact ⟨rfl, hbw2.trans (Below.mono hbk hs3)⟩
        ·
          have HVS2 := Lib.hid (show ∀ k, k < j + 1 → k < ss.length → (ss.getD k ByteArray.empty).size ≤ 1048576 from fun k hk hkl => by
            rcases Nat.lt_or_ge k j with q | q
            · exact HVS.out k q hkl
            · obtain rfl : k = j := by omega
              omega)
          obtain ⟨pd, cd, hvd, -⟩ := HO1.out.bs
          subst hvd
          have HRW := Lib.hid (show rowsB ls ss (j + 1) = T1 by
            rw [HRB.out]
            unfold rowB
            rw [if_pos hij, if_neg hsj, HXQ.out, HXA.out, ← HT1.out, List.append_nil])
          by_cases hbig : 20000 < T1.length
          ·
            go_wp2_with fail
            refine (knows_any _).mono ?_
            rintro e w' ⟨rfl, hbk⟩
            go_wp2
            go_ret
            exact ⟨rfl, hb1.trans (Below.mono hbk hs2)⟩
          · go_wp2
            go_roundw
            case rel => exact ⟨j + 1, by omega, by go_num, by rw [HRW.out]; exact HO1.out, hb1, by rw [HRW.out]; omega, HVL2.out, HVS2.out⟩
            case measure => simp [intOf]; omega
      ·
        have HNX := Lib.hid (show numW x = ([], 30) by unfold numW; rw [if_neg hx])
        go_wp2_with fail
        refine (num_any x wr).mono ?_
        rw [HNX.out]
        rintro e wa ⟨va, rfl, howna, hba⟩
        have hbw1 : Below w.heap.size w wa := hb.trans (Below.mono hba hs)
        have hs1 := hbw1.size
        obtain ⟨bl2, ol2, el2, hcl2⟩ := (H0.out.kept hbw1) (by omega)
        simp only [Option.some.injEq, Addr.mk.injEq] at el2
        obtain ⟨rfl, rfl, -⟩ := el2
        have hcl2j := hcl2 j hij
        rw [HXQ.out] at hcl2j
        clear hcl2 howna hba
        by_cases hneg : x < 0
        ·
          go_wp2_with fail
          refine (lawNum_any _ _).mono ?_
          rintro e w' ⟨rfl, rfl⟩
          go_wp2_with fail
          refine (knows_any _).mono ?_
          rintro e w' ⟨rfl, hbk⟩
          go_wp2
          go_ret
          exact ⟨rfl, hbw1.trans (Below.mono hbk hs1)⟩
        ·
          have hbg : 281474976710656 ≤ x := by omega
          clear hx
          go_wp2_with fail
          refine (lawNum_any _ _).mono ?_
          rintro e w' ⟨rfl, rfl⟩
          go_wp2_with fail
          refine (knows_any _).mono ?_
          rintro e w' ⟨rfl, hbk⟩
          go_wp2
          go_ret
          exact ⟨rfl, hbw1.trans (Below.mono hbk hs1)⟩
    ·
      have HVL2 := Lib.hid (show ∀ k, k < j + 1 → k < ls.length → 0 ≤ ls.getD k 0 ∧ ls.getD k 0 ≤ 281474976710655 from fun k hk hkl => by
        rcases Nat.lt_or_ge k j with q | q
        · exact HVL.out k q hkl
        · obtain rfl : k = j := by omega
          omega)
      by_cases hsj : j < ss.length
      ·
        have SC := Lib.hid (H1.out.kept hb)
        obtain ⟨bs, os, es, hcs⟩ := SC.out (by omega)
        subst es
        have hcsj := hcs j hsj
        have hy : (ss.getD j ByteArray.empty).size ≤ maxLen := S1.out _ (by simp [List.getD, List.getElem?_eq_getElem hsj])
        obtain ⟨y, hYE⟩ : ∃ y, ss.getD j ByteArray.empty = y := ⟨_, rfl⟩
        rw [hYE] at hcsj hy
        have YEQ := Lib.hid hYE
        clear hcs hYE
        by_cases hyl : y.size ≤ 1048576
        ·
          have HTY := Lib.hid (textW_good y hyl)
          go_wp2_with fail
          refine (text_any y wr hy).mono ?_
          rw [HTY.out]
          rintro e wc ⟨vc, rfl, hownc, hbc⟩
          dsimp only at hownc
          have hbw2 : Below w.heap.size w wc := hb.trans (Below.mono hbc hs)
          have hs3 := hbw2.size
          obtain ⟨pc, cc, rfl, hbsc, -, -, hpnc, -⟩ := hownc.bs
          have HBC := Lib.hid hbsc
          have HOC := Lib.hid (HO.out.below hbc)
          have hlc := textlen_le y hyl
          generalize hyc : Wm.numB y.size ++ y.data.toList = yc at *
          have HYC := Lib.hid hyc
          clear hownc hbsc hbc hyc
          go_wp2_with fail
          refine (lawNum_any _ _).mono ?_
          rintro e w' ⟨rfl, rfl⟩
          go_wp2_with (at_builtin; refine wpList_append_bs rfl _ _ 22 rfl w.heap.size 5 i0 Try.underlying22 hi hz0 hz1 hz2 _ _ rfl HOC.out pc cc yc rfl HBC.out hpnc ?b1 ?b2 ?_)
          case b1 => omega
          case b2 => exact hs3
          intro v2 w2 hown2 hbel2 hgrow2 hnil2
          clear hgrow2 hnil2
          have hown2' : Own 5 w2 w.heap.size v2 (T ++ yc) := hown2
          have hb2 := hbw2.trans hbel2
          have hs4 := hb2.size
          have HO2 := Lib.hid hown2'
          have hl2 : (T ++ yc).length ≤ 2000000 := by simp; omega
          clear hown2 hown2' hbel2 hbw2
          generalize hT2 : T ++ yc = T2 at *
          have HT2 := Lib.hid hT2
          clear hT2
          have HVS2 := Lib.hid (show ∀ k, k < j + 1 → k < ss.length → (ss.getD k ByteArray.empty).size ≤ 1048576 from fun k hk hkl => by
            rcases Nat.lt_or_ge k j with q | q
            · exact HVS.out k q hkl
            · obtain rfl : k = j := by omega
              rw [YEQ.out]; exact hyl)
          obtain ⟨pd, cd, hvd, -⟩ := HO2.out.bs
          subst hvd
          have HRW := Lib.hid (show rowsB ls ss (j + 1) = T2 by
            rw [HRB.out]
            unfold rowB
            rw [if_neg hij, if_pos hsj, YEQ.out, HYC.out, ← HT2.out, List.nil_append])
          by_cases hbig : 20000 < T2.length
          ·
            go_wp2_with fail
            refine (knows_any _).mono ?_
            rintro e w' ⟨rfl, hbk⟩
            go_wp2
            go_ret
            exact ⟨rfl, hb2.trans (Below.mono hbk hs4)⟩
          · go_wp2
            go_roundw
            case rel => exact ⟨j + 1, by omega, by go_num, by rw [HRW.out]; exact HO2.out, hb2, by rw [HRW.out]; omega, HVL2.out, HVS2.out⟩
            case measure => simp [intOf]; omega
        ·
          have HTY := Lib.hid (textW_bad y hyl)
          have hyl2 : 1048576 < y.size := by omega
          go_wp2_with fail
          refine (text_any y wr hy).mono ?_
          rw [HTY.out]
          rintro e wc ⟨vc, rfl, hownc, hbc⟩
          have hbw2 : Below w.heap.size w wc := hb.trans (Below.mono hbc hs)
          have hs3 := hbw2.size
          have hcs2 := SC.out.kept hbc
          obtain ⟨bs2, os2, e2, hc2⟩ := hcs2 (by omega)
          simp only [Option.some.injEq, Addr.mk.injEq] at e2
          obtain ⟨rfl, rfl, -⟩ := e2
          have hc2j := hc2 j hsj
          rw [YEQ.out] at hc2j
          clear hc2 hownc hbc
          go_wp2_with fail
          refine (lawNum_any _ _).mono ?_
          rintro e w' ⟨rfl, rfl⟩
          go_wp2_with fail
          refine (knows_any _).mono ?_
          rintro e w' ⟨rfl, hbk⟩
          go_wp2
          go_ret
          exact ⟨rfl, hbw2.trans (Below.mono hbk hs3)⟩
      ·
        have HVS2 := Lib.hid (show ∀ k, k < j + 1 → k < ss.length → (ss.getD k ByteArray.empty).size ≤ 1048576 from fun k hk hkl => by
          rcases Nat.lt_or_ge k j with q | q
          · exact HVS.out k q hkl
          · obtain rfl : k = j := by omega
            omega)
        obtain ⟨pb, cb, hvb, hbsb, hcb1, -, hpnb, -⟩ := HO.out.bs
        subst hvb
        have HBB := Lib.hid hbsb
        have HFR := Lib.hid (frame_any pb cb T wr hbsb (by unfold maxLen; omega) hpnb)
        clear hbsb
        go_wp2_with fail
        refine HFR.out.mono ?_
        rw [show frameW T = (Wm.frameB T, 0) from by unfold frameW; rw [if_pos (by omega)]]
        rintro e wf ⟨vf, rfl, hownf, hbf⟩
        dsimp only at hownf
        obtain ⟨pf, cf, rfl, hbsf, -, -, hpnf, -⟩ := hownf.bs
        have HUB := Lib.hid (unfR_back T mr (by omega))
        have hfl : (Wm.frameB T).length ≤ 20012 := by rw [frameB_length]; have := Wm.nlen_le T.length; omega
        generalize Wm.frameB T = f at *
        have hsf := hbf.size
        have HOE := Lib.hid (Own.lit (E := 5) wf #[] [] rfl (by decide))
        have hbe := (Below.refl wf.heap.size wf).alloc (Nat.le_refl _) (.cells #[] 5)
        have HBF := Lib.hid (hbsf.kept hbe)
        clear hownf hbsf
        go_wp2_with (at_builtin; refine wpList_append_bs rfl _ _ 22 rfl wf.heap.size 5 i0 Try.underlying22 hi hz0 hz1 hz2 _ _ rfl HOE.out pf cf f rfl HBF.out hpnf ?e1 ?e2 ?_)
        case e1 => simp; omega
        case e2 => simp
        intro vg wg howng hbelg hgrowg hnilg
        clear hgrowg hnilg
        have howng' : Own 5 wg wf.heap.size vg f := howng
        have hbg := hbe.trans hbelg
        have hsg := hbg.size
        have HOG := Lib.hid howng'
        have hbrg : Below wr.heap.size wr wg := hbf.trans (Below.mono hbg hsf)
        have HMG := Lib.hid (H2.out.kept (hb.trans (Below.mono hbrg hs)))
        clear howng howng' hbelg hbe
        go_wp2_with (at_builtin; refine wpList_append_bs rfl _ _ 22 rfl wf.heap.size 5 i0 Try.underlying22 hi hz0 hz1 hz2 _ _ rfl HOG.out p2 c2 mr rfl HMG.out n2 ?g1 ?g2 ?_)
        case g1 => omega
        case g2 => exact hsg
        intro vh wh hownh hbelh hgrowh hnilh
        clear hgrowh hnilh
        have hownh' : Own 5 wh wf.heap.size vh (f ++ mr) := hownh
        have hbrh : Below wr.heap.size wr wh := hbrg.trans (Below.mono hbelh hsf)
        have hsh := hbrh.size
        obtain ⟨ph, ch, rfl, hbsh, hch1, -, -, -⟩ := hownh'.bs
        have hfml : (f ++ mr).length = f.length + mr.length := List.length_append
        have HUN := Lib.hid (unframe_any ph (f ++ mr).length ch (f ++ mr) wh rfl hbsh (by omega) hch1)
        have HUQ := Lib.hid (show unfR (f ++ mr) = (T, f.length, 0) from HUB.out)
        have HFML := Lib.hid hfml
        generalize f ++ mr = fm at *
        clear hownh hownh' hbelh hbsh hbrg hbg hch1 hfml
        go_wp2_with fail
        refine HUN.out.mono ?_
        rw [HUQ.out]
        rintro e wi ⟨vi, rfl, howni, hbi⟩
        dsimp only at howni
        have hbri : Below wr.heap.size wr wi := hbrh.trans (Below.mono hbi hsh)
        have hsi := hbri.size
        have hbwi : Below w.heap.size w wi := hb.trans (Below.mono hbri hs)
        have hswi := hbwi.size
        obtain ⟨pi, ci, rfl, hbsi, hci1, -, hpni, -⟩ := howni.bs
        have k1 := hbsi.conv (P := Try.prog) ci 22 5 9 Try.underlying22 Try.underlying5 Try.underlying9
        have k2 := (HBB.out.kept hbri).conv (P := Try.prog) cb 22 5 9 Try.underlying22 Try.underlying5 Try.underlying9
        have HOP := Lib.hid (open_any pi ci T wi hbsi (by omega) (fun hp => ⟨hpni hp, List.eq_nil_of_length_eq_zero (by have := hpni hp; omega)⟩))
        generalize strB T = zT at *
        clear howni hbsi hbi hbrh hbri hpni
        go_wp2_with fail
        refine (lawNum_any _ _).mono ?_
        rintro e w' ⟨rfl, rfl⟩
        go_wp2_with fail
        refine (lawNum_any _ _).mono ?_
        rintro e w' ⟨rfl, rfl⟩
        go_wp2_with fail
        refine HOP.out.mono ?_
        rintro e wo ⟨bR, rfl, hRo, hbo⟩
        have hbwo : Below w.heap.size w wo := hbwi.trans (Below.mono hbo hswi)
        have hbR : w.heap.size ≤ bR := Nat.le_trans hswi hRo.1
        have HR0 := Lib.hid (show Rdr wo wi.heap.size bR (restB ls ss j 0) 0 from by rw [← rows_rest, HT0.out]; exact hRo)
        clear hRo hbo k1 k2 hbwi
        go_wp2
        go_loopw [19] (fun i wq => ∃ k : Nat, k ≤ j ∧ i = .int .i64 k ∧ Rdr wq wi.heap.size bR (restB ls ss (j - k) k) 0 ∧ Below w.heap.size w wq) (fun i _ => j - (intOf i).toNat)
        case atStart => exact ⟨0, Nat.zero_le _, rfl, HR0.out, hbwo⟩
        case round =>
          obtain ⟨k, hk, rfl, hR, hbq⟩ := hrel
          have hsq := hbq.size
          by_cases hkj : k < j
          · obtain ⟨m, hm⟩ : ∃ m, j - k = m + 1 := ⟨j - k - 1, by omega⟩
            have hrest : restB ls ss (j - k) k = rowB ls ss k ++ restB ls ss (j - (k + 1)) (k + 1) := by
              rw [hm, show j - (k + 1) = m from by omega]; rfl
            rw [hrest] at hR
            generalize hmore : restB ls ss (j - (k + 1)) (k + 1) = more at *
            have HMORE := Lib.hid hmore
            clear hrest hmore hm
            by_cases hkl : k < ls.length
            · by_cases hks : k < ss.length
              ·
                have hrow : rowB ls ss k ++ more = Wm.numB (ls.getD k 0).toNat ++ (Wm.numB (ss.getD k ByteArray.empty).size ++ (ss.getD k ByteArray.empty).data.toList) ++ more := by unfold rowB; rw [if_pos hkl, if_pos hks]
                obtain ⟨bl, ol, el, hcl⟩ := H0.out (by omega)
                subst el
                obtain ⟨hx3, hx4⟩ := HVL.out k hkj hkl
                have hclk := hcl k hkl
                generalize ls.getD k 0 = x at *
                obtain ⟨n, rfl⟩ := Int.eq_ofNat_of_zero_le hx3
                rw [Int.toNat_natCast] at hrow
                have HCL := Lib.hid (show ∀ W, Below w.heap.size w W → W.cell? ⟨bl, ol + k, none⟩ = some (.int .i64 (n : Int)) from fun W hW => by rw [hW.cell (cell_lt hclk)]; exact hclk)
                have hlq := HCL.out _ hbq
                clear hcl hclk
                obtain ⟨bs, os, es, hcs⟩ := H1.out (by omega)
                subst es
                have hyl := HVS.out k hkj hks
                have hcsk := hcs k hks
                generalize ss.getD k ByteArray.empty = y at *
                have HCS := Lib.hid (show ∀ W, Below w.heap.size w W → W.cell? ⟨bs, os + k, none⟩ = some (.string y) from fun W hW => by rw [hW.cell (cell_lt hcsk)]; exact hcsk)
                have hsq2 := HCS.out _ hbq
                have hye : y.data.toList.length = y.size := by rw [Array.length_toList]; rfl
                have HTX := Lib.hid (textR_back y.data.toList more (by omega))
                rw [hye] at HTX
                clear hcs hcsk hye
                rw [List.append_assoc] at hrow
                have HUP := Lib.hid (uptoR_back n (Wm.numB y.size ++ y.data.toList ++ more) (by omega))
                rw [hrow] at hR
                clear hrow
                have hRd := Rdr.kept hR ((Below.refl _ _).drew)
                have HRD := Lib.hid hRd
                have HBD := Lib.hid hbq.drew
                have HSD := Lib.hid hbq.drew.size
                clear hR hRd
                go_wp2
                refine wp_region_any (by kernel_rfl) ?_
                try (change wpAny _ _ _ _ _ _ _ (World.drew _))
                refine wpAny_take (i := 0) (v := ?_) rfl (by kernel_rfl) (by kernel_rfl) (by kernel_rfl) (fun _ _ _ h => h) (Or.inl ⟨by kernel_rfl, ?_⟩) ?_
                rotate_left
                · intro w; go_simp
                  all_goals with_reducible rfl
                refine wpAny_take (i := 1) (v := ?_) rfl (by kernel_rfl) (by kernel_rfl) (by kernel_rfl) (fun _ _ _ h => h) (Or.inl ⟨by kernel_rfl, ?_⟩) ?_
                rotate_left
                · intro w; go_simp
                  all_goals with_reducible rfl
                refine wpAny_take (i := 2) (v := ?_) rfl (by kernel_rfl) (by kernel_rfl) (by kernel_rfl) (fun _ _ _ h => h) (Or.inl ⟨by kernel_rfl, ?_⟩) ?_
                rotate_left
                · intro w; go_simp
                  all_goals with_reducible rfl
                refine wpAny_take (i := 3) (v := ?_) rfl (by kernel_rfl) (by kernel_rfl) (by kernel_rfl) (fun _ _ _ h => h) (Or.inl ⟨by kernel_rfl, ?_⟩) ?_
                rotate_left
                · intro w; go_simp
                  all_goals with_reducible rfl
                refine wpAny_take (i := 4) (v := ?_) rfl (by kernel_rfl) (by kernel_rfl) (by kernel_rfl) (fun _ _ _ h => h) (Or.inl ⟨by kernel_rfl, ?_⟩) ?_
                rotate_left
                · intro w; go_simp
                  all_goals with_reducible rfl
                refine wpAny_take (i := 5) (v := ?_) rfl (by kernel_rfl) (by kernel_rfl) (by kernel_rfl) (fun _ _ _ h => h) (Or.inl ⟨by kernel_rfl, ?_⟩) ?_
                rotate_left
                · intro w; go_simp
                  all_goals with_reducible rfl
                refine wpAny_take (i := 7) (v := ?_) rfl (by kernel_rfl) (by kernel_rfl) (by kernel_rfl) (fun _ _ _ h => h) (Or.inl ⟨by kernel_rfl, ?_⟩) ?_
                rotate_left
                · intro w; go_simp
                  all_goals with_reducible rfl
                refine wpAny_take (i := 8) (v := ?_) rfl (by kernel_rfl) (by kernel_rfl) (by kernel_rfl) (fun _ _ _ h => h) (Or.inl ⟨by kernel_rfl, ?_⟩) ?_
                rotate_left
                · intro w; go_simp
                  all_goals with_reducible rfl
                refine wpAny_take (i := 9) (v := ?_) rfl (by kernel_rfl) (by kernel_rfl) (by kernel_rfl) (fun _ _ _ h => h) (Or.inl ⟨by kernel_rfl, ?_⟩) ?_
                rotate_left
                · intro w; go_simp
                  all_goals with_reducible rfl
                refine wpAny_ready (rs := [6, 10]) (by kernel_rfl) (by simp) ?_
                refine AllReady.cons rfl (fun K hK => ?_) (AllReady.cons rfl (fun K hK => ?_) AllReady.nil)
                ·
                  go_simp
                  go_wp2_with (go_at_call 23; go_must (refine (rnum_any wi.heap.size bR _ _ HRD.out).mono ?_; rw [HUP.out]; rintro e wa ⟨rfl, hRa, hoa⟩; have hba := Only.below hoa HBD.out hbR HSD.out; have hla := HCL.out wa hba; have hsa := HCS.out wa hba; have HRA := Lib.hid hRa; have HBA := Lib.hid hba; clear hRa hoa hba))
                  try (refine hK _ _ ?_)
                  try (clear hK K)
                  refine wpAny_ready (rs := [10]) (by kernel_rfl) (by simp) ?_
                  refine AllReady.cons rfl (fun K hK => ?_) AllReady.nil
                  go_simp
                  try (refine hK _ _ ?_)
                  try (clear hK K)
                  refine wpAny_take (i := 11) (v := ?_) rfl (by kernel_rfl) (by kernel_rfl) (by kernel_rfl) (fun _ _ _ h => h) (Or.inl ⟨by kernel_rfl, ?_⟩) ?_
                  rotate_left
                  · intro w; go_simp
                    all_goals with_reducible rfl
                  refine wpAny_take (i := 12) (v := ?_) rfl (by kernel_rfl) (by kernel_rfl) (by kernel_rfl) (fun _ _ _ h => h) (Or.inl ⟨by kernel_rfl, ?_⟩) ?_
                  rotate_left
                  · intro w; go_simp
                    all_goals with_reducible rfl
                  refine wpAny_take (i := 13) (v := ?_) rfl (by kernel_rfl) (by kernel_rfl) (by kernel_rfl) (fun _ _ _ h => h) (Or.inl ⟨by kernel_rfl, ?_⟩) ?_
                  rotate_left
                  · intro w; go_simp
                    all_goals with_reducible rfl
                  refine wpAny_take (i := 14) (v := ?_) rfl (by kernel_rfl) (by kernel_rfl) (by kernel_rfl) (fun _ _ _ h => h) (Or.inl ⟨by kernel_rfl, ?_⟩) ?_
                  rotate_left
                  · intro w; go_simp
                    all_goals with_reducible rfl
                  refine wpAny_take (i := 15) (v := ?_) rfl (by kernel_rfl) (by kernel_rfl) (by kernel_rfl) (fun _ _ _ h => h) (Or.inl ⟨by kernel_rfl, ?_⟩) ?_
                  rotate_left
                  · intro w; go_simp
                    all_goals with_reducible rfl
                  refine wpAny_take (i := 16) (v := ?_) rfl (by kernel_rfl) (by kernel_rfl) (by kernel_rfl) (fun _ _ _ h => h) (Or.inl ⟨by kernel_rfl, ?_⟩) ?_
                  rotate_left
                  · intro w; go_simp
                    all_goals with_reducible rfl
                  refine wpAny_take (i := 17) (v := ?_) rfl (by kernel_rfl) (by kernel_rfl) (by kernel_rfl) (fun _ _ _ h => h) (Or.inl ⟨by kernel_rfl, ?_⟩) ?_
                  rotate_left
                  · intro w; go_simp
                    all_goals with_reducible rfl
                  refine wpAny_take (i := 18) (v := ?_) rfl (by kernel_rfl) (by kernel_rfl) (by kernel_rfl) (fun _ _ _ h => h) (Or.inl ⟨by kernel_rfl, ?_⟩) ?_
                  rotate_left
                  · intro w; go_simp
                    all_goals with_reducible rfl
                  refine wpAny_take (i := 19) (v := ?_) rfl (by kernel_rfl) (by kernel_rfl) (by kernel_rfl) (fun _ _ _ h => h) (Or.inl ⟨by kernel_rfl, ?_⟩) ?_
                  rotate_left
                  · intro w; go_simp
                    all_goals with_reducible rfl
                  refine wpAny_take (i := 21) (v := ?_) rfl (by kernel_rfl) (by kernel_rfl) (by kernel_rfl) (fun _ _ _ h => h) (Or.inl ⟨by kernel_rfl, ?_⟩) ?_
                  rotate_left
                  · intro w; go_simp
                    all_goals with_reducible rfl
                  refine wpAny_take (i := 22) (v := ?_) rfl (by kernel_rfl) (by kernel_rfl) (by kernel_rfl) (fun _ _ _ h => h) (Or.inl ⟨by kernel_rfl, ?_⟩) ?_
                  rotate_left
                  · intro w; go_simp
                    all_goals with_reducible rfl
                  refine wpAny_take (i := 23) (v := ?_) rfl (by kernel_rfl) (by kernel_rfl) (by kernel_rfl) (fun _ _ _ h => h) (Or.inl ⟨by kernel_rfl, ?_⟩) ?_
                  rotate_left
                  · intro w; go_simp
                    all_goals with_reducible rfl
                  refine wpAny_ready (rs := [20, 24]) (by kernel_rfl) (by simp) ?_
                  refine AllReady.cons rfl (fun K hK => ?_) (AllReady.cons rfl (fun K hK => ?_) AllReady.nil)
                  ·
                    go_simp
                    go_wp2_with (go_at_call 25; go_must (refine (rtext_any wi.heap.size bR _ _ HRA.out).mono ?_; rw [HTX.out]; simp only [strB_data]; rintro e wc ⟨rfl, hRc, hoc⟩; have hbc := Only.below hoc HBA.out hbR HBA.out.size; have hsc := HCS.out wc hbc; have HRC := Lib.hid hRc; have HBC2 := Lib.hid hbc; clear hRc hoc hbc))
                    try (refine hK _ _ ?_)
                    try (clear hK K)
                    refine wpAny_ready (rs := [24]) (by kernel_rfl) (by simp) ?_
                    refine AllReady.cons rfl (fun K hK => ?_) AllReady.nil
                    go_simp
                    try (refine hK _ _ ?_)
                    try (clear hK K)
                    refine wpAny_take (i := 25) (v := ?_) rfl (by kernel_rfl) (by kernel_rfl) (by kernel_rfl) (fun _ _ _ h => h) (Or.inl ⟨by kernel_rfl, ?_⟩) ?_
                    rotate_left
                    · intro w; go_simp
                      all_goals with_reducible rfl
                    refine wpAny_take (i := 26) (v := ?_) rfl (by kernel_rfl) (by kernel_rfl) (by kernel_rfl) (fun _ _ _ h => h) (Or.inl ⟨by kernel_rfl, ?_⟩) ?_
                    rotate_left
                    · intro w; go_simp
                      all_goals with_reducible rfl
                    refine wpAny_take (i := 27) (v := ?_) rfl (by kernel_rfl) (by kernel_rfl) (by kernel_rfl) (fun _ _ _ h => h) (Or.inl ⟨by kernel_rfl, ?_⟩) ?_
                    rotate_left
                    · intro w; go_simp
                      all_goals with_reducible rfl
                    refine wpAny_done (by kernel_rfl) ?_ _
                    go_wp2
                    go_roundw
                    case rel => exact ⟨k + 1, by omega, by go_num, by rw [HMORE.out]; exact HRC.out, HBC2.out⟩
                    case measure => simp [intOf]; omega
                  ·
                    go_simp
                    try (refine hK _ _ ?_)
                    try (clear hK K)
                    refine wpAny_ready (rs := [20]) (by kernel_rfl) (by simp) ?_
                    refine AllReady.cons rfl (fun K hK => ?_) AllReady.nil
                    go_simp
                    go_wp2_with (go_at_call 25; go_must (refine (rtext_any wi.heap.size bR _ _ HRA.out).mono ?_; rw [HTX.out]; simp only [strB_data]; rintro e wc ⟨rfl, hRc, hoc⟩; have hbc := Only.below hoc HBA.out hbR HBA.out.size; have hsc := HCS.out wc hbc; have HRC := Lib.hid hRc; have HBC2 := Lib.hid hbc; clear hRc hoc hbc))
                    try (refine hK _ _ ?_)
                    try (clear hK K)
                    refine wpAny_take (i := 25) (v := ?_) rfl (by kernel_rfl) (by kernel_rfl) (by kernel_rfl) (fun _ _ _ h => h) (Or.inl ⟨by kernel_rfl, ?_⟩) ?_
                    rotate_left
                    · intro w; go_simp
                      all_goals with_reducible rfl
                    refine wpAny_take (i := 26) (v := ?_) rfl (by kernel_rfl) (by kernel_rfl) (by kernel_rfl) (fun _ _ _ h => h) (Or.inl ⟨by kernel_rfl, ?_⟩) ?_
                    rotate_left
                    · intro w; go_simp
                      all_goals with_reducible rfl
                    refine wpAny_take (i := 27) (v := ?_) rfl (by kernel_rfl) (by kernel_rfl) (by kernel_rfl) (fun _ _ _ h => h) (Or.inl ⟨by kernel_rfl, ?_⟩) ?_
                    rotate_left
                    · intro w; go_simp
                      all_goals with_reducible rfl
                    refine wpAny_done (by kernel_rfl) ?_ _
                    go_wp2
                    go_roundw
                    case rel => exact ⟨k + 1, by omega, by go_num, by rw [HMORE.out]; exact HRC.out, HBC2.out⟩
                    case measure => simp [intOf]; omega
                ·
                  go_simp
                  try (refine hK _ _ ?_)
                  try (clear hK K)
                  refine wpAny_ready (rs := [6]) (by kernel_rfl) (by simp) ?_
                  refine AllReady.cons rfl (fun K hK => ?_) AllReady.nil
                  go_simp
                  go_wp2_with (go_at_call 23; go_must (refine (rnum_any wi.heap.size bR _ _ HRD.out).mono ?_; rw [HUP.out]; rintro e wa ⟨rfl, hRa, hoa⟩; have hba := Only.below hoa HBD.out hbR HSD.out; have hla := HCL.out wa hba; have hsa := HCS.out wa hba; have HRA := Lib.hid hRa; have HBA := Lib.hid hba; clear hRa hoa hba))
                  try (refine hK _ _ ?_)
                  try (clear hK K)
                  refine wpAny_take (i := 11) (v := ?_) rfl (by kernel_rfl) (by kernel_rfl) (by kernel_rfl) (fun _ _ _ h => h) (Or.inl ⟨by kernel_rfl, ?_⟩) ?_
                  rotate_left
                  · intro w; go_simp
                    all_goals with_reducible rfl
                  refine wpAny_take (i := 12) (v := ?_) rfl (by kernel_rfl) (by kernel_rfl) (by kernel_rfl) (fun _ _ _ h => h) (Or.inl ⟨by kernel_rfl, ?_⟩) ?_
                  rotate_left
                  · intro w; go_simp
                    all_goals with_reducible rfl
                  refine wpAny_take (i := 13) (v := ?_) rfl (by kernel_rfl) (by kernel_rfl) (by kernel_rfl) (fun _ _ _ h => h) (Or.inl ⟨by kernel_rfl, ?_⟩) ?_
                  rotate_left
                  · intro w; go_simp
                    all_goals with_reducible rfl
                  refine wpAny_take (i := 14) (v := ?_) rfl (by kernel_rfl) (by kernel_rfl) (by kernel_rfl) (fun _ _ _ h => h) (Or.inl ⟨by kernel_rfl, ?_⟩) ?_
                  rotate_left
                  · intro w; go_simp
                    all_goals with_reducible rfl
                  refine wpAny_take (i := 15) (v := ?_) rfl (by kernel_rfl) (by kernel_rfl) (by kernel_rfl) (fun _ _ _ h => h) (Or.inl ⟨by kernel_rfl, ?_⟩) ?_
                  rotate_left
                  · intro w; go_simp
                    all_goals with_reducible rfl
                  refine wpAny_take (i := 16) (v := ?_) rfl (by kernel_rfl) (by kernel_rfl) (by kernel_rfl) (fun _ _ _ h => h) (Or.inl ⟨by kernel_rfl, ?_⟩) ?_
                  rotate_left
                  · intro w; go_simp
                    all_goals with_reducible rfl
                  refine wpAny_take (i := 17) (v := ?_) rfl (by kernel_rfl) (by kernel_rfl) (by kernel_rfl) (fun _ _ _ h => h) (Or.inl ⟨by kernel_rfl, ?_⟩) ?_
                  rotate_left
                  · intro w; go_simp
                    all_goals with_reducible rfl
                  refine wpAny_take (i := 18) (v := ?_) rfl (by kernel_rfl) (by kernel_rfl) (by kernel_rfl) (fun _ _ _ h => h) (Or.inl ⟨by kernel_rfl, ?_⟩) ?_
                  rotate_left
                  · intro w; go_simp
                    all_goals with_reducible rfl
                  refine wpAny_take (i := 19) (v := ?_) rfl (by kernel_rfl) (by kernel_rfl) (by kernel_rfl) (fun _ _ _ h => h) (Or.inl ⟨by kernel_rfl, ?_⟩) ?_
                  rotate_left
                  · intro w; go_simp
                    all_goals with_reducible rfl
                  refine wpAny_take (i := 21) (v := ?_) rfl (by kernel_rfl) (by kernel_rfl) (by kernel_rfl) (fun _ _ _ h => h) (Or.inl ⟨by kernel_rfl, ?_⟩) ?_
                  rotate_left
                  · intro w; go_simp
                    all_goals with_reducible rfl
                  refine wpAny_take (i := 22) (v := ?_) rfl (by kernel_rfl) (by kernel_rfl) (by kernel_rfl) (fun _ _ _ h => h) (Or.inl ⟨by kernel_rfl, ?_⟩) ?_
                  rotate_left
                  · intro w; go_simp
                    all_goals with_reducible rfl
                  refine wpAny_take (i := 23) (v := ?_) rfl (by kernel_rfl) (by kernel_rfl) (by kernel_rfl) (fun _ _ _ h => h) (Or.inl ⟨by kernel_rfl, ?_⟩) ?_
                  rotate_left
                  · intro w; go_simp
                    all_goals with_reducible rfl
                  refine wpAny_ready (rs := [20, 24]) (by kernel_rfl) (by simp) ?_
                  refine AllReady.cons rfl (fun K hK => ?_) (AllReady.cons rfl (fun K hK => ?_) AllReady.nil)
                  ·
                    go_simp
                    go_wp2_with (go_at_call 25; go_must (refine (rtext_any wi.heap.size bR _ _ HRA.out).mono ?_; rw [HTX.out]; simp only [strB_data]; rintro e wc ⟨rfl, hRc, hoc⟩; have hbc := Only.below hoc HBA.out hbR HBA.out.size; have hsc := HCS.out wc hbc; have HRC := Lib.hid hRc; have HBC2 := Lib.hid hbc; clear hRc hoc hbc))
                    try (refine hK _ _ ?_)
                    try (clear hK K)
                    refine wpAny_ready (rs := [24]) (by kernel_rfl) (by simp) ?_
                    refine AllReady.cons rfl (fun K hK => ?_) AllReady.nil
                    go_simp
                    try (refine hK _ _ ?_)
                    try (clear hK K)
                    refine wpAny_take (i := 25) (v := ?_) rfl (by kernel_rfl) (by kernel_rfl) (by kernel_rfl) (fun _ _ _ h => h) (Or.inl ⟨by kernel_rfl, ?_⟩) ?_
                    rotate_left
                    · intro w; go_simp
                      all_goals with_reducible rfl
                    refine wpAny_take (i := 26) (v := ?_) rfl (by kernel_rfl) (by kernel_rfl) (by kernel_rfl) (fun _ _ _ h => h) (Or.inl ⟨by kernel_rfl, ?_⟩) ?_
                    rotate_left
                    · intro w; go_simp
                      all_goals with_reducible rfl
                    refine wpAny_take (i := 27) (v := ?_) rfl (by kernel_rfl) (by kernel_rfl) (by kernel_rfl) (fun _ _ _ h => h) (Or.inl ⟨by kernel_rfl, ?_⟩) ?_
                    rotate_left
                    · intro w; go_simp
                      all_goals with_reducible rfl
                    refine wpAny_done (by kernel_rfl) ?_ _
                    go_wp2
                    go_roundw
                    case rel => exact ⟨k + 1, by omega, by go_num, by rw [HMORE.out]; exact HRC.out, HBC2.out⟩
                    case measure => simp [intOf]; omega
                  ·
                    go_simp
                    try (refine hK _ _ ?_)
                    try (clear hK K)
                    refine wpAny_ready (rs := [20]) (by kernel_rfl) (by simp) ?_
                    refine AllReady.cons rfl (fun K hK => ?_) AllReady.nil
                    go_simp
                    go_wp2_with (go_at_call 25; go_must (refine (rtext_any wi.heap.size bR _ _ HRA.out).mono ?_; rw [HTX.out]; simp only [strB_data]; rintro e wc ⟨rfl, hRc, hoc⟩; have hbc := Only.below hoc HBA.out hbR HBA.out.size; have hsc := HCS.out wc hbc; have HRC := Lib.hid hRc; have HBC2 := Lib.hid hbc; clear hRc hoc hbc))
                    try (refine hK _ _ ?_)
                    try (clear hK K)
                    refine wpAny_take (i := 25) (v := ?_) rfl (by kernel_rfl) (by kernel_rfl) (by kernel_rfl) (fun _ _ _ h => h) (Or.inl ⟨by kernel_rfl, ?_⟩) ?_
                    rotate_left
                    · intro w; go_simp
                      all_goals with_reducible rfl
                    refine wpAny_take (i := 26) (v := ?_) rfl (by kernel_rfl) (by kernel_rfl) (by kernel_rfl) (fun _ _ _ h => h) (Or.inl ⟨by kernel_rfl, ?_⟩) ?_
                    rotate_left
                    · intro w; go_simp
                      all_goals with_reducible rfl
                    refine wpAny_take (i := 27) (v := ?_) rfl (by kernel_rfl) (by kernel_rfl) (by kernel_rfl) (fun _ _ _ h => h) (Or.inl ⟨by kernel_rfl, ?_⟩) ?_
                    rotate_left
                    · intro w; go_simp
                      all_goals with_reducible rfl
                    refine wpAny_done (by kernel_rfl) ?_ _
                    go_wp2
                    go_roundw
                    case rel => exact ⟨k + 1, by omega, by go_num, by rw [HMORE.out]; exact HRC.out, HBC2.out⟩
                    case measure => simp [intOf]; omega
              ·
                have hrow : rowB ls ss k ++ more = Wm.numB (ls.getD k 0).toNat ++ more := by unfold rowB; rw [if_pos hkl, if_neg hks, List.append_nil]
                obtain ⟨bl, ol, el, hcl⟩ := H0.out (by omega)
                subst el
                obtain ⟨hx3, hx4⟩ := HVL.out k hkj hkl
                have hclk := hcl k hkl
                generalize ls.getD k 0 = x at *
                obtain ⟨n, rfl⟩ := Int.eq_ofNat_of_zero_le hx3
                rw [Int.toNat_natCast] at hrow
                have HCL := Lib.hid (show ∀ W, Below w.heap.size w W → W.cell? ⟨bl, ol + k, none⟩ = some (.int .i64 (n : Int)) from fun W hW => by rw [hW.cell (cell_lt hclk)]; exact hclk)
                have hlq := HCL.out _ hbq
                clear hcl hclk
                have HUP := Lib.hid (uptoR_back n more (by omega))
                rw [hrow] at hR
                clear hrow
                have hRd := Rdr.kept hR ((Below.refl _ _).drew)
                have HRD := Lib.hid hRd
                have HBD := Lib.hid hbq.drew
                have HSD := Lib.hid hbq.drew.size
                clear hR hRd
                go_wp2
                refine wp_region_any (by kernel_rfl) ?_
                try (change wpAny _ _ _ _ _ _ _ (World.drew _))
                refine wpAny_take (i := 0) (v := ?_) rfl (by kernel_rfl) (by kernel_rfl) (by kernel_rfl) (fun _ _ _ h => h) (Or.inl ⟨by kernel_rfl, ?_⟩) ?_
                rotate_left
                · intro w; go_simp
                  all_goals with_reducible rfl
                refine wpAny_take (i := 1) (v := ?_) rfl (by kernel_rfl) (by kernel_rfl) (by kernel_rfl) (fun _ _ _ h => h) (Or.inl ⟨by kernel_rfl, ?_⟩) ?_
                rotate_left
                · intro w; go_simp
                  all_goals with_reducible rfl
                refine wpAny_take (i := 2) (v := ?_) rfl (by kernel_rfl) (by kernel_rfl) (by kernel_rfl) (fun _ _ _ h => h) (Or.inl ⟨by kernel_rfl, ?_⟩) ?_
                rotate_left
                · intro w; go_simp
                  all_goals with_reducible rfl
                refine wpAny_take (i := 3) (v := ?_) rfl (by kernel_rfl) (by kernel_rfl) (by kernel_rfl) (fun _ _ _ h => h) (Or.inl ⟨by kernel_rfl, ?_⟩) ?_
                rotate_left
                · intro w; go_simp
                  all_goals with_reducible rfl
                refine wpAny_take (i := 4) (v := ?_) rfl (by kernel_rfl) (by kernel_rfl) (by kernel_rfl) (fun _ _ _ h => h) (Or.inl ⟨by kernel_rfl, ?_⟩) ?_
                rotate_left
                · intro w; go_simp
                  all_goals with_reducible rfl
                refine wpAny_take (i := 5) (v := ?_) rfl (by kernel_rfl) (by kernel_rfl) (by kernel_rfl) (fun _ _ _ h => h) (Or.inl ⟨by kernel_rfl, ?_⟩) ?_
                rotate_left
                · intro w; go_simp
                  all_goals with_reducible rfl
                refine wpAny_take (i := 7) (v := ?_) rfl (by kernel_rfl) (by kernel_rfl) (by kernel_rfl) (fun _ _ _ h => h) (Or.inl ⟨by kernel_rfl, ?_⟩) ?_
                rotate_left
                · intro w; go_simp
                  all_goals with_reducible rfl
                refine wpAny_take (i := 8) (v := ?_) rfl (by kernel_rfl) (by kernel_rfl) (by kernel_rfl) (fun _ _ _ h => h) (Or.inl ⟨by kernel_rfl, ?_⟩) ?_
                rotate_left
                · intro w; go_simp
                  all_goals with_reducible rfl
                refine wpAny_take (i := 9) (v := ?_) rfl (by kernel_rfl) (by kernel_rfl) (by kernel_rfl) (fun _ _ _ h => h) (Or.inl ⟨by kernel_rfl, ?_⟩) ?_
                rotate_left
                · intro w; go_simp
                  all_goals with_reducible rfl
                refine wpAny_ready (rs := [6, 10]) (by kernel_rfl) (by simp) ?_
                refine AllReady.cons rfl (fun K hK => ?_) (AllReady.cons rfl (fun K hK => ?_) AllReady.nil)
                ·
                  go_simp
                  go_wp2_with (go_at_call 23; go_must (refine (rnum_any wi.heap.size bR _ _ HRD.out).mono ?_; rw [HUP.out]; rintro e wa ⟨rfl, hRa, hoa⟩; have hba := Only.below hoa HBD.out hbR HSD.out; have hla := HCL.out wa hba;  have HRA := Lib.hid hRa; have HBA := Lib.hid hba; clear hRa hoa hba))
                  try (refine hK _ _ ?_)
                  try (clear hK K)
                  refine wpAny_ready (rs := [10]) (by kernel_rfl) (by simp) ?_
                  refine AllReady.cons rfl (fun K hK => ?_) AllReady.nil
                  go_simp
                  try (refine hK _ _ ?_)
                  try (clear hK K)
                  refine wpAny_take (i := 11) (v := ?_) rfl (by kernel_rfl) (by kernel_rfl) (by kernel_rfl) (fun _ _ _ h => h) (Or.inl ⟨by kernel_rfl, ?_⟩) ?_
                  rotate_left
                  · intro w; go_simp
                    all_goals with_reducible rfl
                  refine wpAny_take (i := 12) (v := ?_) rfl (by kernel_rfl) (by kernel_rfl) (by kernel_rfl) (fun _ _ _ h => h) (Or.inl ⟨by kernel_rfl, ?_⟩) ?_
                  rotate_left
                  · intro w; go_simp
                    all_goals with_reducible rfl
                  refine wpAny_take (i := 13) (v := ?_) rfl (by kernel_rfl) (by kernel_rfl) (by kernel_rfl) (fun _ _ _ h => h) (Or.inl ⟨by kernel_rfl, ?_⟩) ?_
                  rotate_left
                  · intro w; go_simp
                    all_goals with_reducible rfl
                  refine wpAny_take (i := 14) (v := ?_) rfl (by kernel_rfl) (by kernel_rfl) (by kernel_rfl) (fun _ _ _ h => h) (Or.inl ⟨by kernel_rfl, ?_⟩) ?_
                  rotate_left
                  · intro w; go_simp
                    all_goals with_reducible rfl
                  refine wpAny_take (i := 15) (v := ?_) rfl (by kernel_rfl) (by kernel_rfl) (by kernel_rfl) (fun _ _ _ h => h) (Or.inl ⟨by kernel_rfl, ?_⟩) ?_
                  rotate_left
                  · intro w; go_simp
                    all_goals with_reducible rfl
                  refine wpAny_take (i := 16) (v := ?_) rfl (by kernel_rfl) (by kernel_rfl) (by kernel_rfl) (fun _ _ _ h => h) (Or.inl ⟨by kernel_rfl, ?_⟩) ?_
                  rotate_left
                  · intro w; go_simp
                    all_goals with_reducible rfl
                  refine wpAny_take (i := 17) (v := ?_) rfl (by kernel_rfl) (by kernel_rfl) (by kernel_rfl) (fun _ _ _ h => h) (Or.inl ⟨by kernel_rfl, ?_⟩) ?_
                  rotate_left
                  · intro w; go_simp
                    all_goals with_reducible rfl
                  refine wpAny_take (i := 18) (v := ?_) rfl (by kernel_rfl) (by kernel_rfl) (by kernel_rfl) (fun _ _ _ h => h) (Or.inl ⟨by kernel_rfl, ?_⟩) ?_
                  rotate_left
                  · intro w; go_simp
                    all_goals with_reducible rfl
                  go_simp
                  refine wpAny_take (i := 19) (v := undef) rfl (by kernel_rfl) (by kernel_rfl) (by kernel_rfl) (fun _ _ _ h => h) (Or.inr ⟨by kernel_rfl, rfl⟩) ?_
                  refine wpAny_take (i := 20) (v := undef) rfl (by kernel_rfl) (by kernel_rfl) (by kernel_rfl) (fun _ _ _ h => h) (Or.inr ⟨by kernel_rfl, rfl⟩) ?_
                  refine wpAny_take (i := 21) (v := undef) rfl (by kernel_rfl) (by kernel_rfl) (by kernel_rfl) (fun _ _ _ h => h) (Or.inr ⟨by kernel_rfl, rfl⟩) ?_
                  go_simp
                  refine wpAny_take (i := 22) (v := undef) rfl (by kernel_rfl) (by kernel_rfl) (by kernel_rfl) (fun _ _ _ h => h) (Or.inr ⟨by kernel_rfl, rfl⟩) ?_
                  refine wpAny_take (i := 23) (v := undef) rfl (by kernel_rfl) (by kernel_rfl) (by kernel_rfl) (fun _ _ _ h => h) (Or.inr ⟨by kernel_rfl, rfl⟩) ?_
                  go_simp
                  refine wpAny_take (i := 24) (v := undef) rfl (by kernel_rfl) (by kernel_rfl) (by kernel_rfl) (fun _ _ _ h => h) (Or.inr ⟨by kernel_rfl, rfl⟩) ?_
                  refine wpAny_take (i := 25) (v := undef) rfl (by kernel_rfl) (by kernel_rfl) (by kernel_rfl) (fun _ _ _ h => h) (Or.inr ⟨by kernel_rfl, rfl⟩) ?_
                  go_simp
                  refine wpAny_take (i := 26) (v := ?_) rfl (by kernel_rfl) (by kernel_rfl) (by kernel_rfl) (fun _ _ _ h => h) (Or.inl ⟨by kernel_rfl, ?_⟩) ?_
                  rotate_left
                  · intro w; go_simp
                    all_goals with_reducible rfl
                  refine wpAny_take (i := 27) (v := ?_) rfl (by kernel_rfl) (by kernel_rfl) (by kernel_rfl) (fun _ _ _ h => h) (Or.inl ⟨by kernel_rfl, ?_⟩) ?_
                  rotate_left
                  · intro w; go_simp
                    all_goals with_reducible rfl
                  refine wpAny_done (by kernel_rfl) ?_ _
                  go_wp2
                  go_roundw
                  case rel => exact ⟨k + 1, by omega, by go_num, by rw [HMORE.out]; exact HRA.out, HBA.out⟩
                  case measure => simp [intOf]; omega
                ·
                  go_simp
                  try (refine hK _ _ ?_)
                  try (clear hK K)
                  refine wpAny_ready (rs := [6]) (by kernel_rfl) (by simp) ?_
                  refine AllReady.cons rfl (fun K hK => ?_) AllReady.nil
                  go_simp
                  go_wp2_with (go_at_call 23; go_must (refine (rnum_any wi.heap.size bR _ _ HRD.out).mono ?_; rw [HUP.out]; rintro e wa ⟨rfl, hRa, hoa⟩; have hba := Only.below hoa HBD.out hbR HSD.out; have hla := HCL.out wa hba;  have HRA := Lib.hid hRa; have HBA := Lib.hid hba; clear hRa hoa hba))
                  try (refine hK _ _ ?_)
                  try (clear hK K)
                  refine wpAny_take (i := 11) (v := ?_) rfl (by kernel_rfl) (by kernel_rfl) (by kernel_rfl) (fun _ _ _ h => h) (Or.inl ⟨by kernel_rfl, ?_⟩) ?_
                  rotate_left
                  · intro w; go_simp
                    all_goals with_reducible rfl
                  refine wpAny_take (i := 12) (v := ?_) rfl (by kernel_rfl) (by kernel_rfl) (by kernel_rfl) (fun _ _ _ h => h) (Or.inl ⟨by kernel_rfl, ?_⟩) ?_
                  rotate_left
                  · intro w; go_simp
                    all_goals with_reducible rfl
                  refine wpAny_take (i := 13) (v := ?_) rfl (by kernel_rfl) (by kernel_rfl) (by kernel_rfl) (fun _ _ _ h => h) (Or.inl ⟨by kernel_rfl, ?_⟩) ?_
                  rotate_left
                  · intro w; go_simp
                    all_goals with_reducible rfl
                  refine wpAny_take (i := 14) (v := ?_) rfl (by kernel_rfl) (by kernel_rfl) (by kernel_rfl) (fun _ _ _ h => h) (Or.inl ⟨by kernel_rfl, ?_⟩) ?_
                  rotate_left
                  · intro w; go_simp
                    all_goals with_reducible rfl
                  refine wpAny_take (i := 15) (v := ?_) rfl (by kernel_rfl) (by kernel_rfl) (by kernel_rfl) (fun _ _ _ h => h) (Or.inl ⟨by kernel_rfl, ?_⟩) ?_
                  rotate_left
                  · intro w; go_simp
                    all_goals with_reducible rfl
                  refine wpAny_take (i := 16) (v := ?_) rfl (by kernel_rfl) (by kernel_rfl) (by kernel_rfl) (fun _ _ _ h => h) (Or.inl ⟨by kernel_rfl, ?_⟩) ?_
                  rotate_left
                  · intro w; go_simp
                    all_goals with_reducible rfl
                  refine wpAny_take (i := 17) (v := ?_) rfl (by kernel_rfl) (by kernel_rfl) (by kernel_rfl) (fun _ _ _ h => h) (Or.inl ⟨by kernel_rfl, ?_⟩) ?_
                  rotate_left
                  · intro w; go_simp
                    all_goals with_reducible rfl
                  refine wpAny_take (i := 18) (v := ?_) rfl (by kernel_rfl) (by kernel_rfl) (by kernel_rfl) (fun _ _ _ h => h) (Or.inl ⟨by kernel_rfl, ?_⟩) ?_
                  rotate_left
                  · intro w; go_simp
                    all_goals with_reducible rfl
                  go_simp
                  refine wpAny_take (i := 19) (v := undef) rfl (by kernel_rfl) (by kernel_rfl) (by kernel_rfl) (fun _ _ _ h => h) (Or.inr ⟨by kernel_rfl, rfl⟩) ?_
                  refine wpAny_take (i := 20) (v := undef) rfl (by kernel_rfl) (by kernel_rfl) (by kernel_rfl) (fun _ _ _ h => h) (Or.inr ⟨by kernel_rfl, rfl⟩) ?_
                  refine wpAny_take (i := 21) (v := undef) rfl (by kernel_rfl) (by kernel_rfl) (by kernel_rfl) (fun _ _ _ h => h) (Or.inr ⟨by kernel_rfl, rfl⟩) ?_
                  go_simp
                  refine wpAny_take (i := 22) (v := undef) rfl (by kernel_rfl) (by kernel_rfl) (by kernel_rfl) (fun _ _ _ h => h) (Or.inr ⟨by kernel_rfl, rfl⟩) ?_
                  refine wpAny_take (i := 23) (v := undef) rfl (by kernel_rfl) (by kernel_rfl) (by kernel_rfl) (fun _ _ _ h => h) (Or.inr ⟨by kernel_rfl, rfl⟩) ?_
                  go_simp
                  refine wpAny_take (i := 24) (v := undef) rfl (by kernel_rfl) (by kernel_rfl) (by kernel_rfl) (fun _ _ _ h => h) (Or.inr ⟨by kernel_rfl, rfl⟩) ?_
                  refine wpAny_take (i := 25) (v := undef) rfl (by kernel_rfl) (by kernel_rfl) (by kernel_rfl) (fun _ _ _ h => h) (Or.inr ⟨by kernel_rfl, rfl⟩) ?_
                  go_simp
                  refine wpAny_take (i := 26) (v := ?_) rfl (by kernel_rfl) (by kernel_rfl) (by kernel_rfl) (fun _ _ _ h => h) (Or.inl ⟨by kernel_rfl, ?_⟩) ?_
                  rotate_left
                  · intro w; go_simp
                    all_goals with_reducible rfl
                  refine wpAny_take (i := 27) (v := ?_) rfl (by kernel_rfl) (by kernel_rfl) (by kernel_rfl) (fun _ _ _ h => h) (Or.inl ⟨by kernel_rfl, ?_⟩) ?_
                  rotate_left
                  · intro w; go_simp
                    all_goals with_reducible rfl
                  refine wpAny_done (by kernel_rfl) ?_ _
                  go_wp2
                  go_roundw
                  case rel => exact ⟨k + 1, by omega, by go_num, by rw [HMORE.out]; exact HRA.out, HBA.out⟩
                  case measure => simp [intOf]; omega
            ·
              have hks : k < ss.length := by omega
              have hrow : rowB ls ss k ++ more = Wm.numB (ss.getD k ByteArray.empty).size ++ (ss.getD k ByteArray.empty).data.toList ++ more := by unfold rowB; rw [if_neg hkl, if_pos hks, List.nil_append]
              obtain ⟨bs, os, es, hcs⟩ := H1.out (by omega)
              subst es
              have hyl := HVS.out k hkj hks
              have hcsk := hcs k hks
              generalize ss.getD k ByteArray.empty = y at *
              have HCS := Lib.hid (show ∀ W, Below w.heap.size w W → W.cell? ⟨bs, os + k, none⟩ = some (.string y) from fun W hW => by rw [hW.cell (cell_lt hcsk)]; exact hcsk)
              have hsq2 := HCS.out _ hbq
              have hye : y.data.toList.length = y.size := by rw [Array.length_toList]; rfl
              have HTX := Lib.hid (textR_back y.data.toList more (by omega))
              rw [hye] at HTX
              clear hcs hcsk hye
              rw [hrow] at hR
              clear hrow
              have hRd := Rdr.kept hR ((Below.refl _ _).drew)
              have HRD := Lib.hid hRd
              have HBD := Lib.hid hbq.drew
              have HSD := Lib.hid hbq.drew.size
              clear hR hRd
              go_wp2
              refine wp_region_any (by kernel_rfl) ?_
              try (change wpAny _ _ _ _ _ _ _ (World.drew _))
              refine wpAny_take (i := 0) (v := ?_) rfl (by kernel_rfl) (by kernel_rfl) (by kernel_rfl) (fun _ _ _ h => h) (Or.inl ⟨by kernel_rfl, ?_⟩) ?_
              rotate_left
              · intro w; go_simp
                all_goals with_reducible rfl
              refine wpAny_take (i := 1) (v := ?_) rfl (by kernel_rfl) (by kernel_rfl) (by kernel_rfl) (fun _ _ _ h => h) (Or.inl ⟨by kernel_rfl, ?_⟩) ?_
              rotate_left
              · intro w; go_simp
                all_goals with_reducible rfl
              refine wpAny_take (i := 2) (v := ?_) rfl (by kernel_rfl) (by kernel_rfl) (by kernel_rfl) (fun _ _ _ h => h) (Or.inl ⟨by kernel_rfl, ?_⟩) ?_
              rotate_left
              · intro w; go_simp
                all_goals with_reducible rfl
              refine wpAny_take (i := 3) (v := ?_) rfl (by kernel_rfl) (by kernel_rfl) (by kernel_rfl) (fun _ _ _ h => h) (Or.inl ⟨by kernel_rfl, ?_⟩) ?_
              rotate_left
              · intro w; go_simp
                all_goals with_reducible rfl
              refine wpAny_take (i := 4) (v := ?_) rfl (by kernel_rfl) (by kernel_rfl) (by kernel_rfl) (fun _ _ _ h => h) (Or.inl ⟨by kernel_rfl, ?_⟩) ?_
              rotate_left
              · intro w; go_simp
                all_goals with_reducible rfl
              refine wpAny_take (i := 5) (v := undef) rfl (by kernel_rfl) (by kernel_rfl) (by kernel_rfl) (fun _ _ _ h => h) (Or.inr ⟨by kernel_rfl, rfl⟩) ?_
              refine wpAny_take (i := 6) (v := undef) rfl (by kernel_rfl) (by kernel_rfl) (by kernel_rfl) (fun _ _ _ h => h) (Or.inr ⟨by kernel_rfl, rfl⟩) ?_
              refine wpAny_take (i := 7) (v := undef) rfl (by kernel_rfl) (by kernel_rfl) (by kernel_rfl) (fun _ _ _ h => h) (Or.inr ⟨by kernel_rfl, rfl⟩) ?_
              refine wpAny_take (i := 8) (v := undef) rfl (by kernel_rfl) (by kernel_rfl) (by kernel_rfl) (fun _ _ _ h => h) (Or.inr ⟨by kernel_rfl, rfl⟩) ?_
              refine wpAny_take (i := 9) (v := undef) rfl (by kernel_rfl) (by kernel_rfl) (by kernel_rfl) (fun _ _ _ h => h) (Or.inr ⟨by kernel_rfl, rfl⟩) ?_
              refine wpAny_take (i := 10) (v := undef) rfl (by kernel_rfl) (by kernel_rfl) (by kernel_rfl) (fun _ _ _ h => h) (Or.inr ⟨by kernel_rfl, rfl⟩) ?_
              refine wpAny_take (i := 11) (v := undef) rfl (by kernel_rfl) (by kernel_rfl) (by kernel_rfl) (fun _ _ _ h => h) (Or.inr ⟨by kernel_rfl, rfl⟩) ?_
              refine wpAny_take (i := 12) (v := ?_) rfl (by kernel_rfl) (by kernel_rfl) (by kernel_rfl) (fun _ _ _ h => h) (Or.inl ⟨by kernel_rfl, ?_⟩) ?_
              rotate_left
              · intro w; go_simp
                all_goals with_reducible rfl
              refine wpAny_take (i := 13) (v := ?_) rfl (by kernel_rfl) (by kernel_rfl) (by kernel_rfl) (fun _ _ _ h => h) (Or.inl ⟨by kernel_rfl, ?_⟩) ?_
              rotate_left
              · intro w; go_simp
                all_goals with_reducible rfl
              refine wpAny_take (i := 14) (v := ?_) rfl (by kernel_rfl) (by kernel_rfl) (by kernel_rfl) (fun _ _ _ h => h) (Or.inl ⟨by kernel_rfl, ?_⟩) ?_
              rotate_left
              · intro w; go_simp
                all_goals with_reducible rfl
              refine wpAny_take (i := 15) (v := ?_) rfl (by kernel_rfl) (by kernel_rfl) (by kernel_rfl) (fun _ _ _ h => h) (Or.inl ⟨by kernel_rfl, ?_⟩) ?_
              rotate_left
              · intro w; go_simp
                all_goals with_reducible rfl
              refine wpAny_take (i := 16) (v := ?_) rfl (by kernel_rfl) (by kernel_rfl) (by kernel_rfl) (fun _ _ _ h => h) (Or.inl ⟨by kernel_rfl, ?_⟩) ?_
              rotate_left
              · intro w; go_simp
                all_goals with_reducible rfl
              refine wpAny_take (i := 17) (v := ?_) rfl (by kernel_rfl) (by kernel_rfl) (by kernel_rfl) (fun _ _ _ h => h) (Or.inl ⟨by kernel_rfl, ?_⟩) ?_
              rotate_left
              · intro w; go_simp
                all_goals with_reducible rfl
              refine wpAny_take (i := 18) (v := ?_) rfl (by kernel_rfl) (by kernel_rfl) (by kernel_rfl) (fun _ _ _ h => h) (Or.inl ⟨by kernel_rfl, ?_⟩) ?_
              rotate_left
              · intro w; go_simp
                all_goals with_reducible rfl
              refine wpAny_take (i := 19) (v := ?_) rfl (by kernel_rfl) (by kernel_rfl) (by kernel_rfl) (fun _ _ _ h => h) (Or.inl ⟨by kernel_rfl, ?_⟩) ?_
              rotate_left
              · intro w; go_simp
                all_goals with_reducible rfl
              refine wpAny_take (i := 21) (v := ?_) rfl (by kernel_rfl) (by kernel_rfl) (by kernel_rfl) (fun _ _ _ h => h) (Or.inl ⟨by kernel_rfl, ?_⟩) ?_
              rotate_left
              · intro w; go_simp
                all_goals with_reducible rfl
              refine wpAny_take (i := 22) (v := ?_) rfl (by kernel_rfl) (by kernel_rfl) (by kernel_rfl) (fun _ _ _ h => h) (Or.inl ⟨by kernel_rfl, ?_⟩) ?_
              rotate_left
              · intro w; go_simp
                all_goals with_reducible rfl
              refine wpAny_take (i := 23) (v := ?_) rfl (by kernel_rfl) (by kernel_rfl) (by kernel_rfl) (fun _ _ _ h => h) (Or.inl ⟨by kernel_rfl, ?_⟩) ?_
              rotate_left
              · intro w; go_simp
                all_goals with_reducible rfl
              refine wpAny_ready (rs := [20, 24]) (by kernel_rfl) (by simp) ?_
              refine AllReady.cons rfl (fun K hK => ?_) (AllReady.cons rfl (fun K hK => ?_) AllReady.nil)
              ·
                go_simp
                go_wp2_with (go_at_call 25; go_must (refine (rtext_any wi.heap.size bR _ _ HRD.out).mono ?_; rw [HTX.out]; simp only [strB_data]; rintro e wc ⟨rfl, hRc, hoc⟩; have hbc := Only.below hoc HBD.out hbR HBD.out.size; have hsc := HCS.out wc hbc; have HRC := Lib.hid hRc; have HBC2 := Lib.hid hbc; clear hRc hoc hbc))
                try (refine hK _ _ ?_)
                try (clear hK K)
                refine wpAny_ready (rs := [24]) (by kernel_rfl) (by simp) ?_
                refine AllReady.cons rfl (fun K hK => ?_) AllReady.nil
                go_simp
                try (refine hK _ _ ?_)
                try (clear hK K)
                refine wpAny_take (i := 25) (v := ?_) rfl (by kernel_rfl) (by kernel_rfl) (by kernel_rfl) (fun _ _ _ h => h) (Or.inl ⟨by kernel_rfl, ?_⟩) ?_
                rotate_left
                · intro w; go_simp
                  all_goals with_reducible rfl
                refine wpAny_take (i := 26) (v := ?_) rfl (by kernel_rfl) (by kernel_rfl) (by kernel_rfl) (fun _ _ _ h => h) (Or.inl ⟨by kernel_rfl, ?_⟩) ?_
                rotate_left
                · intro w; go_simp
                  all_goals with_reducible rfl
                refine wpAny_take (i := 27) (v := ?_) rfl (by kernel_rfl) (by kernel_rfl) (by kernel_rfl) (fun _ _ _ h => h) (Or.inl ⟨by kernel_rfl, ?_⟩) ?_
                rotate_left
                · intro w; go_simp
                  all_goals with_reducible rfl
                refine wpAny_done (by kernel_rfl) ?_ _
                go_wp2
                go_roundw
                case rel => exact ⟨k + 1, by omega, by go_num, by rw [HMORE.out]; exact HRC.out, HBC2.out⟩
                case measure => simp [intOf]; omega
              ·
                go_simp
                try (refine hK _ _ ?_)
                try (clear hK K)
                refine wpAny_ready (rs := [20]) (by kernel_rfl) (by simp) ?_
                refine AllReady.cons rfl (fun K hK => ?_) AllReady.nil
                go_simp
                go_wp2_with (go_at_call 25; go_must (refine (rtext_any wi.heap.size bR _ _ HRD.out).mono ?_; rw [HTX.out]; simp only [strB_data]; rintro e wc ⟨rfl, hRc, hoc⟩; have hbc := Only.below hoc HBD.out hbR HBD.out.size; have hsc := HCS.out wc hbc; have HRC := Lib.hid hRc; have HBC2 := Lib.hid hbc; clear hRc hoc hbc))
                try (refine hK _ _ ?_)
                try (clear hK K)
                refine wpAny_take (i := 25) (v := ?_) rfl (by kernel_rfl) (by kernel_rfl) (by kernel_rfl) (fun _ _ _ h => h) (Or.inl ⟨by kernel_rfl, ?_⟩) ?_
                rotate_left
                · intro w; go_simp
                  all_goals with_reducible rfl
                refine wpAny_take (i := 26) (v := ?_) rfl (by kernel_rfl) (by kernel_rfl) (by kernel_rfl) (fun _ _ _ h => h) (Or.inl ⟨by kernel_rfl, ?_⟩) ?_
                rotate_left
                · intro w; go_simp
                  all_goals with_reducible rfl
                refine wpAny_take (i := 27) (v := ?_) rfl (by kernel_rfl) (by kernel_rfl) (by kernel_rfl) (fun _ _ _ h => h) (Or.inl ⟨by kernel_rfl, ?_⟩) ?_
                rotate_left
                · intro w; go_simp
                  all_goals with_reducible rfl
                refine wpAny_done (by kernel_rfl) ?_ _
                go_wp2
                go_roundw
                case rel => exact ⟨k + 1, by omega, by go_num, by rw [HMORE.out]; exact HRC.out, HBC2.out⟩
                case measure => simp [intOf]; omega
          · obtain rfl : k = j := by omega
            rw [Nat.sub_self] at hR
            have hdone := done_any wi.heap.size bR [] 0 _ hR
            have HD := Lib.hid hdone
            clear hR hdone
            go_wp2_with fail
            refine HD.out.mono ?_
            rw [show doneR [] 0 = 0 from rfl]
            rintro e w' ⟨rfl, rfl⟩
            go_wp2_with fail
            refine (lawNum_any _ _).mono ?_
            rintro e w' ⟨rfl, rfl⟩
            go_wp2_with fail
            refine (knows_any _).mono ?_
            rintro e w' ⟨rfl, hbk⟩
            go_wp2
            go_ret
            exact ⟨rfl, hbq.trans (Below.mono hbk hsq)⟩
end Go.Proofs.Ytdedlghimeomcaa
