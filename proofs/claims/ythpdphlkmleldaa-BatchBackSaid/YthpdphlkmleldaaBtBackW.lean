/-
  BatchBack: a batch that may be is read as it was written, framed or not, with anything behind it.
  No conditions but sizes.
-/
import Derived.Test.YthpdphlkmleldaaBtKnow
import Derived.Test.YthpdphlkmleldaaGH
import Derived.Test.YthpdphlkmleldaaGI
namespace Go.Proofs.Ythpdphlkmleldaa
open Go.RowKit

set_option maxRecDepth 100000 in
set_option maxHeartbeats 8000000 in
theorem batchBack_walk (x : Bat) (p : Option Addr) (c : Nat) (pm : Option Addr) (cm : Nat) (m : List UInt8) (w : World) (h : Bops w x p c) (hm : Bs w pm m) (_ : m.length ≤ cm) (hmn : pm = none → cm = 0) (hml : m.length ≤ 140737488351232) :
    Calls Try.prog 3 #[.agg (btA x p c), .slice pm m.length cm] w (Yes w) := by
  obtain ⟨i0, hi, hz0, hz1, hz2⟩ := info_parts info_u8
  have HX := Lib.hid (AgAt.new w (btA x p c) 24)
  have HB := Lib.hid ((Below.refl w.heap.size w).alloc (Nat.le_refl _) (.cells (btA x p c) 24))
  have HM := Lib.hid (fun W (hb : Below w.heap.size w W) => hm.kept hb)
  have HLI := Lib.hid (fun W (hb : Below w.heap.size w W) => light_any x p c W (h.kept hb))
  have HOW := Lib.hid (fun W (hb : Below w.heap.size w W) (h1 : x.ops.length ≤ 5000) (h2 : ∀ y, y ∈ x.ops → y.path.length ≤ 5000) => bown_any x p c W (h.kept hb) h1 h2)
  have hx := HX.out
  clear h hm
  cases hl : lightT x with
  | false =>
    rw [hl] at HLI
    go_enter Try.func3, Try.ntmps3
    go_wp2_with (refine wpList_load_ag btR (by kernel_rfl) _ rfl _ rfl (A := btA x p c) rfl (by assumption) ?_)
    refine (HLI.out _ HB.out).mono ?_
    rintro e w1 ⟨rfl, hb1⟩
    replace HB := Lib.hid (HB.out.trans (hb1.mono HB.out.size))
    clear hb1
    go_wp2_with fail
    refine (bknows_any _).mono ?_
    rintro e w2 ⟨rfl, hb2⟩
    replace HB := Lib.hid (HB.out.trans (hb2.mono HB.out.size))
    clear hb2
    go_wp2
    go_ret
    exact ⟨rfl, HB.out⟩
  | true =>
    rw [hl] at HLI
    have HSZ := Lib.hid (light_szs hl)
    have HLN := Lib.hid (light_len hl)
    have HPL := Lib.hid (light_path hl)
    clear hl
    go_enter Try.func3, Try.ntmps3
    go_wp2_with (refine wpList_load_ag btR (by kernel_rfl) _ rfl _ rfl (A := btA x p c) rfl (by assumption) ?_)
    refine (HLI.out _ HB.out).mono ?_
    rintro e w1 ⟨rfl, hb1⟩
    replace HX := Lib.hid (HX.out.kept hb1)
    replace HB := Lib.hid (HB.out.trans (hb1.mono HB.out.size))
    clear hb1 hx
    have hx := HX.out
    go_wp2_with (refine wpList_load_ag btR (by kernel_rfl) _ rfl _ rfl (A := btA x p c) rfl (by assumption) ?_)
    refine (HOW.out _ HB.out (by have := HLN.out; omega) (fun y hy => by have := HPL.out y hy; omega)).mono ?_
    rintro e w2 ⟨p2, c2, rfl, hbo2, hb2⟩
    replace HB := Lib.hid (HB.out.trans (hb2.mono HB.out.size))
    have HBO := Lib.hid hbo2.bops
    clear hb2 hx hbo2 HX
    go_wp2_with (first | (refine wpList_store_newag btP rfl _ _ rfl rfl _ rfl rfl rfl (btA_one _ _ _) ?_; intro w3 hv3 hb3) | (refine wpList_load_ag btP (by kernel_rfl) _ rfl _ rfl (A := btA x p2 c2) rfl (by assumption) ?_))
    replace HB := Lib.hid (HB.out.trans (hb3.mono HB.out.size))
    replace HBO := Lib.hid (HBO.out.kept hb3)
    have HV := Lib.hid hv3
    clear hb3 hv3
    have HPU := Lib.hid (fun W (hS : Bel w3 W) => bput_any x p2 c2 W HSZ.out (HBO.out.kept hS))
    have HFR := Lib.hid (fun W (hS : Bel w3 W) => bframe_any x p2 c2 W HSZ.out (HBO.out.kept hS))
    have HRI := Lib.hid (fun W (hS : Bel w3 W) => bright_any x p2 c2 W HSZ.out (HBO.out.kept hS))
    have HSM := Lib.hid (fun W (hS : Bel w3 W) (q : Option Addr) (k : Nat) (hq : Bops W x q k) => bsame_any x x q p2 k c2 W HSZ.out hq (HBO.out.kept hS))
    rw [sameT_refl] at HSM
    have HBL := Lib.hid (show Bel w3 w3 from Below.refl _ _)
    cases hr : rightT x with
    | false =>
      rw [hr] at HRI
      rw [putT_err hr] at HPU
      rw [frameT_err hr] at HFR
      clear hr
      refine (HPU.out _ HBL.out).mono ?_
      rintro e w4 ⟨v4, rfl, hown, hb4⟩
      replace HBL := Lib.hid (HBL.out.trans hb4)
      have hv := HV.out.kept HBL.out
      clear hown hb4
      go_wp2_with (refine wpList_load_ag btP (by kernel_rfl) _ rfl _ rfl (A := btA x p2 c2) rfl (by assumption) ?_)
      refine (HFR.out _ HBL.out).mono ?_
      rintro e w5 ⟨v5, rfl, hown, hb5⟩
      replace HBL := Lib.hid (HBL.out.trans hb5)
      clear hown hb5 hv
      go_wp2_with fail
      refine (bnum_any _ _).mono ?_
      rintro e w6 ⟨rfl, hb6⟩
      replace HBL := Lib.hid (HBL.out.trans hb6)
      have hv := HV.out.kept HBL.out
      clear hb6
      go_wp2_with (refine wpList_load_ag btP (by kernel_rfl) _ rfl _ rfl (A := btA x p2 c2) rfl (by assumption) ?_)
      refine (HRI.out _ HBL.out).mono ?_
      rintro e w7 ⟨rfl, hb7⟩
      replace HBL := Lib.hid (HBL.out.trans hb7)
      clear hb7 hv
      go_wp2_with fail
      refine (bnum_any _ _).mono ?_
      rintro e w8 ⟨rfl, hb8⟩
      replace HBL := Lib.hid (HBL.out.trans hb8)
      clear hb8
      go_wp2_with fail
      refine (bknows_any _).mono ?_
      rintro e w9 ⟨rfl, hb9⟩
      replace HBL := Lib.hid (HBL.out.trans hb9)
      clear hb9
      go_wp2
      go_ret
      exact ⟨rfl, HB.out.trans (HBL.out.mono HB.out.size)⟩
    | true =>
      rw [hr] at HRI
      rw [putT_ok hr] at HPU
      rw [frameT_ok hr] at HFR
      have hbl := batB_len hr
      have hfl := frameB_length (batB x)
      have hnl := Wm.nlen_le (batB x).length
      have HTK := Lib.hid (takeT_back hr m)
      have HUN := Lib.hid (unframeT_back hr m)
      have HLM := Lib.hid (show ∃ y more, rightT y = true ∧ ((batB x ++ m, 0) : RS) = (batB y ++ more, 0) from ⟨x, m, hr, rfl⟩)
      have HNE := Lib.hid (show batB x ≠ [] from by unfold batB Wm.numB; simp)
      clear hr
      generalize Wm.frameB (batB x) = f at *
      generalize batB x = bb at *
      have hff : f.length ≤ 70000 := by omega
      clear hfl hnl
      refine (HPU.out _ HBL.out).mono ?_
      rintro e w4 ⟨v4, rfl, hown, hb4⟩
      dsimp only at hown
      obtain ⟨p4, c4, rfl, hbs4, -, -, hpn4, -⟩ := hown.bs
      replace HBL := Lib.hid (HBL.out.trans hb4)
      have HB4 := Lib.hid hbs4
      have hv := HV.out.kept HBL.out
      clear hown hb4 hbs4
      go_wp2_with (refine wpList_load_ag btP (by kernel_rfl) _ rfl _ rfl (A := btA x p2 c2) rfl (by assumption) ?_)
      refine (HFR.out _ HBL.out).mono ?_
      rintro e w5 ⟨v5, rfl, hown, hb5⟩
      dsimp only at hown
      obtain ⟨p5, c5, rfl, hbs5, -, -, hpn5, -⟩ := hown.bs
      replace HBL := Lib.hid (HBL.out.trans hb5)
      replace HB4 := Lib.hid (HB4.out.kept hb5)
      have HB5 := Lib.hid hbs5
      clear hown hb5 hv hbs5
      go_wp2_with fail
      refine (bnum_any _ _).mono ?_
      rintro e w6 ⟨rfl, hb6⟩
      replace HBL := Lib.hid (HBL.out.trans hb6)
      replace HB4 := Lib.hid (HB4.out.kept hb6)
      replace HB5 := Lib.hid (HB5.out.kept hb6)
      clear hb6
      have hba := (Below.refl w6.heap.size w6).alloc (Nat.le_refl _) (.cells #[] 5)
      have HW0 := Lib.hid (Own.lit (E := 5) w6 #[] [] rfl (by decide))
      have HBF := Lib.hid (HB4.out.kept hba)
      have HBA := Lib.hid hba
      clear hba
      go_wp2_with (at_builtin; refine wpList_append_bs rfl _ _ 25 rfl w6.heap.size 5 i0 Try.underlying25 hi hz0 hz1 hz2 _ [] rfl HW0.out p4 c4 bb rfl HBF.out hpn4 ?b0 ?b1 ?_)
      case b0 => simp; omega
      case b1 => simp
      intro v7 w7 hown7 hbel7 hgrow7 hnil7
      clear hgrow7 hnil7
      have hb67 := HBA.out.trans hbel7
      obtain ⟨p7, c7, rfl, -⟩ := hown7.bs
      have HO7 := Lib.hid hown7
      have HB67 := Lib.hid hb67
      have hs7 := hb67.size
      have HM7 := Lib.hid (HM.out _ ((HB.out.trans (HBL.out.mono HB.out.size)).trans (hb67.mono (Nat.le_trans HB.out.size HBL.out.size))))
      clear hown7 hbel7 hb67 HW0 HBF HBA
      go_wp2_with (at_builtin; refine wpList_append_bs rfl _ _ 25 rfl w6.heap.size 5 i0 Try.underlying25 hi hz0 hz1 hz2 _ bb rfl HO7.out pm cm m rfl HM7.out hmn ?d0 ?d1 ?_)
      case d0 => omega
      case d1 => exact hs7
      intro v8 w8 hown8 hbel8 hgrow8 hnil8
      clear hgrow8 hnil8
      obtain ⟨p8, c8, rfl, hbs8, -, -, hpn8, -⟩ := hown8.bs
      have hb68 := HB67.out.trans hbel8
      replace HBL := Lib.hid (HBL.out.trans hb68)
      replace HB5 := Lib.hid (HB5.out.kept hb68)
      have HB8 := Lib.hid hbs8
      have HP8 := Lib.hid hpn8
      have hl8 : (bb ++ m).length ≤ 211106232532992 := by rw [List.length_append]; omega
      have HOP := Lib.hid (open_big p8 c8 (bb ++ m) w8 HB8.out hl8 (fun hh => ⟨HP8.out hh, bs_none HB8.out hh⟩))
      clear hown8 hbel8 hb68 HO7 HB67 HM7 hbs8 hpn8 hl8 hs7
      generalize hL8 : (bb ++ m).length = n8 at *
      go_wp2_with fail
      refine HOP.out.mono ?_
      rintro e w9 ⟨b, rfl, hr9, hb9⟩
      have HR := Lib.hid (show RdS w9 _ b (bb ++ m, 0) from hr9)
      have hbw : w8.heap.size ≤ b := hr9.1
      have HB9 := Lib.hid hb9
      clear hr9 hb9 HOP
      go_wp2_with fail
      refine (btake_any _ b (bb ++ m, 0) _ HR.out (Or.inr HLM.out)).mono ?_
      rw [HTK.out]
      rintro e w10 ⟨p10, c10, rfl, hbo10, hr10, ho10⟩
      have hb10 := ho10.below HB9.out hbw HB9.out.size
      replace HBL := Lib.hid (HBL.out.trans hb10)
      replace HB5 := Lib.hid (HB5.out.kept hb10)
      have HBY := Lib.hid hbo10.bops
      have HR10 := Lib.hid hr10
      clear hbo10 hr10 ho10 hb10 HB9 HR
      go_wp2_with (first | (refine wpList_store_newag btP rfl _ _ rfl rfl _ rfl rfl rfl (btA_one _ _ _) ?_; intro w11 hv11 hb11; have hba := (Below.refl w11.heap.size w11).alloc (Nat.le_refl _) (.cells #[] 5); have HW0 := Lib.hid (Own.lit (E := 5) w11 #[] [] rfl (by decide))) | (at_builtin; refine wpList_append_bs rfl _ _ 25 rfl w11.heap.size 5 i0 Try.underlying25 hi hz0 hz1 hz2 _ [] rfl HW0.out p5 c5 f rfl (HB5.out.kept (hb11.trans (hba.mono hb11.size))) hpn5 ?f0 ?f1 ?_))
      case f0 => simp; omega
      case f1 => simp
      intro v12 w12 hown12 hbel12 hgrow12 hnil12
      clear hgrow12 hnil12
      have hb1112 := hba.trans hbel12
      obtain ⟨p12, c12, rfl, -⟩ := hown12.bs
      have HO12 := Lib.hid hown12
      have HB1112 := Lib.hid hb1112
      have hs12 := hb1112.size
      have HM12 := Lib.hid (HM.out _ ((HB.out.trans ((HBL.out.trans hb11).mono HB.out.size)).trans (hb1112.mono (Nat.le_trans HB.out.size (Nat.le_trans HBL.out.size hb11.size)))))
      replace HBL := Lib.hid (HBL.out.trans hb11)
      replace HBY := Lib.hid (HBY.out.kept hb11)
      replace HR10 := Lib.hid (HR10.out.kept hb11)
      have HV11 := Lib.hid hv11
      clear hown12 hbel12 hb1112 HW0 hba hb11 hv11
      go_wp2_with (at_builtin; refine wpList_append_bs rfl _ _ 25 rfl w11.heap.size 5 i0 Try.underlying25 hi hz0 hz1 hz2 _ f rfl HO12.out pm cm m rfl HM12.out hmn ?g0 ?g1 ?_)
      case g0 => omega
      case g1 => exact hs12
      intro v13 w13 hown13 hbel13 hgrow13 hnil13
      clear hgrow13 hnil13
      obtain ⟨p13, c13, rfl, hbs13, hc13, -⟩ := hown13.bs
      have hb1113 := HB1112.out.trans hbel13
      replace HBL := Lib.hid (HBL.out.trans hb1113)
      replace HBY := Lib.hid (HBY.out.kept hb1113)
      replace HR10 := Lib.hid (HR10.out.kept hb1113)
      replace HV11 := Lib.hid (AgAt.kept HV11.out hb1113)
      have HU := Lib.hid (bunframe_any p13 (f ++ m).length c13 (f ++ m) w13 rfl hbs13 (by rw [List.length_append]; omega) hc13)
      rw [HUN.out] at HU
      clear hown13 hbel13 hb1113 HO12 HB1112 HM12 hbs13 hc13 hs12
      generalize hL13 : (f ++ m).length = n13 at *
      go_wp2_with fail
      refine HU.out.mono ?_
      rintro e w14 ⟨p14, c14, rfl, hbo14, hb14⟩
      replace HBL := Lib.hid (HBL.out.trans hb14)
      replace HBY := Lib.hid (HBY.out.kept hb14)
      replace HR10 := Lib.hid (HR10.out.kept hb14)
      replace HV11 := Lib.hid (AgAt.kept HV11.out hb14)
      have HBZ := Lib.hid hbo14.bops
      clear hbo14 hb14 HU
      go_wp2_with (first | (refine wpList_store_newag btP rfl _ _ rfl rfl _ rfl rfl rfl (btA_one _ _ _) ?_; intro w15 hv15 hb15) | (refine wpList_load_ag btP (by kernel_rfl) _ rfl _ rfl (A := btA x p10 c10) rfl (AgAt.kept HV11.out hb15) ?_) | (refine wpList_load_ag btP (by kernel_rfl) _ rfl _ rfl (A := btA x p2 c2) rfl (HV.out.kept (HBL.out.trans hb15)) ?_))
      replace HBL := Lib.hid (HBL.out.trans hb15)
      replace HBY := Lib.hid (HBY.out.kept hb15)
      replace HR10 := Lib.hid (HR10.out.kept hb15)
      replace HBZ := Lib.hid (HBZ.out.kept hb15)
      have HV15 := Lib.hid hv15
      clear hb15 hv15 HV11
      refine (HSM.out _ HBL.out _ _ HBY.out).mono ?_
      rintro e w16 ⟨rfl, hb16⟩
      replace HBL := Lib.hid (HBL.out.trans hb16)
      replace HR10 := Lib.hid (HR10.out.kept hb16)
      replace HBZ := Lib.hid (HBZ.out.kept hb16)
      replace HV15 := Lib.hid (AgAt.kept HV15.out hb16)
      clear hb16 HBY
      go_wp2_with fail
      refine (leftb_any _ b (m, 0) _ HR10.out).mono ?_
      rintro e w17 ⟨rfl, hb17⟩
      replace HBL := Lib.hid (HBL.out.trans hb17)
      replace HBZ := Lib.hid (HBZ.out.kept hb17)
      replace HV15 := Lib.hid (AgAt.kept HV15.out hb17)
      clear hb17 HR10
      go_wp2_with fail
      refine (bnum_any _ _).mono ?_
      rintro e w18 ⟨rfl, hb18⟩
      replace HBL := Lib.hid (HBL.out.trans hb18)
      replace HBZ := Lib.hid (HBZ.out.kept hb18)
      replace HV15 := Lib.hid (AgAt.kept HV15.out hb18)
      clear hb18
      go_wp2_with fail
      refine (bnum_any _ _).mono ?_
      rintro e w19 ⟨rfl, hb19⟩
      replace HBL := Lib.hid (HBL.out.trans hb19)
      replace HBZ := Lib.hid (HBZ.out.kept hb19)
      replace HV15 := Lib.hid (AgAt.kept HV15.out hb19)
      clear hb19
      have hz15 := HV15.out
      have hv2 := HV.out.kept HBL.out
      go_wp2_with (first | (refine wpList_load_ag btP (by kernel_rfl) _ rfl _ rfl (A := btA x p14 c14) rfl (by assumption) ?_) | (refine wpList_load_ag btP (by kernel_rfl) _ rfl _ rfl (A := btA x p2 c2) rfl (by assumption) ?_))
      refine (HSM.out _ HBL.out _ _ HBZ.out).mono ?_
      rintro e w20 ⟨rfl, hb20⟩
      replace HBL := Lib.hid (HBL.out.trans hb20)
      clear hb20 hz15 hv2 HV15 HBZ
      go_wp2_with fail
      refine (bknows_any _).mono ?_
      rintro e w21 ⟨rfl, hb21⟩
      replace HBL := Lib.hid (HBL.out.trans hb21)
      clear hb21
      go_wp2
      go_ret
      exact ⟨rfl, HB.out.trans (HBL.out.mono HB.out.size)⟩
end Go.Proofs.Ythpdphlkmleldaa
