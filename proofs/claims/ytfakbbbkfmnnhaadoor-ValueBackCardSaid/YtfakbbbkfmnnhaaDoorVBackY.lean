/-
  VALUEBACK: the walk, of a value that may be.
  Conditions: the row's listed variables ('Laid').
-/
import Derived.Test.YtfakbbbkfmnnhaaDoorVBackK
import Derived.Deep.RegionHeld3
namespace Go.Proofs.YtfakbbbkfmnnhaaDoor
open Go.RowKit

set_option maxRecDepth 100000 in
set_option maxHeartbeats 2000000 in
theorem valueBack_yes (k n : Int) (t s : ByteArray) (w : World) (ht : t.size ≤ 140737488351232) (hs : s.size ≤ 140737488351232) (hL : Laid w) (hR : Vm.rightV k n t.data.toList = true) :
    Calls Tryd.prog 6 #[.agg #[.int .i64 k, .int .i64 n, .string t], .string s] w fun e w' => e = .returned (.bool true) ∧ Below w.heap.size w w' := by
  have HV0 := Lib.hid (VB.start w k n t hL)
  have HPS := Lib.hid (fun W h => vparse_any s W (by omega) h)
  have HF := Lib.hid (parseV_form s.data.toList)
  have HPU := Lib.hid (show putV k n t.data.toList = (Wm.numB k.toNat ++ restV k n t.data.toList, 0) by unfold putV; rw [if_pos hR])
  have HPR := Lib.hid (fun W h => vprint_laid k n t W h hR)
  have hpl : (printV k n t.data.toList).length ≤ 1000 := print_short hR
  have HPA := Lib.hid (fun W h => vparse_any (strV (printV k n t.data.toList)) W (by rw [strV_size]; omega) h)
  rw [strV_toList, parse_printV hR, strV_of] at HPA
  have HTK := Lib.hid (fun B b W h => vtake_any B b (Wm.numB k.toNat ++ restV k n t.data.toList) W h)
  rw [take_backV hR] at HTK
  rw [show strB t.data.toList = t from rfl] at HTK
  have hx : (Wm.numB k.toNat ++ restV k n t.data.toList).length ≤ 1000 := put_short hR
  generalize strV (printV k n t.data.toList) = ps at *
  generalize Wm.numB k.toNat ++ restV k n t.data.toList = x at *
  clear hR hL hpl
  dsimp only at *
  rcases HF.out with hq | ⟨pk, pn, pt, hq, hr, hpr, hl⟩
  · have HPQ := HPS
    rw [hq] at HPQ
    dsimp only at HPQ
    rw [show strV [] = (⟨#[]⟩ : ByteArray) from rfl] at HPQ
    clear hq HF HPS
    go_enter Tryd.func6, Tryd.ntmps6
    go_wp2_with fail
    refine (vput_any k n t _ (by omega)).mono ?_
    rw [HPU.out]
    rintro e w1 ⟨v1, rfl, hown1, hb⟩
    dsimp only at hown1
    obtain ⟨p1, k1, rfl, hbs1, hbl, -, hpn1, -⟩ := hown1.bs
    have hbl1 := Lib.hid hbl
    clear hbl
    have HX_1 := Lib.hid hbs1
    have HV_1 := Lib.hid (HV0.out.kept hb)
    clear hown1 hb hbs1
    have a0 := HV_1.out.1.cell0
    have a1 := HV_1.out.1.cell1
    have a2 := HV_1.out.1.cell2
    go_wp2_with fail
    refine (HPR.out _ HV_1.out.2.1).mono ?_
    rintro e wp ⟨rfl, hb⟩
    have HV_p := Lib.hid (HV_1.out.kept hb)
    have HX_p := Lib.hid (HX_1.out.kept hb)
    clear hb a0 a1 a2
    go_wp2_with fail
    refine (HPA.out _ HV_p.out.2.1).mono ?_
    rintro e w2 ⟨rfl, hb⟩
    have hsz2 : w.heap.size < w2.heap.size := by have h := (HV_p.out.kept hb).1.size; exact h
    have hbx := hb.trans (((Below.refl w2.heap.size w2).alloc (Nat.le_refl _) (.cells #[.int .i64 k, .int .i64 n, .string t] 23)).mono hb.size)
    have HV_2 := Lib.hid (HV_p.out.kept hbx)
    have HX_2 := Lib.hid (HX_p.out.kept hbx)
    have HT_2 := Lib.hid (ThreeAt.start w2 k n t)
    clear hb hbx
    go_wp2_with fail
    refine (HPQ.out _ HV_2.out.2.1).mono ?_
    rintro e w3 ⟨rfl, hb⟩
    have hbx := hb.trans (((Below.refl w3.heap.size w3).alloc (Nat.le_refl _) (.cells #[.int .i64 0, .int .i64 0, .string ⟨#[]⟩] 23)).mono hb.size)
    have HV_5 := Lib.hid (HV_2.out.kept hbx)
    have HT_5 := Lib.hid (HT_2.out.kept hbx)
    have HX_5 := Lib.hid (HX_2.out.kept hbx)
    clear hb hbx
    go_wp2_with fail
    refine (lawNum3_any 0 _).mono ?_
    rintro e w' ⟨rfl, rfl⟩
    have HOP := Lib.hid (open_any p1 k1 x _ HX_5.out (by omega) (fun h => ⟨hpn1 h, List.eq_nil_of_length_eq_zero (by have h2 := hbl1.out; have h3 := hpn1 h; omega)⟩))
    go_wp2_with fail
    refine HOP.out.mono ?_
    rintro e w6 ⟨bR, rfl, hr6, hb⟩
    have hge := hr6.1
    have hT5 := HT_5.out.size
    have hV5 := HV_5.out.1.size
    have hbd := hb.trans (((Below.refl w6.heap.size w6).drew).mono hb.size)
    have S0 := Lib.hid (show S9 w k n t w2.heap.size _ from ⟨⟨(HV_5.out.kept hbd).1, trivial, (HV_5.out.kept hbd).2.2⟩, HT_5.out.kept hbd⟩)
    have HRD := Lib.hid (hr6.kept ((Below.refl w6.heap.size w6).drew))
    clear hb hbd hr6
    go_upto_region 9 with fail
    refine wp_region_held_drew (S := (S9 w k n t w2.heap.size)) (by kernel_rfl) S0.out (fun hS => ?_)
    refine wpAnyH_take (i := 0) (v := ?_) rfl (by kernel_rfl) (by kernel_rfl) (by kernel_rfl) (fun _ _ _ h => h) (Or.inl ⟨by kernel_rfl, ?_⟩) hS ?_
    rotate_left
    · intro W hSW
      go_simp
      all_goals with_reducible rfl
    refine wpAnyH_take (i := 2) (v := ?_) rfl (by kernel_rfl) (by kernel_rfl) (by kernel_rfl) (fun _ _ _ h => h) (Or.inl ⟨by kernel_rfl, ?_⟩) hS ?_
    rotate_left
    · intro W hSW
      have a0 := hSW.1.1.cell0
      have a1 := hSW.1.1.cell1
      have a2 := hSW.1.1.cell2
      go_simp
      all_goals with_reducible rfl
    refine wpAnyH_ready (rs := [1]) (by kernel_rfl) (by simp) ?_
    refine AllReadyH.cons rfl (fun K hK => ?_) AllReadyH.nil
    go_simp
    go_wp2_with ((go_at_call 21; refine (HTK.out _ bR _ HRD.out).mono ?_; rintro e w7 ⟨rfl, hr7, ho7⟩))
    refine hK.out _ _ (hS.only ho7 (by omega) (by omega) (by omega)) (fun hS => ?_)
    clear hK K
    have HR7 := Lib.hid hr7
    clear hr7 ho7
    refine wpAnyH_take (i := 3) (v := ?_) rfl (by kernel_rfl) (by kernel_rfl) (by kernel_rfl) (fun _ _ _ h => h) (Or.inl ⟨by kernel_rfl, ?_⟩) hS ?_
    rotate_left
    · intro W hSW
      go_simp
      all_goals with_reducible rfl
    refine wpAnyH_take (i := 4) (v := ?_) rfl (by kernel_rfl) (by kernel_rfl) (by kernel_rfl) (fun _ _ _ h => h) (Or.inl ⟨by kernel_rfl, ?_⟩) hS ?_
    rotate_left
    · intro W hSW
      go_simp
      all_goals with_reducible rfl
    refine wpAnyH_take (i := 5) (v := ?_) rfl (by kernel_rfl) (by kernel_rfl) (by kernel_rfl) (fun _ _ _ h => h) (Or.inl ⟨by kernel_rfl, ?_⟩) hS ?_
    rotate_left
    · intro W hSW
      go_simp
      all_goals with_reducible rfl
    refine wpAnyH_ready (rs := [6]) (by kernel_rfl) (by simp) ?_
    refine AllReadyH.cons rfl (fun K hK => ?_) AllReadyH.nil
    go_simp
    go_wp2_with ((go_at_call 22; refine (done_any _ bR [] 0 _ HR7.out).mono ?_; rintro e w' ⟨rfl, rfl⟩))
    refine hK.out _ _ hS (fun hS => ?_)
    clear hK K
    refine wpAnyH_ready (rs := [7]) (by kernel_rfl) (by simp) ?_
    refine AllReadyH.cons rfl (fun K hK => ?_) AllReadyH.nil
    go_simp
    go_wp2_with ((go_at_call 10; refine (lawNum3_any _ _).mono ?_; rintro e w' ⟨rfl, rfl⟩))
    refine hK.out _ _ hS (fun hS => ?_)
    clear hK K
    refine wpAnyH_take (i := 8) (v := ?_) rfl (by kernel_rfl) (by kernel_rfl) (by kernel_rfl) (fun _ _ _ h => h) (Or.inl ⟨by kernel_rfl, ?_⟩) hS ?_
    rotate_left
    · intro W hSW
      go_simp
      all_goals with_reducible rfl
    refine wpAnyH_take (i := 9) (v := ?_) rfl (by kernel_rfl) (by kernel_rfl) (by kernel_rfl) (fun _ _ _ h => h) (Or.inl ⟨by kernel_rfl, ?_⟩) hS ?_
    rotate_left
    · intro W hSW
      go_simp
      all_goals with_reducible rfl
    refine wpAnyH_take (i := 10) (v := ?_) rfl (by kernel_rfl) (by kernel_rfl) (by kernel_rfl) (fun _ _ _ h => h) (Or.inl ⟨by kernel_rfl, ?_⟩) hS ?_
    rotate_left
    · intro W hSW
      go_simp
      all_goals with_reducible rfl
    refine wpAnyH_take (i := 11) (v := ?_) rfl (by kernel_rfl) (by kernel_rfl) (by kernel_rfl) (fun _ _ _ h => h) (Or.inl ⟨by kernel_rfl, ?_⟩) hS ?_
    rotate_left
    · intro W hSW
      go_simp
      all_goals with_reducible rfl
    refine wpAnyH_take (i := 12) (v := ?_) rfl (by kernel_rfl) (by kernel_rfl) (by kernel_rfl) (fun _ _ _ h => h) (Or.inl ⟨by kernel_rfl, ?_⟩) hS ?_
    rotate_left
    · intro W hSW
      go_simp
      all_goals with_reducible rfl
    refine wpAnyH_take (i := 13) (v := ?_) rfl (by kernel_rfl) (by kernel_rfl) (by kernel_rfl) (fun _ _ _ h => h) (Or.inl ⟨by kernel_rfl, ?_⟩) hS ?_
    rotate_left
    · intro W hSW
      go_simp
      all_goals with_reducible rfl
    refine wpAnyH_take (i := 14) (v := ?_) rfl (by kernel_rfl) (by kernel_rfl) (by kernel_rfl) (fun _ _ _ h => h) (Or.inl ⟨by kernel_rfl, ?_⟩) hS ?_
    rotate_left
    · intro W hSW
      have b0 := hSW.2.cell0
      have b1 := hSW.2.cell1
      have b2 := hSW.2.cell2
      go_simp
      all_goals with_reducible rfl
    refine wpAnyH_take (i := 15) (v := ?_) rfl (by kernel_rfl) (by kernel_rfl) (by kernel_rfl) (fun _ _ _ h => h) (Or.inl ⟨by kernel_rfl, ?_⟩) hS ?_
    rotate_left
    · intro W hSW
      have a0 := hSW.1.1.cell0
      have a1 := hSW.1.1.cell1
      have a2 := hSW.1.1.cell2
      go_simp
      all_goals with_reducible rfl
    refine wpAnyH_take (i := 16) (v := ?_) rfl (by kernel_rfl) (by kernel_rfl) (by kernel_rfl) (fun _ _ _ h => h) (Or.inl ⟨by kernel_rfl, ?_⟩) hS ?_
    rotate_left
    · intro W hSW
      go_simp
      all_goals with_reducible rfl
    refine wpAnyH_take (i := 17) (v := ?_) rfl (by kernel_rfl) (by kernel_rfl) (by kernel_rfl) (fun _ _ _ h => h) (Or.inl ⟨by kernel_rfl, ?_⟩) hS ?_
    rotate_left
    · intro W hSW
      go_simp
      all_goals with_reducible rfl
    refine wpAnyH_take (i := 18) (v := ?_) rfl (by kernel_rfl) (by kernel_rfl) (by kernel_rfl) (fun _ _ _ h => h) (Or.inl ⟨by kernel_rfl, ?_⟩) hS ?_
    rotate_left
    · intro W hSW
      go_simp
      all_goals with_reducible rfl
    refine wpAnyH_ready (rs := [19]) (by kernel_rfl) (by simp) ?_
    refine AllReadyH.cons rfl (fun K hK => ?_) AllReadyH.nil
    go_simp
    go_wp2_with ((go_at_call 11; refine (knows3_any _).mono ?_; rintro e w8 ⟨rfl, hbk⟩))
    refine hK.out _ _ (hS.kept hbk) (fun hS => ?_)
    clear hK K
    refine wpAnyH_take (i := 20) (v := ?_) rfl (by kernel_rfl) (by kernel_rfl) (by kernel_rfl) (fun _ _ _ h => h) (Or.inl ⟨by kernel_rfl, ?_⟩) hS ?_
    rotate_left
    · intro W hSW
      go_simp
      all_goals with_reducible rfl
    refine wpAnyH_take (i := 21) (v := ?_) rfl (by kernel_rfl) (by kernel_rfl) (by kernel_rfl) (fun _ _ _ h => h) (Or.inl ⟨by kernel_rfl, ?_⟩) hS ?_
    rotate_left
    · intro W hSW
      go_simp
      all_goals with_reducible rfl
    refine wpAnyH_done (by kernel_rfl) ?_ _
    have HS9 := Lib.hid hS
    clear hS
    go_simp
    go_wp2
    go_ret
    exact ⟨rfl, HS9.out.1.2.2⟩
  · have HPQ := HPS
    rw [hq] at HPQ
    dsimp only at HPQ
    have HRW := Lib.hid (fun W => vright_any pk pn (strV pt) W (by rw [strV_size]; omega))
    have HPW := Lib.hid (fun W h => vprint_laid pk pn (strV pt) W h (by rw [strV_toList]; exact hr))
    rw [strV_toList, hr] at HRW
    rw [strV_toList, hpr, strV_of] at HPW
    generalize strV pt = u at *
    clear hq hr hpr hl HF HPS
    go_enter Tryd.func6, Tryd.ntmps6
    go_wp2_with fail
    refine (vput_any k n t _ (by omega)).mono ?_
    rw [HPU.out]
    rintro e w1 ⟨v1, rfl, hown1, hb⟩
    dsimp only at hown1
    obtain ⟨p1, k1, rfl, hbs1, hbl, -, hpn1, -⟩ := hown1.bs
    have hbl1 := Lib.hid hbl
    clear hbl
    have HX_1 := Lib.hid hbs1
    have HV_1 := Lib.hid (HV0.out.kept hb)
    clear hown1 hb hbs1
    have a0 := HV_1.out.1.cell0
    have a1 := HV_1.out.1.cell1
    have a2 := HV_1.out.1.cell2
    go_wp2_with fail
    refine (HPR.out _ HV_1.out.2.1).mono ?_
    rintro e wp ⟨rfl, hb⟩
    have HV_p := Lib.hid (HV_1.out.kept hb)
    have HX_p := Lib.hid (HX_1.out.kept hb)
    clear hb a0 a1 a2
    go_wp2_with fail
    refine (HPA.out _ HV_p.out.2.1).mono ?_
    rintro e w2 ⟨rfl, hb⟩
    have hsz2 : w.heap.size < w2.heap.size := by have h := (HV_p.out.kept hb).1.size; exact h
    have hbx := hb.trans (((Below.refl w2.heap.size w2).alloc (Nat.le_refl _) (.cells #[.int .i64 k, .int .i64 n, .string t] 23)).mono hb.size)
    have HV_2 := Lib.hid (HV_p.out.kept hbx)
    have HX_2 := Lib.hid (HX_p.out.kept hbx)
    have HT_2 := Lib.hid (ThreeAt.start w2 k n t)
    clear hb hbx
    go_wp2_with fail
    refine (HPQ.out _ HV_2.out.2.1).mono ?_
    rintro e w3 ⟨rfl, hb⟩
    have hbx := hb.trans (((Below.refl w3.heap.size w3).alloc (Nat.le_refl _) (.cells #[.int .i64 pk, .int .i64 pn, .string u] 23)).mono hb.size)
    have HV_3 := Lib.hid (HV_2.out.kept hbx)
    have HT_3 := Lib.hid (HT_2.out.kept hbx)
    have HX_3 := Lib.hid (HX_2.out.kept hbx)
    have HW_3 := Lib.hid (ThreeAt.start w3 pk pn u)
    clear hb hbx
    go_wp2_with fail
    refine (HRW.out _).mono ?_
    rintro e w4 ⟨rfl, hb⟩
    have HV_4 := Lib.hid (HV_3.out.kept hb)
    have HT_4 := Lib.hid (HT_3.out.kept hb)
    have HX_4 := Lib.hid (HX_3.out.kept hb)
    have HW_4 := Lib.hid (HW_3.out.kept hb)
    clear hb
    have a0 := HW_4.out.cell0
    have a1 := HW_4.out.cell1
    have a2 := HW_4.out.cell2
    go_wp2_with fail
    refine (HPW.out _ HV_4.out.2.1).mono ?_
    rintro e w5 ⟨rfl, hb⟩
    have HV_5 := Lib.hid (HV_4.out.kept hb)
    have HT_5 := Lib.hid (HT_4.out.kept hb)
    have HX_5 := Lib.hid (HX_4.out.kept hb)
    clear hb a0 a1 a2
    go_wp2_with fail
    refine (lawNum3_any 0 _).mono ?_
    rintro e w' ⟨rfl, rfl⟩
    have HOP := Lib.hid (open_any p1 k1 x _ HX_5.out (by omega) (fun h => ⟨hpn1 h, List.eq_nil_of_length_eq_zero (by have h2 := hbl1.out; have h3 := hpn1 h; omega)⟩))
    go_wp2_with fail
    refine HOP.out.mono ?_
    rintro e w6 ⟨bR, rfl, hr6, hb⟩
    have hge := hr6.1
    have hT5 := HT_5.out.size
    have hV5 := HV_5.out.1.size
    have hbd := hb.trans (((Below.refl w6.heap.size w6).drew).mono hb.size)
    have S0 := Lib.hid (show S9 w k n t w2.heap.size _ from ⟨⟨(HV_5.out.kept hbd).1, trivial, (HV_5.out.kept hbd).2.2⟩, HT_5.out.kept hbd⟩)
    have HRD := Lib.hid (hr6.kept ((Below.refl w6.heap.size w6).drew))
    clear hb hbd hr6
    go_upto_region 9 with fail
    refine wp_region_held_drew (S := (S9 w k n t w2.heap.size)) (by kernel_rfl) S0.out (fun hS => ?_)
    refine wpAnyH_take (i := 0) (v := ?_) rfl (by kernel_rfl) (by kernel_rfl) (by kernel_rfl) (fun _ _ _ h => h) (Or.inl ⟨by kernel_rfl, ?_⟩) hS ?_
    rotate_left
    · intro W hSW
      go_simp
      all_goals with_reducible rfl
    refine wpAnyH_take (i := 2) (v := ?_) rfl (by kernel_rfl) (by kernel_rfl) (by kernel_rfl) (fun _ _ _ h => h) (Or.inl ⟨by kernel_rfl, ?_⟩) hS ?_
    rotate_left
    · intro W hSW
      have a0 := hSW.1.1.cell0
      have a1 := hSW.1.1.cell1
      have a2 := hSW.1.1.cell2
      go_simp
      all_goals with_reducible rfl
    refine wpAnyH_ready (rs := [1]) (by kernel_rfl) (by simp) ?_
    refine AllReadyH.cons rfl (fun K hK => ?_) AllReadyH.nil
    go_simp
    go_wp2_with ((go_at_call 21; refine (HTK.out _ bR _ HRD.out).mono ?_; rintro e w7 ⟨rfl, hr7, ho7⟩))
    refine hK.out _ _ (hS.only ho7 (by omega) (by omega) (by omega)) (fun hS => ?_)
    clear hK K
    have HR7 := Lib.hid hr7
    clear hr7 ho7
    refine wpAnyH_take (i := 3) (v := ?_) rfl (by kernel_rfl) (by kernel_rfl) (by kernel_rfl) (fun _ _ _ h => h) (Or.inl ⟨by kernel_rfl, ?_⟩) hS ?_
    rotate_left
    · intro W hSW
      go_simp
      all_goals with_reducible rfl
    refine wpAnyH_take (i := 4) (v := ?_) rfl (by kernel_rfl) (by kernel_rfl) (by kernel_rfl) (fun _ _ _ h => h) (Or.inl ⟨by kernel_rfl, ?_⟩) hS ?_
    rotate_left
    · intro W hSW
      go_simp
      all_goals with_reducible rfl
    refine wpAnyH_take (i := 5) (v := ?_) rfl (by kernel_rfl) (by kernel_rfl) (by kernel_rfl) (fun _ _ _ h => h) (Or.inl ⟨by kernel_rfl, ?_⟩) hS ?_
    rotate_left
    · intro W hSW
      go_simp
      all_goals with_reducible rfl
    refine wpAnyH_ready (rs := [6]) (by kernel_rfl) (by simp) ?_
    refine AllReadyH.cons rfl (fun K hK => ?_) AllReadyH.nil
    go_simp
    go_wp2_with ((go_at_call 22; refine (done_any _ bR [] 0 _ HR7.out).mono ?_; rintro e w' ⟨rfl, rfl⟩))
    refine hK.out _ _ hS (fun hS => ?_)
    clear hK K
    refine wpAnyH_ready (rs := [7]) (by kernel_rfl) (by simp) ?_
    refine AllReadyH.cons rfl (fun K hK => ?_) AllReadyH.nil
    go_simp
    go_wp2_with ((go_at_call 10; refine (lawNum3_any _ _).mono ?_; rintro e w' ⟨rfl, rfl⟩))
    refine hK.out _ _ hS (fun hS => ?_)
    clear hK K
    refine wpAnyH_take (i := 8) (v := ?_) rfl (by kernel_rfl) (by kernel_rfl) (by kernel_rfl) (fun _ _ _ h => h) (Or.inl ⟨by kernel_rfl, ?_⟩) hS ?_
    rotate_left
    · intro W hSW
      go_simp
      all_goals with_reducible rfl
    refine wpAnyH_take (i := 9) (v := ?_) rfl (by kernel_rfl) (by kernel_rfl) (by kernel_rfl) (fun _ _ _ h => h) (Or.inl ⟨by kernel_rfl, ?_⟩) hS ?_
    rotate_left
    · intro W hSW
      go_simp
      all_goals with_reducible rfl
    refine wpAnyH_take (i := 10) (v := ?_) rfl (by kernel_rfl) (by kernel_rfl) (by kernel_rfl) (fun _ _ _ h => h) (Or.inl ⟨by kernel_rfl, ?_⟩) hS ?_
    rotate_left
    · intro W hSW
      go_simp
      all_goals with_reducible rfl
    refine wpAnyH_take (i := 11) (v := ?_) rfl (by kernel_rfl) (by kernel_rfl) (by kernel_rfl) (fun _ _ _ h => h) (Or.inl ⟨by kernel_rfl, ?_⟩) hS ?_
    rotate_left
    · intro W hSW
      go_simp
      all_goals with_reducible rfl
    refine wpAnyH_take (i := 12) (v := ?_) rfl (by kernel_rfl) (by kernel_rfl) (by kernel_rfl) (fun _ _ _ h => h) (Or.inl ⟨by kernel_rfl, ?_⟩) hS ?_
    rotate_left
    · intro W hSW
      go_simp
      all_goals with_reducible rfl
    refine wpAnyH_take (i := 13) (v := ?_) rfl (by kernel_rfl) (by kernel_rfl) (by kernel_rfl) (fun _ _ _ h => h) (Or.inl ⟨by kernel_rfl, ?_⟩) hS ?_
    rotate_left
    · intro W hSW
      go_simp
      all_goals with_reducible rfl
    refine wpAnyH_take (i := 14) (v := ?_) rfl (by kernel_rfl) (by kernel_rfl) (by kernel_rfl) (fun _ _ _ h => h) (Or.inl ⟨by kernel_rfl, ?_⟩) hS ?_
    rotate_left
    · intro W hSW
      have b0 := hSW.2.cell0
      have b1 := hSW.2.cell1
      have b2 := hSW.2.cell2
      go_simp
      all_goals with_reducible rfl
    refine wpAnyH_take (i := 15) (v := ?_) rfl (by kernel_rfl) (by kernel_rfl) (by kernel_rfl) (fun _ _ _ h => h) (Or.inl ⟨by kernel_rfl, ?_⟩) hS ?_
    rotate_left
    · intro W hSW
      have a0 := hSW.1.1.cell0
      have a1 := hSW.1.1.cell1
      have a2 := hSW.1.1.cell2
      go_simp
      all_goals with_reducible rfl
    refine wpAnyH_take (i := 16) (v := ?_) rfl (by kernel_rfl) (by kernel_rfl) (by kernel_rfl) (fun _ _ _ h => h) (Or.inl ⟨by kernel_rfl, ?_⟩) hS ?_
    rotate_left
    · intro W hSW
      go_simp
      all_goals with_reducible rfl
    refine wpAnyH_take (i := 17) (v := ?_) rfl (by kernel_rfl) (by kernel_rfl) (by kernel_rfl) (fun _ _ _ h => h) (Or.inl ⟨by kernel_rfl, ?_⟩) hS ?_
    rotate_left
    · intro W hSW
      go_simp
      all_goals with_reducible rfl
    refine wpAnyH_take (i := 18) (v := ?_) rfl (by kernel_rfl) (by kernel_rfl) (by kernel_rfl) (fun _ _ _ h => h) (Or.inl ⟨by kernel_rfl, ?_⟩) hS ?_
    rotate_left
    · intro W hSW
      go_simp
      all_goals with_reducible rfl
    refine wpAnyH_ready (rs := [19]) (by kernel_rfl) (by simp) ?_
    refine AllReadyH.cons rfl (fun K hK => ?_) AllReadyH.nil
    go_simp
    go_wp2_with ((go_at_call 11; refine (knows3_any _).mono ?_; rintro e w8 ⟨rfl, hbk⟩))
    refine hK.out _ _ (hS.kept hbk) (fun hS => ?_)
    clear hK K
    refine wpAnyH_take (i := 20) (v := ?_) rfl (by kernel_rfl) (by kernel_rfl) (by kernel_rfl) (fun _ _ _ h => h) (Or.inl ⟨by kernel_rfl, ?_⟩) hS ?_
    rotate_left
    · intro W hSW
      go_simp
      all_goals with_reducible rfl
    refine wpAnyH_take (i := 21) (v := ?_) rfl (by kernel_rfl) (by kernel_rfl) (by kernel_rfl) (fun _ _ _ h => h) (Or.inl ⟨by kernel_rfl, ?_⟩) hS ?_
    rotate_left
    · intro W hSW
      go_simp
      all_goals with_reducible rfl
    refine wpAnyH_done (by kernel_rfl) ?_ _
    have HS9 := Lib.hid hS
    clear hS
    go_simp
    go_wp2
    go_ret
    exact ⟨rfl, HS9.out.1.2.2⟩

end Go.Proofs.YtfakbbbkfmnnhaaDoor
