/-
  OpReads: bytes that are read as an op are the beginning of what it is written as.
  Condition: at most 1048576 bytes come in.
-/
import Derived.Test.YtjaojhhcpggcpaaOLawKit
namespace Go.Proofs.Ytjaojhhcpggcpaa
open Go.RowKit

theorem by8_app_l (l m : List UInt8) (i : Nat) (h : i < l.length) : by8 (l ++ m) i = by8 l i := by
  simp [by8, List.getD, List.getElem?_append_left h]
theorem Bs.pre {w : World} {p : Option Addr} {a b : List UInt8} (h : Bs w p (a ++ b)) : Bs w p a := by
  intro h0
  obtain ⟨k, o, rfl, hc⟩ := h (by rw [List.length_append]; omega)
  exact ⟨k, o, rfl, fun i hi => by rw [hc i (by rw [List.length_append]; omega), by8_app_l a b i hi]⟩
theorem right_sz {x : Opp} (h : rightO x = true) : Sz x := by
  obtain ⟨k1, k6⟩ := rightO_kind h
  have hc : x.k = 1 ∨ x.k = 2 ∨ x.k = 3 ∨ x.k = 4 ∨ x.k = 5 ∨ x.k = 6 := by omega
  have v0 : ∀ {k n : Int} {t : ByteArray}, Vm.rightV k n t.data.toList = true → t.size ≤ 64 := by
    intro k n t hv
    rcases right_kind hv with e | e | e | e | e
    all_goals first | (have := right_empty hv (by omega); have h2 := str_len t; rw [this] at h2; simp at h2; omega) | skip
    rw [e] at hv
    have := (right_text hv).2
    rw [str_len] at this
    exact this
  rcases hc with hk | hk | hk | hk | hk | hk
  · obtain ⟨-, e2, e3⟩ := right1 h hk
    have := key_small e2
    rw [e3]; exact ⟨by simp only; omega, Nat.zero_le _, Nat.zero_le _⟩
  · obtain ⟨-, -, e2, e3⟩ := right2 h hk
    have := key_small e2
    rw [e3]; exact ⟨by simp only; omega, Nat.zero_le _, Nat.zero_le _⟩
  · obtain ⟨-, e1, e3⟩ := right3 h hk
    have := v0 (right8_facts e1).2.2
    rw [e3]; exact ⟨Nat.zero_le _, by simp only; omega, Nat.zero_le _⟩
  · obtain ⟨-, e3⟩ := right4 h hk
    rw [e3]; exact ⟨Nat.zero_le _, Nat.zero_le _, Nat.zero_le _⟩
  · obtain ⟨-, -, e3⟩ := right5 h hk
    rw [e3]; exact ⟨Nat.zero_le _, Nat.zero_le _, Nat.zero_le _⟩
  · obtain ⟨-, e1, e2, e3⟩ := right6 h hk
    have := v0 (right8_facts e2).2.2
    have := (okPath_small e1).2.1
    rw [e3]; exact ⟨Nat.zero_le _, by simp only; omega, by simp only; omega⟩
theorem takeO_len (l : List UInt8) (h : (takeO (l, 0)).2.2 = 0) : (opB (takeO (l, 0)).1).length + (takeO (l, 0)).2.1.length = l.length := by
  have := (takeO_form h).2
  rw [← List.length_append, ← this]
theorem errb_any (B b : Nat) (s : RS) (w : World) (h : RdS w B b s) : Calls Try.prog 16 #[.pointer (some ⟨b, 0, none⟩)] w fun e w' => e = .returned (.int .i64 (s.2 : Int)) ∧ w = w' := errs_any B b s w h
set_option maxRecDepth 100000 in
set_option maxHeartbeats 8000000 in
theorem opReads_walk (p : Option Addr) (c : Nat) (l : List UInt8) (w : World) (hbs : Bs w p l) (hc : l.length ≤ c) (hpn : p = none → c = 0) (hl : l.length ≤ 1048576) :
    Calls Try.prog 5 #[.slice p l.length c] w (Yes w) := by
  obtain ⟨i0, hi, hz0, hz1, hz2⟩ := info_parts info_u8
  have HBI := Lib.hid hbs
  have HW0 := Lib.hid (Own.lit (E := 5) w #[] [] rfl (by simp [maxLen]))
  have hb0 := (Below.refl w.heap.size w).alloc (Nat.le_refl _) (.cells #[] 5)
  have HB := Lib.hid hb0
  have HBA := Lib.hid (hbs.kept hb0)
  have hsz0 : w.heap.size ≤ (w.alloc (.cells #[] 5)).heap.size := hb0.size
  have HTF := Lib.hid (fun h => takeO_form (l := l) h)
  have HTL := Lib.hid (fun h => takeO_len l h)
  have HTE := Lib.hid (fun h => takeO_err (s := (l, 0)) h)
  have HTK := Lib.hid (fun B b W h => otake_any B b (l, 0) W h (by dsimp only; omega))
  generalize takeO (l, 0) = t at *
  obtain ⟨x, m, e0⟩ := t
  dsimp only at *
  clear hbs hb0
  go_enter Try.func5, Try.ntmps5
  go_wp2_with (at_builtin; refine wpList_append_bs rfl _ _ 31 rfl w.heap.size 5 i0 Try.underlying31 hi hz0 hz1 hz2 _ [] rfl HW0.out p c l rfl HBA.out hpn ?b0 ?b1 ?_)
  case b0 => simp; omega
  case b1 => exact hsz0
  intro v1 w1 hown1 hbel1 hgrow1 hnil1
  change Own 5 w1 w.heap.size v1 l at hown1
  obtain ⟨p1, c1, rfl, hbs1, -, -, hpn1, -⟩ := hown1.bs
  have HBS1 := Lib.hid hbs1
  replace HB := Lib.hid (HB.out.trans hbel1)
  have HOP := Lib.hid (open_any p1 c1 l w1 hbs1 (by omega) (fun h => ⟨hpn1 h, by
    rcases Nat.eq_zero_or_pos l.length with h0 | h0
    · exact List.eq_nil_of_length_eq_zero h0
    · obtain ⟨b, o, e, -⟩ := hbs1 h0; rw [h] at e; cases e⟩))
  clear hown1 hbel1 hgrow1 hnil1 hbs1 hpn1 HBA HW0 hsz0
  go_wp2_with fail
  refine HOP.out.mono ?_
  rintro e w2 ⟨b, rfl, hr2, hb2⟩
  have HR := Lib.hid (show RdS w2 _ b (l, 0) from hr2)
  have hbw : w1.heap.size ≤ b := hr2.1
  have HB2 := Lib.hid hb2
  clear hr2 hb2 HOP HBS1
  go_wp2_with fail
  refine (HTK.out _ _ _ HR.out).mono ?_
  rintro e w3 ⟨q3, c3, rfl, hp3, hr3, ho⟩
  have hb3 := ho.below HB2.out hbw HB2.out.size
  replace HB := Lib.hid (HB.out.trans (hb3.mono HB.out.size))
  have HP := Lib.hid hp3
  replace HR := Lib.hid hr3
  clear hp3 hr3 ho hb3 HB2 hbw
  go_wp2_with (refine wpList_store_newop otP rfl _ _ rfl rfl _ rfl _ _ _ rfl ?_; intro w4 hv4 hb4)
  replace HB := Lib.hid (HB.out.trans (hb4.mono HB.out.size))
  replace HP := Lib.hid (HP.out.kept hb4)
  replace HR := Lib.hid (HR.out.kept hb4)
  have HV := Lib.hid hv4
  clear hv4 hb4
  have hv := HV.out
  by_cases he : e0 = 0
  · subst he
    obtain ⟨hrx, hlx⟩ := HTF.out rfl
    have hln := HTL.out rfl
    have HRR := Lib.hid hrx
    have HPU := Lib.hid (putO_ok hrx)
    have hbl := opB_len hrx
    have HLX := Lib.hid hlx
    have HSZ := Lib.hid (right_sz hrx)
    have HNE := Lib.hid (show opB x ≠ [] from by unfold opB Wm.numB; simp)
    clear HTF HTL HTE HTK hrx hlx
    generalize opB x = bs at *
    go_wp2_with fail
    refine (errb_any _ b (m, 0) _ HR.out).mono ?_
    rintro e w' ⟨rfl, rfl⟩
    go_wp2_with fail
    refine (onum_any _ _).mono ?_
    rintro e w' ⟨rfl, rfl⟩
    go_wp2_with (refine wpList_load_opG otP (by kernel_rfl) _ rfl _ rfl _ _ _ (by assumption) ?_)
    refine (oright_any x _ _ _ HSZ.out HP.out).mono ?_
    rw [HRR.out]
    rintro e w5 ⟨rfl, hb5⟩
    replace HB := Lib.hid (HB.out.trans (hb5.mono HB.out.size))
    replace HP := Lib.hid (HP.out.kept hb5)
    replace HR := Lib.hid (HR.out.kept hb5)
    replace HV := Lib.hid (HV.out.kept hb5)
    clear hb5 hv
    have hv := HV.out
    go_wp2_with (refine wpList_load_op otP rfl _ rfl _ rfl _ _ _ (by assumption) ?_)
    refine (oput_any x _ _ _ HSZ.out HP.out).mono ?_
    rw [HPU.out]
    rintro e w6 ⟨v6, rfl, hown6, hb6⟩
    dsimp only at hown6
    obtain ⟨p6, c6, rfl, hbs6, -, -, -, -⟩ := hown6.bs
    replace HB := Lib.hid (HB.out.trans (hb6.mono HB.out.size))
    replace HR := Lib.hid (HR.out.kept hb6)
    have HBS := Lib.hid hbs6
    clear hown6 hb6 hbs6 hv HP HV
    have hbi : Bs w6 p (bs ++ m) := by rw [← HLX.out]; exact HBI.out.kept HB.out
    obtain ⟨bp, op, rfl, -⟩ := hbi (by rw [List.length_append]; cases bs with | nil => exact absurd rfl HNE.out | cons => simp; omega)
    have hb0 : 0 < bs.length := by cases bs with | nil => exact absurd rfl HNE.out | cons => simp
    have hc0 : ¬ c = 0 := by omega
    have hc1 : (c == 0) = false := by rw [beq_eq_false_iff_ne]; omega
    have hwr := wraps_i64 (l.length : Int) (by omega) (by omega)
    have HBP := Lib.hid hbi.pre
    clear hbi hpn
    have hnl : bs.length ≤ l.length := by omega
    have hnc : bs.length ≤ c := by omega
    have hsum : (bs.length : Int) + (m.length : Int) = (l.length : Int) := by omega
    go_wp2
    refine wp_region_held_drew (S := Bel w6) (by kernel_rfl) (Bel.start w6) (fun hS => ?_)
    refine wpAnyH_take (i := 0) (v := ?_) rfl (by kernel_rfl) (by kernel_rfl) (by kernel_rfl) (fun _ _ _ h => h) (Or.inl ⟨by kernel_rfl, ?_⟩) hS ?_
    rotate_left
    · intro W hSW
      go_simp
      all_goals with_reducible rfl
    refine wpAnyH_ready (rs := [1]) (by kernel_rfl) (by simp) ?_
    refine AllReadyH.cons rfl (fun K hK => ?_) AllReadyH.nil
    go_simp
    go_wp2_with ((go_at_call 10; refine (onumb_any _ _).mono ?_; rintro e wn ⟨rfl, hbn⟩))
    refine hK.out _ _ (hS.trans hbn) (fun hS => ?_)
    clear hK K
    refine wpAnyH_take (i := 2) (v := ?_) rfl (by kernel_rfl) (by kernel_rfl) (by kernel_rfl) (fun _ _ _ h => h) (Or.inl ⟨by kernel_rfl, ?_⟩) hS ?_
    rotate_left
    · intro W hSW
      go_simp
      all_goals with_reducible rfl
    refine wpAnyH_take (i := 3) (v := ?_) rfl (by kernel_rfl) (by kernel_rfl) (by kernel_rfl) (fun _ _ _ h => h) (Or.inl ⟨by kernel_rfl, ?_⟩) hS ?_
    rotate_left
    · intro W hSW
      go_simp
      all_goals with_reducible rfl
    refine wpAnyH_take (i := 4) (v := ?_) rfl (by kernel_rfl) (by kernel_rfl) (by kernel_rfl) (fun _ _ _ h => h) (Or.inl ⟨by kernel_rfl, ?_⟩) hS ?_
    rotate_left
    · intro W hSW
      go_simp
      all_goals with_reducible rfl
    go_simp
    refine wpAnyH_take (i := 5) (v := ?_) rfl (by kernel_rfl) (by kernel_rfl) (by kernel_rfl) (fun _ _ _ h => h) (Or.inl ⟨by kernel_rfl, ?_⟩) hS ?_
    rotate_left
    · intro W hSW
      go_simp
      all_goals with_reducible rfl
    refine wpAnyH_take (i := 6) (v := ?_) rfl (by kernel_rfl) (by kernel_rfl) (by kernel_rfl) (fun _ _ _ h => h) (Or.inl ⟨by kernel_rfl, ?_⟩) hS ?_
    rotate_left
    · intro W hSW
      go_simp
      all_goals with_reducible rfl
    refine wpAnyH_take (i := 9) (v := ?_) rfl (by kernel_rfl) (by kernel_rfl) (by kernel_rfl) (fun _ _ _ h => h) (Or.inl ⟨by kernel_rfl, ?_⟩) hS ?_
    rotate_left
    · intro W hSW
      go_simp
      all_goals with_reducible rfl
    refine wpAnyH_take (i := 10) (v := ?_) rfl (by kernel_rfl) (by kernel_rfl) (by kernel_rfl) (fun _ _ _ h => h) (Or.inl ⟨by kernel_rfl, ?_⟩) hS ?_
    rotate_left
    · intro W hSW
      go_simp
      all_goals with_reducible rfl
    go_simp
    refine wpAnyH_ready (rs := [7]) (by kernel_rfl) (by simp) ?_
    refine AllReadyH.cons rfl (fun K hK => ?_) AllReadyH.nil
    go_simp
    go_wp2_with ((go_at_call 17; refine (leftb_any _ b (m, 0) _ (HR.out.bel hS)).mono ?_; rintro e wn ⟨rfl, hbn⟩))
    refine hK.out _ _ (hS.trans hbn) (fun hS => ?_)
    clear hK K
    refine wpAnyH_take (i := 8) (v := ?_) rfl (by kernel_rfl) (by kernel_rfl) (by kernel_rfl) (fun _ _ _ h => h) (Or.inl ⟨by kernel_rfl, ?_⟩) hS ?_
    rotate_left
    · intro W hSW
      go_simp
      all_goals with_reducible rfl
    refine wpAnyH_take (i := 11) (v := ?_) rfl (by kernel_rfl) (by kernel_rfl) (by kernel_rfl) (fun _ _ _ h => h) (Or.inl ⟨by kernel_rfl, ?_⟩) hS ?_
    rotate_left
    · intro W hSW
      go_simp
      all_goals with_reducible rfl
    refine wpAnyH_take (i := 12) (v := ?_) rfl (by kernel_rfl) (by kernel_rfl) (by kernel_rfl) (fun _ _ _ h => h) (Or.inl ⟨by kernel_rfl, ?_⟩) hS ?_
    rotate_left
    · intro W hSW
      go_simp
      all_goals with_reducible rfl
    refine wpAnyH_take (i := 13) (v := ?_) rfl (by kernel_rfl) (by kernel_rfl) (by kernel_rfl) (fun _ _ _ h => h) (Or.inl ⟨by kernel_rfl, ?_⟩) hS ?_
    rotate_left
    · intro W hSW
      go_simp
      all_goals with_reducible rfl
    go_simp
    refine wpAnyH_take (i := 14) (v := ?_) rfl (by kernel_rfl) (by kernel_rfl) (by kernel_rfl) (fun _ _ _ h => h) (Or.inl ⟨by kernel_rfl, ?_⟩) hS ?_
    rotate_left
    · intro W hSW
      go_simp
      all_goals with_reducible rfl
    refine wpAnyH_take (i := 15) (v := ?_) rfl (by kernel_rfl) (by kernel_rfl) (by kernel_rfl) (fun _ _ _ h => h) (Or.inl ⟨by kernel_rfl, ?_⟩) hS ?_
    rotate_left
    · intro W hSW
      have k1 := (HBS.out.bel hSW).conv (P := Try.prog) c6 31 5 9 Try.underlying31 Try.underlying5 Try.underlying9
      go_simp
      all_goals with_reducible rfl
    refine wpAnyH_take (i := 16) (v := ?_) rfl (by kernel_rfl) (by kernel_rfl) (by kernel_rfl) (fun _ _ _ h => h) (Or.inl ⟨by kernel_rfl, ?_⟩) hS ?_
    rotate_left
    · intro W hSW
      go_simp
      all_goals with_reducible rfl
    refine wpAnyH_take (i := 17) (v := ?_) rfl (by kernel_rfl) (by kernel_rfl) (by kernel_rfl) (fun _ _ _ h => h) (Or.inl ⟨by kernel_rfl, ?_⟩) hS ?_
    rotate_left
    · intro W hSW
      go_simp
      all_goals with_reducible rfl
    go_simp
    refine wpAnyH_take (i := 18) (v := ?_) rfl (by kernel_rfl) (by kernel_rfl) (by kernel_rfl) (fun _ _ _ h => h) (Or.inl ⟨by kernel_rfl, ?_⟩) hS ?_
    rotate_left
    · intro W hSW
      go_simp
      all_goals with_reducible rfl
    refine wpAnyH_take (i := 19) (v := ?_) rfl (by kernel_rfl) (by kernel_rfl) (by kernel_rfl) (fun _ _ _ h => h) (Or.inl ⟨by kernel_rfl, ?_⟩) hS ?_
    rotate_left
    · intro W hSW
      go_simp
      all_goals with_reducible rfl
    refine wpAnyH_take (i := 20) (v := ?_) rfl (by kernel_rfl) (by kernel_rfl) (by kernel_rfl) (fun _ _ _ h => h) (Or.inl ⟨by kernel_rfl, ?_⟩) hS ?_
    rotate_left
    · intro W hSW
      have k1 := (HBP.out.bel hSW).conv (P := Try.prog) c 31 5 9 Try.underlying31 Try.underlying5 Try.underlying9
      go_simp
      all_goals with_reducible rfl
    refine wpAnyH_take (i := 21) (v := ?_) rfl (by kernel_rfl) (by kernel_rfl) (by kernel_rfl) (fun _ _ _ h => h) (Or.inl ⟨by kernel_rfl, ?_⟩) hS ?_
    rotate_left
    · intro W hSW
      go_simp
      all_goals with_reducible rfl
    go_simp
    refine wpAnyH_take (i := 22) (v := ?_) rfl (by kernel_rfl) (by kernel_rfl) (by kernel_rfl) (fun _ _ _ h => h) (Or.inl ⟨by kernel_rfl, ?_⟩) hS ?_
    rotate_left
    · intro W hSW
      go_simp
      all_goals with_reducible rfl
    refine wpAnyH_take (i := 23) (v := ?_) rfl (by kernel_rfl) (by kernel_rfl) (by kernel_rfl) (fun _ _ _ h => h) (Or.inl ⟨by kernel_rfl, ?_⟩) hS ?_
    rotate_left
    · intro W hSW
      go_simp
      all_goals with_reducible rfl
    refine wpAnyH_ready (rs := [24]) (by kernel_rfl) (by simp) ?_
    refine AllReadyH.cons rfl (fun K hK => ?_) AllReadyH.nil
    go_simp
    go_wp2_with ((go_at_call 7; refine (oknows_any _).mono ?_; rintro e wn ⟨rfl, hbn⟩))
    refine hK.out _ _ (hS.trans hbn) (fun hS => ?_)
    clear hK K
    refine wpAnyH_take (i := 25) (v := ?_) rfl (by kernel_rfl) (by kernel_rfl) (by kernel_rfl) (fun _ _ _ h => h) (Or.inl ⟨by kernel_rfl, ?_⟩) hS ?_
    rotate_left
    · intro W hSW
      go_simp
      all_goals with_reducible rfl
    refine wpAnyH_take (i := 26) (v := ?_) rfl (by kernel_rfl) (by kernel_rfl) (by kernel_rfl) (fun _ _ _ h => h) (Or.inl ⟨by kernel_rfl, ?_⟩) hS ?_
    rotate_left
    · intro W hSW
      go_simp
      all_goals with_reducible rfl
    have HSF := Lib.hid hS
    refine wpAnyH_done (by kernel_rfl) ?_ _
    go_simp
    go_wp2
    go_ret
    exact ⟨rfl, HB.out.trans (Below.mono HSF.out HB.out.size)⟩
  · have hz := HTE.out he
    subst hz
    have te : ((e0 : Int) != 0) = true := by rw [bne_iff_ne]; omega
    clear HTF HTL HTE HTK he
    go_wp2_with fail
    refine (errb_any _ b (m, e0) _ HR.out).mono ?_
    rintro e w' ⟨rfl, rfl⟩
    go_wp2_with fail
    refine (onum_any _ _).mono ?_
    rintro e w' ⟨rfl, rfl⟩
    go_wp2_with (refine wpList_load_op otP rfl _ rfl _ rfl _ _ _ (by assumption) ?_)
    refine (oright_any Opp.zero _ _ _ ⟨by decide, by decide, by decide⟩ HP.out).mono ?_
    rw [rightO_zero]
    rintro e w5 ⟨rfl, hb5⟩
    replace HB := Lib.hid (HB.out.trans (hb5.mono HB.out.size))
    clear hb5 hv
    go_wp2_with fail
    refine (oknows_any _).mono ?_
    rintro e w6 ⟨rfl, hb6⟩
    replace HB := Lib.hid (HB.out.trans (hb6.mono HB.out.size))
    clear hb6
    go_wp2
    go_ret
    exact ⟨rfl, HB.out⟩
end Go.Proofs.Ytjaojhhcpggcpaa
