/-
  BatchRot: a framed batch of which one byte is another one is not read as another batch.
  No conditions.
-/
import Derived.Test.YthpdphlkmleldaaBtKnow
import Derived.Test.YthpdphlkmleldaaGH
import Derived.Test.YthpdphlkmleldaaR8Right
import Derived.Test.YthpdphlkmleldaaLent
namespace Go.Proofs.Ythpdphlkmleldaa
open Go.RowKit

theorem vals_set (l : List UInt8) (i : Nat) (c : UInt8) : vals (l.set i c) = (vals l).set i (.int .u8 (c.toNat : Int)) := by
  simp [vals]
theorem Own.set {E : TypeId} {w : World} {B g n cap : Nat} {l : List UInt8} (h : Own E w B (.slice (some ⟨g, 0, none⟩) n cap) l) (hn : n = l.length) (i : Nat) (c : UInt8) :
    Own E (w.setCell ⟨g, i, none⟩ (.int .u8 (c.toNat : Int))) B (.slice (some ⟨g, 0, none⟩) n cap) (l.set i c) := by
  subst hn
  have h0 : w.ownsRow B E 1 (.slice (some ⟨g, 0, none⟩) l.length cap) l.length (vals l) := h
  have := h0.stored i (.int .u8 (c.toNat : Int))
  unfold Own
  rw [vals_set, List.length_set]
  exact this.1
/-- what the rotted frame is read as -/
theorem unframeT_rot (l : List UInt8) (r : Nat) (c : UInt8) (hr : r < (Wm.frameB l).length) (hne : (Wm.frameB l)[r] ≠ c) :
    ((unframeT ((Wm.frameB l).set r c)).2.2 ≠ 0 ∨ (unframeT ((Wm.frameB l).set r c)).2.1 ≠ (Wm.frameB l).length) ∧
    ((unframeT ((Wm.frameB l).set r c)).2.2 ≠ 0 → (unframeT ((Wm.frameB l).set r c)).2.1 = 0 ∧ (unframeT ((Wm.frameB l).set r c)).1 = Bat.zero) := by
  have h := unfR_rot l r c hr hne
  unfold unframeT
  split
  · next h1 => exact ⟨Or.inl h1, fun _ => ⟨rfl, rfl⟩⟩
  · next h1 =>
    split
    · exact ⟨Or.inl (by simp), fun _ => ⟨rfl, rfl⟩⟩
    · exact ⟨h.elim (fun e => absurd e h1) Or.inr, fun e => absurd rfl e⟩

set_option maxRecDepth 100000 in
set_option maxHeartbeats 8000000 in
theorem batchRot_walk (x : Bat) (p : Option Addr) (c : Nat) (a : Int) (z : Int) (w : World) (h : Bops w x p c) (wa : (Lit.int .i64 a).wf = true) (wz : (Lit.int .u8 z).wf = true) :
    Calls Try.prog 5 #[.agg (btA x p c), .int .i64 a, .int .u8 z] w (Yes w) := by
  have hz : 0 ≤ z ∧ z ≤ 255 := by simpa [Lit.wf, IntKind.min, IntKind.max, IntKind.signed, IntKind.bits] using wz
  have ha : -9223372036854775808 ≤ a ∧ a ≤ 9223372036854775807 := by simpa [Lit.wf, IntKind.min, IntKind.max, IntKind.signed, IntKind.bits] using wa
  obtain ⟨d, rfl⟩ : ∃ d : UInt8, z = ((d.toNat : Nat) : Int) := ⟨UInt8.ofNat z.toNat, by simp; omega⟩
  have HX := Lib.hid (AgAt.new w (btA x p c) 24)
  have HB := Lib.hid ((Below.refl w.heap.size w).alloc (Nat.le_refl _) (.cells (btA x p c) 24))
  have HLI := Lib.hid (fun W (hb : Below w.heap.size w W) => light_any x p c W (h.kept hb))
  have HOW := Lib.hid (fun W (hb : Below w.heap.size w W) (h1 : x.ops.length ≤ 5000) (h2 : ∀ y, y ∈ x.ops → y.path.length ≤ 5000) => bown_any x p c W (h.kept hb) h1 h2)
  have HBW := Lib.hid (fun W (hb : Below w.heap.size w W) => h.kept hb)
  have hx := HX.out
  clear h wa wz hz
  cases hl : lightT x with
  | false =>
    rw [hl] at HLI
    go_enter Try.func5, Try.ntmps5
    go_wp2_with (refine wpList_load_ag btR (by kernel_rfl) _ rfl _ rfl (A := btA x p c) rfl (by assumption) ?_)
    refine (HLI.out _ HB.out).mono ?_
    rintro e w1 ⟨rfl, hb1⟩
    replace HB := Lib.hid (HB.out.trans (hb1.mono HB.out.size))
    clear hb1
    go_wp2_with fail
    refine (bknows_any _).mono ?_
    rintro e w2 ⟨rfl, hb2⟩
    replace HB := Lib.hid (HB.out.trans (hb2.mono HB.out.size))
    clear hb2
    go_wp2
    go_ret
    exact ⟨rfl, HB.out⟩
  | true =>
    rw [hl] at HLI
    have HSZ := Lib.hid (light_szs hl)
    have HLN := Lib.hid (light_len hl)
    have HPL := Lib.hid (light_path hl)
    clear hl
    go_enter Try.func5, Try.ntmps5
    go_wp2_with (refine wpList_load_ag btR (by kernel_rfl) _ rfl _ rfl (A := btA x p c) rfl (by assumption) ?_)
    refine (HLI.out _ HB.out).mono ?_
    rintro e w1 ⟨rfl, hb1⟩
    replace HX := Lib.hid (HX.out.kept hb1)
    replace HB := Lib.hid (HB.out.trans (hb1.mono HB.out.size))
    clear hb1 hx
    have hx := HX.out
    go_wp2_with (refine wpList_load_ag btR (by kernel_rfl) _ rfl _ rfl (A := btA x p c) rfl (by assumption) ?_)
    refine (HOW.out _ HB.out (by have := HLN.out; omega) (fun y hy => by have := HPL.out y hy; omega)).mono ?_
    rintro e w2 ⟨p2, c2, rfl, hbo2, hb2⟩
    replace HX := Lib.hid (HX.out.kept hb2)
    replace HB := Lib.hid (HB.out.trans (hb2.mono HB.out.size))
    have HFR := Lib.hid (bframe_any x p2 c2 w2 HSZ.out hbo2.bops)
    clear hb2 hx hbo2
    go_wp2_with fail
    refine HFR.out.mono ?_
    clear HFR
    cases hr : rightT x with
    | false =>
      rw [frameT_err hr]
      have HR := Lib.hid hr
      clear hr
      rintro e w3 ⟨v3, rfl, hown, hb3⟩
      dsimp only at hown
      obtain ⟨p3, c3, rfl, -⟩ := hown.bs
      replace HX := Lib.hid (HX.out.kept hb3)
      replace HB := Lib.hid (HB.out.trans (hb3.mono HB.out.size))
      clear hown hb3
      go_wp2_with fail
      refine (bnum_any _ _).mono ?_
      rintro e w4 ⟨rfl, hb4⟩
      replace HX := Lib.hid (HX.out.kept hb4)
      replace HB := Lib.hid (HB.out.trans (hb4.mono HB.out.size))
      clear hb4
      go_wp2_with fail
      have HRR := Lib.hid (fun W (hS : Bel w4 W) => r8right_any x p c W HSZ.out ((HBW.out _ (HB.out.trans (Below.mono hS HB.out.size)))))
      rw [HR.out] at HRR
      refine wp_region_held_drew (S := Bel w4) (by kernel_rfl) (Bel.start w4) (fun hS => ?_)
      refine wpAnyH_take (i := 0) (v := ?_) rfl (by kernel_rfl) (by kernel_rfl) (by kernel_rfl) (fun _ _ _ h => h) (Or.inl ⟨by kernel_rfl, ?_⟩) hS ?_
      rotate_left
      · intro W hSW
        go_simp
        all_goals with_reducible rfl
      refine wpAnyH_take (i := 3) (v := .agg (btA _ _ _)) rfl (by kernel_rfl) (by kernel_rfl) (by kernel_rfl) (fun _ _ _ h => h) (Or.inl ⟨by kernel_rfl, fun W hSW => exec_load_ag btR rfl rfl rfl (AgAt.kept HX.out hSW)⟩) hS ?_
      refine wpAnyH_ready (rs := [1]) (by kernel_rfl) (by simp) ?_
      refine AllReadyH.cons rfl (fun K hK => ?_) AllReadyH.nil
      go_simp
      go_wp2_with ((go_at_call 11; refine (bnum_any _ _).mono ?_; rintro e wn ⟨rfl, hbn⟩))
      refine hK.out _ _ (hS.trans hbn) (fun hS => ?_)
      clear hK K
      refine wpAnyH_take (i := 2) (v := ?_) rfl (by kernel_rfl) (by kernel_rfl) (by kernel_rfl) (fun _ _ _ h => h) (Or.inl ⟨by kernel_rfl, ?_⟩) hS ?_
      rotate_left
      · intro W hSW
        go_simp
        all_goals with_reducible rfl
      go_simp
      refine wpAnyH_ready (rs := [4]) (by kernel_rfl) (by simp) ?_
      refine AllReadyH.cons rfl (fun K hK => ?_) AllReadyH.nil
      go_simp
      go_wp2_with ((go_at_call 20; refine (HRR.out _ hS).mono ?_; rintro e wn ⟨rfl, hbn⟩))
      refine hK.out _ _ (hS.trans hbn) (fun hS => ?_)
      clear hK K
      refine wpAnyH_take (i := 5) (v := ?_) rfl (by kernel_rfl) (by kernel_rfl) (by kernel_rfl) (fun _ _ _ h => h) (Or.inl ⟨by kernel_rfl, ?_⟩) hS ?_
      rotate_left
      · intro W hSW
        go_simp
        all_goals with_reducible rfl
      refine wpAnyH_take (i := 6) (v := ?_) rfl (by kernel_rfl) (by kernel_rfl) (by kernel_rfl) (fun _ _ _ h => h) (Or.inl ⟨by kernel_rfl, ?_⟩) hS ?_
      rotate_left
      · intro W hSW
        go_simp
        all_goals with_reducible rfl
      refine wpAnyH_take (i := 7) (v := ?_) rfl (by kernel_rfl) (by kernel_rfl) (by kernel_rfl) (fun _ _ _ h => h) (Or.inl ⟨by kernel_rfl, ?_⟩) hS ?_
      rotate_left
      · intro W hSW
        go_simp
        all_goals with_reducible rfl
      go_simp
      refine wpAnyH_ready (rs := [8]) (by kernel_rfl) (by simp) ?_
      refine AllReadyH.cons rfl (fun K hK => ?_) AllReadyH.nil
      go_simp
      go_wp2_with ((go_at_call 7; refine (bknows_any _).mono ?_; rintro e wn ⟨rfl, hbn⟩))
      refine hK.out _ _ (hS.trans hbn) (fun hS => ?_)
      clear hK K
      refine wpAnyH_take (i := 9) (v := ?_) rfl (by kernel_rfl) (by kernel_rfl) (by kernel_rfl) (fun _ _ _ h => h) (Or.inl ⟨by kernel_rfl, ?_⟩) hS ?_
      rotate_left
      · intro W hSW
        go_simp
        all_goals with_reducible rfl
      refine wpAnyH_take (i := 10) (v := ?_) rfl (by kernel_rfl) (by kernel_rfl) (by kernel_rfl) (fun _ _ _ h => h) (Or.inl ⟨by kernel_rfl, ?_⟩) hS ?_
      rotate_left
      · intro W hSW
        go_simp
        all_goals with_reducible rfl
      go_simp
      have HS := Lib.hid hS
      refine wpAnyH_done (by kernel_rfl) ?_ _
      go_wp2
      go_ret
      exact ⟨rfl, HB.out.trans (Below.mono HS.out HB.out.size)⟩
    | true =>
      rw [frameT_ok hr]
      have hbl := batB_len hr
      have hF := frameB_length (batB x)
      have hnl := Wm.nlen_le (batB x).length
      have HROT := Lib.hid (unframeT_rot (batB x))
      clear hr
      generalize Wm.frameB (batB x) = f at *
      have hF6 : 6 ≤ f.length := by omega
      have hFu : f.length ≤ 70000 := by omega
      clear hF hnl hbl
      rintro e w3 ⟨v3, rfl, hown, hb3⟩
      dsimp only at hown
      have hv : ∃ g cap, v3 = .slice (some ⟨g, 0, none⟩) f.length cap ∧ w2.heap.size ≤ g ∧ f.length ≤ cap := by
        have h0 : w3.ownsRow w2.heap.size 5 1 v3 f.length (vals f) := hown
        rcases h0.2 with ⟨-, hn⟩ | ⟨g, cap, cur, hv, hg, -, hnc, -⟩
        · omega
        · exact ⟨g, cap, hv, hg, hnc⟩
      obtain ⟨g, cap, rfl, hg, hcap⟩ := hv
      have hgw : w.heap.size ≤ g := Nat.le_trans HB.out.size hg
      replace HB := Lib.hid (HB.out.trans (hb3.mono HB.out.size))
      have HO3 := Lib.hid hown
      clear hown hb3 HX
      go_wp2_with fail
      refine (bnum_any _ _).mono ?_
      rintro e w4 ⟨rfl, hb4⟩
      replace HB := Lib.hid (HB.out.trans (hb4.mono HB.out.size))
      replace HO3 := Lib.hid (Own.below HO3.out hb4)
      clear hb4
      have hTb : -(f.length : Int) < a.tmod f.length ∧ a.tmod f.length < f.length := by
        constructor
        · have := Int.lt_tmod_of_pos a (b := (f.length : Int)) (by omega); exact this
        · exact Int.tmod_lt_of_pos a (by omega)
      have hz : ((f.length : Int) == 0) = false := by rw [beq_eq_false_iff_ne]; omega
      obtain ⟨T, hT⟩ : ∃ T : Int, a.tmod f.length = T := ⟨_, rfl⟩
      rw [hT] at hTb
      obtain ⟨hT1, hT2⟩ := hTb
      obtain ⟨r, hr⟩ : ∃ r : Nat, (T + (f.length : Int)) % (f.length : Int) = (r : Int) := ⟨((T + (f.length : Int)) % (f.length : Int)).toNat, by
        rw [Int.toNat_of_nonneg (Int.emod_nonneg _ (by omega))]⟩
      have hrl : r < f.length := by have := Int.emod_lt_of_pos (T + (f.length : Int)) (show (0 : Int) < f.length by omega); omega
      have hcell := HO3.out.cell r hrl
      have hfr : w4.frozen? ⟨g, r, none⟩ = false := World.ownsRow.frozenAt HO3.out r
      by_cases heq : by8 f r = d.toNat
      · have t1 : ((by8 f r : Int) == (d.toNat : Int)) = true := by rw [heq]; exact beq_self_eq_true _
        clear heq
        generalize by8 f r = y at *
        generalize d.toNat = z at *
        go_wp2_with fail
        refine (bknows_any _).mono ?_
        rintro e w5 ⟨rfl, hb5⟩
        replace HB := Lib.hid (HB.out.trans (hb5.mono HB.out.size))
        clear hb5
        go_wp2
        go_ret
        exact ⟨rfl, HB.out⟩
      · have t1 : ((by8 f r : Int) == (d.toNat : Int)) = false := by rw [beq_eq_false_iff_ne]; omega
        have hrot := HROT.out r d hrl (by intro e; apply heq; rw [by8_get f r hrl, e])
        have hown3 := HO3.out.set rfl r d
        have hl3 : (f.set r d).length = f.length := List.length_set
        generalize f.set r d = f2 at *
        obtain ⟨p4, c4, e4, hb4, -⟩ := hown3.bs
        simp only [Value.slice.injEq] at e4
        obtain ⟨rfl, -, -⟩ := e4
        have hbx : Below w.heap.size w (w4.setCell ⟨g, r, none⟩ (.int .u8 (d.toNat : Int))) := HB.out.setCell (by simpa using hgw) _
        replace HB := Lib.hid hbx
        have HUN := Lib.hid (bunframe_any (some ⟨g, 0, none⟩) f.length cap f2 _ hl3 hb4 (by omega) (by omega))
        generalize unframeT f2 = u at *
        obtain ⟨y, n, er⟩ := u
        dsimp only at hrot
        have HR1 := Lib.hid hrot.1
        have HR2 := Lib.hid hrot.2
        clear heq hown3 hl3 hb4 hbx hrot HROT HO3
        generalize by8 f r = yb at *
        generalize d.toNat = zb at *
        go_wp2_with fail
        refine HUN.out.mono ?_
        rintro e w5 ⟨p5, c5, rfl, hbo5, hb5⟩
        replace HB := Lib.hid (HB.out.trans (hb5.mono HB.out.size))
        clear hbo5 hb5 HUN hcell hfr
        by_cases he : er = 0
        · subst he
          have hn : ((n : Int) != (f.length : Int)) = true := by
            rw [bne_iff_ne]
            rcases HR1.out with q | q
            · exact absurd rfl q
            · omega
          clear HR1 HR2
          go_wp2_with (refine wpList_store_newag btP rfl _ _ rfl rfl _ rfl rfl rfl (btA_one _ _ _) ?_; intro w6 hv6 hb6)
          replace HB := Lib.hid (HB.out.trans (hb6.mono HB.out.size))
          clear hv6 hb6
          refine (bnum_any _ _).mono ?_
          rintro e w7 ⟨rfl, hb7⟩
          replace HB := Lib.hid (HB.out.trans (hb7.mono HB.out.size))
          clear hb7
          go_wp2_with fail
          refine (bnum_any _ _).mono ?_
          rintro e w8 ⟨rfl, hbw8⟩
          replace HB := Lib.hid (HB.out.trans (hbw8.mono HB.out.size))
          clear hbw8
          go_wp2_with fail
          refine (rnode_any 0 0 _).mono ?_
          rw [show okNode 0 0 = false from rfl]
          rintro e w9 ⟨rfl, hbw9⟩
          replace HB := Lib.hid (HB.out.trans (hbw9.mono HB.out.size))
          clear hbw9
          go_wp2_with fail
          refine (bknows_any _).mono ?_
          rintro e w10 ⟨rfl, hbw10⟩
          replace HB := Lib.hid (HB.out.trans (hbw10.mono HB.out.size))
          clear hbw10
          go_wp2
          go_ret
          exact ⟨rfl, HB.out⟩
        · obtain ⟨hn0, hy0⟩ := HR2.out he
          subst hn0 hy0
          have he1 : ((er : Int) != 0) = true := by rw [bne_iff_ne]; omega
          have he2 : ((er : Int) == 0) = false := by rw [beq_eq_false_iff_ne]; omega
          clear HR1 HR2 he
          go_wp2_with (refine wpList_store_newag btP rfl _ _ rfl rfl _ rfl rfl rfl (btA_one _ _ _) ?_; intro w6 hv6 hb6)
          replace HB := Lib.hid (HB.out.trans (hb6.mono HB.out.size))
          have HV := Lib.hid hv6
          clear hv6 hb6
          refine (bnum_any _ _).mono ?_
          rintro e w7 ⟨rfl, hb7⟩
          replace HB := Lib.hid (HB.out.trans (hb7.mono HB.out.size))
          replace HV := Lib.hid (AgAt.kept HV.out hb7)
          clear hb7
          go_wp2_with fail
          refine (bnum_any _ _).mono ?_
          rintro e w8 ⟨rfl, hbw8⟩
          replace HB := Lib.hid (HB.out.trans (hbw8.mono HB.out.size))
          replace HV := Lib.hid (AgAt.kept HV.out hbw8)
          clear hbw8
          have y3 := (BtAt.cells HV.out).2.2.2
          dsimp only [Bat.zero, List.length_nil] at y3
          go_wp2_with fail
          refine (rnode_any 0 0 _).mono ?_
          rw [show okNode 0 0 = false from rfl]
          rintro e w9 ⟨rfl, hbw9⟩
          replace HB := Lib.hid (HB.out.trans (hbw9.mono HB.out.size))
          clear hbw9
          clear y3
          go_wp2_with fail
          refine (bknows_any _).mono ?_
          rintro e w10 ⟨rfl, hbw10⟩
          replace HB := Lib.hid (HB.out.trans (hbw10.mono HB.out.size))
          clear hbw10
          go_wp2
          go_ret
          exact ⟨rfl, HB.out⟩
end Go.Proofs.Ythpdphlkmleldaa
