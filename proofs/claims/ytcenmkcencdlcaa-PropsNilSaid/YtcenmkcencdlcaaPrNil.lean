/-
  PROPSNIL: the walk: no registers, and those that nobody made.
  No conditions.
-/
import Derived.Test.YtcenmkcencdlcaaGQ
import Derived.Test.YtcenmkcencdlcaaGL
import Derived.Test.YtcenmkcencdlcaaGK
namespace Go.Proofs.Ytcenmkcencdlcaa
open Go.RowKit

theorem run_build_r0 (w : World) : (Instr.build 60 #[]).run Try.prog w = .ok (.agg #[.map none, .map none, .map none]) w := by kernel_rfl
theorem opL_in {e : WrE} (j : Nat) {v : Value} (h : (opL e.w.x e.q e.c)[j]? = some v) : (wrA e)[2 + j]? = some v := by
  show (ceW e).toArray[2 + j]? = some v
  rw [List.getElem?_toArray]
  unfold ceW
  rw [List.getElem?_append_right (by simp)]
  simpa using h
theorem flag_zero {v : Value} (n : Qm.St) (p : Int) (w : World) (h : NoR w v) :
    Calls Try.prog 20 #[v, .agg #[.int .i64 n.1, .int .i64 n.2], .int .i64 p] w fun e w' => e = .returned (.bool false) ∧ Below w.heap.size w w' := by
  have := flag_no v n p w h
  rwa [show decide (Pm.z0 = (4, 1, ⟨#[]⟩)) = false from by decide] at this

set_option maxRecDepth 100000 in
set_option maxHeartbeats 8000000 in
theorem propsNil_walk (e : WrE) (prop : Int) (w : World) (hp : Pa w e.w.x e.q e.c) (_ : (Lit.int .i64 prop).wf = true) :
    Calls Try.prog 4 #[.agg (wrA e), .int .i64 prop] w fun e w' => e = .returned (.bool true) ∧ Below w.heap.size w w' := by
  have HP0 := Lib.hid hp
  obtain ⟨A, hA⟩ : ∃ A, A = wrA e := ⟨_, rfl⟩
  have HA := Lib.hid hA
  have HASZ := Lib.hid (show A.size = 14 from by rw [hA]; rfl)
  have hbs : ∀ W : World, (Instr.buildSlice 22 1 #[(0, .agg A)]).run Try.prog W = .ok (.slice (some ⟨W.heap.size, 0, none⟩) 1 1) (W.alloc (.cells A 40)) := fun W => by rw [hA]; kernel_rfl
  have HBX0 := Lib.hid (AgAt.new w A 40)
  have HB0 := Lib.hid ((Below.refl w.heap.size w).alloc (Nat.le_refl _) (.cells A 40))
  have HB1 := Lib.hid (HB0.out.alloc HB0.out.size (.cells A 40))
  have HBA := Lib.hid ((Below.refl (w.alloc (.cells A 40)).heap.size _).alloc (Nat.le_refl _) (.cells A 40))
  have HLI := Lib.hid (light12_any (some ⟨(w.alloc (.cells A 40)).heap.size, 0, none⟩) 1 [e] ((w.alloc (.cells A 40)).alloc (.cells A 40)) ⟨by subst hA; exact rd_new1 (B := 0) (Below.refl _ (w.alloc (.cells (wrA e) 40))) ceW e _, fun e' he' => by rw [List.mem_singleton.1 he']; exact hp.kept HB1.out⟩)
  rw [World.size_alloc] at HLI
  rw [← hA]
  clear hp hA
  go_enter Try.func4, Try.ntmps4
  go_wp2_with (first | (refine wpList_load_ag wrT rfl _ rfl _ rfl HASZ.out HBX0.out ?_) | (refine wpList_plain rfl fun K hK => wp_build1 (SE := 22) (E := 40) _ rfl A rfl hbs (hK _ _ ?_)))
  refine HLI.out.mono ?_
  rintro e1 w1 ⟨b, rfl, hsm, hb1⟩
  have HSM := Lib.hid hsm
  replace HBX0 := Lib.hid ((HBX0.out.kept HBA.out).kept hb1)
  replace HB1 := Lib.hid (HB1.out.trans (hb1.mono HB1.out.size))
  clear hsm hb1 hbs HB0 HBA HLI
  cases b with
  | false =>
    go_wp2_with fail
    refine (knows12_any _).mono ?_
    rintro e2 w2 ⟨rfl, hb2⟩
    replace HB1 := Lib.hid (HB1.out.trans (hb2.mono HB1.out.size))
    clear hb2
    go_wp2
    go_ret
    exact ⟨rfl, HB1.out⟩
  | true =>
    have HS1 := Lib.hid ((HSM.out rfl).2 e (by simp))
    have HLEN := Lib.hid (show e.w.x.path.length ≤ 5000 from by have := HS1.out.1; omega)
    obtain ⟨⟨⟨s1, s2⟩, x⟩, q, c⟩ := e
    dsimp only at HP0 HS1 HLEN
    clear HSM
    go_wp2
    go_loopw [5, 6] (fun v i wr => ∃ (k : Nat) (vr : Value), vr = v ∧ k ≤ 2 ∧ i = .int .i64 (k : Int) ∧ NoR wr vr ∧ AgAt wr w.heap.size A ∧ Below w.heap.size w wr) (fun _ i _ => 2 - (intOf i).toNat)
    case atStart => exact ⟨0, _, rfl, by omega, rfl, Or.inl rfl, HBX0.out, HB1.out⟩
    case round =>
      obtain ⟨k, vr, rfl, hk, rfl, hnr, hbx, hbw⟩ := hrel
      have HNR := Lib.hid hnr
      replace HBX0 := Lib.hid hbx
      have HB := Lib.hid hbw
      clear hnr hbx hbw
      by_cases hk2 : k < 2
      · have d0 : decide ((k : Int) < 2) = true := decide_eq_true (by omega)
        have HP := Lib.hid (HP0.out.kept HB.out)
        have y8 : wr.cell? ⟨w.heap.size, 8, none⟩ = some (.slice q x.path.length c) := by rw [HBX0.out.cell 8, HA.out]; rfl
        have y3 : wr.cell? ⟨w.heap.size, 3, none⟩ = some (.int .i64 x.nt) := by rw [HBX0.out.cell 3, HA.out]; rfl
        have y4 : wr.cell? ⟨w.heap.size, 4, none⟩ = some (.int .i64 x.nr) := by rw [HBX0.out.cell 4, HA.out]; rfl
        go_wp2_with fail
        refine (over_no vr (x.nt, x.nr) q x.path c prop wr HNR.out).mono ?_
        rintro e5 w4 ⟨rfl, hb4⟩
        have HB4 := Lib.hid (HB.out.trans (hb4.mono HB.out.size))
        have HBX4 := Lib.hid (HBX0.out.kept hb4)
        have HNR4 := Lib.hid (HNR.out.kept hb4)
        clear hb4 HNR HP y3 y4 y8
        go_upto_region 8 with fail
        have HV7 := Lib.hid (AgAt.new w4 #[.int .i64 Pm.z0.1, .int .i64 Pm.z0.2.1, .string Pm.z0.2.2] 34)
        have HB47 := Lib.hid ((Below.refl w4.heap.size w4).alloc (Nat.le_refl _) (.cells #[.int .i64 Pm.z0.1, .int .i64 Pm.z0.2.1, .string Pm.z0.2.2] 34))
        have HB5 := Lib.hid (HB4.out.trans (HB47.out.mono HB4.out.size))
        have HBX := Lib.hid (HBX4.out.kept HB47.out)
        have HNR := Lib.hid (HNR4.out.kept HB47.out)
        have HP := Lib.hid (HP0.out.kept HB5.out)
        have HFL := Lib.hid (fun W (h : NoR W vr) => flag_zero (x.nt, x.nr) prop W h)
        clear HB47 HB4 HBX4 HNR4
        generalize w4.alloc (.cells #[.int .i64 Pm.z0.1, .int .i64 Pm.z0.2.1, .string Pm.z0.2.2] 34) = w5 at *
        refine wp_region_held_drew (S := fun W => Below w5.heap.size w5 W) (by kernel_rfl) (Below.drew (Below.refl _ _)) (fun hS => ?_)
        refine wpAnyH_take (i := 0) (v := ?_) rfl (by kernel_rfl) (by kernel_rfl) (by kernel_rfl) (fun _ _ _ h => h) (Or.inl ⟨by kernel_rfl, ?_⟩) hS ?_
        rotate_left
        · intro W hSW
          go_simp
          all_goals with_reducible rfl
        refine wpAnyH_take (i := 1) (v := ?_) rfl (by kernel_rfl) (by kernel_rfl) (by kernel_rfl) (fun _ _ _ h => h) (Or.inl ⟨by kernel_rfl, ?_⟩) hS ?_
        rotate_left
        · intro W hSW
          go_simp
          all_goals with_reducible rfl
        go_simp
        refine wpAnyH_take (i := 2) (v := .agg #[.int .i64 s1, .int .i64 s2]) rfl (by kernel_rfl) (by kernel_rfl) (by kernel_rfl) (fun _ _ _ h => h) (Or.inl ⟨by kernel_rfl, fun W hSW => exec_load_part stT rfl rfl (HBX.out.kept hSW) [.int .i64 s1, .int .i64 s2] (by intro j v hv; match j, hv with | 0, hv => rw [HA.out]; exact hv | 1, hv => rw [HA.out]; exact hv) rfl⟩) hS ?_
        refine wpAnyH_take (i := 3) (v := ?_) rfl (by kernel_rfl) (by kernel_rfl) (by kernel_rfl) (fun _ _ _ h => h) (Or.inl ⟨by kernel_rfl, ?_⟩) hS ?_
        rotate_left
        · intro W hSW
          go_simp
          all_goals with_reducible rfl
        go_simp
        refine wpAnyH_take (i := 4) (v := .agg (opA x q c)) rfl (by kernel_rfl) (by kernel_rfl) (by kernel_rfl) (fun _ _ _ h => h) (Or.inl ⟨by kernel_rfl, fun W hSW => exec_load_part (⟨⟨_, Try.underlying38⟩, by kernel_rfl⟩ : AgT 38 12) rfl rfl (HBX.out.kept hSW) (opL x q c) (by intro j v hv; rw [HA.out]; exact opL_in _ hv) rfl⟩) hS ?_
        go_simp
        refine wpAnyH_ready (rs := [5]) (by kernel_rfl) (by simp) ?_
        refine AllReadyH.cons rfl (fun K hK => ?_) AllReadyH.nil
        go_simp
        go_wp2_with ((go_at_call 10; refine (ownN_any x q c _ (HP.out.kept hS) HLEN.out).mono ?_; rintro e wn ⟨q2, c2, rfl, hpa, hbn, -⟩))
        refine hK.out _ _ (hS.trans (hbn.mono hS.size)) (fun hS => ?_)
        clear hK K hbn
        refine wpAnyH_ready (rs := [6]) (by kernel_rfl) (by simp) ?_
        refine AllReadyH.cons rfl (fun K hK => ?_) AllReadyH.nil
        go_simp
        go_wp2_with ((go_at_call 12; refine (do_no _ (s1, s2) x q2 c2 _ (HNR.out.kept hS)).mono ?_; rintro e wn ⟨rfl, hbn⟩))
        refine hK.out _ _ (hS.trans (hbn.mono hS.size)) (fun hS => ?_)
        clear hK K hbn
        refine wpAnyH_ready (rs := [7]) (by kernel_rfl) (by simp) ?_
        refine AllReadyH.cons rfl (fun K hK => ?_) AllReadyH.nil
        go_simp
        go_wp2_with ((go_at_call 11; refine (num12_any _ _).mono ?_; rintro e wn ⟨rfl, rfl⟩))
        refine hK.out _ _ hS (fun hS => ?_)
        clear hK K
        refine wpAnyH_take (i := 8) (v := ?_) rfl (by kernel_rfl) (by kernel_rfl) (by kernel_rfl) (fun _ _ _ h => h) (Or.inl ⟨by kernel_rfl, ?_⟩) hS ?_
        rotate_left
        · intro W hSW
          go_simp
          all_goals with_reducible rfl
        refine wpAnyH_take (i := 9) (v := ?_) rfl (by kernel_rfl) (by kernel_rfl) (by kernel_rfl) (fun _ _ _ h => h) (Or.inl ⟨by kernel_rfl, ?_⟩) hS ?_
        rotate_left
        · intro W hSW
          go_simp
          all_goals with_reducible rfl
        go_simp
        refine wpAnyH_take (i := 10) (v := .agg (vlA Pm.z0)) rfl (by kernel_rfl) (by kernel_rfl) (by kernel_rfl) (fun _ _ _ h => h) (Or.inl ⟨by kernel_rfl, fun W hSW => exec_load_ag vA rfl rfl rfl (HV7.out.kept hSW)⟩) hS ?_
        refine wpAnyH_take (i := 11) (v := ?_) rfl (by kernel_rfl) (by kernel_rfl) (by kernel_rfl) (fun _ _ _ h => h) (Or.inl ⟨by kernel_rfl, ?_⟩) hS ?_
        rotate_left
        · intro W hSW
          have hbv := run_build_vl0
          go_simp
          all_goals with_reducible rfl
        go_simp
        refine wpAnyH_take (i := 12) (v := .bool false) rfl (by kernel_rfl) (by kernel_rfl) (by kernel_rfl) (fun _ _ _ h => h) (Or.inl ⟨by kernel_rfl, fun W hSW => (exec_neq_vl rfl Pm.z0 Pm.z0 rfl rfl).trans (by rw [decide_eq_true rfl]; rfl)⟩) hS ?_
        refine wpAnyH_take (i := 13) (v := ?_) rfl (by kernel_rfl) (by kernel_rfl) (by kernel_rfl) (fun _ _ _ h => h) (Or.inl ⟨by kernel_rfl, ?_⟩) hS ?_
        rotate_left
        · intro W hSW
          go_simp
          all_goals with_reducible rfl
        refine wpAnyH_take (i := 14) (v := ?_) rfl (by kernel_rfl) (by kernel_rfl) (by kernel_rfl) (fun _ _ _ h => h) (Or.inl ⟨by kernel_rfl, ?_⟩) hS ?_
        rotate_left
        · intro W hSW
          go_simp
          all_goals with_reducible rfl
        refine wpAnyH_take (i := 15) (v := ?_) rfl (by kernel_rfl) (by kernel_rfl) (by kernel_rfl) (fun _ _ _ h => h) (Or.inl ⟨by kernel_rfl, ?_⟩) hS ?_
        rotate_left
        · intro W hSW
          go_simp
          all_goals with_reducible rfl
        go_simp
        refine wpAnyH_take (i := 16) (v := ?_) rfl (by kernel_rfl) (by kernel_rfl) (by kernel_rfl) (fun _ _ _ h => h) (Or.inl ⟨by kernel_rfl, ?_⟩) hS ?_
        rotate_left
        · intro W hSW
          go_simp
          all_goals with_reducible rfl
        refine wpAnyH_take (i := 17) (v := ?_) rfl (by kernel_rfl) (by kernel_rfl) (by kernel_rfl) (fun _ _ _ h => h) (Or.inl ⟨by kernel_rfl, ?_⟩) hS ?_
        rotate_left
        · intro W hSW
          go_simp
          all_goals with_reducible rfl
        refine wpAnyH_take (i := 18) (v := ?_) rfl (by kernel_rfl) (by kernel_rfl) (by kernel_rfl) (fun _ _ _ h => h) (Or.inl ⟨by kernel_rfl, ?_⟩) hS ?_
        rotate_left
        · intro W hSW
          go_simp
          all_goals with_reducible rfl
        refine wpAnyH_take (i := 19) (v := ?_) rfl (by kernel_rfl) (by kernel_rfl) (by kernel_rfl) (fun _ _ _ h => h) (Or.inl ⟨by kernel_rfl, ?_⟩) hS ?_
        rotate_left
        · intro W hSW
          go_simp
          all_goals with_reducible rfl
        go_simp
        refine wpAnyH_take (i := 20) (v := ?_) rfl (by kernel_rfl) (by kernel_rfl) (by kernel_rfl) (fun _ _ _ h => h) (Or.inl ⟨by kernel_rfl, ?_⟩) hS ?_
        rotate_left
        · intro W hSW
          go_simp
          all_goals with_reducible rfl
        go_simp
        refine wpAnyH_take (i := 21) (v := .agg #[.int .i64 x.nt, .int .i64 x.nr]) rfl (by kernel_rfl) (by kernel_rfl) (by kernel_rfl) (fun _ _ _ h => h) (Or.inl ⟨by kernel_rfl, fun W hSW => exec_load_part stT rfl rfl (HBX.out.kept hSW) [.int .i64 x.nt, .int .i64 x.nr] (by intro j v hv; match j, hv with | 0, hv => rw [HA.out]; exact hv | 1, hv => rw [HA.out]; exact hv) rfl⟩) hS ?_
        refine wpAnyH_take (i := 22) (v := ?_) rfl (by kernel_rfl) (by kernel_rfl) (by kernel_rfl) (fun _ _ _ h => h) (Or.inl ⟨by kernel_rfl, ?_⟩) hS ?_
        rotate_left
        · intro W hSW
          go_simp
          all_goals with_reducible rfl
        refine wpAnyH_take (i := 24) (v := ?_) rfl (by kernel_rfl) (by kernel_rfl) (by kernel_rfl) (fun _ _ _ h => h) (Or.inl ⟨by kernel_rfl, ?_⟩) hS ?_
        rotate_left
        · intro W hSW
          have hbv := run_build_vl0
          go_simp
          all_goals with_reducible rfl
        go_simp
        refine wpAnyH_ready (rs := [23]) (by kernel_rfl) (by simp) ?_
        refine AllReadyH.cons rfl (fun K hK => ?_) AllReadyH.nil
        go_simp
        go_wp2_with ((go_at_call 16; refine (value_no _ (x.nt, x.nr) prop _ (HNR.out.kept hS)).mono ?_; rintro e wn ⟨rfl, hbn⟩))
        refine hK.out _ _ (hS.trans (hbn.mono hS.size)) (fun hS => ?_)
        clear hK K hbn
        refine wpAnyH_take (i := 25) (v := .bool false) rfl (by kernel_rfl) (by kernel_rfl) (by kernel_rfl) (fun _ _ _ h => h) (Or.inl ⟨by kernel_rfl, fun W hSW => (exec_neq_vl rfl Pm.z0 Pm.z0 rfl rfl).trans (by rw [decide_eq_true rfl]; rfl)⟩) hS ?_
        refine wpAnyH_take (i := 26) (v := ?_) rfl (by kernel_rfl) (by kernel_rfl) (by kernel_rfl) (fun _ _ _ h => h) (Or.inl ⟨by kernel_rfl, ?_⟩) hS ?_
        rotate_left
        · intro W hSW
          go_simp
          all_goals with_reducible rfl
        refine wpAnyH_take (i := 27) (v := ?_) rfl (by kernel_rfl) (by kernel_rfl) (by kernel_rfl) (fun _ _ _ h => h) (Or.inl ⟨by kernel_rfl, ?_⟩) hS ?_
        rotate_left
        · intro W hSW
          go_simp
          all_goals with_reducible rfl
        refine wpAnyH_take (i := 28) (v := ?_) rfl (by kernel_rfl) (by kernel_rfl) (by kernel_rfl) (fun _ _ _ h => h) (Or.inl ⟨by kernel_rfl, ?_⟩) hS ?_
        rotate_left
        · intro W hSW
          go_simp
          all_goals with_reducible rfl
        go_simp
        refine wpAnyH_take (i := 29) (v := ?_) rfl (by kernel_rfl) (by kernel_rfl) (by kernel_rfl) (fun _ _ _ h => h) (Or.inl ⟨by kernel_rfl, ?_⟩) hS ?_
        rotate_left
        · intro W hSW
          go_simp
          all_goals with_reducible rfl
        refine wpAnyH_take (i := 30) (v := ?_) rfl (by kernel_rfl) (by kernel_rfl) (by kernel_rfl) (fun _ _ _ h => h) (Or.inl ⟨by kernel_rfl, ?_⟩) hS ?_
        rotate_left
        · intro W hSW
          go_simp
          all_goals with_reducible rfl
        go_simp
        refine wpAnyH_take (i := 31) (v := .agg #[.int .i64 x.nt, .int .i64 x.nr]) rfl (by kernel_rfl) (by kernel_rfl) (by kernel_rfl) (fun _ _ _ h => h) (Or.inl ⟨by kernel_rfl, fun W hSW => exec_load_part stT rfl rfl (HBX.out.kept hSW) [.int .i64 x.nt, .int .i64 x.nr] (by intro j v hv; match j, hv with | 0, hv => rw [HA.out]; exact hv | 1, hv => rw [HA.out]; exact hv) rfl⟩) hS ?_
        go_simp
        refine wpAnyH_ready (rs := [32]) (by kernel_rfl) (by simp) ?_
        refine AllReadyH.cons rfl (fun K hK => ?_) AllReadyH.nil
        go_simp
        go_wp2_with ((go_at_call 18; refine (marked_no _ (x.nt, x.nr) _ (HNR.out.kept hS)).mono ?_; rintro e wn ⟨rfl, hbn⟩))
        refine hK.out _ _ (hS.trans (hbn.mono hS.size)) (fun hS => ?_)
        clear hK K hbn
        refine wpAnyH_take (i := 33) (v := ?_) rfl (by kernel_rfl) (by kernel_rfl) (by kernel_rfl) (fun _ _ _ h => h) (Or.inl ⟨by kernel_rfl, ?_⟩) hS ?_
        rotate_left
        · intro W hSW
          go_simp
          all_goals with_reducible rfl
        refine wpAnyH_take (i := 34) (v := ?_) rfl (by kernel_rfl) (by kernel_rfl) (by kernel_rfl) (fun _ _ _ h => h) (Or.inl ⟨by kernel_rfl, ?_⟩) hS ?_
        rotate_left
        · intro W hSW
          go_simp
          all_goals with_reducible rfl
        refine wpAnyH_take (i := 35) (v := ?_) rfl (by kernel_rfl) (by kernel_rfl) (by kernel_rfl) (fun _ _ _ h => h) (Or.inl ⟨by kernel_rfl, ?_⟩) hS ?_
        rotate_left
        · intro W hSW
          go_simp
          all_goals with_reducible rfl
        refine wpAnyH_take (i := 36) (v := ?_) rfl (by kernel_rfl) (by kernel_rfl) (by kernel_rfl) (fun _ _ _ h => h) (Or.inl ⟨by kernel_rfl, ?_⟩) hS ?_
        rotate_left
        · intro W hSW
          go_simp
          all_goals with_reducible rfl
        go_simp
        refine wpAnyH_take (i := 37) (v := ?_) rfl (by kernel_rfl) (by kernel_rfl) (by kernel_rfl) (fun _ _ _ h => h) (Or.inl ⟨by kernel_rfl, ?_⟩) hS ?_
        rotate_left
        · intro W hSW
          go_simp
          all_goals with_reducible rfl
        go_simp
        refine wpAnyH_take (i := 38) (v := .agg #[.int .i64 x.nt, .int .i64 x.nr]) rfl (by kernel_rfl) (by kernel_rfl) (by kernel_rfl) (fun _ _ _ h => h) (Or.inl ⟨by kernel_rfl, fun W hSW => exec_load_part stT rfl rfl (HBX.out.kept hSW) [.int .i64 x.nt, .int .i64 x.nr] (by intro j v hv; match j, hv with | 0, hv => rw [HA.out]; exact hv | 1, hv => rw [HA.out]; exact hv) rfl⟩) hS ?_
        refine wpAnyH_take (i := 39) (v := ?_) rfl (by kernel_rfl) (by kernel_rfl) (by kernel_rfl) (fun _ _ _ h => h) (Or.inl ⟨by kernel_rfl, ?_⟩) hS ?_
        rotate_left
        · intro W hSW
          go_simp
          all_goals with_reducible rfl
        go_simp
        refine wpAnyH_ready (rs := [40]) (by kernel_rfl) (by simp) ?_
        refine AllReadyH.cons rfl (fun K hK => ?_) AllReadyH.nil
        go_simp
        go_wp2_with ((go_at_call 20; refine (HFL.out _ (HNR.out.kept hS)).mono ?_; rintro e wn ⟨rfl, hbn⟩))
        refine hK.out _ _ (hS.trans (hbn.mono hS.size)) (fun hS => ?_)
        clear hK K hbn
        refine wpAnyH_take (i := 41) (v := ?_) rfl (by kernel_rfl) (by kernel_rfl) (by kernel_rfl) (fun _ _ _ h => h) (Or.inl ⟨by kernel_rfl, ?_⟩) hS ?_
        rotate_left
        · intro W hSW
          go_simp
          all_goals with_reducible rfl
        refine wpAnyH_take (i := 42) (v := ?_) rfl (by kernel_rfl) (by kernel_rfl) (by kernel_rfl) (fun _ _ _ h => h) (Or.inl ⟨by kernel_rfl, ?_⟩) hS ?_
        rotate_left
        · intro W hSW
          go_simp
          all_goals with_reducible rfl
        refine wpAnyH_take (i := 43) (v := ?_) rfl (by kernel_rfl) (by kernel_rfl) (by kernel_rfl) (fun _ _ _ h => h) (Or.inl ⟨by kernel_rfl, ?_⟩) hS ?_
        rotate_left
        · intro W hSW
          go_simp
          all_goals with_reducible rfl
        refine wpAnyH_take (i := 44) (v := ?_) rfl (by kernel_rfl) (by kernel_rfl) (by kernel_rfl) (fun _ _ _ h => h) (Or.inl ⟨by kernel_rfl, ?_⟩) hS ?_
        rotate_left
        · intro W hSW
          go_simp
          all_goals with_reducible rfl
        go_simp
        refine wpAnyH_ready (rs := [45]) (by kernel_rfl) (by simp) ?_
        refine AllReadyH.cons rfl (fun K hK => ?_) AllReadyH.nil
        go_simp
        go_wp2_with ((go_at_call 22; refine (same_no _ _ _ (HNR.out.kept hS)).mono ?_; rintro e wn ⟨rfl, hbn⟩))
        refine hK.out _ _ (hS.trans (hbn.mono hS.size)) (fun hS => ?_)
        clear hK K hbn
        refine wpAnyH_take (i := 46) (v := ?_) rfl (by kernel_rfl) (by kernel_rfl) (by kernel_rfl) (fun _ _ _ h => h) (Or.inl ⟨by kernel_rfl, ?_⟩) hS ?_
        rotate_left
        · intro W hSW
          go_simp
          all_goals with_reducible rfl
        refine wpAnyH_take (i := 47) (v := ?_) rfl (by kernel_rfl) (by kernel_rfl) (by kernel_rfl) (fun _ _ _ h => h) (Or.inl ⟨by kernel_rfl, ?_⟩) hS ?_
        rotate_left
        · intro W hSW
          go_simp
          all_goals with_reducible rfl
        refine wpAnyH_take (i := 48) (v := ?_) rfl (by kernel_rfl) (by kernel_rfl) (by kernel_rfl) (fun _ _ _ h => h) (Or.inl ⟨by kernel_rfl, ?_⟩) hS ?_
        rotate_left
        · intro W hSW
          go_simp
          all_goals with_reducible rfl
        go_simp
        refine wpAnyH_ready (rs := [49]) (by kernel_rfl) (by simp) ?_
        refine AllReadyH.cons rfl (fun K hK => ?_) AllReadyH.nil
        go_simp
        go_wp2_with ((go_at_call 9; refine (new_any _).mono ?_; rintro e wn ⟨P, M1, M2, M3, rfl, -, hbn, -, -, -, -⟩))
        refine hK.out _ _ (hS.trans (hbn.mono hS.size)) (fun hS => ?_)
        clear hK K hbn
        refine wpAnyH_ready (rs := [50]) (by kernel_rfl) (by simp) ?_
        refine AllReadyH.cons rfl (fun K hK => ?_) AllReadyH.nil
        go_simp
        go_wp2_with ((go_at_call 22; refine (same_no _ _ _ (HNR.out.kept hS)).mono ?_; rintro e wn ⟨rfl, hbn⟩))
        refine hK.out _ _ (hS.trans (hbn.mono hS.size)) (fun hS => ?_)
        clear hK K hbn
        refine wpAnyH_take (i := 51) (v := ?_) rfl (by kernel_rfl) (by kernel_rfl) (by kernel_rfl) (fun _ _ _ h => h) (Or.inl ⟨by kernel_rfl, ?_⟩) hS ?_
        rotate_left
        · intro W hSW
          go_simp
          all_goals with_reducible rfl
        refine wpAnyH_take (i := 52) (v := ?_) rfl (by kernel_rfl) (by kernel_rfl) (by kernel_rfl) (fun _ _ _ h => h) (Or.inl ⟨by kernel_rfl, ?_⟩) hS ?_
        rotate_left
        · intro W hSW
          go_simp
          all_goals with_reducible rfl
        refine wpAnyH_take (i := 53) (v := ?_) rfl (by kernel_rfl) (by kernel_rfl) (by kernel_rfl) (fun _ _ _ h => h) (Or.inl ⟨by kernel_rfl, ?_⟩) hS ?_
        rotate_left
        · intro W hSW
          go_simp
          all_goals with_reducible rfl
        go_simp
        refine wpAnyH_ready (rs := [54]) (by kernel_rfl) (by simp) ?_
        refine AllReadyH.cons rfl (fun K hK => ?_) AllReadyH.nil
        go_simp
        go_wp2_with ((go_at_call 24; refine (clone_no _ _ (HNR.out.kept hS)).mono ?_; rintro e wn ⟨rfl, hbn⟩))
        refine hK.out _ _ (hS.trans (hbn.mono hS.size)) (fun hS => ?_)
        clear hK K hbn
        refine wpAnyH_take (i := 55) (v := ?_) rfl (by kernel_rfl) (by kernel_rfl) (by kernel_rfl) (fun _ _ _ h => h) (Or.inl ⟨by kernel_rfl, ?_⟩) hS ?_
        rotate_left
        · intro W hSW
          go_simp
          all_goals with_reducible rfl
        refine wpAnyH_take (i := 56) (v := ?_) rfl (by kernel_rfl) (by kernel_rfl) (by kernel_rfl) (fun _ _ _ h => h) (Or.inl ⟨by kernel_rfl, ?_⟩) hS ?_
        rotate_left
        · intro W hSW
          go_simp
          all_goals with_reducible rfl
        go_simp
        refine wpAnyH_done (by kernel_rfl) ?_ _
        go_simp
        have HN := Lib.hid (HB5.out.trans (hS.mono HB5.out.size))
        have HSN := Lib.hid hS
        clear hS
        have hb60 := run_build_r0
        have HNN := Lib.hid (fun W : World => show NoR (W.alloc (.cells #[.map none, .map none, .map none] 60)) (.pointer (some ⟨W.heap.size, 0, none⟩)) from Or.inr ⟨_, rfl, (AgAt.new W #[.map none, .map none, .map none] 60).cell 0⟩)
        have HBX9 := Lib.hid (HBX.out.kept HSN.out)
        have HXB := Lib.hid (fun W (hb : AgAt W w.heap.size A) => show AgAt (W.alloc (.cells #[.map none, .map none, .map none] 60)) w.heap.size A from hb.kept ((Below.refl _ _).alloc (Nat.le_refl _) _))
        have HNB := Lib.hid (fun W (hb : Below w.heap.size w W) => show Below w.heap.size w (W.alloc (.cells #[.map none, .map none, .map none] 60)) from hb.alloc hb.size _)
        go_wp2
        go_roundw
        case rel => exact ⟨k + 1, _, rfl, by omega, by go_num, HNN.out _, HXB.out _ HBX9.out, HNB.out _ HN.out⟩
        case measure => simp [intOf]; omega
      · obtain rfl : k = 2 := by omega
        go_wp2_with fail
        refine (knows12_any _).mono ?_
        rintro e2 w2 ⟨rfl, hb2⟩
        replace HB := Lib.hid (HB.out.trans (hb2.mono HB.out.size))
        clear hb2
        go_wp2
        go_ret
        exact ⟨rfl, HB.out⟩
end Go.Proofs.Ytcenmkcencdlcaa
