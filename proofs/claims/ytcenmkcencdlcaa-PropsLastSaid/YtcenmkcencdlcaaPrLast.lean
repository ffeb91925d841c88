/-
  PROPSLAST: the walk: a write above all others stands, one below changes nothing.
  No conditions.
-/
import Derived.Test.YtcenmkcencdlcaaGP
namespace Go.Proofs.Ytcenmkcencdlcaa
open Go.RowKit

theorem exec_neq_b {c : Act} {o : Oper} {x y : Operand} {ty : TypeId} (ho : o.op = .binOp .neq 4 x y ty) {w : World} (p : Bool) (hx : c.eval x = .bool p) (hy : c.eval y = .bool p) :
    (execOp c.eval o).run Try.prog w = .ok (.value (.bool false)) w := by
  unfold execOp
  simp only [ho, hx, hy]
  go_simp
theorem exec_neq_bb {c : Act} {o : Oper} {x y : Operand} {ty : TypeId} (ho : o.op = .binOp .neq 4 x y ty) {w : World} (p q : Bool) (hx : c.eval x = .bool p) (hy : c.eval y = .bool q) (h : p = q) :
    (execOp c.eval o).run Try.prog w = .ok (.value (.bool false)) w := exec_neq_b ho p hx (by rw [hy, h])
theorem exec_neq_i {c : Act} {o : Oper} {x y : Operand} {ty : TypeId} (ho : o.op = .binOp .neq 3 x y ty) {w : World} (p q : Int) (hx : c.eval x = .int .i64 p) (hy : c.eval y = .int .i64 q) {b : Bool} (h : (!(p == q)) = b) :
    (execOp c.eval o).run Try.prog w = .ok (.value (.bool b)) w := by
  subst h
  unfold execOp
  simp only [ho, hx, hy]
  go_simp
  rfl
theorem run_build_big (w : World) : (Instr.build 32 #[(0, .int .i64 1099511627776)]).run Try.prog w = .ok (.agg #[.int .i64 1099511627776, .int .i64 0]) w := by kernel_rfl

set_option maxRecDepth 100000 in
set_option maxHeartbeats 32000000 in
theorem propsLast_walk (p : Option Addr) (cl : Nat) (l : List WrE) (e0 : WrE) (prop : Int) (w : World) (h : Ws w p l) (_ : p = none → cl = 0) (hp : Pa w e0.w.x e0.q e0.c) (hpr : (Lit.int .i64 prop).wf = true) :
    Calls Try.prog 6 #[.slice p l.length cl, .agg (wrA e0), .int .i64 prop] w fun e w' => e = .returned (.bool true) ∧ Below w.heap.size w w' := by
  have HP0 := Lib.hid hp
  have HPR := Lib.hid hpr
  have HR := Lib.hid h
  obtain ⟨A, hA⟩ : ∃ A, A = wrA e0 := ⟨_, rfl⟩
  have HA := Lib.hid hA
  have HASZ := Lib.hid (show A.size = 14 from by rw [hA]; rfl)
  have hbs : ∀ W : World, (Instr.buildSlice 22 1 #[(0, .agg A)]).run Try.prog W = .ok (.slice (some ⟨W.heap.size, 0, none⟩) 1 1) (W.alloc (.cells A 40)) := fun W => by rw [hA]; kernel_rfl
  have HBX := Lib.hid (AgAt.new w A 40)
  have HB := Lib.hid ((Below.refl w.heap.size w).alloc (Nat.le_refl _) (.cells A 40))
  have HLI := Lib.hid (light12_any p cl l _ (h.kept HB.out))
  have HLI2 := Lib.hid (fun (W : World) (hb : Below w.heap.size w W) => light12_any (some ⟨W.heap.size, 0, none⟩) 1 [e0] (W.alloc (.cells A 40)) ⟨by subst hA; exact rd_new1 (B := 0) (Below.refl _ W) ceW e0 _, fun e' he' => by rw [List.mem_singleton.1 he']; exact hp.kept (hb.alloc hb.size _)⟩)
  rw [← hA]
  clear hp hA h hpr
  go_enter Try.func6, Try.ntmps6
  go_wp2_with fail
  refine HLI.out.mono ?_
  rintro e1 w1 ⟨b1, rfl, hsm, hb1⟩
  have HSM1 := Lib.hid hsm
  replace HBX := Lib.hid (HBX.out.kept hb1)
  replace HB := Lib.hid (HB.out.trans (hb1.mono HB.out.size))
  clear hsm hb1 HLI
  cases b1 with
  | false =>
    go_wp2_with fail
    refine (knows12_any _).mono ?_
    rintro e wk ⟨rfl, hbk⟩
    replace HB := Lib.hid (HB.out.trans (hbk.mono HB.out.size))
    clear hbk
    go_wp2
    go_ret
    exact ⟨rfl, HB.out⟩
  | true =>
    have HSM := Lib.hid (HSM1.out rfl).2
    have hl60 := (HSM1.out rfl).1
    clear HSM1
    have HLI3 := Lib.hid (HLI2.out w1 HB.out)
    have HBA := Lib.hid ((Below.refl w1.heap.size w1).alloc (Nat.le_refl _) (.cells A 40))
    clear HLI2
    go_wp2_with (first | (refine wpList_load_ag wrT (by kernel_rfl) _ rfl _ rfl HASZ.out HBX.out ?_) | (refine wpList_build1 (SE := 22) (E := 40) (by kernel_rfl) _ rfl A rfl hbs ?_))
    refine HLI3.out.mono ?_
    rintro e1 w2 ⟨b2, rfl, hsm, hb2⟩
    have HSM2 := Lib.hid hsm
    replace HBX := Lib.hid ((HBX.out.kept HBA.out).kept hb2)
    replace HB := Lib.hid (HB.out.trans ((HBA.out.trans (hb2.mono HBA.out.size)).mono HB.out.size))
    clear hsm hb2 HLI3 HBA hbs
    cases b2 with
    | false =>
      go_wp2_with fail
      refine (knows12_any _).mono ?_
      rintro e wk ⟨rfl, hbk⟩
      replace HB := Lib.hid (HB.out.trans (hbk.mono HB.out.size))
      clear hbk
      go_wp2
      go_ret
      exact ⟨rfl, HB.out⟩
    | true =>
      have HSX := Lib.hid ((HSM2.out rfl).2 e0 (by simp))
      clear HSM2
      obtain ⟨⟨⟨z1, z2⟩, x⟩, q, c⟩ := e0
      dsimp only at HP0 HSX
      have HXL := Lib.hid (show w.heap.size < w2.heap.size from HBX.out.lt)
      go_wp2_with fail
      refine (new_any w2).mono ?_
      rintro e w3 ⟨P, M1, M2, M3, rfl, hl3, hb3, g0, g1, g2, g3⟩
      have HGE := Lib.hid (show w.heap.size ≤ P ∧ w.heap.size ≤ M1 ∧ w.heap.size ≤ M2 ∧ w.heap.size ≤ M3 from by have := HB.out.size; omega)
      have HL := Lib.hid hl3
      replace HBX := Lib.hid (HBX.out.kept hb3)
      replace HB := Lib.hid (HB.out.trans (hb3.mono HB.out.size))
      have HXM := Lib.hid (show w.heap.size < w2.heap.size ∧ w2.heap.size ≤ M1 ∧ w2.heap.size ≤ M2 ∧ w2.heap.size ≤ M3 from ⟨HXL.out, g1, g2, g3⟩)
      clear hl3 hb3 g0 g1 g2 g3
      go_wp2_with fail
      refine (knows12_any _).mono ?_
      rintro e wk ⟨rfl, hbk⟩
      replace HB := Lib.hid (HB.out.trans (hbk.mono HB.out.size))
      replace HBX := Lib.hid (HBX.out.kept hbk)
      replace HL := Lib.hid (HL.out.kept hbk)
      clear hbk
      go_wp2
      go_loopw [8] (fun i wr => ∃ k : Nat, k ≤ l.length ∧ i = .int .i64 (k : Int) ∧ Lay wr P M1 M2 M3 (Pm.allR (Pm.lows ((pl l).take k))) ∧ AgAt wr w.heap.size A ∧ Below w.heap.size w wr) (fun i _ => l.length - (intOf i).toNat)
      case atStart => exact ⟨0, Nat.zero_le _, rfl, HL.out, HBX.out, HB.out⟩
      case round =>
        clear HL HBX HB
        obtain ⟨k, hk, rfl, hl3, hbx, hb3⟩ := hrel
        have HL := Lib.hid hl3
        have HBX := Lib.hid hbx
        have HB := Lib.hid hb3
        clear hl3 hbx hb3
        by_cases hlt : k < l.length
        · have d0 : decide ((k : Int) < (l.length : Int)) = true := decide_eq_true (by omega)
          obtain ⟨b, o, rfl, -⟩ := HR.out.rd.addr (by rw [wrK.length]; omega)
          obtain ⟨e, he⟩ : ∃ e, l[k]? = some e := ⟨_, List.getElem?_eq_getElem hlt⟩
          obtain ⟨⟨⟨s1, s2⟩, x⟩, q, c⟩ := e
          have HE := Lib.hid he
          have HPE := Lib.hid (HR.out.pa _ (List.mem_of_getElem? he))
          have HS1 := Lib.hid (HSM.out _ (List.mem_of_getElem? he))
          have HTK := Lib.hid (pl_take he)
          have hrg := wrK.range (HR.out.rd.below HB.out) he
          have y0 : wr.cell? ⟨b, o + k * 14, none⟩ = some (.int .i64 s1) := hrg 0 _ rfl
          clear hrg he
          by_cases hs : s1 < 549755813888
          · have d1 : decide (s1 < 549755813888) = true := decide_eq_true hs
            have HAG := Lib.hid (show Pm.doR (Pm.allR (Pm.lows ((pl l).take k))) ⟨(s1, s2), x⟩ = Pm.allR (Pm.lows ((pl l).take (k + 1))) from by
              rw [HTK.out, Pm.lows_yes hs, Pm.allR_snoc])
            go_upto_region 10 with fail
            refine wp_region_held_drew (S := fun W => Below w.heap.size w W) (by kernel_rfl) (Below.drew HB.out) (fun hS => ?_)
            refine wpAnyH_take (i := 0) (v := ?_) rfl (by kernel_rfl) (by kernel_rfl) (by kernel_rfl) (fun _ _ _ h => h) (Or.inl ⟨by kernel_rfl, ?_⟩) hS ?_
            rotate_left
            · intro W hSW
              go_simp
              all_goals with_reducible rfl
            refine wpAnyH_take (i := 1) (v := ?_) rfl (by kernel_rfl) (by kernel_rfl) (by kernel_rfl) (fun _ _ _ h => h) (Or.inl ⟨by kernel_rfl, ?_⟩) hS ?_
            rotate_left
            · intro W hSW
              go_simp
              all_goals with_reducible rfl
            refine wpAnyH_take (i := 2) (v := ?_) rfl (by kernel_rfl) (by kernel_rfl) (by kernel_rfl) (fun _ _ _ h => h) (Or.inl ⟨by kernel_rfl, ?_⟩) hS ?_
            rotate_left
            · intro W hSW
              go_simp
              all_goals with_reducible rfl
            refine wpAnyH_take (i := 3) (v := ?_) rfl (by kernel_rfl) (by kernel_rfl) (by kernel_rfl) (fun _ _ _ h => h) (Or.inl ⟨by kernel_rfl, ?_⟩) hS ?_
            rotate_left
            · intro W hSW
              go_simp
              all_goals with_reducible rfl
            go_simp
            refine wpAnyH_take (i := 4) (v := ?_) rfl (by kernel_rfl) (by kernel_rfl) (by kernel_rfl) (fun _ _ _ h => h) (Or.inl ⟨by kernel_rfl, ?_⟩) hS ?_
            rotate_left
            · intro W hSW
              go_simp
              all_goals with_reducible rfl
            go_simp
            refine wpAnyH_take (i := 5) (v := .agg #[.int .i64 s1, .int .i64 s2]) rfl (by kernel_rfl) (by kernel_rfl) (by kernel_rfl) (fun _ _ _ h => h) (Or.inl ⟨by kernel_rfl, fun W hSW => exec_wr_st rfl rfl (HR.out.rd.below hSW) HE.out⟩) hS ?_
            refine wpAnyH_take (i := 6) (v := ?_) rfl (by kernel_rfl) (by kernel_rfl) (by kernel_rfl) (fun _ _ _ h => h) (Or.inl ⟨by kernel_rfl, ?_⟩) hS ?_
            rotate_left
            · intro W hSW
              go_simp
              all_goals with_reducible rfl
            refine wpAnyH_take (i := 7) (v := ?_) rfl (by kernel_rfl) (by kernel_rfl) (by kernel_rfl) (fun _ _ _ h => h) (Or.inl ⟨by kernel_rfl, ?_⟩) hS ?_
            rotate_left
            · intro W hSW
              go_simp
              all_goals with_reducible rfl
            refine wpAnyH_take (i := 8) (v := ?_) rfl (by kernel_rfl) (by kernel_rfl) (by kernel_rfl) (fun _ _ _ h => h) (Or.inl ⟨by kernel_rfl, ?_⟩) hS ?_
            rotate_left
            · intro W hSW
              go_simp
              all_goals with_reducible rfl
            go_simp
            refine wpAnyH_take (i := 9) (v := ?_) rfl (by kernel_rfl) (by kernel_rfl) (by kernel_rfl) (fun _ _ _ h => h) (Or.inl ⟨by kernel_rfl, ?_⟩) hS ?_
            rotate_left
            · intro W hSW
              go_simp
              all_goals with_reducible rfl
            go_simp
            refine wpAnyH_take (i := 10) (v := .agg (opA x q c)) rfl (by kernel_rfl) (by kernel_rfl) (by kernel_rfl) (fun _ _ _ h => h) (Or.inl ⟨by kernel_rfl, fun W hSW => exec_wr_op rfl rfl (HR.out.rd.below hSW) HE.out⟩) hS ?_
            go_simp
            refine wpAnyH_ready (rs := [11]) (by kernel_rfl) (by simp) ?_
            refine AllReadyH.cons rfl (fun K hK => ?_) AllReadyH.nil
            go_simp
            go_wp2_with ((go_at_call 10; refine (ownN_any x q c _ (HPE.out.kept hS) (by have := HS1.out.1; omega)).mono ?_; rintro e wn ⟨q2, c2, rfl, hpa, hbn, -⟩))
            have HBN := Lib.hid hbn
            have HL2 := Lib.hid ((HL.out.kept (Below.drew (Below.refl _ _))).kept hbn)
            refine hK.out _ _ (hS.trans (hbn.mono hS.size)) (fun hS => ?_)
            clear hK K hbn
            refine wpAnyH_ready (rs := [12]) (by kernel_rfl) (by simp) ?_
            refine AllReadyH.cons rfl (fun K hK => ?_) AllReadyH.nil
            go_simp
            go_wp2_with ((go_at_call 12; refine (do_any (s1, s2) x q2 c2 _ HL2.out HS1.out.sz hpa).mono ?_; rintro e wm ⟨rfl, hlm, htm⟩))
            replace hS := turns3_below htm ⟨HGE.out.2.1, HGE.out.2.2.1, HGE.out.2.2.2⟩ hS
            have HLM := Lib.hid hlm
            have HTM := Lib.hid (show Turns (fun k => k = M1 ∨ k = M2 ∨ k = M3) wr wm from (Turns.of_below (Below.drew (Below.refl _ _))).trans ((Turns.call (Turns.refl _ _) HBN.out).trans (htm.mono fun _ _ h => Or.inl h) |>.mono fun _ _ h => Or.inl h))
            refine hK.out _ _ hS (fun hS => ?_)
            clear hK K hpa hlm htm
            refine wpAnyH_done (by kernel_rfl) ?_ _
            go_simp
            rw [HAG.out] at HLM
            have HBXM := Lib.hid (HBX.out.turn HTM.out (by have := HXM.out; omega))
            have HBM := Lib.hid hS
            clear hS HL HL2 HBN
            go_wp2
            go_roundw
            case rel => exact ⟨k + 1, by omega, by go_num, HLM.out, HBXM.out, HBM.out⟩
            case measure => simp [intOf]; omega
          · have d1 : decide (s1 < 549755813888) = false := decide_eq_false hs
            have HAG := Lib.hid (show Pm.allR (Pm.lows ((pl l).take k)) = Pm.allR (Pm.lows ((pl l).take (k + 1))) from by
              rw [HTK.out, Pm.lows_no hs])
            rw [HAG.out] at HL
            go_wp2
            go_roundw
            case rel => exact ⟨k + 1, by omega, by go_num, HL.out, HBX.out, HB.out⟩
            case measure => simp [intOf]; omega
        · obtain rfl : k = l.length := by omega
          have d0 : decide ((l.length : Int) < (l.length : Int)) = false := decide_eq_false (by omega)
          have HTA := Lib.hid (show (pl l).take l.length = pl l from List.take_of_length_le (by unfold pl; rw [List.length_map]; exact Nat.le_refl _))
          rw [HTA.out] at HL
          clear HTA
          go_wp2_with fail
          refine (clone_any _ HL.out).mono ?_
          rintro e wc ⟨PW, W1, W2, W3, rfl, hlc, hbc, g0, g1, g2, g3⟩
          have HBW := Lib.hid (show ∃ B, (M1 < B ∧ M2 < B ∧ M3 < B) ∧ (B ≤ PW ∧ B ≤ W1 ∧ B ≤ W2 ∧ B ≤ W3) from ⟨_, ⟨HL.out.v.lt, HL.out.m.lt, HL.out.o.lt⟩, g0, g1, g2, g3⟩)
          have HWAS := Lib.hid hlc
          replace HL := Lib.hid (HL.out.kept hbc)
          replace HBX := Lib.hid (HBX.out.kept hbc)
          replace HB := Lib.hid (HB.out.trans (hbc.mono HB.out.size))
          clear hlc hbc g0 g1 g2 g3
          have hbig := run_build_big
          go_wp2_with (refine wpList_load_in opT12 rfl _ rfl _ 2 rfl HBX.out (opL x q c) (by intro j v hv; rw [HA.out]; exact wrA_op z1 z2 x q c j v hv) rfl ?_)
          refine (ownN_any x q c _ (HP0.out.kept HB.out) (by have := HSX.out.1; omega)).mono ?_
          rintro e wo ⟨q2, c2, rfl, hpa, hbo, -⟩
          have HPA := Lib.hid hpa
          replace HL := Lib.hid (HL.out.kept hbo)
          replace HWAS := Lib.hid (HWAS.out.kept hbo)
          replace HBX := Lib.hid (HBX.out.kept hbo)
          replace HB := Lib.hid (HB.out.trans (hbo.mono HB.out.size))
          clear hpa hbo hbig
          go_wp2_with fail
          refine (do_any (1099511627776, 0) x q2 c2 _ HL.out HSX.out.sz HPA.out).mono ?_
          rintro e wd ⟨rfl, hld, htd⟩
          have HLD := Lib.hid hld
          replace HWAS := Lib.hid (show Lay wd PW W1 W2 W3 _ from by
            obtain ⟨B, hB1, hB2⟩ := HBW.out
            exact HWAS.out.above htd hB1 hB2)
          replace HBX := Lib.hid (HBX.out.turn htd (by have := HXM.out; omega))
          replace HB := Lib.hid (turns3_below htd ⟨HGE.out.2.1, HGE.out.2.2.1, HGE.out.2.2.2⟩ HB.out)
          replace HL := HLD
          clear hld htd HPA HLD HBW
          go_wp2_with fail
          refine (num12_any _ _).mono ?_
          rintro e wn0 ⟨rfl, rfl⟩
          by_cases hz : Pm.doE ⟨(1099511627776, 0), x⟩ = 0
          · rw [hz]
            have HOK := Lib.hid (Pm.doE_zero hz)
            obtain ⟨r2, hr2⟩ : ∃ r2, r2 = Pm.allR (Pm.lows (pl l) ++ [⟨(1099511627776, 0), x⟩]) := ⟨_, rfl⟩
            have HR2 := Lib.hid hr2
            rw [← Pm.allR_snoc, ← hr2] at HL
            clear hr2
            obtain ⟨⟨rw1, rw2, rw3⟩, hrw⟩ : ∃ v : Pm.Vl, ((Pm.allR (Pm.lows (pl l))).v (Pm.nameV (x.nt, x.nr) prop)).2 = v := ⟨_, rfl⟩
            have HRW := Lib.hid hrw
            have HZX := Lib.hid (AgAt.new wd (opA Opp.zero none 0) 38)
            have HBZ := Lib.hid ((Below.refl wd.heap.size wd).alloc (Nat.le_refl _) (.cells (opA Opp.zero none 0) 38))
            have HND := Lib.hid (okNode_wf (Pm.right_node (Pm.okW_node HOK.out.1).2 HOK.out.2))
            have HWQ := Lib.hid (wfV (n := (x.nt, x.nr)) (p := prop) HND.out.1 HND.out.2 HPR.out)
            clear hrw hz
            go_upto_region 15 with (first | (refine wpList_load_in opT12 rfl _ rfl _ 2 rfl HBX.out (opL x q c) (by intro j v hv; rw [HA.out]; exact wrA_op z1 z2 x q c j v hv) rfl ?_) | (refine wpList_store_ag opT12 rfl _ _ rfl _ rfl _ HZX.out rfl rfl rfl (opA_one x q c) ?_; intro wx hvx hkox hszx hbnx))
            have HBX1 := Lib.hid (hbnx _ _ HBZ.out (Nat.le_refl _))
            have HXO := Lib.hid hvx
            replace HL := Lib.hid (HL.out.kept HBX1.out)
            replace HWAS := Lib.hid (HWAS.out.kept HBX1.out)
            replace HB := Lib.hid (HB.out.trans (HBX1.out.mono HB.out.size))
            have HPX := Lib.hid (HP0.out.kept HB.out)
            clear hvx hkox hszx hbnx HBZ HZX HBX1 HBX
            have HRT := Lib.hid (show rightO x = true from (Pm.okW_node HOK.out.1).2)
            have hok := HOK.out.1
            rcases (show x.k = 3 ∨ x.k = 4 ∨ x.k = 6 from HOK.out.2) with hk | hk | hk
            · have HR3 := Lib.hid (show r2 = ⟨Pm.put (Pm.allR (Pm.lows (pl l))).v (Pm.nameV (x.nt, x.nr) x.p) (1099511627776, 0) (x.vk, x.vn, x.vt), (Pm.allR (Pm.lows (pl l))).m, (Pm.allR (Pm.lows (pl l))).o⟩ from by
                rw [HR2.out, Pm.allR_snoc, Pm.doR_V hok hk])
              have HVX := Lib.hid (show (r2.v (Pm.nameV (x.nt, x.nr) x.p)).2 = (x.vk, x.vn, x.vt) from by
                rw [HR3.out]
                show (Pm.put _ _ _ _ _).2 = _
                rw [Pm.put_at (Pm.low_v _ _)])
              have HWP := Lib.hid (wfV (n := (x.nt, x.nr)) (p := x.p) HND.out.1 HND.out.2 (i64wf (by have := Pm.right_prop HRT.out (Or.inl hk); omega) (by have := Pm.right_prop HRT.out (Or.inl hk); omega)))
              have y0 : wx.cell? ⟨wd.heap.size, 0, none⟩ = some (.int .i64 3) := by rw [← hk]; exact HXO.out.cell 0
              clear hok hk
              go_upto_region 17 with fail
              clear y0
              by_cases hpp : prop = x.p
              · have HPN := Lib.hid (show (!(prop == x.p)) = false from by simp [hpp])
                clear hpp
                go_upto_region 17 with fail
                refine wp_region_held_drew (S := fun W => Below wx.heap.size wx W) (by kernel_rfl) (Below.drew (Below.refl _ _)) (fun hS => ?_)
                refine wpAnyH_take (i := 0) (v := ?_) rfl (by kernel_rfl) (by kernel_rfl) (by kernel_rfl) (fun _ _ _ h => h) (Or.inl ⟨by kernel_rfl, ?_⟩) hS ?_
                rotate_left
                · intro W hSW
                  go_simp
                  all_goals with_reducible rfl
                refine wpAnyH_take (i := 1) (v := ?_) rfl (by kernel_rfl) (by kernel_rfl) (by kernel_rfl) (fun _ _ _ h => h) (Or.inl ⟨by kernel_rfl, ?_⟩) hS ?_
                rotate_left
                · intro W hSW
                  go_simp
                  all_goals with_reducible rfl
                go_simp
                refine wpAnyH_take (i := 2) (v := .agg #[.int .i64 x.nt, .int .i64 x.nr]) rfl (by kernel_rfl) (by kernel_rfl) (by kernel_rfl) (fun _ _ _ h => h) (Or.inl ⟨by kernel_rfl, fun W hSW => exec_load_part stT rfl rfl (HXO.out.kept hSW) [.int .i64 x.nt, .int .i64 x.nr] (by intro j v hv; match j, hv with | 0, hv => exact hv | 1, hv => exact hv) rfl⟩) hS ?_
                refine wpAnyH_take (i := 3) (v := ?_) rfl (by kernel_rfl) (by kernel_rfl) (by kernel_rfl) (fun _ _ _ h => h) (Or.inl ⟨by kernel_rfl, ?_⟩) hS ?_
                rotate_left
                · intro W hSW
                  go_simp
                  all_goals with_reducible rfl
                refine wpAnyH_take (i := 4) (v := ?_) rfl (by kernel_rfl) (by kernel_rfl) (by kernel_rfl) (fun _ _ _ h => h) (Or.inl ⟨by kernel_rfl, ?_⟩) hS ?_
                rotate_left
                · intro W hSW
                  have yp : W.cell? ⟨wd.heap.size, 7, none⟩ = some (.int .i64 x.p) := (HXO.out.kept hSW).cell 7
                  go_simp
                  all_goals with_reducible rfl
                refine wpAnyH_take (i := 6) (v := ?_) rfl (by kernel_rfl) (by kernel_rfl) (by kernel_rfl) (fun _ _ _ h => h) (Or.inl ⟨by kernel_rfl, ?_⟩) hS ?_
                rotate_left
                · intro W hSW
                  go_simp
                  all_goals with_reducible rfl
                go_simp
                refine wpAnyH_take (i := 7) (v := .agg (vlA (x.vk, x.vn, x.vt))) rfl (by kernel_rfl) (by kernel_rfl) (by kernel_rfl) (fun _ _ _ h => h) (Or.inl ⟨by kernel_rfl, fun W hSW => exec_load_part vA rfl rfl (HXO.out.kept hSW) [.int .i64 x.vk, .int .i64 x.vn, .string x.vt] (by intro j v hv; match j, hv with | 0, hv => exact hv | 1, hv => exact hv | 2, hv => exact hv) rfl⟩) hS ?_
                go_simp
                refine wpAnyH_ready (rs := [5]) (by kernel_rfl) (by simp) ?_
                refine AllReadyH.cons rfl (fun K hK => ?_) AllReadyH.nil
                go_simp
                go_wp2_with ((go_at_call 16; refine (value_any (x.nt, x.nr) x.p _ (HL.out.kept hS) HWP.out).mono ?_; rw [HVX.out]; rintro e wn ⟨rfl, hbn⟩))
                refine hK.out _ _ (hS.trans (hbn.mono hS.size)) (fun hS => ?_)
                clear hK K hbn
                refine wpAnyH_take (i := 8) (v := .bool false) rfl (by kernel_rfl) (by kernel_rfl) (by kernel_rfl) (fun _ _ _ h => h) (Or.inl ⟨by kernel_rfl, fun W hSW => (exec_neq_vl rfl (x.vk, x.vn, x.vt) (x.vk, x.vn, x.vt) rfl rfl).trans (by rw [decide_eq_true rfl]; rfl)⟩) hS ?_
                refine wpAnyH_take (i := 9) (v := ?_) rfl (by kernel_rfl) (by kernel_rfl) (by kernel_rfl) (fun _ _ _ h => h) (Or.inl ⟨by kernel_rfl, ?_⟩) hS ?_
                rotate_left
                · intro W hSW
                  go_simp
                  all_goals with_reducible rfl
                refine wpAnyH_take (i := 10) (v := ?_) rfl (by kernel_rfl) (by kernel_rfl) (by kernel_rfl) (fun _ _ _ h => h) (Or.inl ⟨by kernel_rfl, ?_⟩) hS ?_
                rotate_left
                · intro W hSW
                  go_simp
                  all_goals with_reducible rfl
                refine wpAnyH_take (i := 11) (v := ?_) rfl (by kernel_rfl) (by kernel_rfl) (by kernel_rfl) (fun _ _ _ h => h) (Or.inl ⟨by kernel_rfl, ?_⟩) hS ?_
                rotate_left
                · intro W hSW
                  go_simp
                  all_goals with_reducible rfl
                go_simp
                refine wpAnyH_take (i := 12) (v := ?_) rfl (by kernel_rfl) (by kernel_rfl) (by kernel_rfl) (fun _ _ _ h => h) (Or.inl ⟨by kernel_rfl, ?_⟩) hS ?_
                rotate_left
                · intro W hSW
                  have yp : W.cell? ⟨wd.heap.size, 7, none⟩ = some (.int .i64 x.p) := (HXO.out.kept hSW).cell 7
                  go_simp
                  all_goals with_reducible rfl
                go_simp
                refine wpAnyH_take (i := 13) (v := .bool false) rfl (by kernel_rfl) (by kernel_rfl) (by kernel_rfl) (fun _ _ _ h => h) (Or.inl ⟨by kernel_rfl, fun W hSW => exec_neq_i rfl prop x.p rfl rfl HPN.out⟩) hS ?_
                refine wpAnyH_take (i := 14) (v := ?_) rfl (by kernel_rfl) (by kernel_rfl) (by kernel_rfl) (fun _ _ _ h => h) (Or.inl ⟨by kernel_rfl, ?_⟩) hS ?_
                rotate_left
                · intro W hSW
                  go_simp
                  all_goals with_reducible rfl
                go_simp
                refine wpAnyH_take (i := 15) (v := undef) rfl (by kernel_rfl) (by kernel_rfl) (by kernel_rfl) (fun _ _ _ h => h) (Or.inr ⟨by kernel_rfl, rfl⟩) hS ?_
                go_simp
                refine wpAnyH_take (i := 16) (v := undef) rfl (by kernel_rfl) (by kernel_rfl) (by kernel_rfl) (fun _ _ _ h => h) (Or.inr ⟨by kernel_rfl, rfl⟩) hS ?_
                go_simp
                refine wpAnyH_take (i := 17) (v := undef) rfl (by kernel_rfl) (by kernel_rfl) (by kernel_rfl) (fun _ _ _ h => h) (Or.inr ⟨by kernel_rfl, rfl⟩) hS ?_
                go_simp
                refine wpAnyH_take (i := 18) (v := undef) rfl (by kernel_rfl) (by kernel_rfl) (by kernel_rfl) (fun _ _ _ h => h) (Or.inr ⟨by kernel_rfl, rfl⟩) hS ?_
                go_simp
                refine wpAnyH_take (i := 19) (v := undef) rfl (by kernel_rfl) (by kernel_rfl) (by kernel_rfl) (fun _ _ _ h => h) (Or.inr ⟨by kernel_rfl, rfl⟩) hS ?_
                go_simp
                refine wpAnyH_take (i := 20) (v := undef) rfl (by kernel_rfl) (by kernel_rfl) (by kernel_rfl) (fun _ _ _ h => h) (Or.inr ⟨by kernel_rfl, rfl⟩) hS ?_
                go_simp
                refine wpAnyH_take (i := 21) (v := undef) rfl (by kernel_rfl) (by kernel_rfl) (by kernel_rfl) (fun _ _ _ h => h) (Or.inr ⟨by kernel_rfl, rfl⟩) hS ?_
                go_simp
                refine wpAnyH_take (i := 22) (v := undef) rfl (by kernel_rfl) (by kernel_rfl) (by kernel_rfl) (fun _ _ _ h => h) (Or.inr ⟨by kernel_rfl, rfl⟩) hS ?_
                go_simp
                refine wpAnyH_take (i := 23) (v := undef) rfl (by kernel_rfl) (by kernel_rfl) (by kernel_rfl) (fun _ _ _ h => h) (Or.inr ⟨by kernel_rfl, rfl⟩) hS ?_
                go_simp
                refine wpAnyH_take (i := 24) (v := undef) rfl (by kernel_rfl) (by kernel_rfl) (by kernel_rfl) (fun _ _ _ h => h) (Or.inr ⟨by kernel_rfl, rfl⟩) hS ?_
                go_simp
                refine wpAnyH_take (i := 25) (v := undef) rfl (by kernel_rfl) (by kernel_rfl) (by kernel_rfl) (fun _ _ _ h => h) (Or.inr ⟨by kernel_rfl, rfl⟩) hS ?_
                refine wpAnyH_take (i := 26) (v := ?_) rfl (by kernel_rfl) (by kernel_rfl) (by kernel_rfl) (fun _ _ _ h => h) (Or.inl ⟨by kernel_rfl, ?_⟩) hS ?_
                rotate_left
                · intro W hSW
                  go_simp
                  all_goals with_reducible rfl
                refine wpAnyH_take (i := 27) (v := ?_) rfl (by kernel_rfl) (by kernel_rfl) (by kernel_rfl) (fun _ _ _ h => h) (Or.inl ⟨by kernel_rfl, ?_⟩) hS ?_
                rotate_left
                · intro W hSW
                  go_simp
                  all_goals with_reducible rfl
                go_simp
                refine wpAnyH_done (by kernel_rfl) ?_ _
                go_simp
                replace HL := Lib.hid (HL.out.kept hS)
                replace HB := Lib.hid (HB.out.trans (hS.mono HB.out.size))
                clear hS HWAS HXO
                go_wp2_with fail
                refine (clone_any _ HL.out).mono ?_
                rintro e wc ⟨Q, N1, N2, N3, rfl, hlc, hbc, g0, g1, g2, g3⟩
                have HQ := Lib.hid hlc
                have HBQ := Lib.hid (show ∃ B, (M1 < B ∧ M2 < B ∧ M3 < B) ∧ (B ≤ Q ∧ B ≤ N1 ∧ B ≤ N2 ∧ B ≤ N3) from ⟨_, ⟨HL.out.v.lt, HL.out.m.lt, HL.out.o.lt⟩, g0, g1, g2, g3⟩)
                replace HL := Lib.hid (HL.out.kept hbc)
                replace HB := Lib.hid (HB.out.trans (hbc.mono HB.out.size))
                clear hlc hbc g0 g1 g2 g3
                go_wp2
                go_loopw [14] (fun i wr => ∃ k : Nat, k ≤ l.length ∧ i = .int .i64 (k : Int) ∧ Lay wr P M1 M2 M3 r2 ∧ Lay wr Q N1 N2 N3 r2 ∧ Below w.heap.size w wr) (fun i _ => l.length - (intOf i).toNat)
                case atStart => exact ⟨0, Nat.zero_le _, rfl, HL.out, HQ.out, HB.out⟩
                case round =>
                  clear HL HQ HB
                  obtain ⟨k, hk, rfl, hl3, hq3, hb3⟩ := hrel
                  have HL := Lib.hid hl3
                  have HQ := Lib.hid hq3
                  have HB := Lib.hid hb3
                  clear hl3 hq3 hb3
                  by_cases hlt : k < l.length
                  · have d0 : decide ((k : Int) < (l.length : Int)) = true := decide_eq_true (by omega)
                    obtain ⟨b, o, rfl, -⟩ := HR.out.rd.addr (by rw [wrK.length]; omega)
                    obtain ⟨e, he⟩ : ∃ e, l[k]? = some e := ⟨_, List.getElem?_eq_getElem hlt⟩
                    obtain ⟨⟨⟨s1, s2⟩, x⟩, q, c⟩ := e
                    have HE := Lib.hid he
                    have HPE := Lib.hid (HR.out.pa _ (List.mem_of_getElem? he))
                    have HS1 := Lib.hid (HSM.out _ (List.mem_of_getElem? he))
                    have HAG := Lib.hid (fun (h : s1 < 549755813888) => show Pm.doR r2 ⟨(s1, s2), x⟩ = r2 from by
                      rw [HR2.out]
                      exact Pm.again (List.mem_append_left _ (List.mem_filter.2 ⟨pl_mem he, decide_eq_true h⟩)))
                    have hrg := wrK.range (HR.out.rd.below HB.out) he
                    have y0 : wr.cell? ⟨b, o + k * 14, none⟩ = some (.int .i64 s1) := hrg 0 _ rfl
                    clear hrg he
                    by_cases hs : s1 < 549755813888
                    · have d1 : decide (s1 < 549755813888) = true := decide_eq_true hs
                      have HAG2 := Lib.hid (HAG.out hs)
                      clear HAG
                      go_upto_region 31 with fail
                      refine wp_region_held_drew (S := fun W => Below w.heap.size w W) (by kernel_rfl) (Below.drew HB.out) (fun hS => ?_)
                      refine wpAnyH_take (i := 0) (v := ?_) rfl (by kernel_rfl) (by kernel_rfl) (by kernel_rfl) (fun _ _ _ h => h) (Or.inl ⟨by kernel_rfl, ?_⟩) hS ?_
                      rotate_left
                      · intro W hSW
                        go_simp
                        all_goals with_reducible rfl
                      refine wpAnyH_take (i := 1) (v := ?_) rfl (by kernel_rfl) (by kernel_rfl) (by kernel_rfl) (fun _ _ _ h => h) (Or.inl ⟨by kernel_rfl, ?_⟩) hS ?_
                      rotate_left
                      · intro W hSW
                        go_simp
                        all_goals with_reducible rfl
                      refine wpAnyH_take (i := 2) (v := ?_) rfl (by kernel_rfl) (by kernel_rfl) (by kernel_rfl) (fun _ _ _ h => h) (Or.inl ⟨by kernel_rfl, ?_⟩) hS ?_
                      rotate_left
                      · intro W hSW
                        go_simp
                        all_goals with_reducible rfl
                      refine wpAnyH_take (i := 3) (v := ?_) rfl (by kernel_rfl) (by kernel_rfl) (by kernel_rfl) (fun _ _ _ h => h) (Or.inl ⟨by kernel_rfl, ?_⟩) hS ?_
                      rotate_left
                      · intro W hSW
                        go_simp
                        all_goals with_reducible rfl
                      go_simp
                      refine wpAnyH_take (i := 4) (v := ?_) rfl (by kernel_rfl) (by kernel_rfl) (by kernel_rfl) (fun _ _ _ h => h) (Or.inl ⟨by kernel_rfl, ?_⟩) hS ?_
                      rotate_left
                      · intro W hSW
                        go_simp
                        all_goals with_reducible rfl
                      go_simp
                      refine wpAnyH_take (i := 5) (v := .agg #[.int .i64 s1, .int .i64 s2]) rfl (by kernel_rfl) (by kernel_rfl) (by kernel_rfl) (fun _ _ _ h => h) (Or.inl ⟨by kernel_rfl, fun W hSW => exec_wr_st rfl rfl (HR.out.rd.below hSW) HE.out⟩) hS ?_
                      refine wpAnyH_take (i := 6) (v := ?_) rfl (by kernel_rfl) (by kernel_rfl) (by kernel_rfl) (fun _ _ _ h => h) (Or.inl ⟨by kernel_rfl, ?_⟩) hS ?_
                      rotate_left
                      · intro W hSW
                        go_simp
                        all_goals with_reducible rfl
                      refine wpAnyH_take (i := 7) (v := ?_) rfl (by kernel_rfl) (by kernel_rfl) (by kernel_rfl) (fun _ _ _ h => h) (Or.inl ⟨by kernel_rfl, ?_⟩) hS ?_
                      rotate_left
                      · intro W hSW
                        go_simp
                        all_goals with_reducible rfl
                      refine wpAnyH_take (i := 8) (v := ?_) rfl (by kernel_rfl) (by kernel_rfl) (by kernel_rfl) (fun _ _ _ h => h) (Or.inl ⟨by kernel_rfl, ?_⟩) hS ?_
                      rotate_left
                      · intro W hSW
                        go_simp
                        all_goals with_reducible rfl
                      go_simp
                      refine wpAnyH_take (i := 9) (v := ?_) rfl (by kernel_rfl) (by kernel_rfl) (by kernel_rfl) (fun _ _ _ h => h) (Or.inl ⟨by kernel_rfl, ?_⟩) hS ?_
                      rotate_left
                      · intro W hSW
                        go_simp
                        all_goals with_reducible rfl
                      go_simp
                      refine wpAnyH_take (i := 10) (v := .agg (opA x q c)) rfl (by kernel_rfl) (by kernel_rfl) (by kernel_rfl) (fun _ _ _ h => h) (Or.inl ⟨by kernel_rfl, fun W hSW => exec_wr_op rfl rfl (HR.out.rd.below hSW) HE.out⟩) hS ?_
                      go_simp
                      refine wpAnyH_ready (rs := [11]) (by kernel_rfl) (by simp) ?_
                      refine AllReadyH.cons rfl (fun K hK => ?_) AllReadyH.nil
                      go_simp
                      go_wp2_with ((go_at_call 10; refine (ownN_any x q c _ (HPE.out.kept hS) (by have := HS1.out.1; omega)).mono ?_; rintro e wn ⟨q2, c2, rfl, hpa, hbn, -⟩))
                      have HBN := Lib.hid hbn
                      have HL2 := Lib.hid ((HL.out.kept (Below.drew (Below.refl _ _))).kept hbn)
                      refine hK.out _ _ (hS.trans (hbn.mono hS.size)) (fun hS => ?_)
                      clear hK K hbn
                      refine wpAnyH_ready (rs := [12]) (by kernel_rfl) (by simp) ?_
                      refine AllReadyH.cons rfl (fun K hK => ?_) AllReadyH.nil
                      go_simp
                      go_wp2_with ((go_at_call 12; refine (do_any (s1, s2) x q2 c2 _ HL2.out HS1.out.sz hpa).mono ?_; rintro e wm ⟨rfl, hlm, htm⟩))
                      replace hS := turns3_below htm ⟨HGE.out.2.1, HGE.out.2.2.1, HGE.out.2.2.2⟩ hS
                      have HLM := Lib.hid hlm
                      have HTM := Lib.hid (show Turns (fun k => k = M1 ∨ k = M2 ∨ k = M3) wr wm from (Turns.of_below (Below.drew (Below.refl _ _))).trans ((Turns.call (Turns.refl _ _) HBN.out).trans (htm.mono fun _ _ h => Or.inl h) |>.mono fun _ _ h => Or.inl h))
                      refine hK.out _ _ hS (fun hS => ?_)
                      clear hK K hpa hlm htm
                      refine wpAnyH_done (by kernel_rfl) ?_ _
                      go_simp
                      rw [HAG2.out] at HLM
                      obtain ⟨B, hB1, hB2⟩ := HBQ.out
                      have HQM := Lib.hid (HQ.out.above HTM.out hB1 hB2)
                      have HBM := Lib.hid hS
                      clear hS HL HL2 HBN
                      go_wp2
                      go_roundw
                      case rel => exact ⟨k + 1, by omega, by go_num, HLM.out, HQM.out, HBM.out⟩
                      case measure => simp [intOf]; omega
                    · have d1 : decide (s1 < 549755813888) = false := decide_eq_false hs
                      clear HAG
                      go_wp2
                      go_roundw
                      case rel => exact ⟨k + 1, by omega, by go_num, HL.out, HQ.out, HB.out⟩
                      case measure => simp [intOf]; omega
                  · obtain rfl : k = l.length := by omega
                    have d0 : decide ((l.length : Int) < (l.length : Int)) = false := decide_eq_false (by omega)
                    go_wp2_with fail
                    refine (same_any _ HL.out HQ.out).mono ?_
                    rintro e wz ⟨bb, rfl, hbb, hbz⟩
                    obtain rfl : bb = true := hbb.2 (Pm.Same.refl _)
                    replace HB := Lib.hid (HB.out.trans (hbz.mono HB.out.size))
                    clear hbb hbz
                    go_wp2
                    go_ret
                    exact ⟨rfl, HB.out⟩
              · have HPN := Lib.hid (show (!(prop == x.p)) = true from by simpa using hpp)
                have HVP := Lib.hid (show (r2.v (Pm.nameV (x.nt, x.nr) prop)).2 = (rw1, rw2, rw3) from by
                  rw [HR3.out, ← HRW.out]
                  show (Pm.put _ _ _ _ _).2 = _
                  rw [Pm.put_off (Pm.nameV_ne hpp)])
                have HWV := Lib.hid HRW.out
                clear hpp
                go_upto_region 17 with fail
                refine wp_region_held_drew (S := fun W => Below wx.heap.size wx W) (by kernel_rfl) (Below.drew (Below.refl _ _)) (fun hS => ?_)
                refine wpAnyH_take (i := 0) (v := ?_) rfl (by kernel_rfl) (by kernel_rfl) (by kernel_rfl) (fun _ _ _ h => h) (Or.inl ⟨by kernel_rfl, ?_⟩) hS ?_
                rotate_left
                · intro W hSW
                  go_simp
                  all_goals with_reducible rfl
                refine wpAnyH_take (i := 1) (v := ?_) rfl (by kernel_rfl) (by kernel_rfl) (by kernel_rfl) (fun _ _ _ h => h) (Or.inl ⟨by kernel_rfl, ?_⟩) hS ?_
                rotate_left
                · intro W hSW
                  go_simp
                  all_goals with_reducible rfl
                go_simp
                refine wpAnyH_take (i := 2) (v := .agg #[.int .i64 x.nt, .int .i64 x.nr]) rfl (by kernel_rfl) (by kernel_rfl) (by kernel_rfl) (fun _ _ _ h => h) (Or.inl ⟨by kernel_rfl, fun W hSW => exec_load_part stT rfl rfl (HXO.out.kept hSW) [.int .i64 x.nt, .int .i64 x.nr] (by intro j v hv; match j, hv with | 0, hv => exact hv | 1, hv => exact hv) rfl⟩) hS ?_
                refine wpAnyH_take (i := 3) (v := ?_) rfl (by kernel_rfl) (by kernel_rfl) (by kernel_rfl) (fun _ _ _ h => h) (Or.inl ⟨by kernel_rfl, ?_⟩) hS ?_
                rotate_left
                · intro W hSW
                  go_simp
                  all_goals with_reducible rfl
                refine wpAnyH_take (i := 4) (v := ?_) rfl (by kernel_rfl) (by kernel_rfl) (by kernel_rfl) (fun _ _ _ h => h) (Or.inl ⟨by kernel_rfl, ?_⟩) hS ?_
                rotate_left
                · intro W hSW
                  have yp : W.cell? ⟨wd.heap.size, 7, none⟩ = some (.int .i64 x.p) := (HXO.out.kept hSW).cell 7
                  go_simp
                  all_goals with_reducible rfl
                refine wpAnyH_take (i := 6) (v := ?_) rfl (by kernel_rfl) (by kernel_rfl) (by kernel_rfl) (fun _ _ _ h => h) (Or.inl ⟨by kernel_rfl, ?_⟩) hS ?_
                rotate_left
                · intro W hSW
                  go_simp
                  all_goals with_reducible rfl
                go_simp
                refine wpAnyH_take (i := 7) (v := .agg (vlA (x.vk, x.vn, x.vt))) rfl (by kernel_rfl) (by kernel_rfl) (by kernel_rfl) (fun _ _ _ h => h) (Or.inl ⟨by kernel_rfl, fun W hSW => exec_load_part vA rfl rfl (HXO.out.kept hSW) [.int .i64 x.vk, .int .i64 x.vn, .string x.vt] (by intro j v hv; match j, hv with | 0, hv => exact hv | 1, hv => exact hv | 2, hv => exact hv) rfl⟩) hS ?_
                go_simp
                refine wpAnyH_ready (rs := [5]) (by kernel_rfl) (by simp) ?_
                refine AllReadyH.cons rfl (fun K hK => ?_) AllReadyH.nil
                go_simp
                go_wp2_with ((go_at_call 16; refine (value_any (x.nt, x.nr) x.p _ (HL.out.kept hS) HWP.out).mono ?_; rw [HVX.out]; rintro e wn ⟨rfl, hbn⟩))
                refine hK.out _ _ (hS.trans (hbn.mono hS.size)) (fun hS => ?_)
                clear hK K hbn
                refine wpAnyH_take (i := 8) (v := .bool false) rfl (by kernel_rfl) (by kernel_rfl) (by kernel_rfl) (fun _ _ _ h => h) (Or.inl ⟨by kernel_rfl, fun W hSW => (exec_neq_vl rfl (x.vk, x.vn, x.vt) (x.vk, x.vn, x.vt) rfl rfl).trans (by rw [decide_eq_true rfl]; rfl)⟩) hS ?_
                refine wpAnyH_take (i := 9) (v := ?_) rfl (by kernel_rfl) (by kernel_rfl) (by kernel_rfl) (fun _ _ _ h => h) (Or.inl ⟨by kernel_rfl, ?_⟩) hS ?_
                rotate_left
                · intro W hSW
                  go_simp
                  all_goals with_reducible rfl
                refine wpAnyH_take (i := 10) (v := ?_) rfl (by kernel_rfl) (by kernel_rfl) (by kernel_rfl) (fun _ _ _ h => h) (Or.inl ⟨by kernel_rfl, ?_⟩) hS ?_
                rotate_left
                · intro W hSW
                  go_simp
                  all_goals with_reducible rfl
                refine wpAnyH_take (i := 11) (v := ?_) rfl (by kernel_rfl) (by kernel_rfl) (by kernel_rfl) (fun _ _ _ h => h) (Or.inl ⟨by kernel_rfl, ?_⟩) hS ?_
                rotate_left
                · intro W hSW
                  go_simp
                  all_goals with_reducible rfl
                go_simp
                refine wpAnyH_take (i := 12) (v := ?_) rfl (by kernel_rfl) (by kernel_rfl) (by kernel_rfl) (fun _ _ _ h => h) (Or.inl ⟨by kernel_rfl, ?_⟩) hS ?_
                rotate_left
                · intro W hSW
                  have yp : W.cell? ⟨wd.heap.size, 7, none⟩ = some (.int .i64 x.p) := (HXO.out.kept hSW).cell 7
                  go_simp
                  all_goals with_reducible rfl
                go_simp
                refine wpAnyH_take (i := 13) (v := .bool true) rfl (by kernel_rfl) (by kernel_rfl) (by kernel_rfl) (fun _ _ _ h => h) (Or.inl ⟨by kernel_rfl, fun W hSW => exec_neq_i rfl prop x.p rfl rfl HPN.out⟩) hS ?_
                refine wpAnyH_take (i := 14) (v := ?_) rfl (by kernel_rfl) (by kernel_rfl) (by kernel_rfl) (fun _ _ _ h => h) (Or.inl ⟨by kernel_rfl, ?_⟩) hS ?_
                rotate_left
                · intro W hSW
                  go_simp
                  all_goals with_reducible rfl
                refine wpAnyH_take (i := 15) (v := ?_) rfl (by kernel_rfl) (by kernel_rfl) (by kernel_rfl) (fun _ _ _ h => h) (Or.inl ⟨by kernel_rfl, ?_⟩) hS ?_
                rotate_left
                · intro W hSW
                  go_simp
                  all_goals with_reducible rfl
                refine wpAnyH_take (i := 16) (v := ?_) rfl (by kernel_rfl) (by kernel_rfl) (by kernel_rfl) (fun _ _ _ h => h) (Or.inl ⟨by kernel_rfl, ?_⟩) hS ?_
                rotate_left
                · intro W hSW
                  go_simp
                  all_goals with_reducible rfl
                go_simp
                refine wpAnyH_take (i := 17) (v := .agg #[.int .i64 x.nt, .int .i64 x.nr]) rfl (by kernel_rfl) (by kernel_rfl) (by kernel_rfl) (fun _ _ _ h => h) (Or.inl ⟨by kernel_rfl, fun W hSW => exec_load_part stT rfl rfl (HXO.out.kept hSW) [.int .i64 x.nt, .int .i64 x.nr] (by intro j v hv; match j, hv with | 0, hv => exact hv | 1, hv => exact hv) rfl⟩) hS ?_
                refine wpAnyH_take (i := 18) (v := ?_) rfl (by kernel_rfl) (by kernel_rfl) (by kernel_rfl) (fun _ _ _ h => h) (Or.inl ⟨by kernel_rfl, ?_⟩) hS ?_
                rotate_left
                · intro W hSW
                  go_simp
                  all_goals with_reducible rfl
                refine wpAnyH_take (i := 20) (v := ?_) rfl (by kernel_rfl) (by kernel_rfl) (by kernel_rfl) (fun _ _ _ h => h) (Or.inl ⟨by kernel_rfl, ?_⟩) hS ?_
                rotate_left
                · intro W hSW
                  go_simp
                  all_goals with_reducible rfl
                refine wpAnyH_take (i := 21) (v := ?_) rfl (by kernel_rfl) (by kernel_rfl) (by kernel_rfl) (fun _ _ _ h => h) (Or.inl ⟨by kernel_rfl, ?_⟩) hS ?_
                rotate_left
                · intro W hSW
                  go_simp
                  all_goals with_reducible rfl
                go_simp
                refine wpAnyH_take (i := 22) (v := .agg #[.int .i64 x.nt, .int .i64 x.nr]) rfl (by kernel_rfl) (by kernel_rfl) (by kernel_rfl) (fun _ _ _ h => h) (Or.inl ⟨by kernel_rfl, fun W hSW => exec_load_part stT rfl rfl (HXO.out.kept hSW) [.int .i64 x.nt, .int .i64 x.nr] (by intro j v hv; match j, hv with | 0, hv => exact hv | 1, hv => exact hv) rfl⟩) hS ?_
                refine wpAnyH_take (i := 23) (v := ?_) rfl (by kernel_rfl) (by kernel_rfl) (by kernel_rfl) (fun _ _ _ h => h) (Or.inl ⟨by kernel_rfl, ?_⟩) hS ?_
                rotate_left
                · intro W hSW
                  go_simp
                  all_goals with_reducible rfl
                go_simp
                refine wpAnyH_ready (rs := [19]) (by kernel_rfl) (by simp) ?_
                refine AllReadyH.cons rfl (fun K hK => ?_) AllReadyH.nil
                go_simp
                go_wp2_with ((go_at_call 16; refine (value_any (x.nt, x.nr) prop _ (HL.out.kept hS) HWQ.out).mono ?_; rw [HVP.out]; rintro e wn ⟨rfl, hbn⟩))
                refine hK.out _ _ (hS.trans (hbn.mono hS.size)) (fun hS => ?_)
                clear hK K hbn
                refine wpAnyH_ready (rs := [24]) (by kernel_rfl) (by simp) ?_
                refine AllReadyH.cons rfl (fun K hK => ?_) AllReadyH.nil
                go_simp
                go_wp2_with ((go_at_call 16; refine (value_any (x.nt, x.nr) prop _ (HWAS.out.kept hS) HWQ.out).mono ?_; rw [HWV.out]; rintro e wn ⟨rfl, hbn⟩))
                refine hK.out _ _ (hS.trans (hbn.mono hS.size)) (fun hS => ?_)
                clear hK K hbn
                refine wpAnyH_take (i := 25) (v := .bool false) rfl (by kernel_rfl) (by kernel_rfl) (by kernel_rfl) (fun _ _ _ h => h) (Or.inl ⟨by kernel_rfl, fun W hSW => (exec_neq_vl rfl (rw1, rw2, rw3) (rw1, rw2, rw3) rfl rfl).trans (by rw [decide_eq_true rfl]; rfl)⟩) hS ?_
                refine wpAnyH_take (i := 26) (v := ?_) rfl (by kernel_rfl) (by kernel_rfl) (by kernel_rfl) (fun _ _ _ h => h) (Or.inl ⟨by kernel_rfl, ?_⟩) hS ?_
                rotate_left
                · intro W hSW
                  go_simp
                  all_goals with_reducible rfl
                refine wpAnyH_take (i := 27) (v := ?_) rfl (by kernel_rfl) (by kernel_rfl) (by kernel_rfl) (fun _ _ _ h => h) (Or.inl ⟨by kernel_rfl, ?_⟩) hS ?_
                rotate_left
                · intro W hSW
                  go_simp
                  all_goals with_reducible rfl
                go_simp
                refine wpAnyH_done (by kernel_rfl) ?_ _
                go_simp
                replace HL := Lib.hid (HL.out.kept hS)
                replace HB := Lib.hid (HB.out.trans (hS.mono HB.out.size))
                clear hS HWAS HXO
                go_wp2_with fail
                refine (clone_any _ HL.out).mono ?_
                rintro e wc ⟨Q, N1, N2, N3, rfl, hlc, hbc, g0, g1, g2, g3⟩
                have HQ := Lib.hid hlc
                have HBQ := Lib.hid (show ∃ B, (M1 < B ∧ M2 < B ∧ M3 < B) ∧ (B ≤ Q ∧ B ≤ N1 ∧ B ≤ N2 ∧ B ≤ N3) from ⟨_, ⟨HL.out.v.lt, HL.out.m.lt, HL.out.o.lt⟩, g0, g1, g2, g3⟩)
                replace HL := Lib.hid (HL.out.kept hbc)
                replace HB := Lib.hid (HB.out.trans (hbc.mono HB.out.size))
                clear hlc hbc g0 g1 g2 g3
                go_wp2
                go_loopw [14] (fun i wr => ∃ k : Nat, k ≤ l.length ∧ i = .int .i64 (k : Int) ∧ Lay wr P M1 M2 M3 r2 ∧ Lay wr Q N1 N2 N3 r2 ∧ Below w.heap.size w wr) (fun i _ => l.length - (intOf i).toNat)
                case atStart => exact ⟨0, Nat.zero_le _, rfl, HL.out, HQ.out, HB.out⟩
                case round =>
                  clear HL HQ HB
                  obtain ⟨k, hk, rfl, hl3, hq3, hb3⟩ := hrel
                  have HL := Lib.hid hl3
                  have HQ := Lib.hid hq3
                  have HB := Lib.hid hb3
                  clear hl3 hq3 hb3
                  by_cases hlt : k < l.length
                  · have d0 : decide ((k : Int) < (l.length : Int)) = true := decide_eq_true (by omega)
                    obtain ⟨b, o, rfl, -⟩ := HR.out.rd.addr (by rw [wrK.length]; omega)
                    obtain ⟨e, he⟩ : ∃ e, l[k]? = some e := ⟨_, List.getElem?_eq_getElem hlt⟩
                    obtain ⟨⟨⟨s1, s2⟩, x⟩, q, c⟩ := e
                    have HE := Lib.hid he
                    have HPE := Lib.hid (HR.out.pa _ (List.mem_of_getElem? he))
                    have HS1 := Lib.hid (HSM.out _ (List.mem_of_getElem? he))
                    have HAG := Lib.hid (fun (h : s1 < 549755813888) => show Pm.doR r2 ⟨(s1, s2), x⟩ = r2 from by
                      rw [HR2.out]
                      exact Pm.again (List.mem_append_left _ (List.mem_filter.2 ⟨pl_mem he, decide_eq_true h⟩)))
                    have hrg := wrK.range (HR.out.rd.below HB.out) he
                    have y0 : wr.cell? ⟨b, o + k * 14, none⟩ = some (.int .i64 s1) := hrg 0 _ rfl
                    clear hrg he
                    by_cases hs : s1 < 549755813888
                    · have d1 : decide (s1 < 549755813888) = true := decide_eq_true hs
                      have HAG2 := Lib.hid (HAG.out hs)
                      clear HAG
                      go_upto_region 31 with fail
                      refine wp_region_held_drew (S := fun W => Below w.heap.size w W) (by kernel_rfl) (Below.drew HB.out) (fun hS => ?_)
                      refine wpAnyH_take (i := 0) (v := ?_) rfl (by kernel_rfl) (by kernel_rfl) (by kernel_rfl) (fun _ _ _ h => h) (Or.inl ⟨by kernel_rfl, ?_⟩) hS ?_
                      rotate_left
                      · intro W hSW
                        go_simp
                        all_goals with_reducible rfl
                      refine wpAnyH_take (i := 1) (v := ?_) rfl (by kernel_rfl) (by kernel_rfl) (by kernel_rfl) (fun _ _ _ h => h) (Or.inl ⟨by kernel_rfl, ?_⟩) hS ?_
                      rotate_left
                      · intro W hSW
                        go_simp
                        all_goals with_reducible rfl
                      refine wpAnyH_take (i := 2) (v := ?_) rfl (by kernel_rfl) (by kernel_rfl) (by kernel_rfl) (fun _ _ _ h => h) (Or.inl ⟨by kernel_rfl, ?_⟩) hS ?_
                      rotate_left
                      · intro W hSW
                        go_simp
                        all_goals with_reducible rfl
                      refine wpAnyH_take (i := 3) (v := ?_) rfl (by kernel_rfl) (by kernel_rfl) (by kernel_rfl) (fun _ _ _ h => h) (Or.inl ⟨by kernel_rfl, ?_⟩) hS ?_
                      rotate_left
                      · intro W hSW
                        go_simp
                        all_goals with_reducible rfl
                      go_simp
                      refine wpAnyH_take (i := 4) (v := ?_) rfl (by kernel_rfl) (by kernel_rfl) (by kernel_rfl) (fun _ _ _ h => h) (Or.inl ⟨by kernel_rfl, ?_⟩) hS ?_
                      rotate_left
                      · intro W hSW
                        go_simp
                        all_goals with_reducible rfl
                      go_simp
                      refine wpAnyH_take (i := 5) (v := .agg #[.int .i64 s1, .int .i64 s2]) rfl (by kernel_rfl) (by kernel_rfl) (by kernel_rfl) (fun _ _ _ h => h) (Or.inl ⟨by kernel_rfl, fun W hSW => exec_wr_st rfl rfl (HR.out.rd.below hSW) HE.out⟩) hS ?_
                      refine wpAnyH_take (i := 6) (v := ?_) rfl (by kernel_rfl) (by kernel_rfl) (by kernel_rfl) (fun _ _ _ h => h) (Or.inl ⟨by kernel_rfl, ?_⟩) hS ?_
                      rotate_left
                      · intro W hSW
                        go_simp
                        all_goals with_reducible rfl
                      refine wpAnyH_take (i := 7) (v := ?_) rfl (by kernel_rfl) (by kernel_rfl) (by kernel_rfl) (fun _ _ _ h => h) (Or.inl ⟨by kernel_rfl, ?_⟩) hS ?_
                      rotate_left
                      · intro W hSW
                        go_simp
                        all_goals with_reducible rfl
                      refine wpAnyH_take (i := 8) (v := ?_) rfl (by kernel_rfl) (by kernel_rfl) (by kernel_rfl) (fun _ _ _ h => h) (Or.inl ⟨by kernel_rfl, ?_⟩) hS ?_
                      rotate_left
                      · intro W hSW
                        go_simp
                        all_goals with_reducible rfl
                      go_simp
                      refine wpAnyH_take (i := 9) (v := ?_) rfl (by kernel_rfl) (by kernel_rfl) (by kernel_rfl) (fun _ _ _ h => h) (Or.inl ⟨by kernel_rfl, ?_⟩) hS ?_
                      rotate_left
                      · intro W hSW
                        go_simp
                        all_goals with_reducible rfl
                      go_simp
                      refine wpAnyH_take (i := 10) (v := .agg (opA x q c)) rfl (by kernel_rfl) (by kernel_rfl) (by kernel_rfl) (fun _ _ _ h => h) (Or.inl ⟨by kernel_rfl, fun W hSW => exec_wr_op rfl rfl (HR.out.rd.below hSW) HE.out⟩) hS ?_
                      go_simp
                      refine wpAnyH_ready (rs := [11]) (by kernel_rfl) (by simp) ?_
                      refine AllReadyH.cons rfl (fun K hK => ?_) AllReadyH.nil
                      go_simp
                      go_wp2_with ((go_at_call 10; refine (ownN_any x q c _ (HPE.out.kept hS) (by have := HS1.out.1; omega)).mono ?_; rintro e wn ⟨q2, c2, rfl, hpa, hbn, -⟩))
                      have HBN := Lib.hid hbn
                      have HL2 := Lib.hid ((HL.out.kept (Below.drew (Below.refl _ _))).kept hbn)
                      refine hK.out _ _ (hS.trans (hbn.mono hS.size)) (fun hS => ?_)
                      clear hK K hbn
                      refine wpAnyH_ready (rs := [12]) (by kernel_rfl) (by simp) ?_
                      refine AllReadyH.cons rfl (fun K hK => ?_) AllReadyH.nil
                      go_simp
                      go_wp2_with ((go_at_call 12; refine (do_any (s1, s2) x q2 c2 _ HL2.out HS1.out.sz hpa).mono ?_; rintro e wm ⟨rfl, hlm, htm⟩))
                      replace hS := turns3_below htm ⟨HGE.out.2.1, HGE.out.2.2.1, HGE.out.2.2.2⟩ hS
                      have HLM := Lib.hid hlm
                      have HTM := Lib.hid (show Turns (fun k => k = M1 ∨ k = M2 ∨ k = M3) wr wm from (Turns.of_below (Below.drew (Below.refl _ _))).trans ((Turns.call (Turns.refl _ _) HBN.out).trans (htm.mono fun _ _ h => Or.inl h) |>.mono fun _ _ h => Or.inl h))
                      refine hK.out _ _ hS (fun hS => ?_)
                      clear hK K hpa hlm htm
                      refine wpAnyH_done (by kernel_rfl) ?_ _
                      go_simp
                      rw [HAG2.out] at HLM
                      obtain ⟨B, hB1, hB2⟩ := HBQ.out
                      have HQM := Lib.hid (HQ.out.above HTM.out hB1 hB2)
                      have HBM := Lib.hid hS
                      clear hS HL HL2 HBN
                      go_wp2
                      go_roundw
                      case rel => exact ⟨k + 1, by omega, by go_num, HLM.out, HQM.out, HBM.out⟩
                      case measure => simp [intOf]; omega
                    · have d1 : decide (s1 < 549755813888) = false := decide_eq_false hs
                      clear HAG
                      go_wp2
                      go_roundw
                      case rel => exact ⟨k + 1, by omega, by go_num, HL.out, HQ.out, HB.out⟩
                      case measure => simp [intOf]; omega
                  · obtain rfl : k = l.length := by omega
                    have d0 : decide ((l.length : Int) < (l.length : Int)) = false := decide_eq_false (by omega)
                    go_wp2_with fail
                    refine (same_any _ HL.out HQ.out).mono ?_
                    rintro e wz ⟨bb, rfl, hbb, hbz⟩
                    obtain rfl : bb = true := hbb.2 (Pm.Same.refl _)
                    replace HB := Lib.hid (HB.out.trans (hbz.mono HB.out.size))
                    clear hbb hbz
                    go_wp2
                    go_ret
                    exact ⟨rfl, HB.out⟩
            · have HR3 := Lib.hid (show r2 = ⟨(Pm.allR (Pm.lows (pl l))).v, Pm.put (Pm.allR (Pm.lows (pl l))).m (Pm.nameM (x.nt, x.nr)) (1099511627776, 0) x.on, (Pm.allR (Pm.lows (pl l))).o⟩ from by
                rw [HR2.out, Pm.allR_snoc, Pm.doR_M hok hk])
              have HMX := Lib.hid (show (r2.m (Pm.nameM (x.nt, x.nr))).2 = x.on from by
                rw [HR3.out]
                show (Pm.put _ _ _ _ _).2 = _
                rw [Pm.put_at (Pm.low_m _ _)])
              have HWM := Lib.hid (wfM (n := (x.nt, x.nr)) HND.out.1 HND.out.2)
              have y0 : wx.cell? ⟨wd.heap.size, 0, none⟩ = some (.int .i64 4) := by rw [← hk]; exact HXO.out.cell 0
              clear hok hk
              go_upto_region 20 with fail
              clear y0
              have HVP := Lib.hid (show (r2.v (Pm.nameV (x.nt, x.nr) prop)).2 = (rw1, rw2, rw3) from by
                rw [HR3.out]
                exact HRW.out)
              have HWV := Lib.hid HRW.out
              go_upto_region 20 with fail
              refine wp_region_held_drew (S := fun W => Below wx.heap.size wx W) (by kernel_rfl) (Below.drew (Below.refl _ _)) (fun hS => ?_)
              refine wpAnyH_take (i := 0) (v := ?_) rfl (by kernel_rfl) (by kernel_rfl) (by kernel_rfl) (fun _ _ _ h => h) (Or.inl ⟨by kernel_rfl, ?_⟩) hS ?_
              rotate_left
              · intro W hSW
                go_simp
                all_goals with_reducible rfl
              refine wpAnyH_take (i := 1) (v := ?_) rfl (by kernel_rfl) (by kernel_rfl) (by kernel_rfl) (fun _ _ _ h => h) (Or.inl ⟨by kernel_rfl, ?_⟩) hS ?_
              rotate_left
              · intro W hSW
                go_simp
                all_goals with_reducible rfl
              go_simp
              refine wpAnyH_take (i := 2) (v := .agg #[.int .i64 x.nt, .int .i64 x.nr]) rfl (by kernel_rfl) (by kernel_rfl) (by kernel_rfl) (fun _ _ _ h => h) (Or.inl ⟨by kernel_rfl, fun W hSW => exec_load_part stT rfl rfl (HXO.out.kept hSW) [.int .i64 x.nt, .int .i64 x.nr] (by intro j v hv; match j, hv with | 0, hv => exact hv | 1, hv => exact hv) rfl⟩) hS ?_
              refine wpAnyH_take (i := 4) (v := ?_) rfl (by kernel_rfl) (by kernel_rfl) (by kernel_rfl) (fun _ _ _ h => h) (Or.inl ⟨by kernel_rfl, ?_⟩) hS ?_
              rotate_left
              · intro W hSW
                go_simp
                all_goals with_reducible rfl
              refine wpAnyH_take (i := 5) (v := ?_) rfl (by kernel_rfl) (by kernel_rfl) (by kernel_rfl) (fun _ _ _ h => h) (Or.inl ⟨by kernel_rfl, ?_⟩) hS ?_
              rotate_left
              · intro W hSW
                have yp : W.cell? ⟨wd.heap.size, 11, none⟩ = some (.bool x.on) := (HXO.out.kept hSW).cell 11
                go_simp
                all_goals with_reducible rfl
              go_simp
              refine wpAnyH_ready (rs := [3]) (by kernel_rfl) (by simp) ?_
              refine AllReadyH.cons rfl (fun K hK => ?_) AllReadyH.nil
              go_simp
              go_wp2_with ((go_at_call 18; refine (marked_any (x.nt, x.nr) _ (HL.out.kept hS) HWM.out).mono ?_; rw [HMX.out]; rintro e wn ⟨rfl, hbn⟩))
              refine hK.out _ _ (hS.trans (hbn.mono hS.size)) (fun hS => ?_)
              clear hK K hbn
              refine wpAnyH_take (i := 6) (v := .bool false) rfl (by kernel_rfl) (by kernel_rfl) (by kernel_rfl) (fun _ _ _ h => h) (Or.inl ⟨by kernel_rfl, fun W hSW => exec_neq_b rfl x.on rfl rfl⟩) hS ?_
              refine wpAnyH_take (i := 7) (v := ?_) rfl (by kernel_rfl) (by kernel_rfl) (by kernel_rfl) (fun _ _ _ h => h) (Or.inl ⟨by kernel_rfl, ?_⟩) hS ?_
              rotate_left
              · intro W hSW
                go_simp
                all_goals with_reducible rfl
              refine wpAnyH_take (i := 8) (v := ?_) rfl (by kernel_rfl) (by kernel_rfl) (by kernel_rfl) (fun _ _ _ h => h) (Or.inl ⟨by kernel_rfl, ?_⟩) hS ?_
              rotate_left
              · intro W hSW
                go_simp
                all_goals with_reducible rfl
              refine wpAnyH_take (i := 9) (v := ?_) rfl (by kernel_rfl) (by kernel_rfl) (by kernel_rfl) (fun _ _ _ h => h) (Or.inl ⟨by kernel_rfl, ?_⟩) hS ?_
              rotate_left
              · intro W hSW
                go_simp
                all_goals with_reducible rfl
              go_simp
              refine wpAnyH_take (i := 10) (v := .agg #[.int .i64 x.nt, .int .i64 x.nr]) rfl (by kernel_rfl) (by kernel_rfl) (by kernel_rfl) (fun _ _ _ h => h) (Or.inl ⟨by kernel_rfl, fun W hSW => exec_load_part stT rfl rfl (HXO.out.kept hSW) [.int .i64 x.nt, .int .i64 x.nr] (by intro j v hv; match j, hv with | 0, hv => exact hv | 1, hv => exact hv) rfl⟩) hS ?_
              refine wpAnyH_take (i := 11) (v := ?_) rfl (by kernel_rfl) (by kernel_rfl) (by kernel_rfl) (fun _ _ _ h => h) (Or.inl ⟨by kernel_rfl, ?_⟩) hS ?_
              rotate_left
              · intro W hSW
                go_simp
                all_goals with_reducible rfl
              refine wpAnyH_take (i := 13) (v := ?_) rfl (by kernel_rfl) (by kernel_rfl) (by kernel_rfl) (fun _ _ _ h => h) (Or.inl ⟨by kernel_rfl, ?_⟩) hS ?_
              rotate_left
              · intro W hSW
                go_simp
                all_goals with_reducible rfl
              refine wpAnyH_take (i := 14) (v := ?_) rfl (by kernel_rfl) (by kernel_rfl) (by kernel_rfl) (fun _ _ _ h => h) (Or.inl ⟨by kernel_rfl, ?_⟩) hS ?_
              rotate_left
              · intro W hSW
                go_simp
                all_goals with_reducible rfl
              go_simp
              refine wpAnyH_take (i := 15) (v := .agg #[.int .i64 x.nt, .int .i64 x.nr]) rfl (by kernel_rfl) (by kernel_rfl) (by kernel_rfl) (fun _ _ _ h => h) (Or.inl ⟨by kernel_rfl, fun W hSW => exec_load_part stT rfl rfl (HXO.out.kept hSW) [.int .i64 x.nt, .int .i64 x.nr] (by intro j v hv; match j, hv with | 0, hv => exact hv | 1, hv => exact hv) rfl⟩) hS ?_
              refine wpAnyH_take (i := 16) (v := ?_) rfl (by kernel_rfl) (by kernel_rfl) (by kernel_rfl) (fun _ _ _ h => h) (Or.inl ⟨by kernel_rfl, ?_⟩) hS ?_
              rotate_left
              · intro W hSW
                go_simp
                all_goals with_reducible rfl
              go_simp
              refine wpAnyH_ready (rs := [12]) (by kernel_rfl) (by simp) ?_
              refine AllReadyH.cons rfl (fun K hK => ?_) AllReadyH.nil
              go_simp
              go_wp2_with ((go_at_call 16; refine (value_any (x.nt, x.nr) prop _ (HL.out.kept hS) HWQ.out).mono ?_; rw [HVP.out]; rintro e wn ⟨rfl, hbn⟩))
              refine hK.out _ _ (hS.trans (hbn.mono hS.size)) (fun hS => ?_)
              clear hK K hbn
              refine wpAnyH_ready (rs := [17]) (by kernel_rfl) (by simp) ?_
              refine AllReadyH.cons rfl (fun K hK => ?_) AllReadyH.nil
              go_simp
              go_wp2_with ((go_at_call 16; refine (value_any (x.nt, x.nr) prop _ (HWAS.out.kept hS) HWQ.out).mono ?_; rw [HWV.out]; rintro e wn ⟨rfl, hbn⟩))
              refine hK.out _ _ (hS.trans (hbn.mono hS.size)) (fun hS => ?_)
              clear hK K hbn
              refine wpAnyH_take (i := 18) (v := .bool false) rfl (by kernel_rfl) (by kernel_rfl) (by kernel_rfl) (fun _ _ _ h => h) (Or.inl ⟨by kernel_rfl, fun W hSW => (exec_neq_vl rfl (rw1, rw2, rw3) (rw1, rw2, rw3) rfl rfl).trans (by rw [decide_eq_true rfl]; rfl)⟩) hS ?_
              refine wpAnyH_take (i := 19) (v := ?_) rfl (by kernel_rfl) (by kernel_rfl) (by kernel_rfl) (fun _ _ _ h => h) (Or.inl ⟨by kernel_rfl, ?_⟩) hS ?_
              rotate_left
              · intro W hSW
                go_simp
                all_goals with_reducible rfl
              go_simp
              refine wpAnyH_done (by kernel_rfl) ?_ _
              go_simp
              replace HL := Lib.hid (HL.out.kept hS)
              replace HB := Lib.hid (HB.out.trans (hS.mono HB.out.size))
              clear hS HWAS HXO
              go_wp2_with fail
              refine (clone_any _ HL.out).mono ?_
              rintro e wc ⟨Q, N1, N2, N3, rfl, hlc, hbc, g0, g1, g2, g3⟩
              have HQ := Lib.hid hlc
              have HBQ := Lib.hid (show ∃ B, (M1 < B ∧ M2 < B ∧ M3 < B) ∧ (B ≤ Q ∧ B ≤ N1 ∧ B ≤ N2 ∧ B ≤ N3) from ⟨_, ⟨HL.out.v.lt, HL.out.m.lt, HL.out.o.lt⟩, g0, g1, g2, g3⟩)
              replace HL := Lib.hid (HL.out.kept hbc)
              replace HB := Lib.hid (HB.out.trans (hbc.mono HB.out.size))
              clear hlc hbc g0 g1 g2 g3
              go_wp2
              go_loopw [14] (fun i wr => ∃ k : Nat, k ≤ l.length ∧ i = .int .i64 (k : Int) ∧ Lay wr P M1 M2 M3 r2 ∧ Lay wr Q N1 N2 N3 r2 ∧ Below w.heap.size w wr) (fun i _ => l.length - (intOf i).toNat)
              case atStart => exact ⟨0, Nat.zero_le _, rfl, HL.out, HQ.out, HB.out⟩
              case round =>
                clear HL HQ HB
                obtain ⟨k, hk, rfl, hl3, hq3, hb3⟩ := hrel
                have HL := Lib.hid hl3
                have HQ := Lib.hid hq3
                have HB := Lib.hid hb3
                clear hl3 hq3 hb3
                by_cases hlt : k < l.length
                · have d0 : decide ((k : Int) < (l.length : Int)) = true := decide_eq_true (by omega)
                  obtain ⟨b, o, rfl, -⟩ := HR.out.rd.addr (by rw [wrK.length]; omega)
                  obtain ⟨e, he⟩ : ∃ e, l[k]? = some e := ⟨_, List.getElem?_eq_getElem hlt⟩
                  obtain ⟨⟨⟨s1, s2⟩, x⟩, q, c⟩ := e
                  have HE := Lib.hid he
                  have HPE := Lib.hid (HR.out.pa _ (List.mem_of_getElem? he))
                  have HS1 := Lib.hid (HSM.out _ (List.mem_of_getElem? he))
                  have HAG := Lib.hid (fun (h : s1 < 549755813888) => show Pm.doR r2 ⟨(s1, s2), x⟩ = r2 from by
                    rw [HR2.out]
                    exact Pm.again (List.mem_append_left _ (List.mem_filter.2 ⟨pl_mem he, decide_eq_true h⟩)))
                  have hrg := wrK.range (HR.out.rd.below HB.out) he
                  have y0 : wr.cell? ⟨b, o + k * 14, none⟩ = some (.int .i64 s1) := hrg 0 _ rfl
                  clear hrg he
                  by_cases hs : s1 < 549755813888
                  · have d1 : decide (s1 < 549755813888) = true := decide_eq_true hs
                    have HAG2 := Lib.hid (HAG.out hs)
                    clear HAG
                    go_upto_region 31 with fail
                    refine wp_region_held_drew (S := fun W => Below w.heap.size w W) (by kernel_rfl) (Below.drew HB.out) (fun hS => ?_)
                    refine wpAnyH_take (i := 0) (v := ?_) rfl (by kernel_rfl) (by kernel_rfl) (by kernel_rfl) (fun _ _ _ h => h) (Or.inl ⟨by kernel_rfl, ?_⟩) hS ?_
                    rotate_left
                    · intro W hSW
                      go_simp
                      all_goals with_reducible rfl
                    refine wpAnyH_take (i := 1) (v := ?_) rfl (by kernel_rfl) (by kernel_rfl) (by kernel_rfl) (fun _ _ _ h => h) (Or.inl ⟨by kernel_rfl, ?_⟩) hS ?_
                    rotate_left
                    · intro W hSW
                      go_simp
                      all_goals with_reducible rfl
                    refine wpAnyH_take (i := 2) (v := ?_) rfl (by kernel_rfl) (by kernel_rfl) (by kernel_rfl) (fun _ _ _ h => h) (Or.inl ⟨by kernel_rfl, ?_⟩) hS ?_
                    rotate_left
                    · intro W hSW
                      go_simp
                      all_goals with_reducible rfl
                    refine wpAnyH_take (i := 3) (v := ?_) rfl (by kernel_rfl) (by kernel_rfl) (by kernel_rfl) (fun _ _ _ h => h) (Or.inl ⟨by kernel_rfl, ?_⟩) hS ?_
                    rotate_left
                    · intro W hSW
                      go_simp
                      all_goals with_reducible rfl
                    go_simp
                    refine wpAnyH_take (i := 4) (v := ?_) rfl (by kernel_rfl) (by kernel_rfl) (by kernel_rfl) (fun _ _ _ h => h) (Or.inl ⟨by kernel_rfl, ?_⟩) hS ?_
                    rotate_left
                    · intro W hSW
                      go_simp
                      all_goals with_reducible rfl
                    go_simp
                    refine wpAnyH_take (i := 5) (v := .agg #[.int .i64 s1, .int .i64 s2]) rfl (by kernel_rfl) (by kernel_rfl) (by kernel_rfl) (fun _ _ _ h => h) (Or.inl ⟨by kernel_rfl, fun W hSW => exec_wr_st rfl rfl (HR.out.rd.below hSW) HE.out⟩) hS ?_
                    refine wpAnyH_take (i := 6) (v := ?_) rfl (by kernel_rfl) (by kernel_rfl) (by kernel_rfl) (fun _ _ _ h => h) (Or.inl ⟨by kernel_rfl, ?_⟩) hS ?_
                    rotate_left
                    · intro W hSW
                      go_simp
                      all_goals with_reducible rfl
                    refine wpAnyH_take (i := 7) (v := ?_) rfl (by kernel_rfl) (by kernel_rfl) (by kernel_rfl) (fun _ _ _ h => h) (Or.inl ⟨by kernel_rfl, ?_⟩) hS ?_
                    rotate_left
                    · intro W hSW
                      go_simp
                      all_goals with_reducible rfl
                    refine wpAnyH_take (i := 8) (v := ?_) rfl (by kernel_rfl) (by kernel_rfl) (by kernel_rfl) (fun _ _ _ h => h) (Or.inl ⟨by kernel_rfl, ?_⟩) hS ?_
                    rotate_left
                    · intro W hSW
                      go_simp
                      all_goals with_reducible rfl
                    go_simp
                    refine wpAnyH_take (i := 9) (v := ?_) rfl (by kernel_rfl) (by kernel_rfl) (by kernel_rfl) (fun _ _ _ h => h) (Or.inl ⟨by kernel_rfl, ?_⟩) hS ?_
                    rotate_left
                    · intro W hSW
                      go_simp
                      all_goals with_reducible rfl
                    go_simp
                    refine wpAnyH_take (i := 10) (v := .agg (opA x q c)) rfl (by kernel_rfl) (by kernel_rfl) (by kernel_rfl) (fun _ _ _ h => h) (Or.inl ⟨by kernel_rfl, fun W hSW => exec_wr_op rfl rfl (HR.out.rd.below hSW) HE.out⟩) hS ?_
                    go_simp
                    refine wpAnyH_ready (rs := [11]) (by kernel_rfl) (by simp) ?_
                    refine AllReadyH.cons rfl (fun K hK => ?_) AllReadyH.nil
                    go_simp
                    go_wp2_with ((go_at_call 10; refine (ownN_any x q c _ (HPE.out.kept hS) (by have := HS1.out.1; omega)).mono ?_; rintro e wn ⟨q2, c2, rfl, hpa, hbn, -⟩))
                    have HBN := Lib.hid hbn
                    have HL2 := Lib.hid ((HL.out.kept (Below.drew (Below.refl _ _))).kept hbn)
                    refine hK.out _ _ (hS.trans (hbn.mono hS.size)) (fun hS => ?_)
                    clear hK K hbn
                    refine wpAnyH_ready (rs := [12]) (by kernel_rfl) (by simp) ?_
                    refine AllReadyH.cons rfl (fun K hK => ?_) AllReadyH.nil
                    go_simp
                    go_wp2_with ((go_at_call 12; refine (do_any (s1, s2) x q2 c2 _ HL2.out HS1.out.sz hpa).mono ?_; rintro e wm ⟨rfl, hlm, htm⟩))
                    replace hS := turns3_below htm ⟨HGE.out.2.1, HGE.out.2.2.1, HGE.out.2.2.2⟩ hS
                    have HLM := Lib.hid hlm
                    have HTM := Lib.hid (show Turns (fun k => k = M1 ∨ k = M2 ∨ k = M3) wr wm from (Turns.of_below (Below.drew (Below.refl _ _))).trans ((Turns.call (Turns.refl _ _) HBN.out).trans (htm.mono fun _ _ h => Or.inl h) |>.mono fun _ _ h => Or.inl h))
                    refine hK.out _ _ hS (fun hS => ?_)
                    clear hK K hpa hlm htm
                    refine wpAnyH_done (by kernel_rfl) ?_ _
                    go_simp
                    rw [HAG2.out] at HLM
                    obtain ⟨B, hB1, hB2⟩ := HBQ.out
                    have HQM := Lib.hid (HQ.out.above HTM.out hB1 hB2)
                    have HBM := Lib.hid hS
                    clear hS HL HL2 HBN
                    go_wp2
                    go_roundw
                    case rel => exact ⟨k + 1, by omega, by go_num, HLM.out, HQM.out, HBM.out⟩
                    case measure => simp [intOf]; omega
                  · have d1 : decide (s1 < 549755813888) = false := decide_eq_false hs
                    clear HAG
                    go_wp2
                    go_roundw
                    case rel => exact ⟨k + 1, by omega, by go_num, HL.out, HQ.out, HB.out⟩
                    case measure => simp [intOf]; omega
                · obtain rfl : k = l.length := by omega
                  have d0 : decide ((l.length : Int) < (l.length : Int)) = false := decide_eq_false (by omega)
                  go_wp2_with fail
                  refine (same_any _ HL.out HQ.out).mono ?_
                  rintro e wz ⟨bb, rfl, hbb, hbz⟩
                  obtain rfl : bb = true := hbb.2 (Pm.Same.refl _)
                  replace HB := Lib.hid (HB.out.trans (hbz.mono HB.out.size))
                  clear hbb hbz
                  go_wp2
                  go_ret
                  exact ⟨rfl, HB.out⟩
            · have HR3 := Lib.hid (show r2 = ⟨(Pm.allR (Pm.lows (pl l))).v, (Pm.allR (Pm.lows (pl l))).m, Pm.put (Pm.allR (Pm.lows (pl l))).o (Pm.nameO (x.nt, x.nr) x.path x.p) (1099511627776, 0) (x.vk, x.vn, x.vt)⟩ from by
                rw [HR2.out, Pm.allR_snoc, Pm.doR_O hok hk])
              have HVX := Lib.hid (show (r2.o (Pm.nameO (x.nt, x.nr) x.path x.p)).2 = (x.vk, x.vn, x.vt) from by
                rw [HR3.out]
                show (Pm.put _ _ _ _ _).2 = _
                rw [Pm.put_at (Pm.low_o _ _)])
              have HZZ := Lib.hid (show (((x.vk, x.vn, x.vt) : Pm.Vl).1 != 0) = !decide (((x.vk, x.vn, x.vt) : Pm.Vl) = Pm.z0) from by
                by_cases h0 : x.vk = 0
                · have := Pm.right_val HRT.out (Or.inr hk) h0
                  have h2 : ((x.vk, x.vn, x.vt) : Pm.Vl) = Pm.z0 := by unfold Pm.z0; rw [h0, this.1, this.2]
                  rw [decide_eq_true h2]
                  show (x.vk != 0) = _
                  rw [h0]
                  rfl
                · have : ¬ ((x.vk, x.vn, x.vt) : Pm.Vl) = Pm.z0 := fun e => h0 (congrArg Prod.fst e)
                  rw [decide_eq_false this]
                  simpa using h0)
              have HWO := Lib.hid (wfO (n := (x.nt, x.nr)) (l := x.path) (p := x.p) HND.out.1 HND.out.2 (i64wf (by have := Pm.right_prop HRT.out (Or.inr hk); omega) (by have := Pm.right_prop HRT.out (Or.inr hk); omega)) (fun s hs => okNode_wf (Pm.right_path HRT.out hk s hs)) (by have := (Pm.right_QO HRT.out hk).2; omega))
              have y0 : wx.cell? ⟨wd.heap.size, 0, none⟩ = some (.int .i64 6) := by rw [← hk]; exact HXO.out.cell 0
              clear hok hk
              go_upto_region 23 with fail
              clear y0
              have HVP := Lib.hid (show (r2.v (Pm.nameV (x.nt, x.nr) prop)).2 = (rw1, rw2, rw3) from by
                rw [HR3.out]
                exact HRW.out)
              have HWV := Lib.hid HRW.out
              have y1 : wx.cell? ⟨wd.heap.size, 1, none⟩ = some (.int .i64 x.nt) := HXO.out.cell 1
              have y2 : wx.cell? ⟨wd.heap.size, 2, none⟩ = some (.int .i64 x.nr) := HXO.out.cell 2
              have y6 : wx.cell? ⟨wd.heap.size, 6, none⟩ = some (.slice q x.path.length c) := HXO.out.cell 6
              have y7 : wx.cell? ⟨wd.heap.size, 7, none⟩ = some (.int .i64 x.p) := HXO.out.cell 7
              go_wp2_with fail
              refine (over_any (x.nt, x.nr) q x.path c x.p wx HL.out HPX.out.rd HWO.out).mono ?_
              rw [HVX.out]
              rintro e wo ⟨rfl, hbo⟩
              have HZ := Lib.hid (AgAt.new wo (vlA (x.vk, x.vn, x.vt)) 34)
              have HBO := Lib.hid (hbo.trans (((Below.refl wo.heap.size wo).alloc (Nat.le_refl _) (.cells (vlA (x.vk, x.vn, x.vt)) 34)).mono hbo.size))
              replace HL := Lib.hid (HL.out.kept HBO.out)
              replace HWAS := Lib.hid (HWAS.out.kept HBO.out)
              replace HXO := Lib.hid (HXO.out.kept HBO.out)
              replace HB := Lib.hid (HB.out.trans (HBO.out.mono HB.out.size))
              dsimp only [vlA] at HZ HL HWAS HXO HB
              clear y1 y2 y6 y7 hbo HBO
              go_upto_region 24 with fail
              generalize hwy : wo.alloc (.cells #[.int .i64 x.vk, .int .i64 x.vn, .string x.vt] 34) = wy at *
              refine wp_region_held_drew (S := fun W => Below wy.heap.size wy W) (by kernel_rfl) (Below.drew (Below.refl _ _)) (fun hS => ?_)
              refine wpAnyH_take (i := 0) (v := .agg (vlA (x.vk, x.vn, x.vt))) rfl (by kernel_rfl) (by kernel_rfl) (by kernel_rfl) (fun _ _ _ h => h) (Or.inl ⟨by kernel_rfl, fun W hSW => exec_load_ag vA rfl rfl rfl (HZ.out.kept hSW)⟩) hS ?_
              refine wpAnyH_take (i := 1) (v := ?_) rfl (by kernel_rfl) (by kernel_rfl) (by kernel_rfl) (fun _ _ _ h => h) (Or.inl ⟨by kernel_rfl, ?_⟩) hS ?_
              rotate_left
              · intro W hSW
                go_simp
                all_goals with_reducible rfl
              go_simp
              refine wpAnyH_take (i := 2) (v := .agg (vlA (x.vk, x.vn, x.vt))) rfl (by kernel_rfl) (by kernel_rfl) (by kernel_rfl) (fun _ _ _ h => h) (Or.inl ⟨by kernel_rfl, fun W hSW => exec_load_part vA rfl rfl (HXO.out.kept hSW) [.int .i64 x.vk, .int .i64 x.vn, .string x.vt] (by intro j v hv; match j, hv with | 0, hv => exact hv | 1, hv => exact hv | 2, hv => exact hv) rfl⟩) hS ?_
              go_simp
              refine wpAnyH_take (i := 3) (v := .bool false) rfl (by kernel_rfl) (by kernel_rfl) (by kernel_rfl) (fun _ _ _ h => h) (Or.inl ⟨by kernel_rfl, fun W hSW => (exec_neq_vl rfl (x.vk, x.vn, x.vt) (x.vk, x.vn, x.vt) rfl rfl).trans (by rw [decide_eq_true rfl]; rfl)⟩) hS ?_
              refine wpAnyH_take (i := 4) (v := ?_) rfl (by kernel_rfl) (by kernel_rfl) (by kernel_rfl) (fun _ _ _ h => h) (Or.inl ⟨by kernel_rfl, ?_⟩) hS ?_
              rotate_left
              · intro W hSW
                go_simp
                all_goals with_reducible rfl
              refine wpAnyH_take (i := 5) (v := ?_) rfl (by kernel_rfl) (by kernel_rfl) (by kernel_rfl) (fun _ _ _ h => h) (Or.inl ⟨by kernel_rfl, ?_⟩) hS ?_
              rotate_left
              · intro W hSW
                go_simp
                all_goals with_reducible rfl
              refine wpAnyH_take (i := 6) (v := ?_) rfl (by kernel_rfl) (by kernel_rfl) (by kernel_rfl) (fun _ _ _ h => h) (Or.inl ⟨by kernel_rfl, ?_⟩) hS ?_
              rotate_left
              · intro W hSW
                go_simp
                all_goals with_reducible rfl
              go_simp
              refine wpAnyH_take (i := 7) (v := .agg (vlA (x.vk, x.vn, x.vt))) rfl (by kernel_rfl) (by kernel_rfl) (by kernel_rfl) (fun _ _ _ h => h) (Or.inl ⟨by kernel_rfl, fun W hSW => exec_load_part vA rfl rfl (HXO.out.kept hSW) [.int .i64 x.vk, .int .i64 x.vn, .string x.vt] (by intro j v hv; match j, hv with | 0, hv => exact hv | 1, hv => exact hv | 2, hv => exact hv) rfl⟩) hS ?_
              refine wpAnyH_take (i := 8) (v := ?_) rfl (by kernel_rfl) (by kernel_rfl) (by kernel_rfl) (fun _ _ _ h => h) (Or.inl ⟨by kernel_rfl, ?_⟩) hS ?_
              rotate_left
              · intro W hSW
                have hbv := run_build_vl0
                go_simp
                all_goals with_reducible rfl
              go_simp
              refine wpAnyH_take (i := 9) (v := .bool (!decide ((x.vk, x.vn, x.vt) = Pm.z0))) rfl (by kernel_rfl) (by kernel_rfl) (by kernel_rfl) (fun _ _ _ h => h) (Or.inl ⟨by kernel_rfl, fun W hSW => exec_neq_vl rfl (x.vk, x.vn, x.vt) Pm.z0 rfl rfl⟩) hS ?_
              go_simp
              refine wpAnyH_take (i := 10) (v := .bool false) rfl (by kernel_rfl) (by kernel_rfl) (by kernel_rfl) (fun _ _ _ h => h) (Or.inl ⟨by kernel_rfl, fun W hSW => exec_neq_bb rfl _ _ rfl rfl HZZ.out⟩) hS ?_
              refine wpAnyH_take (i := 11) (v := ?_) rfl (by kernel_rfl) (by kernel_rfl) (by kernel_rfl) (fun _ _ _ h => h) (Or.inl ⟨by kernel_rfl, ?_⟩) hS ?_
              rotate_left
              · intro W hSW
                go_simp
                all_goals with_reducible rfl
              refine wpAnyH_take (i := 12) (v := ?_) rfl (by kernel_rfl) (by kernel_rfl) (by kernel_rfl) (fun _ _ _ h => h) (Or.inl ⟨by kernel_rfl, ?_⟩) hS ?_
              rotate_left
              · intro W hSW
                go_simp
                all_goals with_reducible rfl
              refine wpAnyH_take (i := 13) (v := ?_) rfl (by kernel_rfl) (by kernel_rfl) (by kernel_rfl) (fun _ _ _ h => h) (Or.inl ⟨by kernel_rfl, ?_⟩) hS ?_
              rotate_left
              · intro W hSW
                go_simp
                all_goals with_reducible rfl
              go_simp
              refine wpAnyH_take (i := 14) (v := ?_) rfl (by kernel_rfl) (by kernel_rfl) (by kernel_rfl) (fun _ _ _ h => h) (Or.inl ⟨by kernel_rfl, ?_⟩) hS ?_
              rotate_left
              · intro W hSW
                go_simp
                all_goals with_reducible rfl
              go_simp
              refine wpAnyH_take (i := 15) (v := .agg #[.int .i64 x.nt, .int .i64 x.nr]) rfl (by kernel_rfl) (by kernel_rfl) (by kernel_rfl) (fun _ _ _ h => h) (Or.inl ⟨by kernel_rfl, fun W hSW => exec_load_part stT rfl rfl (HXO.out.kept hSW) [.int .i64 x.nt, .int .i64 x.nr] (by intro j v hv; match j, hv with | 0, hv => exact hv | 1, hv => exact hv) rfl⟩) hS ?_
              refine wpAnyH_take (i := 16) (v := ?_) rfl (by kernel_rfl) (by kernel_rfl) (by kernel_rfl) (fun _ _ _ h => h) (Or.inl ⟨by kernel_rfl, ?_⟩) hS ?_
              rotate_left
              · intro W hSW
                go_simp
                all_goals with_reducible rfl
              refine wpAnyH_take (i := 18) (v := ?_) rfl (by kernel_rfl) (by kernel_rfl) (by kernel_rfl) (fun _ _ _ h => h) (Or.inl ⟨by kernel_rfl, ?_⟩) hS ?_
              rotate_left
              · intro W hSW
                go_simp
                all_goals with_reducible rfl
              refine wpAnyH_take (i := 19) (v := ?_) rfl (by kernel_rfl) (by kernel_rfl) (by kernel_rfl) (fun _ _ _ h => h) (Or.inl ⟨by kernel_rfl, ?_⟩) hS ?_
              rotate_left
              · intro W hSW
                go_simp
                all_goals with_reducible rfl
              go_simp
              refine wpAnyH_take (i := 20) (v := .agg #[.int .i64 x.nt, .int .i64 x.nr]) rfl (by kernel_rfl) (by kernel_rfl) (by kernel_rfl) (fun _ _ _ h => h) (Or.inl ⟨by kernel_rfl, fun W hSW => exec_load_part stT rfl rfl (HXO.out.kept hSW) [.int .i64 x.nt, .int .i64 x.nr] (by intro j v hv; match j, hv with | 0, hv => exact hv | 1, hv => exact hv) rfl⟩) hS ?_
              refine wpAnyH_take (i := 21) (v := ?_) rfl (by kernel_rfl) (by kernel_rfl) (by kernel_rfl) (fun _ _ _ h => h) (Or.inl ⟨by kernel_rfl, ?_⟩) hS ?_
              rotate_left
              · intro W hSW
                go_simp
                all_goals with_reducible rfl
              go_simp
              refine wpAnyH_ready (rs := [17]) (by kernel_rfl) (by simp) ?_
              refine AllReadyH.cons rfl (fun K hK => ?_) AllReadyH.nil
              go_simp
              go_wp2_with ((go_at_call 16; refine (value_any (x.nt, x.nr) prop _ (HL.out.kept hS) HWQ.out).mono ?_; rw [HVP.out]; rintro e wn ⟨rfl, hbn⟩))
              refine hK.out _ _ (hS.trans (hbn.mono hS.size)) (fun hS => ?_)
              clear hK K hbn
              refine wpAnyH_ready (rs := [22]) (by kernel_rfl) (by simp) ?_
              refine AllReadyH.cons rfl (fun K hK => ?_) AllReadyH.nil
              go_simp
              go_wp2_with ((go_at_call 16; refine (value_any (x.nt, x.nr) prop _ (HWAS.out.kept hS) HWQ.out).mono ?_; rw [HWV.out]; rintro e wn ⟨rfl, hbn⟩))
              refine hK.out _ _ (hS.trans (hbn.mono hS.size)) (fun hS => ?_)
              clear hK K hbn
              refine wpAnyH_take (i := 23) (v := .bool false) rfl (by kernel_rfl) (by kernel_rfl) (by kernel_rfl) (fun _ _ _ h => h) (Or.inl ⟨by kernel_rfl, fun W hSW => (exec_neq_vl rfl (rw1, rw2, rw3) (rw1, rw2, rw3) rfl rfl).trans (by rw [decide_eq_true rfl]; rfl)⟩) hS ?_
              refine wpAnyH_take (i := 24) (v := ?_) rfl (by kernel_rfl) (by kernel_rfl) (by kernel_rfl) (fun _ _ _ h => h) (Or.inl ⟨by kernel_rfl, ?_⟩) hS ?_
              rotate_left
              · intro W hSW
                go_simp
                all_goals with_reducible rfl
              go_simp
              refine wpAnyH_done (by kernel_rfl) ?_ _
              go_simp
              replace HL := Lib.hid (HL.out.kept hS)
              replace HB := Lib.hid (HB.out.trans (hS.mono HB.out.size))
              clear hS HWAS HXO
              go_wp2_with fail
              refine (clone_any _ HL.out).mono ?_
              rintro e wc ⟨Q, N1, N2, N3, rfl, hlc, hbc, g0, g1, g2, g3⟩
              have HQ := Lib.hid hlc
              have HBQ := Lib.hid (show ∃ B, (M1 < B ∧ M2 < B ∧ M3 < B) ∧ (B ≤ Q ∧ B ≤ N1 ∧ B ≤ N2 ∧ B ≤ N3) from ⟨_, ⟨HL.out.v.lt, HL.out.m.lt, HL.out.o.lt⟩, g0, g1, g2, g3⟩)
              replace HL := Lib.hid (HL.out.kept hbc)
              replace HB := Lib.hid (HB.out.trans (hbc.mono HB.out.size))
              clear hlc hbc g0 g1 g2 g3
              go_wp2
              go_loopw [14] (fun i wr => ∃ k : Nat, k ≤ l.length ∧ i = .int .i64 (k : Int) ∧ Lay wr P M1 M2 M3 r2 ∧ Lay wr Q N1 N2 N3 r2 ∧ Below w.heap.size w wr) (fun i _ => l.length - (intOf i).toNat)
              case atStart => exact ⟨0, Nat.zero_le _, rfl, HL.out, HQ.out, HB.out⟩
              case round =>
                clear HL HQ HB
                obtain ⟨k, hk, rfl, hl3, hq3, hb3⟩ := hrel
                have HL := Lib.hid hl3
                have HQ := Lib.hid hq3
                have HB := Lib.hid hb3
                clear hl3 hq3 hb3
                by_cases hlt : k < l.length
                · have d0 : decide ((k : Int) < (l.length : Int)) = true := decide_eq_true (by omega)
                  obtain ⟨b, o, rfl, -⟩ := HR.out.rd.addr (by rw [wrK.length]; omega)
                  obtain ⟨e, he⟩ : ∃ e, l[k]? = some e := ⟨_, List.getElem?_eq_getElem hlt⟩
                  obtain ⟨⟨⟨s1, s2⟩, x⟩, q, c⟩ := e
                  have HE := Lib.hid he
                  have HPE := Lib.hid (HR.out.pa _ (List.mem_of_getElem? he))
                  have HS1 := Lib.hid (HSM.out _ (List.mem_of_getElem? he))
                  have HAG := Lib.hid (fun (h : s1 < 549755813888) => show Pm.doR r2 ⟨(s1, s2), x⟩ = r2 from by
                    rw [HR2.out]
                    exact Pm.again (List.mem_append_left _ (List.mem_filter.2 ⟨pl_mem he, decide_eq_true h⟩)))
                  have hrg := wrK.range (HR.out.rd.below HB.out) he
                  have y0 : wr.cell? ⟨b, o + k * 14, none⟩ = some (.int .i64 s1) := hrg 0 _ rfl
                  clear hrg he
                  by_cases hs : s1 < 549755813888
                  · have d1 : decide (s1 < 549755813888) = true := decide_eq_true hs
                    have HAG2 := Lib.hid (HAG.out hs)
                    clear HAG
                    go_upto_region 31 with fail
                    refine wp_region_held_drew (S := fun W => Below w.heap.size w W) (by kernel_rfl) (Below.drew HB.out) (fun hS => ?_)
                    refine wpAnyH_take (i := 0) (v := ?_) rfl (by kernel_rfl) (by kernel_rfl) (by kernel_rfl) (fun _ _ _ h => h) (Or.inl ⟨by kernel_rfl, ?_⟩) hS ?_
                    rotate_left
                    · intro W hSW
                      go_simp
                      all_goals with_reducible rfl
                    refine wpAnyH_take (i := 1) (v := ?_) rfl (by kernel_rfl) (by kernel_rfl) (by kernel_rfl) (fun _ _ _ h => h) (Or.inl ⟨by kernel_rfl, ?_⟩) hS ?_
                    rotate_left
                    · intro W hSW
                      go_simp
                      all_goals with_reducible rfl
                    refine wpAnyH_take (i := 2) (v := ?_) rfl (by kernel_rfl) (by kernel_rfl) (by kernel_rfl) (fun _ _ _ h => h) (Or.inl ⟨by kernel_rfl, ?_⟩) hS ?_
                    rotate_left
                    · intro W hSW
                      go_simp
                      all_goals with_reducible rfl
                    refine wpAnyH_take (i := 3) (v := ?_) rfl (by kernel_rfl) (by kernel_rfl) (by kernel_rfl) (fun _ _ _ h => h) (Or.inl ⟨by kernel_rfl, ?_⟩) hS ?_
                    rotate_left
                    · intro W hSW
                      go_simp
                      all_goals with_reducible rfl
                    go_simp
                    refine wpAnyH_take (i := 4) (v := ?_) rfl (by kernel_rfl) (by kernel_rfl) (by kernel_rfl) (fun _ _ _ h => h) (Or.inl ⟨by kernel_rfl, ?_⟩) hS ?_
                    rotate_left
                    · intro W hSW
                      go_simp
                      all_goals with_reducible rfl
                    go_simp
                    refine wpAnyH_take (i := 5) (v := .agg #[.int .i64 s1, .int .i64 s2]) rfl (by kernel_rfl) (by kernel_rfl) (by kernel_rfl) (fun _ _ _ h => h) (Or.inl ⟨by kernel_rfl, fun W hSW => exec_wr_st rfl rfl (HR.out.rd.below hSW) HE.out⟩) hS ?_
                    refine wpAnyH_take (i := 6) (v := ?_) rfl (by kernel_rfl) (by kernel_rfl) (by kernel_rfl) (fun _ _ _ h => h) (Or.inl ⟨by kernel_rfl, ?_⟩) hS ?_
                    rotate_left
                    · intro W hSW
                      go_simp
                      all_goals with_reducible rfl
                    refine wpAnyH_take (i := 7) (v := ?_) rfl (by kernel_rfl) (by kernel_rfl) (by kernel_rfl) (fun _ _ _ h => h) (Or.inl ⟨by kernel_rfl, ?_⟩) hS ?_
                    rotate_left
                    · intro W hSW
                      go_simp
                      all_goals with_reducible rfl
                    refine wpAnyH_take (i := 8) (v := ?_) rfl (by kernel_rfl) (by kernel_rfl) (by kernel_rfl) (fun _ _ _ h => h) (Or.inl ⟨by kernel_rfl, ?_⟩) hS ?_
                    rotate_left
                    · intro W hSW
                      go_simp
                      all_goals with_reducible rfl
                    go_simp
                    refine wpAnyH_take (i := 9) (v := ?_) rfl (by kernel_rfl) (by kernel_rfl) (by kernel_rfl) (fun _ _ _ h => h) (Or.inl ⟨by kernel_rfl, ?_⟩) hS ?_
                    rotate_left
                    · intro W hSW
                      go_simp
                      all_goals with_reducible rfl
                    go_simp
                    refine wpAnyH_take (i := 10) (v := .agg (opA x q c)) rfl (by kernel_rfl) (by kernel_rfl) (by kernel_rfl) (fun _ _ _ h => h) (Or.inl ⟨by kernel_rfl, fun W hSW => exec_wr_op rfl rfl (HR.out.rd.below hSW) HE.out⟩) hS ?_
                    go_simp
                    refine wpAnyH_ready (rs := [11]) (by kernel_rfl) (by simp) ?_
                    refine AllReadyH.cons rfl (fun K hK => ?_) AllReadyH.nil
                    go_simp
                    go_wp2_with ((go_at_call 10; refine (ownN_any x q c _ (HPE.out.kept hS) (by have := HS1.out.1; omega)).mono ?_; rintro e wn ⟨q2, c2, rfl, hpa, hbn, -⟩))
                    have HBN := Lib.hid hbn
                    have HL2 := Lib.hid ((HL.out.kept (Below.drew (Below.refl _ _))).kept hbn)
                    refine hK.out _ _ (hS.trans (hbn.mono hS.size)) (fun hS => ?_)
                    clear hK K hbn
                    refine wpAnyH_ready (rs := [12]) (by kernel_rfl) (by simp) ?_
                    refine AllReadyH.cons rfl (fun K hK => ?_) AllReadyH.nil
                    go_simp
                    go_wp2_with ((go_at_call 12; refine (do_any (s1, s2) x q2 c2 _ HL2.out HS1.out.sz hpa).mono ?_; rintro e wm ⟨rfl, hlm, htm⟩))
                    replace hS := turns3_below htm ⟨HGE.out.2.1, HGE.out.2.2.1, HGE.out.2.2.2⟩ hS
                    have HLM := Lib.hid hlm
                    have HTM := Lib.hid (show Turns (fun k => k = M1 ∨ k = M2 ∨ k = M3) wr wm from (Turns.of_below (Below.drew (Below.refl _ _))).trans ((Turns.call (Turns.refl _ _) HBN.out).trans (htm.mono fun _ _ h => Or.inl h) |>.mono fun _ _ h => Or.inl h))
                    refine hK.out _ _ hS (fun hS => ?_)
                    clear hK K hpa hlm htm
                    refine wpAnyH_done (by kernel_rfl) ?_ _
                    go_simp
                    rw [HAG2.out] at HLM
                    obtain ⟨B, hB1, hB2⟩ := HBQ.out
                    have HQM := Lib.hid (HQ.out.above HTM.out hB1 hB2)
                    have HBM := Lib.hid hS
                    clear hS HL HL2 HBN
                    go_wp2
                    go_roundw
                    case rel => exact ⟨k + 1, by omega, by go_num, HLM.out, HQM.out, HBM.out⟩
                    case measure => simp [intOf]; omega
                  · have d1 : decide (s1 < 549755813888) = false := decide_eq_false hs
                    clear HAG
                    go_wp2
                    go_roundw
                    case rel => exact ⟨k + 1, by omega, by go_num, HL.out, HQ.out, HB.out⟩
                    case measure => simp [intOf]; omega
                · obtain rfl : k = l.length := by omega
                  have d0 : decide ((l.length : Int) < (l.length : Int)) = false := decide_eq_false (by omega)
                  go_wp2_with fail
                  refine (same_any _ HL.out HQ.out).mono ?_
                  rintro e wz ⟨bb, rfl, hbb, hbz⟩
                  obtain rfl : bb = true := hbb.2 (Pm.Same.refl _)
                  replace HB := Lib.hid (HB.out.trans (hbz.mono HB.out.size))
                  clear hbb hbz
                  go_wp2
                  go_ret
                  exact ⟨rfl, HB.out⟩
          · have HZN := Lib.hid (show Pm.doR (Pm.allR (Pm.lows (pl l))) ⟨(1099511627776, 0), x⟩ = Pm.allR (Pm.lows (pl l)) from Pm.doR_bad hz)
            rw [HZN.out] at HL
            clear HZN
            have hz1 : (Pm.doE ⟨(1099511627776, 0), x⟩ == 0) = false := by simpa using hz
            generalize Pm.doE ⟨(1099511627776, 0), x⟩ = de at *
            go_wp2_with fail
            refine (same_any _ HL.out HWAS.out).mono ?_
            rintro e wz ⟨bb, rfl, hbb, hbz⟩
            obtain rfl : bb = true := hbb.2 (Pm.Same.refl _)
            replace HB := Lib.hid (HB.out.trans (hbz.mono HB.out.size))
            clear hbb hbz
            go_wp2
            go_ret
            exact ⟨rfl, HB.out⟩
end Go.Proofs.Ytcenmkcencdlcaa
