/-
  THE DOCUMENT's Same.
  No conditions but sizes.
-/
import Derived.Test.YtcenmkcencdlcaaPrRLook
namespace Go.Proofs.Ytcenmkcencdlcaa
open Go.RowKit

set_option maxRecDepth 100000 in
set_option maxHeartbeats 16000000 in
theorem rsame2_any {R1 R2 : Nat} {La Lb : List WrE} {pa pb : Option Addr} {ca cb Ba Bb : Nat} {Fa Fb : Nat → Prop} (w : World) (ha : RefL w R1 La pa ca Ba Fa) (hb : RefL w R2 Lb pb cb Bb Fb) (hza : LSz La) (hzb : LSz Lb) :
    Calls Try.prog 23 #[.pointer (some ⟨R1, 0, none⟩), .pointer (some ⟨R2, 0, none⟩)] w fun e w' => ∃ b, e = .returned (.bool b) ∧ (b = true ↔ Pm.SameL (pl La) (pl Lb)) ∧ Below w.heap.size w w' := by
  have HA := Lib.hid ha
  have HBB := Lib.hid hb
  have HZA := Lib.hid hza
  have HZB := Lib.hid hzb
  have hla := hza.len
  have hlb := hzb.len
  have hbo := run_build_op0
  clear ha hb hza hzb
  go_enter Try.func23, Try.ntmps23
  go_wp2
  go_loopw [5] (fun i wr => ∃ k : Nat, k ≤ La.length + Lb.length ∧ i = .int .i64 (k : Int) ∧ (∀ j w, j < k → (pl La ++ pl Lb)[j]? = some w → Pm.val (Pm.lastR (pl La) w.x).2 = Pm.val (Pm.lastR (pl Lb) w.x).2 ∧ (Pm.lastR (pl La) w.x).2.on = (Pm.lastR (pl Lb) w.x).2.on) ∧ Below w.heap.size w wr) (fun i _ => La.length + Lb.length - (intOf i).toNat)
  case atStart => exact ⟨0, Nat.zero_le _, rfl, fun j w h => by omega, Below.refl _ _⟩
  case round =>
    obtain ⟨k, hk, rfl, heq, hbw⟩ := hrel
    have HEQ := Lib.hid heq
    have HB := Lib.hid hbw
    clear heq hbw
    have HW := Lib.hid (show IntKind.i64.wrap ((La.length : Int) + (Lb.length : Int)) = (La.length : Int) + (Lb.length : Int) from wraps_i64 _ (by omega) (by omega))
    by_cases hlt : k < La.length + Lb.length
    · have HD := Lib.hid (show decide ((k : Int) < (La.length : Int) + (Lb.length : Int)) = true from decide_eq_true (by omega))
      go_upto_region 2 with fail
      refine wp_region_held_drew (S := fun W => Below wr.heap.size wr W) (by kernel_rfl) (Below.drew (Below.refl _ _)) (fun hS => ?_)
      refine wpAnyH_take (i := 0) (v := ?_) rfl (by kernel_rfl) (by kernel_rfl) (by kernel_rfl) (fun _ _ _ h => h) (Or.inl ⟨by kernel_rfl, ?_⟩) hS ?_
      rotate_left
      · intro W hSW
        go_simp
        all_goals with_reducible rfl
      refine wpAnyH_take (i := 1) (v := ?_) rfl (by kernel_rfl) (by kernel_rfl) (by kernel_rfl) (fun _ _ _ h => h) (Or.inl ⟨by kernel_rfl, ?_⟩) hS ?_
      rotate_left
      · intro W hSW
        go_simp
        all_goals with_reducible rfl
      refine wpAnyH_take (i := 2) (v := ?_) rfl (by kernel_rfl) (by kernel_rfl) (by kernel_rfl) (fun _ _ _ h => h) (Or.inl ⟨by kernel_rfl, ?_⟩) hS ?_
      rotate_left
      · intro W hSW
        go_simp
        all_goals with_reducible rfl
      refine wpAnyH_take (i := 3) (v := ?_) rfl (by kernel_rfl) (by kernel_rfl) (by kernel_rfl) (fun _ _ _ h => h) (Or.inl ⟨by kernel_rfl, ?_⟩) hS ?_
      rotate_left
      · intro W hSW
        go_simp
        all_goals with_reducible rfl
      go_simp
      refine wpAnyH_take (i := 4) (v := ?_) rfl (by kernel_rfl) (by kernel_rfl) (by kernel_rfl) (fun _ _ _ h => h) (Or.inl ⟨by kernel_rfl, ?_⟩) hS ?_
      rotate_left
      · intro W hSW
        have y0 := (HA.out.kept (HB.out.trans (hSW.mono HB.out.size))).c0
        go_simp
        all_goals with_reducible rfl
      refine wpAnyH_take (i := 5) (v := ?_) rfl (by kernel_rfl) (by kernel_rfl) (by kernel_rfl) (fun _ _ _ h => h) (Or.inl ⟨by kernel_rfl, ?_⟩) hS ?_
      rotate_left
      · intro W hSW
        go_simp
        all_goals with_reducible rfl
      refine wpAnyH_take (i := 6) (v := ?_) rfl (by kernel_rfl) (by kernel_rfl) (by kernel_rfl) (fun _ _ _ h => h) (Or.inl ⟨by kernel_rfl, ?_⟩) hS ?_
      rotate_left
      · intro W hSW
        go_simp
        all_goals with_reducible rfl
      refine wpAnyH_take (i := 7) (v := ?_) rfl (by kernel_rfl) (by kernel_rfl) (by kernel_rfl) (fun _ _ _ h => h) (Or.inl ⟨by kernel_rfl, ?_⟩) hS ?_
      rotate_left
      · intro W hSW
        go_simp
        all_goals with_reducible rfl
      go_simp
      refine wpAnyH_take (i := 8) (v := ?_) rfl (by kernel_rfl) (by kernel_rfl) (by kernel_rfl) (fun _ _ _ h => h) (Or.inl ⟨by kernel_rfl, ?_⟩) hS ?_
      rotate_left
      · intro W hSW
        go_simp
        all_goals with_reducible rfl
      refine wpAnyH_take (i := 9) (v := ?_) rfl (by kernel_rfl) (by kernel_rfl) (by kernel_rfl) (fun _ _ _ h => h) (Or.inl ⟨by kernel_rfl, ?_⟩) hS ?_
      rotate_left
      · intro W hSW
        have y0 := (HBB.out.kept (HB.out.trans (hSW.mono HB.out.size))).c0
        go_simp
        all_goals with_reducible rfl
      refine wpAnyH_take (i := 10) (v := ?_) rfl (by kernel_rfl) (by kernel_rfl) (by kernel_rfl) (fun _ _ _ h => h) (Or.inl ⟨by kernel_rfl, ?_⟩) hS ?_
      rotate_left
      · intro W hSW
        go_simp
        all_goals with_reducible rfl
      refine wpAnyH_take (i := 11) (v := ?_) rfl (by kernel_rfl) (by kernel_rfl) (by kernel_rfl) (fun _ _ _ h => h) (Or.inl ⟨by kernel_rfl, ?_⟩) hS ?_
      rotate_left
      · intro W hSW
        have hw := HW.out
        go_simp
        all_goals with_reducible rfl
      go_simp
      refine wpAnyH_take (i := 12) (v := ?_) rfl (by kernel_rfl) (by kernel_rfl) (by kernel_rfl) (fun _ _ _ h => h) (Or.inl ⟨by kernel_rfl, ?_⟩) hS ?_
      rotate_left
      · intro W hSW
        have hd := HD.out
        go_simp
        all_goals with_reducible rfl
      go_simp
      refine wpAnyH_done (by kernel_rfl) ?_ _
      go_simp
      have HBd := Lib.hid (HB.out.trans (hS.mono HB.out.size))
      clear hS HD HW
      generalize wr.drew = wd at *
      obtain ⟨wdS, hwdS⟩ : ∃ n, n = wd.heap.size := ⟨_, rfl⟩
      have HZ6 := Lib.hid (AgAt.new wd (opA Opp.zero none 0) 38)
      have HBz := Lib.hid (HBd.out.alloc HBd.out.size (.cells (opA Opp.zero none 0) 38))
      go_upto_region 5 with (refine wpList_store_ag opT12 rfl _ _ rfl _ rfl _ HZ6.out rfl rfl rfl (opA_one Opp.zero none 0) ?_; intro wa hva hka hsa hba)
      have HX6 := Lib.hid hva
      have HBa := Lib.hid (hba _ _ HBz.out HBd.out.size)
      have HWD := Lib.hid (show w.heap.size ≤ wd.heap.size from HBd.out.size)
      rw [← hwdS] at HX6 HWD
      simp only [← hwdS]
      clear hva hka hsa hba HZ6 HBz HBd hwdS
      have y0 := (HA.out.kept HBa.out).c0
      by_cases hka : k < La.length
      · have d0 : decide ((k : Int) < (La.length : Int)) = true := decide_eq_true (by omega)
        obtain ⟨b, o, hp, -⟩ := HA.out.rd.addr (by rw [wrK.length]; omega)
        subst hp
        obtain ⟨e, he⟩ : ∃ e, La[k]? = some e := ⟨_, List.getElem?_eq_getElem hka⟩
        have HPY0 := Lib.hid (HA.out.pa e (List.mem_of_getElem? he))
        have HEK := Lib.hid (show (pl La ++ pl Lb)[k]? = some e.w from by
          rw [List.getElem?_append_left (by unfold pl; rw [List.length_map]; exact hka)]
          unfold pl
          rw [List.getElem?_map, he]
          rfl)
        obtain ⟨⟨⟨s1, s2⟩, y⟩, qy, cy⟩ := e
        have HE := Lib.hid he
        have HPY := Lib.hid (show Pa w y qy cy from HPY0.out)
        have HRDA := Lib.hid (HA.out.kept HBa.out).rd
        clear he HPY0
        go_upto_region 8 with (first | (refine wpList_exec rfl (exec_wr_op rfl rfl HRDA.out HE.out) ?_) | (refine wpList_store_ag opT12 rfl _ _ rfl _ rfl _ HX6.out rfl rfl rfl (opA_one y qy cy) ?_; intro wb hvb hkb hsb hbb))
        have HXY := Lib.hid hvb
        have HBb := Lib.hid (hbb _ _ HBa.out HWD.out)
        clear hvb hkb hsb hbb y0 HRDA
        go_wp2_with (refine wpList_load_ag opT12 rfl _ rfl _ rfl rfl HXY.out ?_)
        refine (last12_any y qy cy wb (HA.out.kept HBb.out) (HPY.out.kept HBb.out) HZA.out.len HZA.out.each).mono ?_
        rintro e w5 ⟨qa, ca, rfl, hb5⟩
        have HB5 := Lib.hid (HBb.out.trans (hb5.mono HBb.out.size))
        have HX5 := Lib.hid (HXY.out.kept hb5)
        have HA7 := Lib.hid (AgAt.new w5 (opA Opp.zero none 0) 38)
        have HBA7 := Lib.hid (HB5.out.alloc HB5.out.size (.cells (opA Opp.zero none 0) 38))
        have HX57 := Lib.hid (HX5.out.kept ((Below.refl _ _).alloc (Nat.le_refl _) (.cells (opA Opp.zero none 0) 38)))
        have HLT5 := Lib.hid (show wdS < w5.heap.size from HX5.out.lt)
        clear hb5
        go_upto_region 9 with (refine wpList_store_ag opT12 rfl _ _ rfl _ rfl _ HA7.out rfl rfl rfl (opA_one _ qa ca) ?_; intro w6 hv6 hk6 hs6 hb6)
        have HP7 := Lib.hid hv6
        have HX6b := Lib.hid (HX57.out.block (hk6 _ (by have := HLT5.out; omega)))
        have HB6 := Lib.hid (hb6 _ _ HBA7.out HB5.out.size)
        clear hv6 hk6 hs6 hb6 HA7 HBA7 HX57 HX5
        go_wp2_with (refine wpList_load_ag opT12 rfl _ rfl _ rfl rfl HX6b.out ?_)
        refine (last12_any y qy cy w6 (HBB.out.kept HB6.out) (HPY.out.kept HB6.out) HZB.out.len HZB.out.each).mono ?_
        rintro e w7 ⟨qb, cb, rfl, hb7⟩
        have HB7 := Lib.hid (HB6.out.trans (hb7.mono HB6.out.size))
        have HP77 := Lib.hid (HP7.out.kept hb7)
        have HA8 := Lib.hid (AgAt.new w7 (opA Opp.zero none 0) 38)
        have HBA8 := Lib.hid (HB7.out.alloc HB7.out.size (.cells (opA Opp.zero none 0) 38))
        have HP78 := Lib.hid (HP77.out.kept ((Below.refl _ _).alloc (Nat.le_refl _) (.cells (opA Opp.zero none 0) 38)))
        have HLT7 := Lib.hid (show w5.heap.size < w7.heap.size from HP77.out.lt)
        clear hb7
        go_upto_region 10 with (refine wpList_store_ag opT12 rfl _ _ rfl _ rfl _ HA8.out rfl rfl rfl (opA_one _ qb cb) ?_; intro w9 hv9 hk9 hs9 hb9)
        have HP8 := Lib.hid hv9
        have HP79 := Lib.hid (HP78.out.block (hk9 _ (by have := HLT7.out; omega)))
        have HB9 := Lib.hid (hb9 _ _ HBA8.out HB7.out.size)
        clear hv9 hk9 hs9 hb9 HA8 HBA8 HP78 HP77 HX6b
        have y11 : w9.cell? ⟨w5.heap.size, 11, none⟩ = some (.bool (Pm.lastR (pl La) y).2.on) := HP79.out.cell 11
        have z11 : w9.cell? ⟨w7.heap.size, 11, none⟩ = some (.bool (Pm.lastR (pl Lb) y).2.on) := HP8.out.cell 11
        by_cases hv : Pm.val (Pm.lastR (pl La) y).2 = Pm.val (Pm.lastR (pl Lb) y).2
        · have HVE := Lib.hid (show (!decide (Pm.val (Pm.lastR (pl La) y).2 = Pm.val (Pm.lastR (pl Lb) y).2)) = false from by rw [decide_eq_true hv]; rfl)
          by_cases ho : (Pm.lastR (pl La) y).2.on = (Pm.lastR (pl Lb) y).2.on
          · have HEV := Lib.hid (show ∀ j w, j < k + 1 → (pl La ++ pl Lb)[j]? = some w → Pm.val (Pm.lastR (pl La) w.x).2 = Pm.val (Pm.lastR (pl Lb) w.x).2 ∧ (Pm.lastR (pl La) w.x).2.on = (Pm.lastR (pl Lb) w.x).2.on from fun j w hj hw => by
              by_cases e : j = k
              · subst e
                rw [HEK.out] at hw
                cases hw
                exact ⟨hv, ho⟩
              · exact HEQ.out j w (by omega) hw)
            have hoe : ((Pm.lastR (pl La) y).2.on == (Pm.lastR (pl Lb) y).2.on) = true := by simpa using ho
            rw [ho] at y11
            clear hv ho hoe
            go_wp2_with (first | (refine wpList_load_in vA rfl _ rfl _ 8 rfl HP79.out [.int .i64 (Pm.lastR (pl La) y).2.vk, .int .i64 (Pm.lastR (pl La) y).2.vn, .string (Pm.lastR (pl La) y).2.vt] (by intro j v hv; match j, hv with | 0, hv => exact hv | 1, hv => exact hv | 2, hv => exact hv) rfl ?_) | (refine wpList_load_in vA rfl _ rfl _ 8 rfl HP8.out [.int .i64 (Pm.lastR (pl Lb) y).2.vk, .int .i64 (Pm.lastR (pl Lb) y).2.vn, .string (Pm.lastR (pl Lb) y).2.vt] (by intro j v hv; match j, hv with | 0, hv => exact hv | 1, hv => exact hv | 2, hv => exact hv) rfl ?_) | (refine wpList_exec rfl ((exec_neq_vl rfl (Pm.val (Pm.lastR (pl La) y).2) (Pm.val (Pm.lastR (pl Lb) y).2) rfl rfl).trans (by rw [HVE.out])) ?_))
            go_roundw
            case rel => exact ⟨k + 1, by omega, by go_num, HEV.out, HB9.out⟩
            case measure => simp [intOf]; omega
          · have HM := Lib.hid (List.mem_of_getElem? HEK.out)
            have HNE := Lib.hid (show ¬ (Pm.val (Pm.lastR (pl La) y).2 = Pm.val (Pm.lastR (pl Lb) y).2 ∧ (Pm.lastR (pl La) y).2.on = (Pm.lastR (pl Lb) y).2.on) from fun h => ho h.2)
            have hoe : ((Pm.lastR (pl La) y).2.on == (Pm.lastR (pl Lb) y).2.on) = false := by simpa using ho
            clear hv ho
            go_wp2_with (first | (refine wpList_load_in vA rfl _ rfl _ 8 rfl HP79.out [.int .i64 (Pm.lastR (pl La) y).2.vk, .int .i64 (Pm.lastR (pl La) y).2.vn, .string (Pm.lastR (pl La) y).2.vt] (by intro j v hv; match j, hv with | 0, hv => exact hv | 1, hv => exact hv | 2, hv => exact hv) rfl ?_) | (refine wpList_load_in vA rfl _ rfl _ 8 rfl HP8.out [.int .i64 (Pm.lastR (pl Lb) y).2.vk, .int .i64 (Pm.lastR (pl Lb) y).2.vn, .string (Pm.lastR (pl Lb) y).2.vt] (by intro j v hv; match j, hv with | 0, hv => exact hv | 1, hv => exact hv | 2, hv => exact hv) rfl ?_) | (refine wpList_exec rfl ((exec_neq_vl rfl (Pm.val (Pm.lastR (pl La) y).2) (Pm.val (Pm.lastR (pl Lb) y).2) rfl rfl).trans (by rw [HVE.out])) ?_))
            go_ret
            exact ⟨false, rfl, ⟨fun h => (by cases h), fun h => absurd (h _ HM.out) HNE.out⟩, HB9.out⟩
        · have HVE := Lib.hid (show (!decide (Pm.val (Pm.lastR (pl La) y).2 = Pm.val (Pm.lastR (pl Lb) y).2)) = true from by rw [decide_eq_false hv]; rfl)
          have HM := Lib.hid (List.mem_of_getElem? HEK.out)
          have HNE := Lib.hid (show ¬ (Pm.val (Pm.lastR (pl La) y).2 = Pm.val (Pm.lastR (pl Lb) y).2 ∧ (Pm.lastR (pl La) y).2.on = (Pm.lastR (pl Lb) y).2.on) from fun h => hv h.1)
          clear hv
          go_wp2_with (first | (refine wpList_load_in vA rfl _ rfl _ 8 rfl HP79.out [.int .i64 (Pm.lastR (pl La) y).2.vk, .int .i64 (Pm.lastR (pl La) y).2.vn, .string (Pm.lastR (pl La) y).2.vt] (by intro j v hv; match j, hv with | 0, hv => exact hv | 1, hv => exact hv | 2, hv => exact hv) rfl ?_) | (refine wpList_load_in vA rfl _ rfl _ 8 rfl HP8.out [.int .i64 (Pm.lastR (pl Lb) y).2.vk, .int .i64 (Pm.lastR (pl Lb) y).2.vn, .string (Pm.lastR (pl Lb) y).2.vt] (by intro j v hv; match j, hv with | 0, hv => exact hv | 1, hv => exact hv | 2, hv => exact hv) rfl ?_) | (refine wpList_exec rfl ((exec_neq_vl rfl (Pm.val (Pm.lastR (pl La) y).2) (Pm.val (Pm.lastR (pl Lb) y).2) rfl rfl).trans (by rw [HVE.out])) ?_))
          go_ret
          exact ⟨false, rfl, ⟨fun h => (by cases h), fun h => absurd (h _ HM.out) HNE.out⟩, HB9.out⟩
      · have d0 : decide ((k : Int) < (La.length : Int)) = false := decide_eq_false (by omega)
        have hkb0 : k - La.length < Lb.length := by omega
        obtain ⟨j, hj⟩ : ∃ j, j = k - La.length := ⟨_, rfl⟩
        have HJ := Lib.hid (show (k : Int) - (La.length : Int) = (j : Int) from by omega)
        have HJ1 := Lib.hid (show j < Lb.length from by omega)
        have HW2 := Lib.hid (show IntKind.i64.wrap ((k : Int) - (La.length : Int)) = (j : Int) from by rw [HJ.out]; exact wraps_i64 _ (by omega) (by omega))
        have HW3 := Lib.hid (show IntKind.i64.wrap (j : Int) = (j : Int) from wraps_i64 _ (by omega) (by omega))
        obtain ⟨b, o, hp, -⟩ := HBB.out.rd.addr (by rw [wrK.length]; omega)
        subst hp
        obtain ⟨e, he⟩ : ∃ e, Lb[j]? = some e := ⟨_, List.getElem?_eq_getElem HJ1.out⟩
        have HPY0 := Lib.hid (HBB.out.pa e (List.mem_of_getElem? he))
        have HEK := Lib.hid (show (pl La ++ pl Lb)[k]? = some e.w from by
          rw [List.getElem?_append_right (by unfold pl; rw [List.length_map]; omega)]
          unfold pl
          rw [List.length_map, List.getElem?_map, ← hj, he]
          rfl)
        obtain ⟨⟨⟨s1, s2⟩, y⟩, qy, cy⟩ := e
        have HE := Lib.hid he
        have HPY := Lib.hid (show Pa w y qy cy from HPY0.out)
        clear he HPY0 hkb0 hj
        go_upto_region 7 with fail
        refine wp_region_held_drew (S := fun W => Turns (fun k => k = wdS) wa W) (by kernel_rfl) (Turns.of_below (Below.drew (Below.refl _ _))) (fun hS => ?_)
        refine wpAnyH_take (i := 0) (v := ?_) rfl (by kernel_rfl) (by kernel_rfl) (by kernel_rfl) (fun _ _ _ h => h) (Or.inl ⟨by kernel_rfl, ?_⟩) hS ?_
        rotate_left
        · intro W hSW
          go_simp
          all_goals with_reducible rfl
        refine wpAnyH_take (i := 1) (v := ?_) rfl (by kernel_rfl) (by kernel_rfl) (by kernel_rfl) (fun _ _ _ h => h) (Or.inl ⟨by kernel_rfl, ?_⟩) hS ?_
        rotate_left
        · intro W hSW
          go_simp
          all_goals with_reducible rfl
        refine wpAnyH_take (i := 2) (v := ?_) rfl (by kernel_rfl) (by kernel_rfl) (by kernel_rfl) (fun _ _ _ h => h) (Or.inl ⟨by kernel_rfl, ?_⟩) hS ?_
        rotate_left
        · intro W hSW
          go_simp
          all_goals with_reducible rfl
        refine wpAnyH_take (i := 3) (v := ?_) rfl (by kernel_rfl) (by kernel_rfl) (by kernel_rfl) (fun _ _ _ h => h) (Or.inl ⟨by kernel_rfl, ?_⟩) hS ?_
        rotate_left
        · intro W hSW
          have y0 := (HBB.out.kept HBa.out |>.turns hSW (fun k hk hh => by have := HBB.out.lt k hk; have := HWD.out; omega)).c0
          go_simp
          all_goals with_reducible rfl
        go_simp
        refine wpAnyH_take (i := 4) (v := ?_) rfl (by kernel_rfl) (by kernel_rfl) (by kernel_rfl) (fun _ _ _ h => h) (Or.inl ⟨by kernel_rfl, ?_⟩) hS ?_
        rotate_left
        · intro W hSW
          go_simp
          all_goals with_reducible rfl
        refine wpAnyH_take (i := 5) (v := ?_) rfl (by kernel_rfl) (by kernel_rfl) (by kernel_rfl) (fun _ _ _ h => h) (Or.inl ⟨by kernel_rfl, ?_⟩) hS ?_
        rotate_left
        · intro W hSW
          go_simp
          all_goals with_reducible rfl
        refine wpAnyH_take (i := 6) (v := ?_) rfl (by kernel_rfl) (by kernel_rfl) (by kernel_rfl) (fun _ _ _ h => h) (Or.inl ⟨by kernel_rfl, ?_⟩) hS ?_
        rotate_left
        · intro W hSW
          go_simp
          all_goals with_reducible rfl
        refine wpAnyH_take (i := 7) (v := ?_) rfl (by kernel_rfl) (by kernel_rfl) (by kernel_rfl) (fun _ _ _ h => h) (Or.inl ⟨by kernel_rfl, ?_⟩) hS ?_
        rotate_left
        · intro W hSW
          go_simp
          all_goals with_reducible rfl
        go_simp
        refine wpAnyH_take (i := 8) (v := ?_) rfl (by kernel_rfl) (by kernel_rfl) (by kernel_rfl) (fun _ _ _ h => h) (Or.inl ⟨by kernel_rfl, ?_⟩) hS ?_
        rotate_left
        · intro W hSW
          have y0 := (HA.out.kept HBa.out |>.turns hSW (fun k hk hh => by have := HA.out.lt k hk; have := HWD.out; omega)).c0
          go_simp
          all_goals with_reducible rfl
        refine wpAnyH_take (i := 9) (v := ?_) rfl (by kernel_rfl) (by kernel_rfl) (by kernel_rfl) (fun _ _ _ h => h) (Or.inl ⟨by kernel_rfl, ?_⟩) hS ?_
        rotate_left
        · intro W hSW
          go_simp
          all_goals with_reducible rfl
        refine wpAnyH_take (i := 10) (v := ?_) rfl (by kernel_rfl) (by kernel_rfl) (by kernel_rfl) (fun _ _ _ h => h) (Or.inl ⟨by kernel_rfl, ?_⟩) hS ?_
        rotate_left
        · intro W hSW
          have hw := HW2.out
          have hj := HJ.out
          have hw3 := HW3.out
          go_simp
          all_goals with_reducible rfl
        refine wpAnyH_take (i := 11) (v := ?_) rfl (by kernel_rfl) (by kernel_rfl) (by kernel_rfl) (fun _ _ _ h => h) (Or.inl ⟨by kernel_rfl, ?_⟩) hS ?_
        rotate_left
        · intro W hSW
          have hj1 := HJ1.out
          go_simp
          all_goals with_reducible rfl
        go_simp
        refine wpAnyH_take (i := 12) (v := ?_) rfl (by kernel_rfl) (by kernel_rfl) (by kernel_rfl) (fun _ _ _ h => h) (Or.inl ⟨by kernel_rfl, ?_⟩) hS ?_
        rotate_left
        · intro W hSW
          go_simp
          all_goals with_reducible rfl
        go_simp
        refine wpAnyH_take (i := 13) (v := .agg (opA y qy cy)) rfl (by kernel_rfl) (by kernel_rfl) (by kernel_rfl) (fun _ _ _ h => h) (Or.inl ⟨by kernel_rfl, fun W hSW => exec_wr_op rfl rfl (HBB.out.kept HBa.out |>.turns hSW (fun k hk hh => by have := HBB.out.lt k hk; have := HWD.out; omega)).rd HE.out⟩) hS ?_
        go_simp
        refine wpAnyH_ready (rs := [14]) (by kernel_rfl) (by simp) ?_
        refine AllReadyH.cons rfl (fun K hK => ?_) AllReadyH.nil
        have HX7 := Lib.hid (HX6.out.kept (Below.drew (Below.refl _ _)))
        refine step_of (by kernel_rfl) ?_
        refine wp_store_ag opT12 _ _ rfl wdS rfl _ HX7.out rfl rfl rfl (opA_one y qy cy) ?_
        intro wb hvb hkb hsb hbb
        have HXY := Lib.hid hvb
        have HBb := Lib.hid (hbb _ _ (HBa.out.trans ((Below.drew (Below.refl _ _)).mono HBa.out.size)) (by have := HWD.out; omega))
        refine hK.out _ _ (hS.trans ((stored_turns hkb hsb hbb).mono fun _ _ h => Or.inl h)) (fun hS => ?_)
        clear hK K hvb hkb hsb hbb
        refine wpAnyH_done (by kernel_rfl) ?_ _
        go_simp
        clear hS
        go_wp2_with (refine wpList_load_ag opT12 rfl _ rfl _ rfl rfl HXY.out ?_)
        refine (last12_any y qy cy wb (HA.out.kept HBb.out) (HPY.out.kept HBb.out) HZA.out.len HZA.out.each).mono ?_
        rintro e w5 ⟨qa, ca, rfl, hb5⟩
        have HB5 := Lib.hid (HBb.out.trans (hb5.mono HBb.out.size))
        have HX5 := Lib.hid (HXY.out.kept hb5)
        have HA7 := Lib.hid (AgAt.new w5 (opA Opp.zero none 0) 38)
        have HBA7 := Lib.hid (HB5.out.alloc HB5.out.size (.cells (opA Opp.zero none 0) 38))
        have HX57 := Lib.hid (HX5.out.kept ((Below.refl _ _).alloc (Nat.le_refl _) (.cells (opA Opp.zero none 0) 38)))
        have HLT5 := Lib.hid (show wdS < w5.heap.size from HX5.out.lt)
        clear hb5
        go_upto_region 9 with (refine wpList_store_ag opT12 rfl _ _ rfl _ rfl _ HA7.out rfl rfl rfl (opA_one _ qa ca) ?_; intro w6 hv6 hk6 hs6 hb6)
        have HP7 := Lib.hid hv6
        have HX6b := Lib.hid (HX57.out.block (hk6 _ (by have := HLT5.out; omega)))
        have HB6 := Lib.hid (hb6 _ _ HBA7.out HB5.out.size)
        clear hv6 hk6 hs6 hb6 HA7 HBA7 HX57 HX5
        go_wp2_with (refine wpList_load_ag opT12 rfl _ rfl _ rfl rfl HX6b.out ?_)
        refine (last12_any y qy cy w6 (HBB.out.kept HB6.out) (HPY.out.kept HB6.out) HZB.out.len HZB.out.each).mono ?_
        rintro e w7 ⟨qb, cb, rfl, hb7⟩
        have HB7 := Lib.hid (HB6.out.trans (hb7.mono HB6.out.size))
        have HP77 := Lib.hid (HP7.out.kept hb7)
        have HA8 := Lib.hid (AgAt.new w7 (opA Opp.zero none 0) 38)
        have HBA8 := Lib.hid (HB7.out.alloc HB7.out.size (.cells (opA Opp.zero none 0) 38))
        have HP78 := Lib.hid (HP77.out.kept ((Below.refl _ _).alloc (Nat.le_refl _) (.cells (opA Opp.zero none 0) 38)))
        have HLT7 := Lib.hid (show w5.heap.size < w7.heap.size from HP77.out.lt)
        clear hb7
        go_upto_region 10 with (refine wpList_store_ag opT12 rfl _ _ rfl _ rfl _ HA8.out rfl rfl rfl (opA_one _ qb cb) ?_; intro w9 hv9 hk9 hs9 hb9)
        have HP8 := Lib.hid hv9
        have HP79 := Lib.hid (HP78.out.block (hk9 _ (by have := HLT7.out; omega)))
        have HB9 := Lib.hid (hb9 _ _ HBA8.out HB7.out.size)
        clear hv9 hk9 hs9 hb9 HA8 HBA8 HP78 HP77 HX6b
        have y11 : w9.cell? ⟨w5.heap.size, 11, none⟩ = some (.bool (Pm.lastR (pl La) y).2.on) := HP79.out.cell 11
        have z11 : w9.cell? ⟨w7.heap.size, 11, none⟩ = some (.bool (Pm.lastR (pl Lb) y).2.on) := HP8.out.cell 11
        by_cases hv : Pm.val (Pm.lastR (pl La) y).2 = Pm.val (Pm.lastR (pl Lb) y).2
        · have HVE := Lib.hid (show (!decide (Pm.val (Pm.lastR (pl La) y).2 = Pm.val (Pm.lastR (pl Lb) y).2)) = false from by rw [decide_eq_true hv]; rfl)
          by_cases ho : (Pm.lastR (pl La) y).2.on = (Pm.lastR (pl Lb) y).2.on
          · have HEV := Lib.hid (show ∀ j w, j < k + 1 → (pl La ++ pl Lb)[j]? = some w → Pm.val (Pm.lastR (pl La) w.x).2 = Pm.val (Pm.lastR (pl Lb) w.x).2 ∧ (Pm.lastR (pl La) w.x).2.on = (Pm.lastR (pl Lb) w.x).2.on from fun j w hj hw => by
              by_cases e : j = k
              · subst e
                rw [HEK.out] at hw
                cases hw
                exact ⟨hv, ho⟩
              · exact HEQ.out j w (by omega) hw)
            have hoe : ((Pm.lastR (pl La) y).2.on == (Pm.lastR (pl Lb) y).2.on) = true := by simpa using ho
            rw [ho] at y11
            clear hv ho hoe
            go_wp2_with (first | (refine wpList_load_in vA rfl _ rfl _ 8 rfl HP79.out [.int .i64 (Pm.lastR (pl La) y).2.vk, .int .i64 (Pm.lastR (pl La) y).2.vn, .string (Pm.lastR (pl La) y).2.vt] (by intro j v hv; match j, hv with | 0, hv => exact hv | 1, hv => exact hv | 2, hv => exact hv) rfl ?_) | (refine wpList_load_in vA rfl _ rfl _ 8 rfl HP8.out [.int .i64 (Pm.lastR (pl Lb) y).2.vk, .int .i64 (Pm.lastR (pl Lb) y).2.vn, .string (Pm.lastR (pl Lb) y).2.vt] (by intro j v hv; match j, hv with | 0, hv => exact hv | 1, hv => exact hv | 2, hv => exact hv) rfl ?_) | (refine wpList_exec rfl ((exec_neq_vl rfl (Pm.val (Pm.lastR (pl La) y).2) (Pm.val (Pm.lastR (pl Lb) y).2) rfl rfl).trans (by rw [HVE.out])) ?_))
            go_roundw
            case rel => exact ⟨k + 1, by omega, by go_num, HEV.out, HB9.out⟩
            case measure => simp [intOf]; omega
          · have HM := Lib.hid (List.mem_of_getElem? HEK.out)
            have HNE := Lib.hid (show ¬ (Pm.val (Pm.lastR (pl La) y).2 = Pm.val (Pm.lastR (pl Lb) y).2 ∧ (Pm.lastR (pl La) y).2.on = (Pm.lastR (pl Lb) y).2.on) from fun h => ho h.2)
            have hoe : ((Pm.lastR (pl La) y).2.on == (Pm.lastR (pl Lb) y).2.on) = false := by simpa using ho
            clear hv ho
            go_wp2_with (first | (refine wpList_load_in vA rfl _ rfl _ 8 rfl HP79.out [.int .i64 (Pm.lastR (pl La) y).2.vk, .int .i64 (Pm.lastR (pl La) y).2.vn, .string (Pm.lastR (pl La) y).2.vt] (by intro j v hv; match j, hv with | 0, hv => exact hv | 1, hv => exact hv | 2, hv => exact hv) rfl ?_) | (refine wpList_load_in vA rfl _ rfl _ 8 rfl HP8.out [.int .i64 (Pm.lastR (pl Lb) y).2.vk, .int .i64 (Pm.lastR (pl Lb) y).2.vn, .string (Pm.lastR (pl Lb) y).2.vt] (by intro j v hv; match j, hv with | 0, hv => exact hv | 1, hv => exact hv | 2, hv => exact hv) rfl ?_) | (refine wpList_exec rfl ((exec_neq_vl rfl (Pm.val (Pm.lastR (pl La) y).2) (Pm.val (Pm.lastR (pl Lb) y).2) rfl rfl).trans (by rw [HVE.out])) ?_))
            go_ret
            exact ⟨false, rfl, ⟨fun h => (by cases h), fun h => absurd (h _ HM.out) HNE.out⟩, HB9.out⟩
        · have HVE := Lib.hid (show (!decide (Pm.val (Pm.lastR (pl La) y).2 = Pm.val (Pm.lastR (pl Lb) y).2)) = true from by rw [decide_eq_false hv]; rfl)
          have HM := Lib.hid (List.mem_of_getElem? HEK.out)
          have HNE := Lib.hid (show ¬ (Pm.val (Pm.lastR (pl La) y).2 = Pm.val (Pm.lastR (pl Lb) y).2 ∧ (Pm.lastR (pl La) y).2.on = (Pm.lastR (pl Lb) y).2.on) from fun h => hv h.1)
          clear hv
          go_wp2_with (first | (refine wpList_load_in vA rfl _ rfl _ 8 rfl HP79.out [.int .i64 (Pm.lastR (pl La) y).2.vk, .int .i64 (Pm.lastR (pl La) y).2.vn, .string (Pm.lastR (pl La) y).2.vt] (by intro j v hv; match j, hv with | 0, hv => exact hv | 1, hv => exact hv | 2, hv => exact hv) rfl ?_) | (refine wpList_load_in vA rfl _ rfl _ 8 rfl HP8.out [.int .i64 (Pm.lastR (pl Lb) y).2.vk, .int .i64 (Pm.lastR (pl Lb) y).2.vn, .string (Pm.lastR (pl Lb) y).2.vt] (by intro j v hv; match j, hv with | 0, hv => exact hv | 1, hv => exact hv | 2, hv => exact hv) rfl ?_) | (refine wpList_exec rfl ((exec_neq_vl rfl (Pm.val (Pm.lastR (pl La) y).2) (Pm.val (Pm.lastR (pl Lb) y).2) rfl rfl).trans (by rw [HVE.out])) ?_))
          go_ret
          exact ⟨false, rfl, ⟨fun h => (by cases h), fun h => absurd (h _ HM.out) HNE.out⟩, HB9.out⟩
    · obtain rfl : k = La.length + Lb.length := by omega
      have HD := Lib.hid (show decide (((La.length + Lb.length : Nat) : Int) < (La.length : Int) + (Lb.length : Int)) = false from decide_eq_false (by omega))
      have HSL := Lib.hid (show Pm.SameL (pl La) (pl Lb) from fun w hw => by
        obtain ⟨j, hj, rfl⟩ := List.mem_iff_getElem.1 hw
        exact HEQ.out j _ (by unfold pl at hj; simpa using hj) (List.getElem?_eq_getElem hj))
      go_upto_region 2 with fail
      refine wp_region_held_drew (S := fun W => Below wr.heap.size wr W) (by kernel_rfl) (Below.drew (Below.refl _ _)) (fun hS => ?_)
      refine wpAnyH_take (i := 0) (v := ?_) rfl (by kernel_rfl) (by kernel_rfl) (by kernel_rfl) (fun _ _ _ h => h) (Or.inl ⟨by kernel_rfl, ?_⟩) hS ?_
      rotate_left
      · intro W hSW
        go_simp
        all_goals with_reducible rfl
      refine wpAnyH_take (i := 1) (v := ?_) rfl (by kernel_rfl) (by kernel_rfl) (by kernel_rfl) (fun _ _ _ h => h) (Or.inl ⟨by kernel_rfl, ?_⟩) hS ?_
      rotate_left
      · intro W hSW
        go_simp
        all_goals with_reducible rfl
      refine wpAnyH_take (i := 2) (v := ?_) rfl (by kernel_rfl) (by kernel_rfl) (by kernel_rfl) (fun _ _ _ h => h) (Or.inl ⟨by kernel_rfl, ?_⟩) hS ?_
      rotate_left
      · intro W hSW
        go_simp
        all_goals with_reducible rfl
      refine wpAnyH_take (i := 3) (v := ?_) rfl (by kernel_rfl) (by kernel_rfl) (by kernel_rfl) (fun _ _ _ h => h) (Or.inl ⟨by kernel_rfl, ?_⟩) hS ?_
      rotate_left
      · intro W hSW
        go_simp
        all_goals with_reducible rfl
      go_simp
      refine wpAnyH_take (i := 4) (v := ?_) rfl (by kernel_rfl) (by kernel_rfl) (by kernel_rfl) (fun _ _ _ h => h) (Or.inl ⟨by kernel_rfl, ?_⟩) hS ?_
      rotate_left
      · intro W hSW
        have y0 := (HA.out.kept (HB.out.trans (hSW.mono HB.out.size))).c0
        go_simp
        all_goals with_reducible rfl
      refine wpAnyH_take (i := 5) (v := ?_) rfl (by kernel_rfl) (by kernel_rfl) (by kernel_rfl) (fun _ _ _ h => h) (Or.inl ⟨by kernel_rfl, ?_⟩) hS ?_
      rotate_left
      · intro W hSW
        go_simp
        all_goals with_reducible rfl
      refine wpAnyH_take (i := 6) (v := ?_) rfl (by kernel_rfl) (by kernel_rfl) (by kernel_rfl) (fun _ _ _ h => h) (Or.inl ⟨by kernel_rfl, ?_⟩) hS ?_
      rotate_left
      · intro W hSW
        go_simp
        all_goals with_reducible rfl
      refine wpAnyH_take (i := 7) (v := ?_) rfl (by kernel_rfl) (by kernel_rfl) (by kernel_rfl) (fun _ _ _ h => h) (Or.inl ⟨by kernel_rfl, ?_⟩) hS ?_
      rotate_left
      · intro W hSW
        go_simp
        all_goals with_reducible rfl
      go_simp
      refine wpAnyH_take (i := 8) (v := ?_) rfl (by kernel_rfl) (by kernel_rfl) (by kernel_rfl) (fun _ _ _ h => h) (Or.inl ⟨by kernel_rfl, ?_⟩) hS ?_
      rotate_left
      · intro W hSW
        go_simp
        all_goals with_reducible rfl
      refine wpAnyH_take (i := 9) (v := ?_) rfl (by kernel_rfl) (by kernel_rfl) (by kernel_rfl) (fun _ _ _ h => h) (Or.inl ⟨by kernel_rfl, ?_⟩) hS ?_
      rotate_left
      · intro W hSW
        have y0 := (HBB.out.kept (HB.out.trans (hSW.mono HB.out.size))).c0
        go_simp
        all_goals with_reducible rfl
      refine wpAnyH_take (i := 10) (v := ?_) rfl (by kernel_rfl) (by kernel_rfl) (by kernel_rfl) (fun _ _ _ h => h) (Or.inl ⟨by kernel_rfl, ?_⟩) hS ?_
      rotate_left
      · intro W hSW
        go_simp
        all_goals with_reducible rfl
      refine wpAnyH_take (i := 11) (v := ?_) rfl (by kernel_rfl) (by kernel_rfl) (by kernel_rfl) (fun _ _ _ h => h) (Or.inl ⟨by kernel_rfl, ?_⟩) hS ?_
      rotate_left
      · intro W hSW
        have hw := HW.out
        go_simp
        all_goals with_reducible rfl
      go_simp
      refine wpAnyH_take (i := 12) (v := ?_) rfl (by kernel_rfl) (by kernel_rfl) (by kernel_rfl) (fun _ _ _ h => h) (Or.inl ⟨by kernel_rfl, ?_⟩) hS ?_
      rotate_left
      · intro W hSW
        have hd := HD.out
        go_simp
        all_goals with_reducible rfl
      go_simp
      refine wpAnyH_done (by kernel_rfl) ?_ _
      go_simp
      have HN := Lib.hid (HB.out.trans (hS.mono HB.out.size))
      clear hS
      go_wp2
      go_ret
      exact ⟨true, rfl, ⟨fun _ => HSL.out, fun _ => rfl⟩, HN.out⟩
end Go.Proofs.Ytcenmkcencdlcaa
