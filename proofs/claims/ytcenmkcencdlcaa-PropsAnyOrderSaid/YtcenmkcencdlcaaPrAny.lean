/-
  PROPSANYORDER: the walk: what registers have does not hang on the order of ops, nor on how often.
  No conditions but sizes.
-/
import Derived.Test.YtcenmkcencdlcaaGP
namespace Go.Proofs.Ytcenmkcencdlcaa
open Go.RowKit

/-- a place out of any number -/
theorem turn_index (t : Int) (n : Nat) (h : 0 < n) : ∃ pi : Nat, (t.tmod (n : Int) + (n : Int)).tmod (n : Int) = (pi : Int) ∧ pi < n ∧ 0 ≤ t.tmod (n : Int) + (n : Int) ∧ t.tmod (n : Int) + (n : Int) < 2 * (n : Int) := by
  have h1 : 0 ≤ t.tmod (n : Int) + (n : Int) := by
    have := Int.lt_tmod_of_pos t (b := (n : Int)) (by omega)
    omega
  have h5 := Int.tmod_lt_of_pos t (b := (n : Int)) (by omega)
  refine ⟨((t.tmod (n : Int) + (n : Int)).tmod (n : Int)).toNat, ?_, ?_, h1, by omega⟩
  · have := Int.tmod_nonneg (n : Int) h1
    omega
  · have h2 := Int.tmod_nonneg (n : Int) h1
    have h3 := Int.tmod_lt_of_pos (t.tmod (n : Int) + (n : Int)) (b := (n : Int)) (by omega)
    omega
theorem turn_k (k n : Nat) : (k : Int).tmod (n : Int) = ((k % n : Nat) : Int) := by
  rw [Int.tmod_eq_emod_of_nonneg (by omega)]
  rfl
theorem own_belowK {w w' : World} {B k : Nat} {v : Value} {n : Nat} {xs : List Value} {E : TypeId} (h : w.ownsRow B E k v n xs) (hb : Below w.heap.size w w') : w'.ownsRow B E k v n xs :=
  (Turns.of_below (F := fun _ => False) hb).own h fun _ _ h => h
theorem wr_perm {l m : List WrE} (h : m.Perm l) (wr : Pm.Wr) : wr ∈ pl m ↔ wr ∈ pl l := (h.map _).mem_iff

set_option maxRecDepth 100000 in
set_option maxHeartbeats 32000000 in
theorem propsAnyOrder_walk (p : Option Addr) (cl : Nat) (l : List WrE) (pt : Option Addr) (ct : Nat) (ts : List Int) (w : World) (h : Ws w p l) (hpn : p = none → cl = 0) (hts : Ints w pt ts ∧ ∀ x ∈ ts, (Lit.int .i64 x).wf = true) (_ : ts.length ≤ ct) (_ : pt = none → ct = 0) (_ : ts.length ≤ 17592186043904) :
    Calls Try.prog 5 #[.slice p l.length cl, .slice pt ts.length ct] w fun e w' => e = .returned (.bool true) ∧ Below w.heap.size w w' := by
  have HR := Lib.hid h
  have HTI := Lib.hid hts
  have HPN := Lib.hid hpn
  have HLI := Lib.hid (light12_any p cl l w h)
  clear h hts hpn
  go_enter Try.func5, Try.ntmps5
  go_wp2_with fail
  refine HLI.out.mono ?_
  rintro e1 w1 ⟨b1, rfl, hsm, hb1⟩
  have HSM1 := Lib.hid hsm
  have HB := Lib.hid hb1
  clear hsm hb1 HLI
  cases b1 with
  | false =>
    go_wp2_with fail
    refine (knows12_any _).mono ?_
    rintro e wk ⟨rfl, hbk⟩
    replace HB := Lib.hid (HB.out.trans (hbk.mono HB.out.size))
    clear hbk
    go_wp2
    go_ret
    exact ⟨rfl, HB.out⟩
  | true =>
    have HSM := Lib.hid (HSM1.out rfl).2
    have hl60 := (HSM1.out rfl).1
    clear HSM1
    go_wp2_with fail
    refine (apart12_any p cl l _ (HR.out.rd.below HB.out) hl60).mono ?_
    rintro e1 w2 ⟨b2, rfl, hap, hb2⟩
    have HAP0 := Lib.hid hap
    replace HB := Lib.hid (HB.out.trans (hb2.mono HB.out.size))
    clear hap hb2
    cases b2 with
    | false =>
      go_wp2_with fail
      refine (knows12_any _).mono ?_
      rintro e wk ⟨rfl, hbk⟩
      replace HB := Lib.hid (HB.out.trans (hbk.mono HB.out.size))
      clear hbk
      go_wp2
      go_ret
      exact ⟨rfl, HB.out⟩
    | true =>
      have HAP := Lib.hid (HAP0.out rfl).apart
      clear HAP0
      go_wp2_with fail
      refine (new_any w2).mono ?_
      rintro e w3 ⟨P, M1, M2, M3, rfl, hl3, hb3, g0, g1, g2, g3⟩
      have HGE := Lib.hid (show w.heap.size ≤ P ∧ w.heap.size ≤ M1 ∧ w.heap.size ≤ M2 ∧ w.heap.size ≤ M3 from by have := HB.out.size; omega)
      have HL := Lib.hid hl3
      replace HB := Lib.hid (HB.out.trans (hb3.mono HB.out.size))
      clear hl3 hb3 g0 g1 g2 g3
      go_wp2_with fail
      refine (new_any w3).mono ?_
      rintro e w4 ⟨Q, N1, N2, N3, rfl, hl3, hb3, g0, g1, g2, g3⟩
      obtain ⟨B1, hB1⟩ : ∃ B, B = w3.heap.size := ⟨_, rfl⟩
      have HLT := Lib.hid (show P < B1 ∧ M1 < B1 ∧ M2 < B1 ∧ M3 < B1 from by rw [hB1]; exact ⟨HL.out.box.lt, HL.out.v.lt, HL.out.m.lt, HL.out.o.lt⟩)
      have HGQ := Lib.hid (show B1 ≤ Q ∧ B1 ≤ N1 ∧ B1 ≤ N2 ∧ B1 ≤ N3 from by rw [hB1]; exact ⟨g0, g1, g2, g3⟩)
      have HWB := Lib.hid (show w.heap.size ≤ B1 from by rw [hB1]; exact HB.out.size)
      have HQ := Lib.hid hl3
      replace HL := Lib.hid (HL.out.kept hb3)
      replace HB := Lib.hid (HB.out.trans (hb3.mono HB.out.size))
      clear hl3 hb3 g0 g1 g2 g3 hB1
      go_wp2_with fail
      refine (knows12_any _).mono ?_
      rintro e w5 ⟨rfl, hbk⟩
      replace HB := Lib.hid (HB.out.trans (hbk.mono HB.out.size))
      replace HL := Lib.hid (HL.out.kept hbk)
      replace HQ := Lib.hid (HQ.out.kept hbk)
      clear hbk
      have HW5 := Lib.hid (show w.heap.size ≤ w5.heap.size from HB.out.size)
      have HNB := Lib.hid (show Q < w5.heap.size ∧ N1 < w5.heap.size ∧ N2 < w5.heap.size ∧ N3 < w5.heap.size from ⟨HQ.out.box.lt, HQ.out.v.lt, HQ.out.m.lt, HQ.out.o.lt⟩)
      have HE0 := Lib.hid (wrK.empty (Below.refl w5.heap.size w5) (Nat.le_refl _))
      have HB5 := Lib.hid ((Below.refl w5.heap.size w5).alloc (Nat.le_refl _) (.cells #[] 40))
      have HRA := Lib.hid (HR.out.rd.below (HB.out.trans (HB5.out.mono HB.out.size)))
      go_wp2_with (refine wrK.wpAppend rfl _ _ rfl w5.heap.size [] l l rfl rfl HE0.out p cl rfl HRA.out HPN.out (by simp only [List.length_nil]; omega) (HB5.out.size) ?_; intro py cy wy hoy hgy)
      have HBY := Lib.hid (HB5.out.trans ((Turns.of_grown hgy).below (fun k _ hk => by cases hk; exact Nat.le_refl _) HB5.out.size))
      have HRO0 := Lib.hid hoy
      have HY5 := Lib.hid (show w5.heap.size ≤ wy.heap.size from HBY.out.size)
      replace HB := Lib.hid (HB.out.trans (HBY.out.mono HB.out.size))
      replace HL := Lib.hid (HL.out.kept HBY.out)
      replace HQ := Lib.hid (HQ.out.kept HBY.out)
      clear hoy hgy HRA HE0 HB5
      go_wp2
      go_loopw [8] (fun i wr => ∃ (k : Nat) (ly : List WrE), k ≤ ts.length ∧ k ≤ 60 ∧ i = .int .i64 (k : Int) ∧ ly.length = l.length ∧ ly.Perm l ∧ wr.ownsRow w5.heap.size 40 14 (.slice py l.length cy) l.length (ly.flatMap ceW) ∧ Below w5.heap.size wy wr) (fun i _ => 60 - (intOf i).toNat)
      case atStart => exact ⟨0, l, Nat.zero_le _, by omega, rfl, rfl, List.Perm.refl _, HRO0.out, Below.refl _ _⟩
      case round =>
        clear HRO0
        obtain ⟨k, ly, hkt, hk60, rfl, hll, hpy, hry, hby⟩ := hrel
        have HRO := Lib.hid hry
        have HPY := Lib.hid hpy
        have HBD := Lib.hid hby
        have HLY := Lib.hid hll
        clear hry hpy hby hll
        by_cases hgo : k < ts.length ∧ k < 60 ∧ 0 < l.length
        · obtain ⟨g1, g2, g3⟩ := hgo
          have d1 : decide ((k : Int) < (ts.length : Int)) = true := decide_eq_true (by omega)
          have d2 : decide ((k : Int) < 60) = true := decide_eq_true (by omega)
          have d3 : decide (0 < (l.length : Int)) = true := decide_eq_true (by omega)
          have hry := HRO.out
          rw [← HLY.out] at hry
          obtain ⟨p', c', e10, -, -, -, -, h410⟩ := own_rd hry
          obtain ⟨g, o, hq10, -⟩ := (own_rdK hry).1.addr (by rw [wrK.length, HLY.out]; omega)
          subst hq10
          have ho0 : o = 0 := by cases e10; have := (h410 _ rfl).2.2.2; simpa using this
          subst ho0
          have HGB0 := Lib.hid (World.ownsRow.lt hry g rfl).1
          have HGB := HGB0
          replace HRO := Lib.hid hry
          clear e10 h410 hry
          obtain ⟨bt, ot, rfl, hct⟩ := HTI.out.1 (by omega)
          have yt := hct k g1
          have HBWR := Lib.hid (show Below w.heap.size w wr from HB.out.trans (HBD.out.mono HW5.out))
          have yt' := HBWR.out.cell (cell_lt yt)
          rw [yt] at yt'
          have HPIX := Lib.hid (turn_index (ts.getD k 0) l.length g3)
          obtain ⟨pi, hpi0, hpi1, hp2, hp3⟩ := HPIX.out
          have hwt : IntKind.i64.wrap ((ts.getD k 0).tmod (l.length : Int) + (l.length : Int)) = (ts.getD k 0).tmod (l.length : Int) + (l.length : Int) := wraps_i64 _ hp2 (by omega)
          clear hp2 hp3
          have hqi0 := turn_k k l.length
          obtain ⟨qi, hqq⟩ : ∃ qi, k % l.length = qi := ⟨_, rfl⟩
          rw [hqq] at hqi0
          have hqi1 : qi < l.length := by rw [← hqq]; exact Nat.mod_lt _ g3
          have HpiL := Lib.hid hpi1
          have HqiL := Lib.hid hqi1
          have HPL := Lib.hid (show pi < ly.length from by rw [HLY.out]; exact hpi1)
          have HQL := Lib.hid (show qi < ly.length from by rw [HLY.out]; exact hqi1)
          obtain ⟨ep, hep⟩ : ∃ e, ly[pi]? = some e := ⟨_, List.getElem?_eq_getElem HPL.out⟩
          obtain ⟨eq, heq⟩ : ∃ e, ly[qi]? = some e := ⟨_, List.getElem?_eq_getElem HQL.out⟩
          have HPI := Lib.hid hep
          have HQI := Lib.hid heq
          generalize ts.getD k 0 = tv at *
          clear hct yt hqq HPIX hep heq
          go_upto_region 13 with fail
          refine wp_region_held_drew (S := fun _ => True) (by kernel_rfl) trivial (fun hS => ?_)
          replace HRO := Lib.hid (own_belowK HRO.out (Below.drew (Below.refl _ _)))
          replace HBD := Lib.hid HBD.out.drew
          generalize wr.drew = wd at *
          have HRY := Lib.hid (own_rdK HRO.out).1
          refine wpAnyH_take (i := 0) (v := ?_) rfl (by kernel_rfl) (by kernel_rfl) (by kernel_rfl) (fun _ _ _ h => h) (Or.inl ⟨by kernel_rfl, ?_⟩) hS ?_
          rotate_left
          · intro W hSW
            go_simp
            all_goals with_reducible rfl
          refine wpAnyH_take (i := 1) (v := ?_) rfl (by kernel_rfl) (by kernel_rfl) (by kernel_rfl) (fun _ _ _ h => h) (Or.inl ⟨by kernel_rfl, ?_⟩) hS ?_
          rotate_left
          · intro W hSW
            go_simp
            all_goals with_reducible rfl
          refine wpAnyH_take (i := 2) (v := ?_) rfl (by kernel_rfl) (by kernel_rfl) (by kernel_rfl) (fun _ _ _ h => h) (Or.inl ⟨by kernel_rfl, ?_⟩) hS ?_
          rotate_left
          · intro W hSW
            go_simp
            all_goals with_reducible rfl
          refine wpAnyH_take (i := 3) (v := ?_) rfl (by kernel_rfl) (by kernel_rfl) (by kernel_rfl) (fun _ _ _ h => h) (Or.inl ⟨by kernel_rfl, ?_⟩) hS ?_
          rotate_left
          · intro W hSW
            go_simp
            all_goals with_reducible rfl
          go_simp
          refine wpAnyH_take (i := 4) (v := ?_) rfl (by kernel_rfl) (by kernel_rfl) (by kernel_rfl) (fun _ _ _ h => h) (Or.inl ⟨by kernel_rfl, ?_⟩) hS ?_
          rotate_left
          · intro W hSW
            go_simp
            all_goals with_reducible rfl
          refine wpAnyH_take (i := 5) (v := ?_) rfl (by kernel_rfl) (by kernel_rfl) (by kernel_rfl) (fun _ _ _ h => h) (Or.inl ⟨by kernel_rfl, ?_⟩) hS ?_
          rotate_left
          · intro W hSW
            go_simp
            all_goals with_reducible rfl
          refine wpAnyH_take (i := 6) (v := ?_) rfl (by kernel_rfl) (by kernel_rfl) (by kernel_rfl) (fun _ _ _ h => h) (Or.inl ⟨by kernel_rfl, ?_⟩) hS ?_
          rotate_left
          · intro W hSW
            have hqi := HqiL.out
            go_simp
            all_goals with_reducible rfl
          refine wpAnyH_take (i := 8) (v := ?_) rfl (by kernel_rfl) (by kernel_rfl) (by kernel_rfl) (fun _ _ _ h => h) (Or.inl ⟨by kernel_rfl, ?_⟩) hS ?_
          rotate_left
          · intro W hSW
            go_simp
            all_goals with_reducible rfl
          go_simp
          refine wpAnyH_take (i := 9) (v := ?_) rfl (by kernel_rfl) (by kernel_rfl) (by kernel_rfl) (fun _ _ _ h => h) (Or.inl ⟨by kernel_rfl, ?_⟩) hS ?_
          rotate_left
          · intro W hSW
            go_simp
            all_goals with_reducible rfl
          refine wpAnyH_take (i := 10) (v := ?_) rfl (by kernel_rfl) (by kernel_rfl) (by kernel_rfl) (fun _ _ _ h => h) (Or.inl ⟨by kernel_rfl, ?_⟩) hS ?_
          rotate_left
          · intro W hSW
            have hpi := HpiL.out
            go_simp
            all_goals with_reducible rfl
          go_simp
          refine wpAnyH_ready (rs := [7, 11]) (by kernel_rfl) (by simp) ?_
          refine AllReadyH.cons rfl (fun K hK => ?_) (AllReadyH.cons rfl (fun K hK => ?_) AllReadyH.nil)
          · refine step_of (by kernel_rfl) ?_
            refine wrK.wpLoad (s := 0) (i := qi) rfl (by show _ = Value.pointer (some ⟨g, 0 + qi * 14, none⟩); rw [Nat.zero_add]; rfl) HRY.out HQI.out ?_
            refine hK.out _ _ trivial (fun hS => ?_)
            clear hK K
            refine wpAnyH_ready (rs := [11]) (by kernel_rfl) (by simp) ?_
            refine AllReadyH.cons rfl (fun K hK => ?_) AllReadyH.nil
            refine step_of (by kernel_rfl) ?_
            refine wrK.wpLoad (s := 0) (i := pi) rfl (by show _ = Value.pointer (some ⟨g, 0 + pi * 14, none⟩); rw [Nat.zero_add]; rfl) HRY.out HPI.out ?_
            refine hK.out _ _ trivial (fun hS => ?_)
            clear hK K
            refine wpAnyH_take (i := 12) (v := ?_) rfl (by kernel_rfl) (by kernel_rfl) (by kernel_rfl) (fun _ _ _ h => h) (Or.inl ⟨by kernel_rfl, ?_⟩) hS ?_
            rotate_left
            · intro W hSW
              have hpi := HpiL.out
              go_simp
              all_goals with_reducible rfl
            go_simp
            refine wpAnyH_ready (rs := [13]) (by kernel_rfl) (by simp) ?_
            refine AllReadyH.cons rfl (fun K hK => ?_) AllReadyH.nil
            have hset := wr_set HRO.out HPI.out eq
            have HR1 := Lib.hid hset.1
            have HG1 := Lib.hid hset.2
            refine step_of (by kernel_rfl) ?_
            refine wp_store_mid _ _ _ rfl g (pi * 14) (wrA eq) rfl rfl (own_there HRO.out _ _ (by rw [wrK.length]; show pi * 14 + 14 ≤ _; have := HPL.out; omega)) wrT.size (wrA_one _) ?_
            have hc1 : wd.setCells g (pi * 14) (wrA eq).toList = wd.setCells g (pi * 14) (ceW eq) := rfl
            rw [hc1]
            refine hK.out _ _ trivial (fun hS => ?_)
            clear hK K hset hc1
            generalize wd.setCells g (pi * 14) (ceW eq) = we at *
            refine wpAnyH_take (i := 14) (v := ?_) rfl (by kernel_rfl) (by kernel_rfl) (by kernel_rfl) (fun _ _ _ h => h) (Or.inl ⟨by kernel_rfl, ?_⟩) hS ?_
            rotate_left
            · intro W hSW
              have hqi := HqiL.out
              go_simp
              all_goals with_reducible rfl
            go_simp
            refine wpAnyH_ready (rs := [15]) (by kernel_rfl) (by simp) ?_
            refine AllReadyH.cons rfl (fun K hK => ?_) AllReadyH.nil
            have HQ2 := Lib.hid (show ∃ z, (ly.set pi eq)[qi]? = some z from ⟨_, List.getElem?_eq_getElem (by rw [List.length_set]; exact HQL.out)⟩)
            obtain ⟨z, hz⟩ := HQ2.out
            have hset := wr_set HR1.out hz ep
            have HR2 := Lib.hid hset.1
            have HG2 := Lib.hid hset.2
            refine step_of (by kernel_rfl) ?_
            refine wp_store_mid _ _ _ rfl g (qi * 14) (wrA ep) rfl rfl (own_there HR1.out _ _ (by rw [wrK.length, List.length_set]; show qi * 14 + 14 ≤ _; have := HQL.out; omega)) wrT.size (wrA_one _) ?_
            have hc2 : we.setCells g (qi * 14) (wrA ep).toList = we.setCells g (qi * 14) (ceW ep) := rfl
            rw [hc2]
            refine hK.out _ _ trivial (fun hS => ?_)
            clear hK K hset hc2 hz HQ2
            generalize we.setCells g (qi * 14) (ceW ep) = wf at *
            refine wpAnyH_done (by kernel_rfl) ?_ _
            go_simp
            clear hS
            have HPM := Lib.hid ((wr_swap HPI.out HQI.out).trans HPY.out)
            have HLE := Lib.hid (show ((ly.set pi eq).set qi ep).length = l.length from by rw [List.length_set, List.length_set]; exact HLY.out)
            have HBF := Lib.hid (show Below w5.heap.size wy wf from (HBD.out.trans ((Turns.of_grown HG1.out).below (fun k _ hk => by cases hk; exact HGB.out) (Nat.le_trans HY5.out HBD.out.size))).trans ((Turns.of_grown HG2.out).below (fun k _ hk => by cases hk; exact HGB.out) (Nat.le_trans (Nat.le_trans HY5.out HBD.out.size) HG1.out.size)))
            have hr2 := HR2.out
            rw [HLE.out] at hr2
            have HR3 := Lib.hid hr2
            clear hr2
            go_wp2
            go_roundw
            case rel => exact ⟨k + 1, _, by omega, by omega, by go_num, HLE.out, HPM.out, HR3.out, HBF.out⟩
            case measure => simp [intOf]; omega
          · refine step_of (by kernel_rfl) ?_
            refine wrK.wpLoad (s := 0) (i := pi) rfl (by show _ = Value.pointer (some ⟨g, 0 + pi * 14, none⟩); rw [Nat.zero_add]; rfl) HRY.out HPI.out ?_
            refine hK.out _ _ trivial (fun hS => ?_)
            clear hK K
            refine wpAnyH_ready (rs := [7]) (by kernel_rfl) (by simp) ?_
            refine AllReadyH.cons rfl (fun K hK => ?_) AllReadyH.nil
            refine step_of (by kernel_rfl) ?_
            refine wrK.wpLoad (s := 0) (i := qi) rfl (by show _ = Value.pointer (some ⟨g, 0 + qi * 14, none⟩); rw [Nat.zero_add]; rfl) HRY.out HQI.out ?_
            refine hK.out _ _ trivial (fun hS => ?_)
            clear hK K
            refine wpAnyH_take (i := 12) (v := ?_) rfl (by kernel_rfl) (by kernel_rfl) (by kernel_rfl) (fun _ _ _ h => h) (Or.inl ⟨by kernel_rfl, ?_⟩) hS ?_
            rotate_left
            · intro W hSW
              have hpi := HpiL.out
              go_simp
              all_goals with_reducible rfl
            go_simp
            refine wpAnyH_ready (rs := [13]) (by kernel_rfl) (by simp) ?_
            refine AllReadyH.cons rfl (fun K hK => ?_) AllReadyH.nil
            have hset := wr_set HRO.out HPI.out eq
            have HR1 := Lib.hid hset.1
            have HG1 := Lib.hid hset.2
            refine step_of (by kernel_rfl) ?_
            refine wp_store_mid _ _ _ rfl g (pi * 14) (wrA eq) rfl rfl (own_there HRO.out _ _ (by rw [wrK.length]; show pi * 14 + 14 ≤ _; have := HPL.out; omega)) wrT.size (wrA_one _) ?_
            have hc1 : wd.setCells g (pi * 14) (wrA eq).toList = wd.setCells g (pi * 14) (ceW eq) := rfl
            rw [hc1]
            refine hK.out _ _ trivial (fun hS => ?_)
            clear hK K hset hc1
            generalize wd.setCells g (pi * 14) (ceW eq) = we at *
            refine wpAnyH_take (i := 14) (v := ?_) rfl (by kernel_rfl) (by kernel_rfl) (by kernel_rfl) (fun _ _ _ h => h) (Or.inl ⟨by kernel_rfl, ?_⟩) hS ?_
            rotate_left
            · intro W hSW
              have hqi := HqiL.out
              go_simp
              all_goals with_reducible rfl
            go_simp
            refine wpAnyH_ready (rs := [15]) (by kernel_rfl) (by simp) ?_
            refine AllReadyH.cons rfl (fun K hK => ?_) AllReadyH.nil
            have HQ2 := Lib.hid (show ∃ z, (ly.set pi eq)[qi]? = some z from ⟨_, List.getElem?_eq_getElem (by rw [List.length_set]; exact HQL.out)⟩)
            obtain ⟨z, hz⟩ := HQ2.out
            have hset := wr_set HR1.out hz ep
            have HR2 := Lib.hid hset.1
            have HG2 := Lib.hid hset.2
            refine step_of (by kernel_rfl) ?_
            refine wp_store_mid _ _ _ rfl g (qi * 14) (wrA ep) rfl rfl (own_there HR1.out _ _ (by rw [wrK.length, List.length_set]; show qi * 14 + 14 ≤ _; have := HQL.out; omega)) wrT.size (wrA_one _) ?_
            have hc2 : we.setCells g (qi * 14) (wrA ep).toList = we.setCells g (qi * 14) (ceW ep) := rfl
            rw [hc2]
            refine hK.out _ _ trivial (fun hS => ?_)
            clear hK K hset hc2 hz HQ2
            generalize we.setCells g (qi * 14) (ceW ep) = wf at *
            refine wpAnyH_done (by kernel_rfl) ?_ _
            go_simp
            clear hS
            have HPM := Lib.hid ((wr_swap HPI.out HQI.out).trans HPY.out)
            have HLE := Lib.hid (show ((ly.set pi eq).set qi ep).length = l.length from by rw [List.length_set, List.length_set]; exact HLY.out)
            have HBF := Lib.hid (show Below w5.heap.size wy wf from (HBD.out.trans ((Turns.of_grown HG1.out).below (fun k _ hk => by cases hk; exact HGB.out) (Nat.le_trans HY5.out HBD.out.size))).trans ((Turns.of_grown HG2.out).below (fun k _ hk => by cases hk; exact HGB.out) (Nat.le_trans (Nat.le_trans HY5.out HBD.out.size) HG1.out.size)))
            have hr2 := HR2.out
            rw [HLE.out] at hr2
            have HR3 := Lib.hid hr2
            clear hr2
            go_wp2
            go_roundw
            case rel => exact ⟨k + 1, _, by omega, by omega, by go_num, HLE.out, HPM.out, HR3.out, HBF.out⟩
            case measure => simp [intOf]; omega
        · obtain ⟨w12, hw12⟩ : ∃ w12 : World, w12 = wr := ⟨_, rfl⟩
          subst hw12
          by_cases a1 : k < ts.length
          · have d1 : decide ((k : Int) < (ts.length : Int)) = true := decide_eq_true (by omega)
            by_cases a2 : k < 60
            · have d2 : decide ((k : Int) < 60) = true := decide_eq_true (by omega)
              have hl0 : ¬ 0 < l.length := fun h => hgo ⟨a1, a2, h⟩
              have d3 : decide (0 < (l.length : Int)) = false := decide_eq_false (by omega)
              clear hgo
              have HL12 := Lib.hid (show Lay w12 P M1 M2 M3 (Pm.allR ((pl l).take 0)) from HL.out.turns (Turns.of_base HBD.out) (by have h1 := HLT.out; have h2 := HGQ.out; have h3 := HNB.out; omega) (by have h1 := HLT.out; have h2 := HGQ.out; have h3 := HNB.out; omega) (by have h1 := HLT.out; have h2 := HGQ.out; have h3 := HNB.out; omega) (by have h1 := HLT.out; have h2 := HGQ.out; have h3 := HNB.out; omega))
              have HQ12 := Lib.hid (show Lay w12 Q N1 N2 N3 (Pm.allR ((pl ly).take 0)) from HQ.out.turns (Turns.of_base HBD.out) (by have h3 := HNB.out; omega) (by have h3 := HNB.out; omega) (by have h3 := HNB.out; omega) (by have h3 := HNB.out; omega))
              have HB12 := Lib.hid (HB.out.trans (HBD.out.mono HW5.out))
              have hown := HRO.out
              rw [← HLY.out] at hown
              have HY12 := Lib.hid (own_rdK hown).1
              have HOG := Lib.hid (own_rdK hown).2.2.2
              clear hown HRO HL HQ HB HBD
              go_wp2
              go_loopw [11] (fun i wr => ∃ k : Nat, k ≤ l.length ∧ i = .int .i64 (k : Int) ∧ Lay wr P M1 M2 M3 (Pm.allR ((pl l).take k)) ∧ Lay wr Q N1 N2 N3 (Pm.allR ((pl ly).take k)) ∧ Rd wr py (ly.flatMap ceW) ∧ Below w.heap.size w wr) (fun i _ => l.length - (intOf i).toNat)
              case atStart => exact ⟨0, Nat.zero_le _, rfl, HL12.out, HQ12.out, HY12.out, HB12.out⟩
              case round =>
                clear HL12 HQ12 HY12 HB12
                obtain ⟨k, hk, rfl, hl3, hq3, hy3, hb3⟩ := hrel
                have HL := Lib.hid hl3
                have HQ := Lib.hid hq3
                have HRY := Lib.hid hy3
                have HB := Lib.hid hb3
                clear hl3 hq3 hy3 hb3
                by_cases hlt : k < l.length
                · have d0 : decide ((k : Int) < (l.length : Int)) = true := decide_eq_true (by omega)
                  obtain ⟨b, o, rfl, hbl⟩ := HR.out.rd.addr (by rw [wrK.length]; omega)
                  have HBL := Lib.hid hbl
                  obtain ⟨g, oy, hgy, -⟩ := HRY.out.addr (by rw [wrK.length, HLY.out]; omega)
                  subst hgy
                  have HGB := Lib.hid (show w5.heap.size ≤ g from HOG.out _ rfl)
                  obtain ⟨e, he⟩ : ∃ e, l[k]? = some e := ⟨_, List.getElem?_eq_getElem hlt⟩
                  obtain ⟨e2, he2⟩ : ∃ e, ly[k]? = some e := ⟨_, List.getElem?_eq_getElem (by rw [HLY.out]; exact hlt)⟩
                  have hm2 : e2 ∈ l := HPY.out.mem_iff.1 (List.mem_of_getElem? he2)
                  have HPE := Lib.hid ((HR.out.pa _ (List.mem_of_getElem? he)).kept HB.out)
                  have HS1 := Lib.hid (HSM.out _ (List.mem_of_getElem? he))
                  have HPY2 := Lib.hid (HR.out.pa _ hm2)
                  have HS12 := Lib.hid (HSM.out _ hm2)
                  have HTK := Lib.hid (pl_take he)
                  have HTK2 := Lib.hid (pl_take he2)
                  obtain ⟨⟨⟨s1, s2⟩, x⟩, q, c⟩ := e
                  obtain ⟨⟨⟨t1, t2⟩, y⟩, qq, cc⟩ := e2
                  have HE := Lib.hid he
                  have HE2 := Lib.hid he2
                  have HAG := Lib.hid (show Pm.doR (Pm.allR ((pl l).take k)) ⟨(s1, s2), x⟩ = Pm.allR ((pl l).take (k + 1)) from by rw [HTK.out, Pm.allR_snoc])
                  have HAG2 := Lib.hid (show Pm.doR (Pm.allR ((pl ly).take k)) ⟨(t1, t2), y⟩ = Pm.allR ((pl ly).take (k + 1)) from by rw [HTK2.out, Pm.allR_snoc])
                  have hlt2 : k < ly.length := by rw [HLY.out]; exact hlt
                  clear he he2 hm2 hbl HTK HTK2
                  go_upto_region 17 with fail
                  refine wp_region_held_drew (S := fun W => Turns (fun k => k = M1 ∨ k = M2 ∨ k = M3) wr W) (by kernel_rfl) (Turns.of_below (Below.drew (Below.refl _ _))) (fun hS => ?_)
                  refine wpAnyH_take (i := 0) (v := ?_) rfl (by kernel_rfl) (by kernel_rfl) (by kernel_rfl) (fun _ _ _ h => h) (Or.inl ⟨by kernel_rfl, ?_⟩) hS ?_
                  rotate_left
                  · intro W hSW
                    go_simp
                    all_goals with_reducible rfl
                  refine wpAnyH_take (i := 1) (v := ?_) rfl (by kernel_rfl) (by kernel_rfl) (by kernel_rfl) (fun _ _ _ h => h) (Or.inl ⟨by kernel_rfl, ?_⟩) hS ?_
                  rotate_left
                  · intro W hSW
                    go_simp
                    all_goals with_reducible rfl
                  refine wpAnyH_take (i := 2) (v := ?_) rfl (by kernel_rfl) (by kernel_rfl) (by kernel_rfl) (fun _ _ _ h => h) (Or.inl ⟨by kernel_rfl, ?_⟩) hS ?_
                  rotate_left
                  · intro W hSW
                    go_simp
                    all_goals with_reducible rfl
                  refine wpAnyH_take (i := 3) (v := ?_) rfl (by kernel_rfl) (by kernel_rfl) (by kernel_rfl) (fun _ _ _ h => h) (Or.inl ⟨by kernel_rfl, ?_⟩) hS ?_
                  rotate_left
                  · intro W hSW
                    go_simp
                    all_goals with_reducible rfl
                  go_simp
                  refine wpAnyH_take (i := 4) (v := ?_) rfl (by kernel_rfl) (by kernel_rfl) (by kernel_rfl) (fun _ _ _ h => h) (Or.inl ⟨by kernel_rfl, ?_⟩) hS ?_
                  rotate_left
                  · intro W hSW
                    go_simp
                    all_goals with_reducible rfl
                  go_simp
                  refine wpAnyH_take (i := 5) (v := .agg #[.int .i64 s1, .int .i64 s2]) rfl (by kernel_rfl) (by kernel_rfl) (by kernel_rfl) (fun _ _ _ h => h) (Or.inl ⟨by kernel_rfl, fun W hSW => exec_wr_st rfl rfl ((fun W (hSW : Turns (fun k => k = M1 ∨ k = M2 ∨ k = M3) wr W) => hSW.rd (HR.out.rd.below HB.out) (fun a ha => by cases ha; have h1 := HBL.out; have h2 := HGE.out; show ¬ (b = M1 ∨ b = M2 ∨ b = M3); omega)) W hSW) HE.out⟩) hS ?_
                  refine wpAnyH_take (i := 6) (v := ?_) rfl (by kernel_rfl) (by kernel_rfl) (by kernel_rfl) (fun _ _ _ h => h) (Or.inl ⟨by kernel_rfl, ?_⟩) hS ?_
                  rotate_left
                  · intro W hSW
                    go_simp
                    all_goals with_reducible rfl
                  refine wpAnyH_take (i := 7) (v := ?_) rfl (by kernel_rfl) (by kernel_rfl) (by kernel_rfl) (fun _ _ _ h => h) (Or.inl ⟨by kernel_rfl, ?_⟩) hS ?_
                  rotate_left
                  · intro W hSW
                    go_simp
                    all_goals with_reducible rfl
                  refine wpAnyH_take (i := 8) (v := ?_) rfl (by kernel_rfl) (by kernel_rfl) (by kernel_rfl) (fun _ _ _ h => h) (Or.inl ⟨by kernel_rfl, ?_⟩) hS ?_
                  rotate_left
                  · intro W hSW
                    go_simp
                    all_goals with_reducible rfl
                  go_simp
                  refine wpAnyH_take (i := 9) (v := ?_) rfl (by kernel_rfl) (by kernel_rfl) (by kernel_rfl) (fun _ _ _ h => h) (Or.inl ⟨by kernel_rfl, ?_⟩) hS ?_
                  rotate_left
                  · intro W hSW
                    go_simp
                    all_goals with_reducible rfl
                  go_simp
                  refine wpAnyH_take (i := 10) (v := .agg (opA x q c)) rfl (by kernel_rfl) (by kernel_rfl) (by kernel_rfl) (fun _ _ _ h => h) (Or.inl ⟨by kernel_rfl, fun W hSW => exec_wr_op rfl rfl ((fun W (hSW : Turns (fun k => k = M1 ∨ k = M2 ∨ k = M3) wr W) => hSW.rd (HR.out.rd.below HB.out) (fun a ha => by cases ha; have h1 := HBL.out; have h2 := HGE.out; show ¬ (b = M1 ∨ b = M2 ∨ b = M3); omega)) W hSW) HE.out⟩) hS ?_
                  go_simp
                  refine wpAnyH_ready (rs := [11]) (by kernel_rfl) (by simp) ?_
                  refine AllReadyH.cons rfl (fun K hK => ?_) AllReadyH.nil
                  go_simp
                  go_wp2_with ((go_at_call 10; refine (ownN_any x q c _ (HPE.out.kept (Below.drew (Below.refl _ _))) (by have := HS1.out.1; omega)).mono ?_; rintro e wn ⟨q2, c2, rfl, hpa, hbn, -⟩))
                  have HBN := Lib.hid hbn
                  have HL2 := Lib.hid ((HL.out.kept (Below.drew (Below.refl _ _))).kept hbn)
                  refine hK.out _ _ (hS.call hbn) (fun hS => ?_)
                  clear hK K hbn
                  refine wpAnyH_ready (rs := [12]) (by kernel_rfl) (by simp) ?_
                  refine AllReadyH.cons rfl (fun K hK => ?_) AllReadyH.nil
                  go_simp
                  go_wp2_with ((go_at_call 12; refine (do_any (s1, s2) x q2 c2 _ HL2.out HS1.out.sz hpa).mono ?_; rintro e wm ⟨rfl, hlm, htm⟩))
                  have HLM := Lib.hid hlm
                  have HTM := Lib.hid (show Turns (fun k => k = M1 ∨ k = M2 ∨ k = M3) wr wm from hS.trans (htm.mono fun _ _ h => Or.inl h))
                  refine hK.out _ _ HTM.out (fun hS => ?_)
                  clear hK K hpa hlm htm
                  refine wpAnyH_done (by kernel_rfl) ?_ _
                  go_simp
                  clear hS HL2 HBN
                  rw [HAG.out] at HLM
                  have HQM := Lib.hid (HQ.out.above HTM.out ⟨HLT.out.2.1, HLT.out.2.2.1, HLT.out.2.2.2⟩ HGQ.out)
                  have HRYM := Lib.hid (show Rd wm (some ⟨g, oy, none⟩) (ly.flatMap ceW) from HTM.out.rd HRY.out (fun a ha => by cases ha; have h1 := HGB.out; have h2 := HNB.out; have h3 := HGQ.out; have h4 := HLT.out; show ¬ (g = M1 ∨ g = M2 ∨ g = M3); omega))
                  have HBM := Lib.hid (turns3_below HTM.out ⟨HGE.out.2.1, HGE.out.2.2.1, HGE.out.2.2.2⟩ HB.out)
                  have HPE2 := Lib.hid (HPY2.out.kept HBM.out)
                  go_upto_region 18 with fail
                  refine wp_region_held_drew (S := fun W => Turns (fun k => k = N1 ∨ k = N2 ∨ k = N3) wm W) (by kernel_rfl) (Turns.of_below (Below.drew (Below.refl _ _))) (fun hS => ?_)
                  refine wpAnyH_take (i := 0) (v := ?_) rfl (by kernel_rfl) (by kernel_rfl) (by kernel_rfl) (fun _ _ _ h => h) (Or.inl ⟨by kernel_rfl, ?_⟩) hS ?_
                  rotate_left
                  · intro W hSW
                    go_simp
                    all_goals with_reducible rfl
                  refine wpAnyH_take (i := 1) (v := ?_) rfl (by kernel_rfl) (by kernel_rfl) (by kernel_rfl) (fun _ _ _ h => h) (Or.inl ⟨by kernel_rfl, ?_⟩) hS ?_
                  rotate_left
                  · intro W hSW
                    go_simp
                    all_goals with_reducible rfl
                  refine wpAnyH_take (i := 2) (v := ?_) rfl (by kernel_rfl) (by kernel_rfl) (by kernel_rfl) (fun _ _ _ h => h) (Or.inl ⟨by kernel_rfl, ?_⟩) hS ?_
                  rotate_left
                  · intro W hSW
                    go_simp
                    all_goals with_reducible rfl
                  refine wpAnyH_take (i := 3) (v := ?_) rfl (by kernel_rfl) (by kernel_rfl) (by kernel_rfl) (fun _ _ _ h => h) (Or.inl ⟨by kernel_rfl, ?_⟩) hS ?_
                  rotate_left
                  · intro W hSW
                    go_simp
                    all_goals with_reducible rfl
                  go_simp
                  refine wpAnyH_take (i := 4) (v := ?_) rfl (by kernel_rfl) (by kernel_rfl) (by kernel_rfl) (fun _ _ _ h => h) (Or.inl ⟨by kernel_rfl, ?_⟩) hS ?_
                  rotate_left
                  · intro W hSW
                    go_simp
                    all_goals with_reducible rfl
                  go_simp
                  refine wpAnyH_take (i := 5) (v := .agg #[.int .i64 t1, .int .i64 t2]) rfl (by kernel_rfl) (by kernel_rfl) (by kernel_rfl) (fun _ _ _ h => h) (Or.inl ⟨by kernel_rfl, fun W hSW => exec_wr_st rfl rfl ((fun W (hSW : Turns (fun k => k = N1 ∨ k = N2 ∨ k = N3) wm W) => hSW.rd HRYM.out (fun a ha => by cases ha; have h1 := HGB.out; have h2 := HNB.out; show ¬ (g = N1 ∨ g = N2 ∨ g = N3); omega)) W hSW) HE2.out⟩) hS ?_
                  refine wpAnyH_take (i := 6) (v := ?_) rfl (by kernel_rfl) (by kernel_rfl) (by kernel_rfl) (fun _ _ _ h => h) (Or.inl ⟨by kernel_rfl, ?_⟩) hS ?_
                  rotate_left
                  · intro W hSW
                    go_simp
                    all_goals with_reducible rfl
                  refine wpAnyH_take (i := 7) (v := ?_) rfl (by kernel_rfl) (by kernel_rfl) (by kernel_rfl) (fun _ _ _ h => h) (Or.inl ⟨by kernel_rfl, ?_⟩) hS ?_
                  rotate_left
                  · intro W hSW
                    go_simp
                    all_goals with_reducible rfl
                  refine wpAnyH_take (i := 8) (v := ?_) rfl (by kernel_rfl) (by kernel_rfl) (by kernel_rfl) (fun _ _ _ h => h) (Or.inl ⟨by kernel_rfl, ?_⟩) hS ?_
                  rotate_left
                  · intro W hSW
                    go_simp
                    all_goals with_reducible rfl
                  go_simp
                  refine wpAnyH_take (i := 9) (v := ?_) rfl (by kernel_rfl) (by kernel_rfl) (by kernel_rfl) (fun _ _ _ h => h) (Or.inl ⟨by kernel_rfl, ?_⟩) hS ?_
                  rotate_left
                  · intro W hSW
                    go_simp
                    all_goals with_reducible rfl
                  go_simp
                  refine wpAnyH_take (i := 10) (v := .agg (opA y qq cc)) rfl (by kernel_rfl) (by kernel_rfl) (by kernel_rfl) (fun _ _ _ h => h) (Or.inl ⟨by kernel_rfl, fun W hSW => exec_wr_op rfl rfl ((fun W (hSW : Turns (fun k => k = N1 ∨ k = N2 ∨ k = N3) wm W) => hSW.rd HRYM.out (fun a ha => by cases ha; have h1 := HGB.out; have h2 := HNB.out; show ¬ (g = N1 ∨ g = N2 ∨ g = N3); omega)) W hSW) HE2.out⟩) hS ?_
                  go_simp
                  refine wpAnyH_ready (rs := [11]) (by kernel_rfl) (by simp) ?_
                  refine AllReadyH.cons rfl (fun K hK => ?_) AllReadyH.nil
                  go_simp
                  go_wp2_with ((go_at_call 10; refine (ownN_any y qq cc _ (HPE2.out.kept (Below.drew (Below.refl _ _))) (by have := HS12.out.1; omega)).mono ?_; rintro e wn2 ⟨qq2, cc2, rfl, hpa, hbn, -⟩))
                  have HBN2 := Lib.hid hbn
                  have HL22 := Lib.hid ((HQM.out.kept (Below.drew (Below.refl _ _))).kept hbn)
                  refine hK.out _ _ (hS.call hbn) (fun hS => ?_)
                  clear hK K hbn
                  refine wpAnyH_ready (rs := [12]) (by kernel_rfl) (by simp) ?_
                  refine AllReadyH.cons rfl (fun K hK => ?_) AllReadyH.nil
                  go_simp
                  go_wp2_with ((go_at_call 12; refine (do_any (t1, t2) y qq2 cc2 _ HL22.out HS12.out.sz hpa).mono ?_; rintro e wm2 ⟨rfl, hlm, htm⟩))
                  have HLM2 := Lib.hid hlm
                  have HTM2 := Lib.hid (show Turns (fun k => k = N1 ∨ k = N2 ∨ k = N3) wm wm2 from hS.trans (htm.mono fun _ _ h => Or.inl h))
                  refine hK.out _ _ HTM2.out (fun hS => ?_)
                  clear hK K hpa hlm htm
                  refine wpAnyH_done (by kernel_rfl) ?_ _
                  go_simp
                  clear hS HL22 HBN2
                  rw [HAG2.out] at HLM2
                  have HLX := Lib.hid (HLM.out.under HTM2.out ⟨HGQ.out.2.1, HGQ.out.2.2.1, HGQ.out.2.2.2⟩ HLT.out)
                  have HRX := Lib.hid (show Rd wm2 (some ⟨g, oy, none⟩) (ly.flatMap ceW) from HTM2.out.rd HRYM.out (fun a ha => by cases ha; have h1 := HGB.out; have h2 := HNB.out; show ¬ (g = N1 ∨ g = N2 ∨ g = N3); omega))
                  have HBX := Lib.hid (turns3_below HTM2.out (by have h1 := HWB.out; have h2 := HGQ.out; omega) HBM.out)
                  clear HL HQ HLM HRY HB HTM HTM2 HQM HRYM HBM
                  go_wp2
                  go_roundw
                  case rel => exact ⟨k + 1, by omega, by go_num, HLX.out, HLM2.out, HRX.out, HBX.out⟩
                  case measure => simp [intOf]; omega
                · obtain rfl : k = l.length := by omega
                  have d0 : decide ((l.length : Int) < (l.length : Int)) = false := decide_eq_false (by omega)
                  have HTA := Lib.hid (show (pl l).take l.length = pl l from List.take_of_length_le (by unfold pl; rw [List.length_map]; exact Nat.le_refl _))
                  have HTB := Lib.hid (show (pl ly).take l.length = pl ly ++ (pl ly).take 0 from by rw [List.take_zero, List.append_nil]; exact List.take_of_length_le (by unfold pl; rw [List.length_map, HLY.out]; exact Nat.le_refl _))
                  rw [HTA.out] at HL
                  rw [HTB.out] at HQ
                  clear HTA HTB
                  go_wp2
                  go_loopw [12] (fun i wr => ∃ k : Nat, k ≤ l.length ∧ i = .int .i64 (k : Int) ∧ Lay wr P M1 M2 M3 (Pm.allR (pl l)) ∧ Lay wr Q N1 N2 N3 (Pm.allR (pl ly ++ (pl ly).take k)) ∧ Rd wr py (ly.flatMap ceW) ∧ Below w.heap.size w wr) (fun i _ => l.length - (intOf i).toNat)
                  case atStart => exact ⟨0, Nat.zero_le _, rfl, HL.out, HQ.out, HRY.out, HB.out⟩
                  case round =>
                    clear HL HQ HRY HB
                    obtain ⟨k, hk, rfl, hl3, hq3, hy3, hb3⟩ := hrel
                    have HL := Lib.hid hl3
                    have HQ := Lib.hid hq3
                    have HRY := Lib.hid hy3
                    have HB := Lib.hid hb3
                    clear hl3 hq3 hy3 hb3
                    by_cases hlt : k < l.length
                    · have d0 : decide ((k : Int) < (l.length : Int)) = true := decide_eq_true (by omega)
                      obtain ⟨g, oy, hgy, -⟩ := HRY.out.addr (by rw [wrK.length, HLY.out]; omega)
                      subst hgy
                      have HGB := Lib.hid (show w5.heap.size ≤ g from HOG.out _ rfl)
                      obtain ⟨e2, he2⟩ : ∃ e, ly[k]? = some e := ⟨_, List.getElem?_eq_getElem (by rw [HLY.out]; exact hlt)⟩
                      have hm2 : e2 ∈ l := HPY.out.mem_iff.1 (List.mem_of_getElem? he2)
                      have HPE := Lib.hid ((HR.out.pa _ hm2).kept HB.out)
                      have HS1 := Lib.hid (HSM.out _ hm2)
                      have HTK2 := Lib.hid (pl_take he2)
                      obtain ⟨⟨⟨s1, s2⟩, x⟩, q, c⟩ := e2
                      have HE2 := Lib.hid he2
                      have HAG2 := Lib.hid (show Pm.doR (Pm.allR (pl ly ++ (pl ly).take k)) ⟨(s1, s2), x⟩ = Pm.allR (pl ly ++ (pl ly).take (k + 1)) from by rw [HTK2.out, ← List.append_assoc, Pm.allR_snoc])
                      clear he2 hm2 HTK2
                      go_upto_region 22 with fail
                      refine wp_region_held_drew (S := fun W => Turns (fun k => k = N1 ∨ k = N2 ∨ k = N3) wr W) (by kernel_rfl) (Turns.of_below (Below.drew (Below.refl _ _))) (fun hS => ?_)
                      refine wpAnyH_take (i := 0) (v := ?_) rfl (by kernel_rfl) (by kernel_rfl) (by kernel_rfl) (fun _ _ _ h => h) (Or.inl ⟨by kernel_rfl, ?_⟩) hS ?_
                      rotate_left
                      · intro W hSW
                        go_simp
                        all_goals with_reducible rfl
                      refine wpAnyH_take (i := 1) (v := ?_) rfl (by kernel_rfl) (by kernel_rfl) (by kernel_rfl) (fun _ _ _ h => h) (Or.inl ⟨by kernel_rfl, ?_⟩) hS ?_
                      rotate_left
                      · intro W hSW
                        go_simp
                        all_goals with_reducible rfl
                      refine wpAnyH_take (i := 2) (v := ?_) rfl (by kernel_rfl) (by kernel_rfl) (by kernel_rfl) (fun _ _ _ h => h) (Or.inl ⟨by kernel_rfl, ?_⟩) hS ?_
                      rotate_left
                      · intro W hSW
                        go_simp
                        all_goals with_reducible rfl
                      refine wpAnyH_take (i := 3) (v := ?_) rfl (by kernel_rfl) (by kernel_rfl) (by kernel_rfl) (fun _ _ _ h => h) (Or.inl ⟨by kernel_rfl, ?_⟩) hS ?_
                      rotate_left
                      · intro W hSW
                        go_simp
                        all_goals with_reducible rfl
                      go_simp
                      refine wpAnyH_take (i := 4) (v := ?_) rfl (by kernel_rfl) (by kernel_rfl) (by kernel_rfl) (fun _ _ _ h => h) (Or.inl ⟨by kernel_rfl, ?_⟩) hS ?_
                      rotate_left
                      · intro W hSW
                        go_simp
                        all_goals with_reducible rfl
                      go_simp
                      refine wpAnyH_take (i := 5) (v := .agg #[.int .i64 s1, .int .i64 s2]) rfl (by kernel_rfl) (by kernel_rfl) (by kernel_rfl) (fun _ _ _ h => h) (Or.inl ⟨by kernel_rfl, fun W hSW => exec_wr_st rfl rfl ((fun W (hSW : Turns (fun k => k = N1 ∨ k = N2 ∨ k = N3) wr W) => hSW.rd HRY.out (fun a ha => by cases ha; have h1 := HGB.out; have h2 := HNB.out; show ¬ (g = N1 ∨ g = N2 ∨ g = N3); omega)) W hSW) HE2.out⟩) hS ?_
                      refine wpAnyH_take (i := 6) (v := ?_) rfl (by kernel_rfl) (by kernel_rfl) (by kernel_rfl) (fun _ _ _ h => h) (Or.inl ⟨by kernel_rfl, ?_⟩) hS ?_
                      rotate_left
                      · intro W hSW
                        go_simp
                        all_goals with_reducible rfl
                      refine wpAnyH_take (i := 7) (v := ?_) rfl (by kernel_rfl) (by kernel_rfl) (by kernel_rfl) (fun _ _ _ h => h) (Or.inl ⟨by kernel_rfl, ?_⟩) hS ?_
                      rotate_left
                      · intro W hSW
                        go_simp
                        all_goals with_reducible rfl
                      refine wpAnyH_take (i := 8) (v := ?_) rfl (by kernel_rfl) (by kernel_rfl) (by kernel_rfl) (fun _ _ _ h => h) (Or.inl ⟨by kernel_rfl, ?_⟩) hS ?_
                      rotate_left
                      · intro W hSW
                        go_simp
                        all_goals with_reducible rfl
                      go_simp
                      refine wpAnyH_take (i := 9) (v := ?_) rfl (by kernel_rfl) (by kernel_rfl) (by kernel_rfl) (fun _ _ _ h => h) (Or.inl ⟨by kernel_rfl, ?_⟩) hS ?_
                      rotate_left
                      · intro W hSW
                        go_simp
                        all_goals with_reducible rfl
                      go_simp
                      refine wpAnyH_take (i := 10) (v := .agg (opA x q c)) rfl (by kernel_rfl) (by kernel_rfl) (by kernel_rfl) (fun _ _ _ h => h) (Or.inl ⟨by kernel_rfl, fun W hSW => exec_wr_op rfl rfl ((fun W (hSW : Turns (fun k => k = N1 ∨ k = N2 ∨ k = N3) wr W) => hSW.rd HRY.out (fun a ha => by cases ha; have h1 := HGB.out; have h2 := HNB.out; show ¬ (g = N1 ∨ g = N2 ∨ g = N3); omega)) W hSW) HE2.out⟩) hS ?_
                      go_simp
                      refine wpAnyH_ready (rs := [11]) (by kernel_rfl) (by simp) ?_
                      refine AllReadyH.cons rfl (fun K hK => ?_) AllReadyH.nil
                      go_simp
                      go_wp2_with ((go_at_call 10; refine (ownN_any x q c _ (HPE.out.kept (Below.drew (Below.refl _ _))) (by have := HS1.out.1; omega)).mono ?_; rintro e wn ⟨q2, c2, rfl, hpa, hbn, -⟩))
                      have HBN := Lib.hid hbn
                      have HL2 := Lib.hid ((HQ.out.kept (Below.drew (Below.refl _ _))).kept hbn)
                      refine hK.out _ _ (hS.call hbn) (fun hS => ?_)
                      clear hK K hbn
                      refine wpAnyH_ready (rs := [12]) (by kernel_rfl) (by simp) ?_
                      refine AllReadyH.cons rfl (fun K hK => ?_) AllReadyH.nil
                      go_simp
                      go_wp2_with ((go_at_call 12; refine (do_any (s1, s2) x q2 c2 _ HL2.out HS1.out.sz hpa).mono ?_; rintro e wm ⟨rfl, hlm, htm⟩))
                      have HLM := Lib.hid hlm
                      have HTM := Lib.hid (show Turns (fun k => k = N1 ∨ k = N2 ∨ k = N3) wr wm from hS.trans (htm.mono fun _ _ h => Or.inl h))
                      refine hK.out _ _ HTM.out (fun hS => ?_)
                      clear hK K hpa hlm htm
                      refine wpAnyH_done (by kernel_rfl) ?_ _
                      go_simp
                      clear hS HL2 HBN
                      rw [HAG2.out] at HLM
                      have HLX := Lib.hid (HL.out.under HTM.out ⟨HGQ.out.2.1, HGQ.out.2.2.1, HGQ.out.2.2.2⟩ HLT.out)
                      have HRX := Lib.hid (show Rd wm (some ⟨g, oy, none⟩) (ly.flatMap ceW) from HTM.out.rd HRY.out (fun a ha => by cases ha; have h1 := HGB.out; have h2 := HNB.out; show ¬ (g = N1 ∨ g = N2 ∨ g = N3); omega))
                      have HBX := Lib.hid (turns3_below HTM.out (by have h1 := HWB.out; have h2 := HGQ.out; omega) HB.out)
                      clear HL HQ HRY HB HTM
                      go_wp2
                      go_roundw
                      case rel => exact ⟨k + 1, by omega, by go_num, HLX.out, HLM.out, HRX.out, HBX.out⟩
                      case measure => simp [intOf]; omega
                    · obtain rfl : k = l.length := by omega
                      have d0 : decide ((l.length : Int) < (l.length : Int)) = false := decide_eq_false (by omega)
                      have HEQ := Lib.hid (show Pm.allR (pl ly ++ (pl ly).take l.length) = Pm.allR (pl l) from by
                        rw [List.take_of_length_le (by unfold pl; rw [List.length_map, HLY.out]; exact Nat.le_refl _)]
                        exact (Pm.any_order (fun v => by rw [List.mem_append, or_self]; exact (wr_perm HPY.out v).symm) HAP.out).symm)
                      rw [HEQ.out] at HQ
                      clear HEQ
                      go_wp2_with fail
                      refine (same_any _ HL.out HQ.out).mono ?_
                      rintro e wz ⟨bb, rfl, hbb, hbz⟩
                      obtain rfl : bb = true := hbb.2 (Pm.Same.refl _)
                      replace HB := Lib.hid (HB.out.trans (hbz.mono HB.out.size))
                      replace HL := Lib.hid (HL.out.kept hbz)
                      replace HQ := Lib.hid (HQ.out.kept hbz)
                      clear hbb hbz
                      go_wp2_with fail
                      refine (same_any _ HQ.out HL.out).mono ?_
                      rintro e wz ⟨bb, rfl, hbb, hbz⟩
                      obtain rfl : bb = true := hbb.2 (Pm.Same.refl _)
                      replace HB := Lib.hid (HB.out.trans (hbz.mono HB.out.size))
                      clear hbb hbz
                      go_wp2
                      go_ret
                      exact ⟨rfl, HB.out⟩
            · have d2 : decide ((k : Int) < 60) = false := decide_eq_false (by omega)
              clear hgo
              have HL12 := Lib.hid (show Lay w12 P M1 M2 M3 (Pm.allR ((pl l).take 0)) from HL.out.turns (Turns.of_base HBD.out) (by have h1 := HLT.out; have h2 := HGQ.out; have h3 := HNB.out; omega) (by have h1 := HLT.out; have h2 := HGQ.out; have h3 := HNB.out; omega) (by have h1 := HLT.out; have h2 := HGQ.out; have h3 := HNB.out; omega) (by have h1 := HLT.out; have h2 := HGQ.out; have h3 := HNB.out; omega))
              have HQ12 := Lib.hid (show Lay w12 Q N1 N2 N3 (Pm.allR ((pl ly).take 0)) from HQ.out.turns (Turns.of_base HBD.out) (by have h3 := HNB.out; omega) (by have h3 := HNB.out; omega) (by have h3 := HNB.out; omega) (by have h3 := HNB.out; omega))
              have HB12 := Lib.hid (HB.out.trans (HBD.out.mono HW5.out))
              have hown := HRO.out
              rw [← HLY.out] at hown
              have HY12 := Lib.hid (own_rdK hown).1
              have HOG := Lib.hid (own_rdK hown).2.2.2
              clear hown HRO HL HQ HB HBD
              go_wp2
              go_loopw [11] (fun i wr => ∃ k : Nat, k ≤ l.length ∧ i = .int .i64 (k : Int) ∧ Lay wr P M1 M2 M3 (Pm.allR ((pl l).take k)) ∧ Lay wr Q N1 N2 N3 (Pm.allR ((pl ly).take k)) ∧ Rd wr py (ly.flatMap ceW) ∧ Below w.heap.size w wr) (fun i _ => l.length - (intOf i).toNat)
              case atStart => exact ⟨0, Nat.zero_le _, rfl, HL12.out, HQ12.out, HY12.out, HB12.out⟩
              case round =>
                clear HL12 HQ12 HY12 HB12
                obtain ⟨k, hk, rfl, hl3, hq3, hy3, hb3⟩ := hrel
                have HL := Lib.hid hl3
                have HQ := Lib.hid hq3
                have HRY := Lib.hid hy3
                have HB := Lib.hid hb3
                clear hl3 hq3 hy3 hb3
                by_cases hlt : k < l.length
                · have d0 : decide ((k : Int) < (l.length : Int)) = true := decide_eq_true (by omega)
                  obtain ⟨b, o, rfl, hbl⟩ := HR.out.rd.addr (by rw [wrK.length]; omega)
                  have HBL := Lib.hid hbl
                  obtain ⟨g, oy, hgy, -⟩ := HRY.out.addr (by rw [wrK.length, HLY.out]; omega)
                  subst hgy
                  have HGB := Lib.hid (show w5.heap.size ≤ g from HOG.out _ rfl)
                  obtain ⟨e, he⟩ : ∃ e, l[k]? = some e := ⟨_, List.getElem?_eq_getElem hlt⟩
                  obtain ⟨e2, he2⟩ : ∃ e, ly[k]? = some e := ⟨_, List.getElem?_eq_getElem (by rw [HLY.out]; exact hlt)⟩
                  have hm2 : e2 ∈ l := HPY.out.mem_iff.1 (List.mem_of_getElem? he2)
                  have HPE := Lib.hid ((HR.out.pa _ (List.mem_of_getElem? he)).kept HB.out)
                  have HS1 := Lib.hid (HSM.out _ (List.mem_of_getElem? he))
                  have HPY2 := Lib.hid (HR.out.pa _ hm2)
                  have HS12 := Lib.hid (HSM.out _ hm2)
                  have HTK := Lib.hid (pl_take he)
                  have HTK2 := Lib.hid (pl_take he2)
                  obtain ⟨⟨⟨s1, s2⟩, x⟩, q, c⟩ := e
                  obtain ⟨⟨⟨t1, t2⟩, y⟩, qq, cc⟩ := e2
                  have HE := Lib.hid he
                  have HE2 := Lib.hid he2
                  have HAG := Lib.hid (show Pm.doR (Pm.allR ((pl l).take k)) ⟨(s1, s2), x⟩ = Pm.allR ((pl l).take (k + 1)) from by rw [HTK.out, Pm.allR_snoc])
                  have HAG2 := Lib.hid (show Pm.doR (Pm.allR ((pl ly).take k)) ⟨(t1, t2), y⟩ = Pm.allR ((pl ly).take (k + 1)) from by rw [HTK2.out, Pm.allR_snoc])
                  have hlt2 : k < ly.length := by rw [HLY.out]; exact hlt
                  clear he he2 hm2 hbl HTK HTK2
                  go_upto_region 17 with fail
                  refine wp_region_held_drew (S := fun W => Turns (fun k => k = M1 ∨ k = M2 ∨ k = M3) wr W) (by kernel_rfl) (Turns.of_below (Below.drew (Below.refl _ _))) (fun hS => ?_)
                  refine wpAnyH_take (i := 0) (v := ?_) rfl (by kernel_rfl) (by kernel_rfl) (by kernel_rfl) (fun _ _ _ h => h) (Or.inl ⟨by kernel_rfl, ?_⟩) hS ?_
                  rotate_left
                  · intro W hSW
                    go_simp
                    all_goals with_reducible rfl
                  refine wpAnyH_take (i := 1) (v := ?_) rfl (by kernel_rfl) (by kernel_rfl) (by kernel_rfl) (fun _ _ _ h => h) (Or.inl ⟨by kernel_rfl, ?_⟩) hS ?_
                  rotate_left
                  · intro W hSW
                    go_simp
                    all_goals with_reducible rfl
                  refine wpAnyH_take (i := 2) (v := ?_) rfl (by kernel_rfl) (by kernel_rfl) (by kernel_rfl) (fun _ _ _ h => h) (Or.inl ⟨by kernel_rfl, ?_⟩) hS ?_
                  rotate_left
                  · intro W hSW
                    go_simp
                    all_goals with_reducible rfl
                  refine wpAnyH_take (i := 3) (v := ?_) rfl (by kernel_rfl) (by kernel_rfl) (by kernel_rfl) (fun _ _ _ h => h) (Or.inl ⟨by kernel_rfl, ?_⟩) hS ?_
                  rotate_left
                  · intro W hSW
                    go_simp
                    all_goals with_reducible rfl
                  go_simp
                  refine wpAnyH_take (i := 4) (v := ?_) rfl (by kernel_rfl) (by kernel_rfl) (by kernel_rfl) (fun _ _ _ h => h) (Or.inl ⟨by kernel_rfl, ?_⟩) hS ?_
                  rotate_left
                  · intro W hSW
                    go_simp
                    all_goals with_reducible rfl
                  go_simp
                  refine wpAnyH_take (i := 5) (v := .agg #[.int .i64 s1, .int .i64 s2]) rfl (by kernel_rfl) (by kernel_rfl) (by kernel_rfl) (fun _ _ _ h => h) (Or.inl ⟨by kernel_rfl, fun W hSW => exec_wr_st rfl rfl ((fun W (hSW : Turns (fun k => k = M1 ∨ k = M2 ∨ k = M3) wr W) => hSW.rd (HR.out.rd.below HB.out) (fun a ha => by cases ha; have h1 := HBL.out; have h2 := HGE.out; show ¬ (b = M1 ∨ b = M2 ∨ b = M3); omega)) W hSW) HE.out⟩) hS ?_
                  refine wpAnyH_take (i := 6) (v := ?_) rfl (by kernel_rfl) (by kernel_rfl) (by kernel_rfl) (fun _ _ _ h => h) (Or.inl ⟨by kernel_rfl, ?_⟩) hS ?_
                  rotate_left
                  · intro W hSW
                    go_simp
                    all_goals with_reducible rfl
                  refine wpAnyH_take (i := 7) (v := ?_) rfl (by kernel_rfl) (by kernel_rfl) (by kernel_rfl) (fun _ _ _ h => h) (Or.inl ⟨by kernel_rfl, ?_⟩) hS ?_
                  rotate_left
                  · intro W hSW
                    go_simp
                    all_goals with_reducible rfl
                  refine wpAnyH_take (i := 8) (v := ?_) rfl (by kernel_rfl) (by kernel_rfl) (by kernel_rfl) (fun _ _ _ h => h) (Or.inl ⟨by kernel_rfl, ?_⟩) hS ?_
                  rotate_left
                  · intro W hSW
                    go_simp
                    all_goals with_reducible rfl
                  go_simp
                  refine wpAnyH_take (i := 9) (v := ?_) rfl (by kernel_rfl) (by kernel_rfl) (by kernel_rfl) (fun _ _ _ h => h) (Or.inl ⟨by kernel_rfl, ?_⟩) hS ?_
                  rotate_left
                  · intro W hSW
                    go_simp
                    all_goals with_reducible rfl
                  go_simp
                  refine wpAnyH_take (i := 10) (v := .agg (opA x q c)) rfl (by kernel_rfl) (by kernel_rfl) (by kernel_rfl) (fun _ _ _ h => h) (Or.inl ⟨by kernel_rfl, fun W hSW => exec_wr_op rfl rfl ((fun W (hSW : Turns (fun k => k = M1 ∨ k = M2 ∨ k = M3) wr W) => hSW.rd (HR.out.rd.below HB.out) (fun a ha => by cases ha; have h1 := HBL.out; have h2 := HGE.out; show ¬ (b = M1 ∨ b = M2 ∨ b = M3); omega)) W hSW) HE.out⟩) hS ?_
                  go_simp
                  refine wpAnyH_ready (rs := [11]) (by kernel_rfl) (by simp) ?_
                  refine AllReadyH.cons rfl (fun K hK => ?_) AllReadyH.nil
                  go_simp
                  go_wp2_with ((go_at_call 10; refine (ownN_any x q c _ (HPE.out.kept (Below.drew (Below.refl _ _))) (by have := HS1.out.1; omega)).mono ?_; rintro e wn ⟨q2, c2, rfl, hpa, hbn, -⟩))
                  have HBN := Lib.hid hbn
                  have HL2 := Lib.hid ((HL.out.kept (Below.drew (Below.refl _ _))).kept hbn)
                  refine hK.out _ _ (hS.call hbn) (fun hS => ?_)
                  clear hK K hbn
                  refine wpAnyH_ready (rs := [12]) (by kernel_rfl) (by simp) ?_
                  refine AllReadyH.cons rfl (fun K hK => ?_) AllReadyH.nil
                  go_simp
                  go_wp2_with ((go_at_call 12; refine (do_any (s1, s2) x q2 c2 _ HL2.out HS1.out.sz hpa).mono ?_; rintro e wm ⟨rfl, hlm, htm⟩))
                  have HLM := Lib.hid hlm
                  have HTM := Lib.hid (show Turns (fun k => k = M1 ∨ k = M2 ∨ k = M3) wr wm from hS.trans (htm.mono fun _ _ h => Or.inl h))
                  refine hK.out _ _ HTM.out (fun hS => ?_)
                  clear hK K hpa hlm htm
                  refine wpAnyH_done (by kernel_rfl) ?_ _
                  go_simp
                  clear hS HL2 HBN
                  rw [HAG.out] at HLM
                  have HQM := Lib.hid (HQ.out.above HTM.out ⟨HLT.out.2.1, HLT.out.2.2.1, HLT.out.2.2.2⟩ HGQ.out)
                  have HRYM := Lib.hid (show Rd wm (some ⟨g, oy, none⟩) (ly.flatMap ceW) from HTM.out.rd HRY.out (fun a ha => by cases ha; have h1 := HGB.out; have h2 := HNB.out; have h3 := HGQ.out; have h4 := HLT.out; show ¬ (g = M1 ∨ g = M2 ∨ g = M3); omega))
                  have HBM := Lib.hid (turns3_below HTM.out ⟨HGE.out.2.1, HGE.out.2.2.1, HGE.out.2.2.2⟩ HB.out)
                  have HPE2 := Lib.hid (HPY2.out.kept HBM.out)
                  go_upto_region 18 with fail
                  refine wp_region_held_drew (S := fun W => Turns (fun k => k = N1 ∨ k = N2 ∨ k = N3) wm W) (by kernel_rfl) (Turns.of_below (Below.drew (Below.refl _ _))) (fun hS => ?_)
                  refine wpAnyH_take (i := 0) (v := ?_) rfl (by kernel_rfl) (by kernel_rfl) (by kernel_rfl) (fun _ _ _ h => h) (Or.inl ⟨by kernel_rfl, ?_⟩) hS ?_
                  rotate_left
                  · intro W hSW
                    go_simp
                    all_goals with_reducible rfl
                  refine wpAnyH_take (i := 1) (v := ?_) rfl (by kernel_rfl) (by kernel_rfl) (by kernel_rfl) (fun _ _ _ h => h) (Or.inl ⟨by kernel_rfl, ?_⟩) hS ?_
                  rotate_left
                  · intro W hSW
                    go_simp
                    all_goals with_reducible rfl
                  refine wpAnyH_take (i := 2) (v := ?_) rfl (by kernel_rfl) (by kernel_rfl) (by kernel_rfl) (fun _ _ _ h => h) (Or.inl ⟨by kernel_rfl, ?_⟩) hS ?_
                  rotate_left
                  · intro W hSW
                    go_simp
                    all_goals with_reducible rfl
                  refine wpAnyH_take (i := 3) (v := ?_) rfl (by kernel_rfl) (by kernel_rfl) (by kernel_rfl) (fun _ _ _ h => h) (Or.inl ⟨by kernel_rfl, ?_⟩) hS ?_
                  rotate_left
                  · intro W hSW
                    go_simp
                    all_goals with_reducible rfl
                  go_simp
                  refine wpAnyH_take (i := 4) (v := ?_) rfl (by kernel_rfl) (by kernel_rfl) (by kernel_rfl) (fun _ _ _ h => h) (Or.inl ⟨by kernel_rfl, ?_⟩) hS ?_
                  rotate_left
                  · intro W hSW
                    go_simp
                    all_goals with_reducible rfl
                  go_simp
                  refine wpAnyH_take (i := 5) (v := .agg #[.int .i64 t1, .int .i64 t2]) rfl (by kernel_rfl) (by kernel_rfl) (by kernel_rfl) (fun _ _ _ h => h) (Or.inl ⟨by kernel_rfl, fun W hSW => exec_wr_st rfl rfl ((fun W (hSW : Turns (fun k => k = N1 ∨ k = N2 ∨ k = N3) wm W) => hSW.rd HRYM.out (fun a ha => by cases ha; have h1 := HGB.out; have h2 := HNB.out; show ¬ (g = N1 ∨ g = N2 ∨ g = N3); omega)) W hSW) HE2.out⟩) hS ?_
                  refine wpAnyH_take (i := 6) (v := ?_) rfl (by kernel_rfl) (by kernel_rfl) (by kernel_rfl) (fun _ _ _ h => h) (Or.inl ⟨by kernel_rfl, ?_⟩) hS ?_
                  rotate_left
                  · intro W hSW
                    go_simp
                    all_goals with_reducible rfl
                  refine wpAnyH_take (i := 7) (v := ?_) rfl (by kernel_rfl) (by kernel_rfl) (by kernel_rfl) (fun _ _ _ h => h) (Or.inl ⟨by kernel_rfl, ?_⟩) hS ?_
                  rotate_left
                  · intro W hSW
                    go_simp
                    all_goals with_reducible rfl
                  refine wpAnyH_take (i := 8) (v := ?_) rfl (by kernel_rfl) (by kernel_rfl) (by kernel_rfl) (fun _ _ _ h => h) (Or.inl ⟨by kernel_rfl, ?_⟩) hS ?_
                  rotate_left
                  · intro W hSW
                    go_simp
                    all_goals with_reducible rfl
                  go_simp
                  refine wpAnyH_take (i := 9) (v := ?_) rfl (by kernel_rfl) (by kernel_rfl) (by kernel_rfl) (fun _ _ _ h => h) (Or.inl ⟨by kernel_rfl, ?_⟩) hS ?_
                  rotate_left
                  · intro W hSW
                    go_simp
                    all_goals with_reducible rfl
                  go_simp
                  refine wpAnyH_take (i := 10) (v := .agg (opA y qq cc)) rfl (by kernel_rfl) (by kernel_rfl) (by kernel_rfl) (fun _ _ _ h => h) (Or.inl ⟨by kernel_rfl, fun W hSW => exec_wr_op rfl rfl ((fun W (hSW : Turns (fun k => k = N1 ∨ k = N2 ∨ k = N3) wm W) => hSW.rd HRYM.out (fun a ha => by cases ha; have h1 := HGB.out; have h2 := HNB.out; show ¬ (g = N1 ∨ g = N2 ∨ g = N3); omega)) W hSW) HE2.out⟩) hS ?_
                  go_simp
                  refine wpAnyH_ready (rs := [11]) (by kernel_rfl) (by simp) ?_
                  refine AllReadyH.cons rfl (fun K hK => ?_) AllReadyH.nil
                  go_simp
                  go_wp2_with ((go_at_call 10; refine (ownN_any y qq cc _ (HPE2.out.kept (Below.drew (Below.refl _ _))) (by have := HS12.out.1; omega)).mono ?_; rintro e wn2 ⟨qq2, cc2, rfl, hpa, hbn, -⟩))
                  have HBN2 := Lib.hid hbn
                  have HL22 := Lib.hid ((HQM.out.kept (Below.drew (Below.refl _ _))).kept hbn)
                  refine hK.out _ _ (hS.call hbn) (fun hS => ?_)
                  clear hK K hbn
                  refine wpAnyH_ready (rs := [12]) (by kernel_rfl) (by simp) ?_
                  refine AllReadyH.cons rfl (fun K hK => ?_) AllReadyH.nil
                  go_simp
                  go_wp2_with ((go_at_call 12; refine (do_any (t1, t2) y qq2 cc2 _ HL22.out HS12.out.sz hpa).mono ?_; rintro e wm2 ⟨rfl, hlm, htm⟩))
                  have HLM2 := Lib.hid hlm
                  have HTM2 := Lib.hid (show Turns (fun k => k = N1 ∨ k = N2 ∨ k = N3) wm wm2 from hS.trans (htm.mono fun _ _ h => Or.inl h))
                  refine hK.out _ _ HTM2.out (fun hS => ?_)
                  clear hK K hpa hlm htm
                  refine wpAnyH_done (by kernel_rfl) ?_ _
                  go_simp
                  clear hS HL22 HBN2
                  rw [HAG2.out] at HLM2
                  have HLX := Lib.hid (HLM.out.under HTM2.out ⟨HGQ.out.2.1, HGQ.out.2.2.1, HGQ.out.2.2.2⟩ HLT.out)
                  have HRX := Lib.hid (show Rd wm2 (some ⟨g, oy, none⟩) (ly.flatMap ceW) from HTM2.out.rd HRYM.out (fun a ha => by cases ha; have h1 := HGB.out; have h2 := HNB.out; show ¬ (g = N1 ∨ g = N2 ∨ g = N3); omega))
                  have HBX := Lib.hid (turns3_below HTM2.out (by have h1 := HWB.out; have h2 := HGQ.out; omega) HBM.out)
                  clear HL HQ HLM HRY HB HTM HTM2 HQM HRYM HBM
                  go_wp2
                  go_roundw
                  case rel => exact ⟨k + 1, by omega, by go_num, HLX.out, HLM2.out, HRX.out, HBX.out⟩
                  case measure => simp [intOf]; omega
                · obtain rfl : k = l.length := by omega
                  have d0 : decide ((l.length : Int) < (l.length : Int)) = false := decide_eq_false (by omega)
                  have HTA := Lib.hid (show (pl l).take l.length = pl l from List.take_of_length_le (by unfold pl; rw [List.length_map]; exact Nat.le_refl _))
                  have HTB := Lib.hid (show (pl ly).take l.length = pl ly ++ (pl ly).take 0 from by rw [List.take_zero, List.append_nil]; exact List.take_of_length_le (by unfold pl; rw [List.length_map, HLY.out]; exact Nat.le_refl _))
                  rw [HTA.out] at HL
                  rw [HTB.out] at HQ
                  clear HTA HTB
                  go_wp2
                  go_loopw [12] (fun i wr => ∃ k : Nat, k ≤ l.length ∧ i = .int .i64 (k : Int) ∧ Lay wr P M1 M2 M3 (Pm.allR (pl l)) ∧ Lay wr Q N1 N2 N3 (Pm.allR (pl ly ++ (pl ly).take k)) ∧ Rd wr py (ly.flatMap ceW) ∧ Below w.heap.size w wr) (fun i _ => l.length - (intOf i).toNat)
                  case atStart => exact ⟨0, Nat.zero_le _, rfl, HL.out, HQ.out, HRY.out, HB.out⟩
                  case round =>
                    clear HL HQ HRY HB
                    obtain ⟨k, hk, rfl, hl3, hq3, hy3, hb3⟩ := hrel
                    have HL := Lib.hid hl3
                    have HQ := Lib.hid hq3
                    have HRY := Lib.hid hy3
                    have HB := Lib.hid hb3
                    clear hl3 hq3 hy3 hb3
                    by_cases hlt : k < l.length
                    · have d0 : decide ((k : Int) < (l.length : Int)) = true := decide_eq_true (by omega)
                      obtain ⟨g, oy, hgy, -⟩ := HRY.out.addr (by rw [wrK.length, HLY.out]; omega)
                      subst hgy
                      have HGB := Lib.hid (show w5.heap.size ≤ g from HOG.out _ rfl)
                      obtain ⟨e2, he2⟩ : ∃ e, ly[k]? = some e := ⟨_, List.getElem?_eq_getElem (by rw [HLY.out]; exact hlt)⟩
                      have hm2 : e2 ∈ l := HPY.out.mem_iff.1 (List.mem_of_getElem? he2)
                      have HPE := Lib.hid ((HR.out.pa _ hm2).kept HB.out)
                      have HS1 := Lib.hid (HSM.out _ hm2)
                      have HTK2 := Lib.hid (pl_take he2)
                      obtain ⟨⟨⟨s1, s2⟩, x⟩, q, c⟩ := e2
                      have HE2 := Lib.hid he2
                      have HAG2 := Lib.hid (show Pm.doR (Pm.allR (pl ly ++ (pl ly).take k)) ⟨(s1, s2), x⟩ = Pm.allR (pl ly ++ (pl ly).take (k + 1)) from by rw [HTK2.out, ← List.append_assoc, Pm.allR_snoc])
                      clear he2 hm2 HTK2
                      go_upto_region 22 with fail
                      refine wp_region_held_drew (S := fun W => Turns (fun k => k = N1 ∨ k = N2 ∨ k = N3) wr W) (by kernel_rfl) (Turns.of_below (Below.drew (Below.refl _ _))) (fun hS => ?_)
                      refine wpAnyH_take (i := 0) (v := ?_) rfl (by kernel_rfl) (by kernel_rfl) (by kernel_rfl) (fun _ _ _ h => h) (Or.inl ⟨by kernel_rfl, ?_⟩) hS ?_
                      rotate_left
                      · intro W hSW
                        go_simp
                        all_goals with_reducible rfl
                      refine wpAnyH_take (i := 1) (v := ?_) rfl (by kernel_rfl) (by kernel_rfl) (by kernel_rfl) (fun _ _ _ h => h) (Or.inl ⟨by kernel_rfl, ?_⟩) hS ?_
                      rotate_left
                      · intro W hSW
                        go_simp
                        all_goals with_reducible rfl
                      refine wpAnyH_take (i := 2) (v := ?_) rfl (by kernel_rfl) (by kernel_rfl) (by kernel_rfl) (fun _ _ _ h => h) (Or.inl ⟨by kernel_rfl, ?_⟩) hS ?_
                      rotate_left
                      · intro W hSW
                        go_simp
                        all_goals with_reducible rfl
                      refine wpAnyH_take (i := 3) (v := ?_) rfl (by kernel_rfl) (by kernel_rfl) (by kernel_rfl) (fun _ _ _ h => h) (Or.inl ⟨by kernel_rfl, ?_⟩) hS ?_
                      rotate_left
                      · intro W hSW
                        go_simp
                        all_goals with_reducible rfl
                      go_simp
                      refine wpAnyH_take (i := 4) (v := ?_) rfl (by kernel_rfl) (by kernel_rfl) (by kernel_rfl) (fun _ _ _ h => h) (Or.inl ⟨by kernel_rfl, ?_⟩) hS ?_
                      rotate_left
                      · intro W hSW
                        go_simp
                        all_goals with_reducible rfl
                      go_simp
                      refine wpAnyH_take (i := 5) (v := .agg #[.int .i64 s1, .int .i64 s2]) rfl (by kernel_rfl) (by kernel_rfl) (by kernel_rfl) (fun _ _ _ h => h) (Or.inl ⟨by kernel_rfl, fun W hSW => exec_wr_st rfl rfl ((fun W (hSW : Turns (fun k => k = N1 ∨ k = N2 ∨ k = N3) wr W) => hSW.rd HRY.out (fun a ha => by cases ha; have h1 := HGB.out; have h2 := HNB.out; show ¬ (g = N1 ∨ g = N2 ∨ g = N3); omega)) W hSW) HE2.out⟩) hS ?_
                      refine wpAnyH_take (i := 6) (v := ?_) rfl (by kernel_rfl) (by kernel_rfl) (by kernel_rfl) (fun _ _ _ h => h) (Or.inl ⟨by kernel_rfl, ?_⟩) hS ?_
                      rotate_left
                      · intro W hSW
                        go_simp
                        all_goals with_reducible rfl
                      refine wpAnyH_take (i := 7) (v := ?_) rfl (by kernel_rfl) (by kernel_rfl) (by kernel_rfl) (fun _ _ _ h => h) (Or.inl ⟨by kernel_rfl, ?_⟩) hS ?_
                      rotate_left
                      · intro W hSW
                        go_simp
                        all_goals with_reducible rfl
                      refine wpAnyH_take (i := 8) (v := ?_) rfl (by kernel_rfl) (by kernel_rfl) (by kernel_rfl) (fun _ _ _ h => h) (Or.inl ⟨by kernel_rfl, ?_⟩) hS ?_
                      rotate_left
                      · intro W hSW
                        go_simp
                        all_goals with_reducible rfl
                      go_simp
                      refine wpAnyH_take (i := 9) (v := ?_) rfl (by kernel_rfl) (by kernel_rfl) (by kernel_rfl) (fun _ _ _ h => h) (Or.inl ⟨by kernel_rfl, ?_⟩) hS ?_
                      rotate_left
                      · intro W hSW
                        go_simp
                        all_goals with_reducible rfl
                      go_simp
                      refine wpAnyH_take (i := 10) (v := .agg (opA x q c)) rfl (by kernel_rfl) (by kernel_rfl) (by kernel_rfl) (fun _ _ _ h => h) (Or.inl ⟨by kernel_rfl, fun W hSW => exec_wr_op rfl rfl ((fun W (hSW : Turns (fun k => k = N1 ∨ k = N2 ∨ k = N3) wr W) => hSW.rd HRY.out (fun a ha => by cases ha; have h1 := HGB.out; have h2 := HNB.out; show ¬ (g = N1 ∨ g = N2 ∨ g = N3); omega)) W hSW) HE2.out⟩) hS ?_
                      go_simp
                      refine wpAnyH_ready (rs := [11]) (by kernel_rfl) (by simp) ?_
                      refine AllReadyH.cons rfl (fun K hK => ?_) AllReadyH.nil
                      go_simp
                      go_wp2_with ((go_at_call 10; refine (ownN_any x q c _ (HPE.out.kept (Below.drew (Below.refl _ _))) (by have := HS1.out.1; omega)).mono ?_; rintro e wn ⟨q2, c2, rfl, hpa, hbn, -⟩))
                      have HBN := Lib.hid hbn
                      have HL2 := Lib.hid ((HQ.out.kept (Below.drew (Below.refl _ _))).kept hbn)
                      refine hK.out _ _ (hS.call hbn) (fun hS => ?_)
                      clear hK K hbn
                      refine wpAnyH_ready (rs := [12]) (by kernel_rfl) (by simp) ?_
                      refine AllReadyH.cons rfl (fun K hK => ?_) AllReadyH.nil
                      go_simp
                      go_wp2_with ((go_at_call 12; refine (do_any (s1, s2) x q2 c2 _ HL2.out HS1.out.sz hpa).mono ?_; rintro e wm ⟨rfl, hlm, htm⟩))
                      have HLM := Lib.hid hlm
                      have HTM := Lib.hid (show Turns (fun k => k = N1 ∨ k = N2 ∨ k = N3) wr wm from hS.trans (htm.mono fun _ _ h => Or.inl h))
                      refine hK.out _ _ HTM.out (fun hS => ?_)
                      clear hK K hpa hlm htm
                      refine wpAnyH_done (by kernel_rfl) ?_ _
                      go_simp
                      clear hS HL2 HBN
                      rw [HAG2.out] at HLM
                      have HLX := Lib.hid (HL.out.under HTM.out ⟨HGQ.out.2.1, HGQ.out.2.2.1, HGQ.out.2.2.2⟩ HLT.out)
                      have HRX := Lib.hid (show Rd wm (some ⟨g, oy, none⟩) (ly.flatMap ceW) from HTM.out.rd HRY.out (fun a ha => by cases ha; have h1 := HGB.out; have h2 := HNB.out; show ¬ (g = N1 ∨ g = N2 ∨ g = N3); omega))
                      have HBX := Lib.hid (turns3_below HTM.out (by have h1 := HWB.out; have h2 := HGQ.out; omega) HB.out)
                      clear HL HQ HRY HB HTM
                      go_wp2
                      go_roundw
                      case rel => exact ⟨k + 1, by omega, by go_num, HLX.out, HLM.out, HRX.out, HBX.out⟩
                      case measure => simp [intOf]; omega
                    · obtain rfl : k = l.length := by omega
                      have d0 : decide ((l.length : Int) < (l.length : Int)) = false := decide_eq_false (by omega)
                      have HEQ := Lib.hid (show Pm.allR (pl ly ++ (pl ly).take l.length) = Pm.allR (pl l) from by
                        rw [List.take_of_length_le (by unfold pl; rw [List.length_map, HLY.out]; exact Nat.le_refl _)]
                        exact (Pm.any_order (fun v => by rw [List.mem_append, or_self]; exact (wr_perm HPY.out v).symm) HAP.out).symm)
                      rw [HEQ.out] at HQ
                      clear HEQ
                      go_wp2_with fail
                      refine (same_any _ HL.out HQ.out).mono ?_
                      rintro e wz ⟨bb, rfl, hbb, hbz⟩
                      obtain rfl : bb = true := hbb.2 (Pm.Same.refl _)
                      replace HB := Lib.hid (HB.out.trans (hbz.mono HB.out.size))
                      replace HL := Lib.hid (HL.out.kept hbz)
                      replace HQ := Lib.hid (HQ.out.kept hbz)
                      clear hbb hbz
                      go_wp2_with fail
                      refine (same_any _ HQ.out HL.out).mono ?_
                      rintro e wz ⟨bb, rfl, hbb, hbz⟩
                      obtain rfl : bb = true := hbb.2 (Pm.Same.refl _)
                      replace HB := Lib.hid (HB.out.trans (hbz.mono HB.out.size))
                      clear hbb hbz
                      go_wp2
                      go_ret
                      exact ⟨rfl, HB.out⟩
          · have d1 : decide ((k : Int) < (ts.length : Int)) = false := decide_eq_false (by omega)
            clear hgo
            have HL12 := Lib.hid (show Lay w12 P M1 M2 M3 (Pm.allR ((pl l).take 0)) from HL.out.turns (Turns.of_base HBD.out) (by have h1 := HLT.out; have h2 := HGQ.out; have h3 := HNB.out; omega) (by have h1 := HLT.out; have h2 := HGQ.out; have h3 := HNB.out; omega) (by have h1 := HLT.out; have h2 := HGQ.out; have h3 := HNB.out; omega) (by have h1 := HLT.out; have h2 := HGQ.out; have h3 := HNB.out; omega))
            have HQ12 := Lib.hid (show Lay w12 Q N1 N2 N3 (Pm.allR ((pl ly).take 0)) from HQ.out.turns (Turns.of_base HBD.out) (by have h3 := HNB.out; omega) (by have h3 := HNB.out; omega) (by have h3 := HNB.out; omega) (by have h3 := HNB.out; omega))
            have HB12 := Lib.hid (HB.out.trans (HBD.out.mono HW5.out))
            have hown := HRO.out
            rw [← HLY.out] at hown
            have HY12 := Lib.hid (own_rdK hown).1
            have HOG := Lib.hid (own_rdK hown).2.2.2
            clear hown HRO HL HQ HB HBD
            go_wp2
            go_loopw [11] (fun i wr => ∃ k : Nat, k ≤ l.length ∧ i = .int .i64 (k : Int) ∧ Lay wr P M1 M2 M3 (Pm.allR ((pl l).take k)) ∧ Lay wr Q N1 N2 N3 (Pm.allR ((pl ly).take k)) ∧ Rd wr py (ly.flatMap ceW) ∧ Below w.heap.size w wr) (fun i _ => l.length - (intOf i).toNat)
            case atStart => exact ⟨0, Nat.zero_le _, rfl, HL12.out, HQ12.out, HY12.out, HB12.out⟩
            case round =>
              clear HL12 HQ12 HY12 HB12
              obtain ⟨k, hk, rfl, hl3, hq3, hy3, hb3⟩ := hrel
              have HL := Lib.hid hl3
              have HQ := Lib.hid hq3
              have HRY := Lib.hid hy3
              have HB := Lib.hid hb3
              clear hl3 hq3 hy3 hb3
              by_cases hlt : k < l.length
              · have d0 : decide ((k : Int) < (l.length : Int)) = true := decide_eq_true (by omega)
                obtain ⟨b, o, rfl, hbl⟩ := HR.out.rd.addr (by rw [wrK.length]; omega)
                have HBL := Lib.hid hbl
                obtain ⟨g, oy, hgy, -⟩ := HRY.out.addr (by rw [wrK.length, HLY.out]; omega)
                subst hgy
                have HGB := Lib.hid (show w5.heap.size ≤ g from HOG.out _ rfl)
                obtain ⟨e, he⟩ : ∃ e, l[k]? = some e := ⟨_, List.getElem?_eq_getElem hlt⟩
                obtain ⟨e2, he2⟩ : ∃ e, ly[k]? = some e := ⟨_, List.getElem?_eq_getElem (by rw [HLY.out]; exact hlt)⟩
                have hm2 : e2 ∈ l := HPY.out.mem_iff.1 (List.mem_of_getElem? he2)
                have HPE := Lib.hid ((HR.out.pa _ (List.mem_of_getElem? he)).kept HB.out)
                have HS1 := Lib.hid (HSM.out _ (List.mem_of_getElem? he))
                have HPY2 := Lib.hid (HR.out.pa _ hm2)
                have HS12 := Lib.hid (HSM.out _ hm2)
                have HTK := Lib.hid (pl_take he)
                have HTK2 := Lib.hid (pl_take he2)
                obtain ⟨⟨⟨s1, s2⟩, x⟩, q, c⟩ := e
                obtain ⟨⟨⟨t1, t2⟩, y⟩, qq, cc⟩ := e2
                have HE := Lib.hid he
                have HE2 := Lib.hid he2
                have HAG := Lib.hid (show Pm.doR (Pm.allR ((pl l).take k)) ⟨(s1, s2), x⟩ = Pm.allR ((pl l).take (k + 1)) from by rw [HTK.out, Pm.allR_snoc])
                have HAG2 := Lib.hid (show Pm.doR (Pm.allR ((pl ly).take k)) ⟨(t1, t2), y⟩ = Pm.allR ((pl ly).take (k + 1)) from by rw [HTK2.out, Pm.allR_snoc])
                have hlt2 : k < ly.length := by rw [HLY.out]; exact hlt
                clear he he2 hm2 hbl HTK HTK2
                go_upto_region 17 with fail
                refine wp_region_held_drew (S := fun W => Turns (fun k => k = M1 ∨ k = M2 ∨ k = M3) wr W) (by kernel_rfl) (Turns.of_below (Below.drew (Below.refl _ _))) (fun hS => ?_)
                refine wpAnyH_take (i := 0) (v := ?_) rfl (by kernel_rfl) (by kernel_rfl) (by kernel_rfl) (fun _ _ _ h => h) (Or.inl ⟨by kernel_rfl, ?_⟩) hS ?_
                rotate_left
                · intro W hSW
                  go_simp
                  all_goals with_reducible rfl
                refine wpAnyH_take (i := 1) (v := ?_) rfl (by kernel_rfl) (by kernel_rfl) (by kernel_rfl) (fun _ _ _ h => h) (Or.inl ⟨by kernel_rfl, ?_⟩) hS ?_
                rotate_left
                · intro W hSW
                  go_simp
                  all_goals with_reducible rfl
                refine wpAnyH_take (i := 2) (v := ?_) rfl (by kernel_rfl) (by kernel_rfl) (by kernel_rfl) (fun _ _ _ h => h) (Or.inl ⟨by kernel_rfl, ?_⟩) hS ?_
                rotate_left
                · intro W hSW
                  go_simp
                  all_goals with_reducible rfl
                refine wpAnyH_take (i := 3) (v := ?_) rfl (by kernel_rfl) (by kernel_rfl) (by kernel_rfl) (fun _ _ _ h => h) (Or.inl ⟨by kernel_rfl, ?_⟩) hS ?_
                rotate_left
                · intro W hSW
                  go_simp
                  all_goals with_reducible rfl
                go_simp
                refine wpAnyH_take (i := 4) (v := ?_) rfl (by kernel_rfl) (by kernel_rfl) (by kernel_rfl) (fun _ _ _ h => h) (Or.inl ⟨by kernel_rfl, ?_⟩) hS ?_
                rotate_left
                · intro W hSW
                  go_simp
                  all_goals with_reducible rfl
                go_simp
                refine wpAnyH_take (i := 5) (v := .agg #[.int .i64 s1, .int .i64 s2]) rfl (by kernel_rfl) (by kernel_rfl) (by kernel_rfl) (fun _ _ _ h => h) (Or.inl ⟨by kernel_rfl, fun W hSW => exec_wr_st rfl rfl ((fun W (hSW : Turns (fun k => k = M1 ∨ k = M2 ∨ k = M3) wr W) => hSW.rd (HR.out.rd.below HB.out) (fun a ha => by cases ha; have h1 := HBL.out; have h2 := HGE.out; show ¬ (b = M1 ∨ b = M2 ∨ b = M3); omega)) W hSW) HE.out⟩) hS ?_
                refine wpAnyH_take (i := 6) (v := ?_) rfl (by kernel_rfl) (by kernel_rfl) (by kernel_rfl) (fun _ _ _ h => h) (Or.inl ⟨by kernel_rfl, ?_⟩) hS ?_
                rotate_left
                · intro W hSW
                  go_simp
                  all_goals with_reducible rfl
                refine wpAnyH_take (i := 7) (v := ?_) rfl (by kernel_rfl) (by kernel_rfl) (by kernel_rfl) (fun _ _ _ h => h) (Or.inl ⟨by kernel_rfl, ?_⟩) hS ?_
                rotate_left
                · intro W hSW
                  go_simp
                  all_goals with_reducible rfl
                refine wpAnyH_take (i := 8) (v := ?_) rfl (by kernel_rfl) (by kernel_rfl) (by kernel_rfl) (fun _ _ _ h => h) (Or.inl ⟨by kernel_rfl, ?_⟩) hS ?_
                rotate_left
                · intro W hSW
                  go_simp
                  all_goals with_reducible rfl
                go_simp
                refine wpAnyH_take (i := 9) (v := ?_) rfl (by kernel_rfl) (by kernel_rfl) (by kernel_rfl) (fun _ _ _ h => h) (Or.inl ⟨by kernel_rfl, ?_⟩) hS ?_
                rotate_left
                · intro W hSW
                  go_simp
                  all_goals with_reducible rfl
                go_simp
                refine wpAnyH_take (i := 10) (v := .agg (opA x q c)) rfl (by kernel_rfl) (by kernel_rfl) (by kernel_rfl) (fun _ _ _ h => h) (Or.inl ⟨by kernel_rfl, fun W hSW => exec_wr_op rfl rfl ((fun W (hSW : Turns (fun k => k = M1 ∨ k = M2 ∨ k = M3) wr W) => hSW.rd (HR.out.rd.below HB.out) (fun a ha => by cases ha; have h1 := HBL.out; have h2 := HGE.out; show ¬ (b = M1 ∨ b = M2 ∨ b = M3); omega)) W hSW) HE.out⟩) hS ?_
                go_simp
                refine wpAnyH_ready (rs := [11]) (by kernel_rfl) (by simp) ?_
                refine AllReadyH.cons rfl (fun K hK => ?_) AllReadyH.nil
                go_simp
                go_wp2_with ((go_at_call 10; refine (ownN_any x q c _ (HPE.out.kept (Below.drew (Below.refl _ _))) (by have := HS1.out.1; omega)).mono ?_; rintro e wn ⟨q2, c2, rfl, hpa, hbn, -⟩))
                have HBN := Lib.hid hbn
                have HL2 := Lib.hid ((HL.out.kept (Below.drew (Below.refl _ _))).kept hbn)
                refine hK.out _ _ (hS.call hbn) (fun hS => ?_)
                clear hK K hbn
                refine wpAnyH_ready (rs := [12]) (by kernel_rfl) (by simp) ?_
                refine AllReadyH.cons rfl (fun K hK => ?_) AllReadyH.nil
                go_simp
                go_wp2_with ((go_at_call 12; refine (do_any (s1, s2) x q2 c2 _ HL2.out HS1.out.sz hpa).mono ?_; rintro e wm ⟨rfl, hlm, htm⟩))
                have HLM := Lib.hid hlm
                have HTM := Lib.hid (show Turns (fun k => k = M1 ∨ k = M2 ∨ k = M3) wr wm from hS.trans (htm.mono fun _ _ h => Or.inl h))
                refine hK.out _ _ HTM.out (fun hS => ?_)
                clear hK K hpa hlm htm
                refine wpAnyH_done (by kernel_rfl) ?_ _
                go_simp
                clear hS HL2 HBN
                rw [HAG.out] at HLM
                have HQM := Lib.hid (HQ.out.above HTM.out ⟨HLT.out.2.1, HLT.out.2.2.1, HLT.out.2.2.2⟩ HGQ.out)
                have HRYM := Lib.hid (show Rd wm (some ⟨g, oy, none⟩) (ly.flatMap ceW) from HTM.out.rd HRY.out (fun a ha => by cases ha; have h1 := HGB.out; have h2 := HNB.out; have h3 := HGQ.out; have h4 := HLT.out; show ¬ (g = M1 ∨ g = M2 ∨ g = M3); omega))
                have HBM := Lib.hid (turns3_below HTM.out ⟨HGE.out.2.1, HGE.out.2.2.1, HGE.out.2.2.2⟩ HB.out)
                have HPE2 := Lib.hid (HPY2.out.kept HBM.out)
                go_upto_region 18 with fail
                refine wp_region_held_drew (S := fun W => Turns (fun k => k = N1 ∨ k = N2 ∨ k = N3) wm W) (by kernel_rfl) (Turns.of_below (Below.drew (Below.refl _ _))) (fun hS => ?_)
                refine wpAnyH_take (i := 0) (v := ?_) rfl (by kernel_rfl) (by kernel_rfl) (by kernel_rfl) (fun _ _ _ h => h) (Or.inl ⟨by kernel_rfl, ?_⟩) hS ?_
                rotate_left
                · intro W hSW
                  go_simp
                  all_goals with_reducible rfl
                refine wpAnyH_take (i := 1) (v := ?_) rfl (by kernel_rfl) (by kernel_rfl) (by kernel_rfl) (fun _ _ _ h => h) (Or.inl ⟨by kernel_rfl, ?_⟩) hS ?_
                rotate_left
                · intro W hSW
                  go_simp
                  all_goals with_reducible rfl
                refine wpAnyH_take (i := 2) (v := ?_) rfl (by kernel_rfl) (by kernel_rfl) (by kernel_rfl) (fun _ _ _ h => h) (Or.inl ⟨by kernel_rfl, ?_⟩) hS ?_
                rotate_left
                · intro W hSW
                  go_simp
                  all_goals with_reducible rfl
                refine wpAnyH_take (i := 3) (v := ?_) rfl (by kernel_rfl) (by kernel_rfl) (by kernel_rfl) (fun _ _ _ h => h) (Or.inl ⟨by kernel_rfl, ?_⟩) hS ?_
                rotate_left
                · intro W hSW
                  go_simp
                  all_goals with_reducible rfl
                go_simp
                refine wpAnyH_take (i := 4) (v := ?_) rfl (by kernel_rfl) (by kernel_rfl) (by kernel_rfl) (fun _ _ _ h => h) (Or.inl ⟨by kernel_rfl, ?_⟩) hS ?_
                rotate_left
                · intro W hSW
                  go_simp
                  all_goals with_reducible rfl
                go_simp
                refine wpAnyH_take (i := 5) (v := .agg #[.int .i64 t1, .int .i64 t2]) rfl (by kernel_rfl) (by kernel_rfl) (by kernel_rfl) (fun _ _ _ h => h) (Or.inl ⟨by kernel_rfl, fun W hSW => exec_wr_st rfl rfl ((fun W (hSW : Turns (fun k => k = N1 ∨ k = N2 ∨ k = N3) wm W) => hSW.rd HRYM.out (fun a ha => by cases ha; have h1 := HGB.out; have h2 := HNB.out; show ¬ (g = N1 ∨ g = N2 ∨ g = N3); omega)) W hSW) HE2.out⟩) hS ?_
                refine wpAnyH_take (i := 6) (v := ?_) rfl (by kernel_rfl) (by kernel_rfl) (by kernel_rfl) (fun _ _ _ h => h) (Or.inl ⟨by kernel_rfl, ?_⟩) hS ?_
                rotate_left
                · intro W hSW
                  go_simp
                  all_goals with_reducible rfl
                refine wpAnyH_take (i := 7) (v := ?_) rfl (by kernel_rfl) (by kernel_rfl) (by kernel_rfl) (fun _ _ _ h => h) (Or.inl ⟨by kernel_rfl, ?_⟩) hS ?_
                rotate_left
                · intro W hSW
                  go_simp
                  all_goals with_reducible rfl
                refine wpAnyH_take (i := 8) (v := ?_) rfl (by kernel_rfl) (by kernel_rfl) (by kernel_rfl) (fun _ _ _ h => h) (Or.inl ⟨by kernel_rfl, ?_⟩) hS ?_
                rotate_left
                · intro W hSW
                  go_simp
                  all_goals with_reducible rfl
                go_simp
                refine wpAnyH_take (i := 9) (v := ?_) rfl (by kernel_rfl) (by kernel_rfl) (by kernel_rfl) (fun _ _ _ h => h) (Or.inl ⟨by kernel_rfl, ?_⟩) hS ?_
                rotate_left
                · intro W hSW
                  go_simp
                  all_goals with_reducible rfl
                go_simp
                refine wpAnyH_take (i := 10) (v := .agg (opA y qq cc)) rfl (by kernel_rfl) (by kernel_rfl) (by kernel_rfl) (fun _ _ _ h => h) (Or.inl ⟨by kernel_rfl, fun W hSW => exec_wr_op rfl rfl ((fun W (hSW : Turns (fun k => k = N1 ∨ k = N2 ∨ k = N3) wm W) => hSW.rd HRYM.out (fun a ha => by cases ha; have h1 := HGB.out; have h2 := HNB.out; show ¬ (g = N1 ∨ g = N2 ∨ g = N3); omega)) W hSW) HE2.out⟩) hS ?_
                go_simp
                refine wpAnyH_ready (rs := [11]) (by kernel_rfl) (by simp) ?_
                refine AllReadyH.cons rfl (fun K hK => ?_) AllReadyH.nil
                go_simp
                go_wp2_with ((go_at_call 10; refine (ownN_any y qq cc _ (HPE2.out.kept (Below.drew (Below.refl _ _))) (by have := HS12.out.1; omega)).mono ?_; rintro e wn2 ⟨qq2, cc2, rfl, hpa, hbn, -⟩))
                have HBN2 := Lib.hid hbn
                have HL22 := Lib.hid ((HQM.out.kept (Below.drew (Below.refl _ _))).kept hbn)
                refine hK.out _ _ (hS.call hbn) (fun hS => ?_)
                clear hK K hbn
                refine wpAnyH_ready (rs := [12]) (by kernel_rfl) (by simp) ?_
                refine AllReadyH.cons rfl (fun K hK => ?_) AllReadyH.nil
                go_simp
                go_wp2_with ((go_at_call 12; refine (do_any (t1, t2) y qq2 cc2 _ HL22.out HS12.out.sz hpa).mono ?_; rintro e wm2 ⟨rfl, hlm, htm⟩))
                have HLM2 := Lib.hid hlm
                have HTM2 := Lib.hid (show Turns (fun k => k = N1 ∨ k = N2 ∨ k = N3) wm wm2 from hS.trans (htm.mono fun _ _ h => Or.inl h))
                refine hK.out _ _ HTM2.out (fun hS => ?_)
                clear hK K hpa hlm htm
                refine wpAnyH_done (by kernel_rfl) ?_ _
                go_simp
                clear hS HL22 HBN2
                rw [HAG2.out] at HLM2
                have HLX := Lib.hid (HLM.out.under HTM2.out ⟨HGQ.out.2.1, HGQ.out.2.2.1, HGQ.out.2.2.2⟩ HLT.out)
                have HRX := Lib.hid (show Rd wm2 (some ⟨g, oy, none⟩) (ly.flatMap ceW) from HTM2.out.rd HRYM.out (fun a ha => by cases ha; have h1 := HGB.out; have h2 := HNB.out; show ¬ (g = N1 ∨ g = N2 ∨ g = N3); omega))
                have HBX := Lib.hid (turns3_below HTM2.out (by have h1 := HWB.out; have h2 := HGQ.out; omega) HBM.out)
                clear HL HQ HLM HRY HB HTM HTM2 HQM HRYM HBM
                go_wp2
                go_roundw
                case rel => exact ⟨k + 1, by omega, by go_num, HLX.out, HLM2.out, HRX.out, HBX.out⟩
                case measure => simp [intOf]; omega
              · obtain rfl : k = l.length := by omega
                have d0 : decide ((l.length : Int) < (l.length : Int)) = false := decide_eq_false (by omega)
                have HTA := Lib.hid (show (pl l).take l.length = pl l from List.take_of_length_le (by unfold pl; rw [List.length_map]; exact Nat.le_refl _))
                have HTB := Lib.hid (show (pl ly).take l.length = pl ly ++ (pl ly).take 0 from by rw [List.take_zero, List.append_nil]; exact List.take_of_length_le (by unfold pl; rw [List.length_map, HLY.out]; exact Nat.le_refl _))
                rw [HTA.out] at HL
                rw [HTB.out] at HQ
                clear HTA HTB
                go_wp2
                go_loopw [12] (fun i wr => ∃ k : Nat, k ≤ l.length ∧ i = .int .i64 (k : Int) ∧ Lay wr P M1 M2 M3 (Pm.allR (pl l)) ∧ Lay wr Q N1 N2 N3 (Pm.allR (pl ly ++ (pl ly).take k)) ∧ Rd wr py (ly.flatMap ceW) ∧ Below w.heap.size w wr) (fun i _ => l.length - (intOf i).toNat)
                case atStart => exact ⟨0, Nat.zero_le _, rfl, HL.out, HQ.out, HRY.out, HB.out⟩
                case round =>
                  clear HL HQ HRY HB
                  obtain ⟨k, hk, rfl, hl3, hq3, hy3, hb3⟩ := hrel
                  have HL := Lib.hid hl3
                  have HQ := Lib.hid hq3
                  have HRY := Lib.hid hy3
                  have HB := Lib.hid hb3
                  clear hl3 hq3 hy3 hb3
                  by_cases hlt : k < l.length
                  · have d0 : decide ((k : Int) < (l.length : Int)) = true := decide_eq_true (by omega)
                    obtain ⟨g, oy, hgy, -⟩ := HRY.out.addr (by rw [wrK.length, HLY.out]; omega)
                    subst hgy
                    have HGB := Lib.hid (show w5.heap.size ≤ g from HOG.out _ rfl)
                    obtain ⟨e2, he2⟩ : ∃ e, ly[k]? = some e := ⟨_, List.getElem?_eq_getElem (by rw [HLY.out]; exact hlt)⟩
                    have hm2 : e2 ∈ l := HPY.out.mem_iff.1 (List.mem_of_getElem? he2)
                    have HPE := Lib.hid ((HR.out.pa _ hm2).kept HB.out)
                    have HS1 := Lib.hid (HSM.out _ hm2)
                    have HTK2 := Lib.hid (pl_take he2)
                    obtain ⟨⟨⟨s1, s2⟩, x⟩, q, c⟩ := e2
                    have HE2 := Lib.hid he2
                    have HAG2 := Lib.hid (show Pm.doR (Pm.allR (pl ly ++ (pl ly).take k)) ⟨(s1, s2), x⟩ = Pm.allR (pl ly ++ (pl ly).take (k + 1)) from by rw [HTK2.out, ← List.append_assoc, Pm.allR_snoc])
                    clear he2 hm2 HTK2
                    go_upto_region 22 with fail
                    refine wp_region_held_drew (S := fun W => Turns (fun k => k = N1 ∨ k = N2 ∨ k = N3) wr W) (by kernel_rfl) (Turns.of_below (Below.drew (Below.refl _ _))) (fun hS => ?_)
                    refine wpAnyH_take (i := 0) (v := ?_) rfl (by kernel_rfl) (by kernel_rfl) (by kernel_rfl) (fun _ _ _ h => h) (Or.inl ⟨by kernel_rfl, ?_⟩) hS ?_
                    rotate_left
                    · intro W hSW
                      go_simp
                      all_goals with_reducible rfl
                    refine wpAnyH_take (i := 1) (v := ?_) rfl (by kernel_rfl) (by kernel_rfl) (by kernel_rfl) (fun _ _ _ h => h) (Or.inl ⟨by kernel_rfl, ?_⟩) hS ?_
                    rotate_left
                    · intro W hSW
                      go_simp
                      all_goals with_reducible rfl
                    refine wpAnyH_take (i := 2) (v := ?_) rfl (by kernel_rfl) (by kernel_rfl) (by kernel_rfl) (fun _ _ _ h => h) (Or.inl ⟨by kernel_rfl, ?_⟩) hS ?_
                    rotate_left
                    · intro W hSW
                      go_simp
                      all_goals with_reducible rfl
                    refine wpAnyH_take (i := 3) (v := ?_) rfl (by kernel_rfl) (by kernel_rfl) (by kernel_rfl) (fun _ _ _ h => h) (Or.inl ⟨by kernel_rfl, ?_⟩) hS ?_
                    rotate_left
                    · intro W hSW
                      go_simp
                      all_goals with_reducible rfl
                    go_simp
                    refine wpAnyH_take (i := 4) (v := ?_) rfl (by kernel_rfl) (by kernel_rfl) (by kernel_rfl) (fun _ _ _ h => h) (Or.inl ⟨by kernel_rfl, ?_⟩) hS ?_
                    rotate_left
                    · intro W hSW
                      go_simp
                      all_goals with_reducible rfl
                    go_simp
                    refine wpAnyH_take (i := 5) (v := .agg #[.int .i64 s1, .int .i64 s2]) rfl (by kernel_rfl) (by kernel_rfl) (by kernel_rfl) (fun _ _ _ h => h) (Or.inl ⟨by kernel_rfl, fun W hSW => exec_wr_st rfl rfl ((fun W (hSW : Turns (fun k => k = N1 ∨ k = N2 ∨ k = N3) wr W) => hSW.rd HRY.out (fun a ha => by cases ha; have h1 := HGB.out; have h2 := HNB.out; show ¬ (g = N1 ∨ g = N2 ∨ g = N3); omega)) W hSW) HE2.out⟩) hS ?_
                    refine wpAnyH_take (i := 6) (v := ?_) rfl (by kernel_rfl) (by kernel_rfl) (by kernel_rfl) (fun _ _ _ h => h) (Or.inl ⟨by kernel_rfl, ?_⟩) hS ?_
                    rotate_left
                    · intro W hSW
                      go_simp
                      all_goals with_reducible rfl
                    refine wpAnyH_take (i := 7) (v := ?_) rfl (by kernel_rfl) (by kernel_rfl) (by kernel_rfl) (fun _ _ _ h => h) (Or.inl ⟨by kernel_rfl, ?_⟩) hS ?_
                    rotate_left
                    · intro W hSW
                      go_simp
                      all_goals with_reducible rfl
                    refine wpAnyH_take (i := 8) (v := ?_) rfl (by kernel_rfl) (by kernel_rfl) (by kernel_rfl) (fun _ _ _ h => h) (Or.inl ⟨by kernel_rfl, ?_⟩) hS ?_
                    rotate_left
                    · intro W hSW
                      go_simp
                      all_goals with_reducible rfl
                    go_simp
                    refine wpAnyH_take (i := 9) (v := ?_) rfl (by kernel_rfl) (by kernel_rfl) (by kernel_rfl) (fun _ _ _ h => h) (Or.inl ⟨by kernel_rfl, ?_⟩) hS ?_
                    rotate_left
                    · intro W hSW
                      go_simp
                      all_goals with_reducible rfl
                    go_simp
                    refine wpAnyH_take (i := 10) (v := .agg (opA x q c)) rfl (by kernel_rfl) (by kernel_rfl) (by kernel_rfl) (fun _ _ _ h => h) (Or.inl ⟨by kernel_rfl, fun W hSW => exec_wr_op rfl rfl ((fun W (hSW : Turns (fun k => k = N1 ∨ k = N2 ∨ k = N3) wr W) => hSW.rd HRY.out (fun a ha => by cases ha; have h1 := HGB.out; have h2 := HNB.out; show ¬ (g = N1 ∨ g = N2 ∨ g = N3); omega)) W hSW) HE2.out⟩) hS ?_
                    go_simp
                    refine wpAnyH_ready (rs := [11]) (by kernel_rfl) (by simp) ?_
                    refine AllReadyH.cons rfl (fun K hK => ?_) AllReadyH.nil
                    go_simp
                    go_wp2_with ((go_at_call 10; refine (ownN_any x q c _ (HPE.out.kept (Below.drew (Below.refl _ _))) (by have := HS1.out.1; omega)).mono ?_; rintro e wn ⟨q2, c2, rfl, hpa, hbn, -⟩))
                    have HBN := Lib.hid hbn
                    have HL2 := Lib.hid ((HQ.out.kept (Below.drew (Below.refl _ _))).kept hbn)
                    refine hK.out _ _ (hS.call hbn) (fun hS => ?_)
                    clear hK K hbn
                    refine wpAnyH_ready (rs := [12]) (by kernel_rfl) (by simp) ?_
                    refine AllReadyH.cons rfl (fun K hK => ?_) AllReadyH.nil
                    go_simp
                    go_wp2_with ((go_at_call 12; refine (do_any (s1, s2) x q2 c2 _ HL2.out HS1.out.sz hpa).mono ?_; rintro e wm ⟨rfl, hlm, htm⟩))
                    have HLM := Lib.hid hlm
                    have HTM := Lib.hid (show Turns (fun k => k = N1 ∨ k = N2 ∨ k = N3) wr wm from hS.trans (htm.mono fun _ _ h => Or.inl h))
                    refine hK.out _ _ HTM.out (fun hS => ?_)
                    clear hK K hpa hlm htm
                    refine wpAnyH_done (by kernel_rfl) ?_ _
                    go_simp
                    clear hS HL2 HBN
                    rw [HAG2.out] at HLM
                    have HLX := Lib.hid (HL.out.under HTM.out ⟨HGQ.out.2.1, HGQ.out.2.2.1, HGQ.out.2.2.2⟩ HLT.out)
                    have HRX := Lib.hid (show Rd wm (some ⟨g, oy, none⟩) (ly.flatMap ceW) from HTM.out.rd HRY.out (fun a ha => by cases ha; have h1 := HGB.out; have h2 := HNB.out; show ¬ (g = N1 ∨ g = N2 ∨ g = N3); omega))
                    have HBX := Lib.hid (turns3_below HTM.out (by have h1 := HWB.out; have h2 := HGQ.out; omega) HB.out)
                    clear HL HQ HRY HB HTM
                    go_wp2
                    go_roundw
                    case rel => exact ⟨k + 1, by omega, by go_num, HLX.out, HLM.out, HRX.out, HBX.out⟩
                    case measure => simp [intOf]; omega
                  · obtain rfl : k = l.length := by omega
                    have d0 : decide ((l.length : Int) < (l.length : Int)) = false := decide_eq_false (by omega)
                    have HEQ := Lib.hid (show Pm.allR (pl ly ++ (pl ly).take l.length) = Pm.allR (pl l) from by
                      rw [List.take_of_length_le (by unfold pl; rw [List.length_map, HLY.out]; exact Nat.le_refl _)]
                      exact (Pm.any_order (fun v => by rw [List.mem_append, or_self]; exact (wr_perm HPY.out v).symm) HAP.out).symm)
                    rw [HEQ.out] at HQ
                    clear HEQ
                    go_wp2_with fail
                    refine (same_any _ HL.out HQ.out).mono ?_
                    rintro e wz ⟨bb, rfl, hbb, hbz⟩
                    obtain rfl : bb = true := hbb.2 (Pm.Same.refl _)
                    replace HB := Lib.hid (HB.out.trans (hbz.mono HB.out.size))
                    replace HL := Lib.hid (HL.out.kept hbz)
                    replace HQ := Lib.hid (HQ.out.kept hbz)
                    clear hbb hbz
                    go_wp2_with fail
                    refine (same_any _ HQ.out HL.out).mono ?_
                    rintro e wz ⟨bb, rfl, hbb, hbz⟩
                    obtain rfl : bb = true := hbb.2 (Pm.Same.refl _)
                    replace HB := Lib.hid (HB.out.trans (hbz.mono HB.out.size))
                    clear hbb hbz
                    go_wp2
                    go_ret
                    exact ⟨rfl, HB.out⟩
end Go.Proofs.Ytcenmkcencdlcaa
