/-
  GRAPHNORING: the walk: no steps lead from a node back to it; each way up ends in the root or the trash.
  No conditions but sizes.
-/
import Derived.Test.YthifdefjmfakgaaGreatG7
import Derived.Test.YthifdefjmfakgaaGreatH5
import Derived.Test.YthifdefjmfakgaaGreatGrKnows
namespace Go.Proofs.YthifdefjmfakgaaGreat
open Go.RowKit
open Tm (Sp Tr has put cut kids)

theorem exec_build_z {o : Oper} {a : Act} {w : World} (ho : o.op = .build 35 #[]) : (execOp a.eval o).run Tryz.prog w = .ok (.value (.agg #[.int .i64 0, .int .i64 0])) w := by
  have hr : (Instr.build 35 #[]).run Tryz.prog w = .ok (.agg #[.int .i64 0, .int .i64 0]) w := by kernel_rfl
  unfold execOp
  simp only [ho, Sem.run_bind, Sem.run_pure, Result.andThen_ok, List.map_toArray, List.map_nil, hr]
theorem exec_build_t {o : Oper} {a : Act} {w : World} (ho : o.op = .build 35 #[(1, .const (.int .i64 1))]) : (execOp a.eval o).run Tryz.prog w = .ok (.value (.agg #[.int .i64 0, .int .i64 1])) w := by
  have hr : (Instr.build 35 #[(1, .int .i64 1)]).run Tryz.prog w = .ok (.agg #[.int .i64 0, .int .i64 1]) w := by kernel_rfl
  have he : a.eval (.const (.int .i64 1)) = .int .i64 1 := rfl
  unfold execOp
  simp only [ho, Sem.run_bind, Sem.run_pure, Result.andThen_ok, List.map_toArray, List.map_cons, List.map_nil, he, hr]

set_option maxRecDepth 100000 in
set_option maxHeartbeats 32000000 in
theorem graphNoRing_walk (p : Option Addr) (cl : Nat) (l : List WrE) (w : World) (h : Ws w p l) (_ : p = none → cl = 0) :
    Calls Tryz.prog 5 #[.slice p l.length cl] w fun e w' => e = .returned (.bool true) ∧ Below w.heap.size w w' := by
  have HR := Lib.hid h
  have HLI := Lib.hid (light13_any p cl l _ h)
  clear h
  go_enter Tryz.func5, Tryz.ntmps5
  go_wp2_with fail
  refine HLI.out.mono ?_
  rintro e1 w1 ⟨b1, rfl, hsm, hb1⟩
  have HSM1 := Lib.hid hsm
  have HB := Lib.hid hb1
  clear hsm hb1 HLI
  cases b1 with
  | false =>
    go_wp2_with fail
    refine (knows13_any _).mono ?_
    rintro e wk ⟨rfl, hbk⟩
    replace HB := Lib.hid (HB.out.trans (hbk.mono HB.out.size))
    clear hbk
    go_wp2
    go_ret
    exact ⟨rfl, HB.out⟩
  | true =>
    have HSM := Lib.hid (HSM1.out rfl).2
    have hl40 := (HSM1.out rfl).1
    clear HSM1
    go_wp2_with fail
    refine (gnew_any w1).mono ?_
    rintro e w3 ⟨gg, χ, rfl, hg3, hb3, f3, -, -⟩
    have HG := Lib.hid (GB1.made (bs := []) HB.out (fun e he => by cases he) hg3 hb3 f3)
    clear hg3 hb3 f3 HB
    go_wp2_with fail
    refine (knows13_any _).mono ?_
    rintro e w4 ⟨rfl, hbk⟩
    replace HG := Lib.hid (HG.out.kept hbk)
    clear hbk
    go_wp2
    go_loopw [4] (fun i wr => ∃ k : Nat, k ≤ l.length ∧ i = .int .i64 (k : Int) ∧ GB1 w gg (Gm.insAll ((pl l).take k)) [] wr) (fun i _ => l.length - (intOf i).toNat)
    case atStart => exact ⟨0, Nat.zero_le _, rfl, HG.out⟩
    case round =>
      clear HG
      obtain ⟨k, hk, rfl, hg⟩ := hrel
      have HG := Lib.hid hg
      clear hg
      by_cases hlt : k < l.length
      · have d0 : decide ((k : Int) < (l.length : Int)) = true := decide_eq_true (by omega)
        obtain ⟨b, o, hbo, -⟩ := HR.out.rd.addr (by rw [wrK.length]; omega)
        subst hbo
        obtain ⟨e, he⟩ : ∃ e, l[k]? = some e := ⟨_, List.getElem?_eq_getElem hlt⟩
        have HAG := Lib.hid (all_take he)
        obtain ⟨⟨⟨s1, s2⟩, y⟩, qq, cc⟩ := e
        have HE := Lib.hid he
        have HPE := Lib.hid ((HR.out.pa _ (List.mem_of_getElem? he)).kept HG.out.bel)
        have HS1 := Lib.hid (HSM.out _ (List.mem_of_getElem? he))
        have HFW := Lib.hid (few_take (l := l) hlt hl40)
        clear he
        go_upto_region 9 with fail
        refine wp_region_held_drew (S := fun W => Rd W (some ⟨b, o, none⟩) (l.flatMap ceW)) (by kernel_rfl) ((HR.out.rd.below HG.out.bel).below (Below.drew (Below.refl _ _))) (fun hS => ?_)
        refine wpAnyH_take (i := 0) (v := ?_) rfl (by kernel_rfl) (by kernel_rfl) (by kernel_rfl) (fun _ _ _ h => h) (Or.inl ⟨by kernel_rfl, ?_⟩) hS ?_
        rotate_left
        · intro W hSW
          go_simp
          all_goals with_reducible rfl
        refine wpAnyH_take (i := 1) (v := ?_) rfl (by kernel_rfl) (by kernel_rfl) (by kernel_rfl) (fun _ _ _ h => h) (Or.inl ⟨by kernel_rfl, ?_⟩) hS ?_
        rotate_left
        · intro W hSW
          go_simp
          all_goals with_reducible rfl
        refine wpAnyH_take (i := 2) (v := ?_) rfl (by kernel_rfl) (by kernel_rfl) (by kernel_rfl) (fun _ _ _ h => h) (Or.inl ⟨by kernel_rfl, ?_⟩) hS ?_
        rotate_left
        · intro W hSW
          go_simp
          all_goals with_reducible rfl
        refine wpAnyH_take (i := 3) (v := ?_) rfl (by kernel_rfl) (by kernel_rfl) (by kernel_rfl) (fun _ _ _ h => h) (Or.inl ⟨by kernel_rfl, ?_⟩) hS ?_
        rotate_left
        · intro W hSW
          go_simp
          all_goals with_reducible rfl
        go_simp
        refine wpAnyH_take (i := 4) (v := ?_) rfl (by kernel_rfl) (by kernel_rfl) (by kernel_rfl) (fun _ _ _ h => h) (Or.inl ⟨by kernel_rfl, ?_⟩) hS ?_
        rotate_left
        · intro W hSW
          go_simp
          all_goals with_reducible rfl
        go_simp
        refine wpAnyH_take (i := 5) (v := .agg #[.int .i64 s1, .int .i64 s2]) rfl (by kernel_rfl) (by kernel_rfl) (by kernel_rfl) (fun _ _ _ h => h) (Or.inl ⟨by kernel_rfl, fun W hSW => exec_wr_st rfl rfl hSW HE.out⟩) hS ?_
        refine wpAnyH_take (i := 6) (v := ?_) rfl (by kernel_rfl) (by kernel_rfl) (by kernel_rfl) (fun _ _ _ h => h) (Or.inl ⟨by kernel_rfl, ?_⟩) hS ?_
        rotate_left
        · intro W hSW
          go_simp
          all_goals with_reducible rfl
        refine wpAnyH_take (i := 7) (v := ?_) rfl (by kernel_rfl) (by kernel_rfl) (by kernel_rfl) (fun _ _ _ h => h) (Or.inl ⟨by kernel_rfl, ?_⟩) hS ?_
        rotate_left
        · intro W hSW
          go_simp
          all_goals with_reducible rfl
        refine wpAnyH_take (i := 8) (v := ?_) rfl (by kernel_rfl) (by kernel_rfl) (by kernel_rfl) (fun _ _ _ h => h) (Or.inl ⟨by kernel_rfl, ?_⟩) hS ?_
        rotate_left
        · intro W hSW
          go_simp
          all_goals with_reducible rfl
        go_simp
        refine wpAnyH_take (i := 9) (v := ?_) rfl (by kernel_rfl) (by kernel_rfl) (by kernel_rfl) (fun _ _ _ h => h) (Or.inl ⟨by kernel_rfl, ?_⟩) hS ?_
        rotate_left
        · intro W hSW
          go_simp
          all_goals with_reducible rfl
        go_simp
        refine wpAnyH_take (i := 10) (v := .agg (opA y qq cc)) rfl (by kernel_rfl) (by kernel_rfl) (by kernel_rfl) (fun _ _ _ h => h) (Or.inl ⟨by kernel_rfl, fun W hSW => exec_wr_op rfl rfl hSW HE.out⟩) hS ?_
        go_simp
        refine wpAnyH_ready (rs := [11]) (by kernel_rfl) (by simp) ?_
        refine AllReadyH.cons rfl (fun K hK => ?_) AllReadyH.nil
        go_simp
        go_wp2_with ((go_at_call 11; refine (ownN_any y qq cc _ (HPE.out.kept (Below.drew (Below.refl _ _))) (by have := HS1.out.1; omega)).mono ?_; rintro e wn ⟨q2, c2, rfl, hpa, hbn, -⟩))
        have HG2 := Lib.hid ((HG.out.kept (Below.drew (Below.refl _ _))).kept hbn)
        refine hK.out _ _ (hS.below hbn) (fun hS => ?_)
        clear hK K hbn
        refine wpAnyH_ready (rs := [12]) (by kernel_rfl) (by simp) ?_
        refine AllReadyH.cons rfl (fun K hK => ?_) AllReadyH.nil
        go_simp
        go_wp2_with ((go_at_call 10; refine (GB1.ins s1 s2 y q2 c2 HG2.out HS1.out.sz hpa HFW.out).mono ?_; rintro e wm ⟨rfl, hgm⟩))
        have HGM := Lib.hid hgm
        refine hK.out _ _ (HR.out.rd.below HGM.out.bel) (fun hS => ?_)
        clear hK K hpa hgm
        refine wpAnyH_done (by kernel_rfl) ?_ _
        go_simp
        clear hS HG2 HG
        rw [HAG.out] at HGM
        go_wp2
        go_roundw
        case rel => exact ⟨k + 1, by omega, by go_num, HGM.out⟩
        case measure => simp [intOf]; omega
      · obtain rfl : k = l.length := by omega
        have d0 : decide ((l.length : Int) < (l.length : Int)) = false := decide_eq_false (by omega)
        have HTA := Lib.hid (show (pl l).take l.length = pl l from List.take_of_length_le (by rw [pl_len]; exact Nat.le_refl _))
        rw [HTA.out] at HG
        have HGOOD := Lib.hid (Gm.ops_all (pl l)).good
        clear HTA hlt hk
        generalize Gm.insAll (pl l) = ops at *
        go_wp2_with fail
        refine (GH.nodes HG.out.hold).mono ?_
        rintro e w5 ⟨pm, cm, m, T, rfl, ht, hm, hg⟩
        have HT := Lib.hid ht
        have HM := Lib.hid hm
        have hm60 : m.length ≤ 60 := by rw [hm.length_eq, List.length_map]; exact ht.few
        replace HG := Lib.hid hg
        clear hg ht hm
        go_wp2
        go_loopw [6] (fun i wr => ∃ k : Nat, k ≤ m.length ∧ i = .int .i64 (k : Int) ∧ GH w gg ops [] [(pm, stCells m)] wr) (fun i _ => m.length - (intOf i).toNat)
        case atStart => exact ⟨0, Nat.zero_le _, rfl, HG.out⟩
        case round =>
          clear HG
          obtain ⟨k, hk, rfl, hg⟩ := hrel
          have HG := Lib.hid hg
          clear hg
          by_cases hlt : k < m.length
          · have d0 : decide ((k : Int) < (m.length : Int)) = true := decide_eq_true (by omega)
            obtain ⟨bm, om, hbm, -⟩ := (HG.out.rd (p := pm) (cs := stCells m) (by simp)).addr (by rw [stCells_length]; omega)
            subst hbm
            obtain ⟨n, hn⟩ : ∃ n, m[k]? = some n := ⟨_, List.getElem?_eq_getElem hlt⟩
            obtain ⟨s, hs⟩ := HT.out.node HM.out (List.mem_of_getElem? hn)
            have HRN := Lib.hid (HGOOD.out.ring hs)
            obtain ⟨n1, n2⟩ := n
            obtain ⟨⟨p1, p2⟩, key⟩ := s
            have HN := Lib.hid hn
            clear hn hs
            go_wp2_with (refine wpList_value (by kernel_rfl) (exec_load_stH rfl rfl (HG.out.rd (p := some ⟨bm, om, none⟩) (cs := stCells m) (by simp)) HN.out) ?_)
            refine (GH.above n1 n2 HG.out HRN.out.wn).mono ?_
            rintro e wv ⟨pu, cu, lu, U, rfl, hu, hl, hg⟩
            have HCH := Lib.hid (show ChainN lu ((p1, p2), key) m.length from by rw [hl]; exact HT.out.chain hu HM.out HRN.out.at_)
            replace HG := Lib.hid hg
            clear hg hu hl
            obtain ⟨bu, ou, hbu, -⟩ := (HG.out.rd (p := pu) (cs := stCells lu) (by simp)).addr (by rw [stCells_length]; have := HCH.out.pos; omega)
            subst hbu
            have HF0 := Lib.hid (show lu[0]? = some (p1, p2) from HCH.out.first)
            obtain ⟨nl, hnl⟩ : ∃ nl, nl = lu.length := ⟨_, rfl⟩
            obtain ⟨jl, hjl0⟩ : ∃ jl, jl = nl - 1 := ⟨_, rfl⟩
            have h0l : 0 < nl := by rw [hnl]; exact HCH.out.pos
            have hjl : jl < nl := by omega
            have hle : nl ≤ m.length := by rw [hnl]; exact HCH.out.le
            obtain ⟨t, htt, hlast⟩ : ∃ t : Qm.St, (t = (0, 0) ∨ t = (0, 1)) ∧ lu[jl]? = some t := by
              rw [hjl0, hnl]
              rcases HCH.out.last with h1 | h1
              · exact ⟨_, Or.inl rfl, h1⟩
              · exact ⟨_, Or.inr rfl, h1⟩
            obtain ⟨t1, t2⟩ := t
            have HTT := Lib.hid htt
            have HLA := Lib.hid hlast
            have c1 : ((nl : Int) == 0) = false := by rw [beq_eq_false_iff_ne]; omega
            have c2 : decide ((m.length : Int) < (nl : Int)) = false := decide_eq_false (by omega)
            have c4 : decide (m.length < nl) = false := decide_eq_false (by omega)
            have c3 : IntKind.i64.wrap ((nl : Int) - 1) = (jl : Int) := by rw [wraps_i64 _ (by omega) (by omega)]; omega
            rw [← hnl]
            clear hnl hjl0 hle htt hlast HCH
            go_wp2_with (refine wpList_value (by kernel_rfl) (exec_load_stH rfl rfl (HG.out.rd (p := some ⟨bm, om, none⟩) (cs := stCells m) (by simp)) HN.out) ?_)
            refine (GH.spot n1 n2 HG.out HRN.out.wn HRN.out.at_).mono ?_
            rintro e wa ⟨rfl, hg⟩
            replace HG := Lib.hid hg
            clear hg
            go_upto_region 16 with (refine wpList_store_newag spT rfl _ _ rfl rfl _ (A := spA ((p1, p2), key)) rfl rfl rfl (spA_one _) ?_; intro wb hv8 hb8)
            obtain ⟨bz, hbz⟩ : ∃ b, b = wa.heap.size := ⟨_, rfl⟩
            rw [← hbz] at hv8 ⊢
            replace HG := Lib.hid (HG.out.box hb8 hv8 (Nat.le_of_eq hbz.symm))
            clear hv8 hb8 hbz
            replace HG := Lib.hid (HG.out.kept (Below.drew (Below.refl wb.heap.size wb)))
            refine wp_region_held_drew (S := fun W => Rd W (some ⟨bu, ou, none⟩) (stCells lu) ∧ AgAt W bz (spA ((p1, p2), key))) (by kernel_rfl) ⟨HG.out.rd (by simp), HG.out.at_ (by simp)⟩ (fun hS => ?_)
            generalize wb.drew = wd at *
            refine wpAnyH_take (i := 0) (v := ?_) rfl (by kernel_rfl) (by kernel_rfl) (by kernel_rfl) (fun _ _ _ h => h) (Or.inl ⟨by kernel_rfl, ?_⟩) hS ?_
            rotate_left
            · intro W hSW
              go_simp
              all_goals with_reducible rfl
            refine wpAnyH_take (i := 1) (v := ?_) rfl (by kernel_rfl) (by kernel_rfl) (by kernel_rfl) (fun _ _ _ h => h) (Or.inl ⟨by kernel_rfl, ?_⟩) hS ?_
            rotate_left
            · intro W hSW
              go_simp
              all_goals with_reducible rfl
            refine wpAnyH_take (i := 2) (v := ?_) rfl (by kernel_rfl) (by kernel_rfl) (by kernel_rfl) (fun _ _ _ h => h) (Or.inl ⟨by kernel_rfl, ?_⟩) hS ?_
            rotate_left
            · intro W hSW
              go_simp
              all_goals with_reducible rfl
            refine wpAnyH_take (i := 3) (v := ?_) rfl (by kernel_rfl) (by kernel_rfl) (by kernel_rfl) (fun _ _ _ h => h) (Or.inl ⟨by kernel_rfl, ?_⟩) hS ?_
            rotate_left
            · intro W hSW
              go_simp
              all_goals with_reducible rfl
            go_simp
            refine wpAnyH_take (i := 4) (v := ?_) rfl (by kernel_rfl) (by kernel_rfl) (by kernel_rfl) (fun _ _ _ h => h) (Or.inl ⟨by kernel_rfl, ?_⟩) hS ?_
            rotate_left
            · intro W hSW
              go_simp
              all_goals with_reducible rfl
            refine wpAnyH_take (i := 5) (v := ?_) rfl (by kernel_rfl) (by kernel_rfl) (by kernel_rfl) (fun _ _ _ h => h) (Or.inl ⟨by kernel_rfl, ?_⟩) hS ?_
            rotate_left
            · intro W hSW
              have c := c1
              go_simp
              all_goals with_reducible rfl
            refine wpAnyH_take (i := 6) (v := ?_) rfl (by kernel_rfl) (by kernel_rfl) (by kernel_rfl) (fun _ _ _ h => h) (Or.inl ⟨by kernel_rfl, ?_⟩) hS ?_
            rotate_left
            · intro W hSW
              go_simp
              all_goals with_reducible rfl
            refine wpAnyH_take (i := 7) (v := ?_) rfl (by kernel_rfl) (by kernel_rfl) (by kernel_rfl) (fun _ _ _ h => h) (Or.inl ⟨by kernel_rfl, ?_⟩) hS ?_
            rotate_left
            · intro W hSW
              go_simp
              all_goals with_reducible rfl
            go_simp
            refine wpAnyH_take (i := 8) (v := ?_) rfl (by kernel_rfl) (by kernel_rfl) (by kernel_rfl) (fun _ _ _ h => h) (Or.inl ⟨by kernel_rfl, ?_⟩) hS ?_
            rotate_left
            · intro W hSW
              go_simp
              all_goals with_reducible rfl
            refine wpAnyH_take (i := 9) (v := ?_) rfl (by kernel_rfl) (by kernel_rfl) (by kernel_rfl) (fun _ _ _ h => h) (Or.inl ⟨by kernel_rfl, ?_⟩) hS ?_
            rotate_left
            · intro W hSW
              go_simp
              all_goals with_reducible rfl
            refine wpAnyH_take (i := 10) (v := ?_) rfl (by kernel_rfl) (by kernel_rfl) (by kernel_rfl) (fun _ _ _ h => h) (Or.inl ⟨by kernel_rfl, ?_⟩) hS ?_
            rotate_left
            · intro W hSW
              go_simp
              all_goals with_reducible rfl
            refine wpAnyH_take (i := 11) (v := ?_) rfl (by kernel_rfl) (by kernel_rfl) (by kernel_rfl) (fun _ _ _ h => h) (Or.inl ⟨by kernel_rfl, ?_⟩) hS ?_
            rotate_left
            · intro W hSW
              go_simp
              all_goals with_reducible rfl
            go_simp
            refine wpAnyH_take (i := 12) (v := .bool false) rfl (by kernel_rfl) (by kernel_rfl) (by kernel_rfl) (fun _ _ _ h => h) (Or.inl ⟨by kernel_rfl, fun W hSW => by
              have c := c2
              have c5 := c4
              go_simp⟩) hS ?_
            refine wpAnyH_take (i := 13) (v := ?_) rfl (by kernel_rfl) (by kernel_rfl) (by kernel_rfl) (fun _ _ _ h => h) (Or.inl ⟨by kernel_rfl, ?_⟩) hS ?_
            rotate_left
            · intro W hSW
              go_simp
              all_goals with_reducible rfl
            refine wpAnyH_take (i := 14) (v := ?_) rfl (by kernel_rfl) (by kernel_rfl) (by kernel_rfl) (fun _ _ _ h => h) (Or.inl ⟨by kernel_rfl, ?_⟩) hS ?_
            rotate_left
            · intro W hSW
              go_simp
              all_goals with_reducible rfl
            refine wpAnyH_take (i := 15) (v := ?_) rfl (by kernel_rfl) (by kernel_rfl) (by kernel_rfl) (fun _ _ _ h => h) (Or.inl ⟨by kernel_rfl, ?_⟩) hS ?_
            rotate_left
            · intro W hSW
              go_simp
              all_goals with_reducible rfl
            go_simp
            refine wpAnyH_take (i := 16) (v := ?_) rfl (by kernel_rfl) (by kernel_rfl) (by kernel_rfl) (fun _ _ _ h => h) (Or.inl ⟨by kernel_rfl, ?_⟩) hS ?_
            rotate_left
            · intro W hSW
              have c := h0l
              go_simp
              all_goals with_reducible rfl
            go_simp
            refine wpAnyH_take (i := 17) (v := .agg #[.int .i64 p1, .int .i64 p2]) rfl (by kernel_rfl) (by kernel_rfl) (by kernel_rfl) (fun _ _ _ h => h) (Or.inl ⟨by kernel_rfl, fun W hSW => exec_load_stH0 rfl rfl hSW.1 HF0.out⟩) hS ?_
            refine wpAnyH_take (i := 18) (v := ?_) rfl (by kernel_rfl) (by kernel_rfl) (by kernel_rfl) (fun _ _ _ h => h) (Or.inl ⟨by kernel_rfl, ?_⟩) hS ?_
            rotate_left
            · intro W hSW
              go_simp
              all_goals with_reducible rfl
            go_simp
            refine wpAnyH_take (i := 19) (v := .agg #[.int .i64 p1, .int .i64 p2]) rfl (by kernel_rfl) (by kernel_rfl) (by kernel_rfl) (fun _ _ _ h => h) (Or.inl ⟨by kernel_rfl, fun W hSW => exec_load_part stT rfl rfl [.int .i64 p1, .int .i64 p2] rfl hSW.2 (spPar (s := ((p1, p2), key)))⟩) hS ?_
            go_simp
            refine wpAnyH_take (i := 20) (v := .bool false) rfl (by kernel_rfl) (by kernel_rfl) (by kernel_rfl) (fun _ _ _ h => h) (Or.inl ⟨by kernel_rfl, fun W hSW => exec_neq_stH rfl (p1, p2) (p1, p2) rfl rfl (decide_eq_true rfl)⟩) hS ?_
            refine wpAnyH_take (i := 21) (v := ?_) rfl (by kernel_rfl) (by kernel_rfl) (by kernel_rfl) (fun _ _ _ h => h) (Or.inl ⟨by kernel_rfl, ?_⟩) hS ?_
            rotate_left
            · intro W hSW
              go_simp
              all_goals with_reducible rfl
            go_simp
            refine wpAnyH_done (by kernel_rfl) ?_ _
            go_simp
            clear hS
            go_upto_region 19 with (first | (refine wpList_value (by kernel_rfl) (exec_load_stH rfl rfl (HG.out.rd (p := some ⟨bu, ou, none⟩) (cs := stCells lu) (by simp)) HLA.out) ?_) | (refine wpList_store_newag stT rfl _ _ rfl rfl _ (A := stA (t1, t2)) rfl rfl rfl (stA_one _ _) ?_; intro wx hv8 hb8))
            obtain ⟨be, hbz⟩ : ∃ b, b = wd.heap.size := ⟨_, rfl⟩
            rw [← hbz] at hv8 ⊢
            replace HG := Lib.hid (HG.out.box hb8 hv8 (Nat.le_of_eq hbz.symm))
            clear hv8 hb8 hbz
            go_simp
            go_cut [113] (fun s113 wc => s113 = .bool false ∧ GH w gg ops [(bz, spA ((p1, p2), key))] [(some ⟨bu, ou, none⟩, stCells lu), (some ⟨bm, om, none⟩, stCells m)] wc)
            case first =>
              rcases HTT.out with ht | ht
              · obtain ⟨rfl, rfl⟩ := Prod.mk.inj ht
                clear ht
                replace HG := Lib.hid (HG.out.kept (Below.drew (Below.refl wx.heap.size wx)))
                refine wp_region_held_drew (S := fun W => AgAt W be (stA (0, 0)) ∧ AgAt W bz (spA ((p1, p2), key)) ∧ Rd W (some ⟨bm, om, none⟩) (stCells m)) (by kernel_rfl) ⟨HG.out.at_ (by simp), HG.out.at_ (by simp), HG.out.rd (by simp)⟩ (fun hS => ?_)
                generalize wx.drew = wd at *
                refine wpAnyH_take (i := 0) (v := .agg #[.int .i64 0, .int .i64 0]) rfl (by kernel_rfl) (by kernel_rfl) (by kernel_rfl) (fun _ _ _ h => h) (Or.inl ⟨by kernel_rfl, fun W hSW => exec_load_ag stT rfl rfl rfl hSW.1⟩) hS ?_
                go_simp
                refine wpAnyH_take (i := 1) (v := .agg #[.int .i64 0, .int .i64 0]) rfl (by kernel_rfl) (by kernel_rfl) (by kernel_rfl) (fun _ _ _ h => h) (Or.inl ⟨by kernel_rfl, fun W hSW => exec_build_z rfl⟩) hS ?_
                go_simp
                refine wpAnyH_take (i := 2) (v := .bool false) rfl (by kernel_rfl) (by kernel_rfl) (by kernel_rfl) (fun _ _ _ h => h) (Or.inl ⟨by kernel_rfl, fun W hSW => exec_neq_stH rfl (0, 0) (0, 0) rfl rfl (by decide)⟩) hS ?_
                refine wpAnyH_take (i := 3) (v := ?_) rfl (by kernel_rfl) (by kernel_rfl) (by kernel_rfl) (fun _ _ _ h => h) (Or.inl ⟨by kernel_rfl, ?_⟩) hS ?_
                rotate_left
                · intro W hSW
                  go_simp
                  all_goals with_reducible rfl
                go_simp
                refine wpAnyH_take (i := 4) (v := undef) rfl (by kernel_rfl) (by kernel_rfl) (by kernel_rfl) (fun _ _ _ h => h) (Or.inr ⟨by kernel_rfl, rfl⟩) hS ?_
                go_simp
                refine wpAnyH_take (i := 5) (v := undef) rfl (by kernel_rfl) (by kernel_rfl) (by kernel_rfl) (fun _ _ _ h => h) (Or.inr ⟨by kernel_rfl, rfl⟩) hS ?_
                go_simp
                refine wpAnyH_take (i := 6) (v := undef) rfl (by kernel_rfl) (by kernel_rfl) (by kernel_rfl) (fun _ _ _ h => h) (Or.inr ⟨by kernel_rfl, rfl⟩) hS ?_
                refine wpAnyH_take (i := 7) (v := ?_) rfl (by kernel_rfl) (by kernel_rfl) (by kernel_rfl) (fun _ _ _ h => h) (Or.inl ⟨by kernel_rfl, ?_⟩) hS ?_
                rotate_left
                · intro W hSW
                  go_simp
                  all_goals with_reducible rfl
                refine wpAnyH_take (i := 8) (v := ?_) rfl (by kernel_rfl) (by kernel_rfl) (by kernel_rfl) (fun _ _ _ h => h) (Or.inl ⟨by kernel_rfl, ?_⟩) hS ?_
                rotate_left
                · intro W hSW
                  go_simp
                  all_goals with_reducible rfl
                refine wpAnyH_take (i := 9) (v := ?_) rfl (by kernel_rfl) (by kernel_rfl) (by kernel_rfl) (fun _ _ _ h => h) (Or.inl ⟨by kernel_rfl, ?_⟩) hS ?_
                rotate_left
                · intro W hSW
                  go_simp
                  all_goals with_reducible rfl
                go_simp
                refine wpAnyH_take (i := 10) (v := ?_) rfl (by kernel_rfl) (by kernel_rfl) (by kernel_rfl) (fun _ _ _ h => h) (Or.inl ⟨by kernel_rfl, ?_⟩) hS ?_
                rotate_left
                · intro W hSW
                  go_simp
                  all_goals with_reducible rfl
                go_simp
                refine wpAnyH_take (i := 11) (v := .agg #[.int .i64 p1, .int .i64 p2]) rfl (by kernel_rfl) (by kernel_rfl) (by kernel_rfl) (fun _ _ _ h => h) (Or.inl ⟨by kernel_rfl, fun W hSW => exec_load_part stT rfl rfl [.int .i64 p1, .int .i64 p2] rfl hSW.2.1 (spPar (s := ((p1, p2), key)))⟩) hS ?_
                refine wpAnyH_take (i := 12) (v := ?_) rfl (by kernel_rfl) (by kernel_rfl) (by kernel_rfl) (fun _ _ _ h => h) (Or.inl ⟨by kernel_rfl, ?_⟩) hS ?_
                rotate_left
                · intro W hSW
                  go_simp
                  all_goals with_reducible rfl
                refine wpAnyH_take (i := 13) (v := ?_) rfl (by kernel_rfl) (by kernel_rfl) (by kernel_rfl) (fun _ _ _ h => h) (Or.inl ⟨by kernel_rfl, ?_⟩) hS ?_
                rotate_left
                · intro W hSW
                  go_simp
                  all_goals with_reducible rfl
                refine wpAnyH_take (i := 14) (v := ?_) rfl (by kernel_rfl) (by kernel_rfl) (by kernel_rfl) (fun _ _ _ h => h) (Or.inl ⟨by kernel_rfl, ?_⟩) hS ?_
                rotate_left
                · intro W hSW
                  go_simp
                  all_goals with_reducible rfl
                go_simp
                refine wpAnyH_take (i := 15) (v := .agg #[.int .i64 n1, .int .i64 n2]) rfl (by kernel_rfl) (by kernel_rfl) (by kernel_rfl) (fun _ _ _ h => h) (Or.inl ⟨by kernel_rfl, fun W hSW => exec_load_stH rfl rfl hSW.2.2 HN.out⟩) hS ?_
                go_simp
                refine wpAnyH_ready (rs := [16]) (by kernel_rfl) (by simp) ?_
                refine AllReadyH.cons rfl (fun K hK => ?_) AllReadyH.nil
                go_simp
                go_wp2_with ((go_at_call 25; refine (GH.reach p1 p2 n1 n2 true HG.out HRN.out.wp HRN.out.wn (b := false) ⟨fun h => (by cases h), fun h => absurd h HRN.out.upP⟩).mono ?_; rintro e wn ⟨rfl, hg⟩))
                have HGX := Lib.hid hg
                refine hK.out _ _ ⟨HGX.out.at_ (by simp), HGX.out.at_ (by simp), HGX.out.rd (by simp)⟩ (fun hS => ?_)
                clear hK K hg
                refine wpAnyH_take (i := 17) (v := ?_) rfl (by kernel_rfl) (by kernel_rfl) (by kernel_rfl) (fun _ _ _ h => h) (Or.inl ⟨by kernel_rfl, ?_⟩) hS ?_
                rotate_left
                · intro W hSW
                  go_simp
                  all_goals with_reducible rfl
                go_simp
                refine wpAnyH_done (by kernel_rfl) ?_ _
                go_simp
                clear hS HG
                go_wp2
                go_meet
                case rel => exact ⟨rfl, HGX.out.less (fun e he => by simp at he; simp [he]) (fun e he => he)⟩
              · obtain ⟨rfl, rfl⟩ := Prod.mk.inj ht
                clear ht
                replace HG := Lib.hid (HG.out.kept (Below.drew (Below.refl wx.heap.size wx)))
                refine wp_region_held_drew (S := fun W => AgAt W be (stA (0, 1)) ∧ AgAt W bz (spA ((p1, p2), key)) ∧ Rd W (some ⟨bm, om, none⟩) (stCells m)) (by kernel_rfl) ⟨HG.out.at_ (by simp), HG.out.at_ (by simp), HG.out.rd (by simp)⟩ (fun hS => ?_)
                generalize wx.drew = wd at *
                refine wpAnyH_take (i := 0) (v := .agg #[.int .i64 0, .int .i64 1]) rfl (by kernel_rfl) (by kernel_rfl) (by kernel_rfl) (fun _ _ _ h => h) (Or.inl ⟨by kernel_rfl, fun W hSW => exec_load_ag stT rfl rfl rfl hSW.1⟩) hS ?_
                go_simp
                refine wpAnyH_take (i := 1) (v := .agg #[.int .i64 0, .int .i64 0]) rfl (by kernel_rfl) (by kernel_rfl) (by kernel_rfl) (fun _ _ _ h => h) (Or.inl ⟨by kernel_rfl, fun W hSW => exec_build_z rfl⟩) hS ?_
                go_simp
                refine wpAnyH_take (i := 2) (v := .bool true) rfl (by kernel_rfl) (by kernel_rfl) (by kernel_rfl) (fun _ _ _ h => h) (Or.inl ⟨by kernel_rfl, fun W hSW => exec_neq_stH rfl (0, 1) (0, 0) rfl rfl (by decide)⟩) hS ?_
                refine wpAnyH_take (i := 3) (v := ?_) rfl (by kernel_rfl) (by kernel_rfl) (by kernel_rfl) (fun _ _ _ h => h) (Or.inl ⟨by kernel_rfl, ?_⟩) hS ?_
                rotate_left
                · intro W hSW
                  go_simp
                  all_goals with_reducible rfl
                go_simp
                refine wpAnyH_take (i := 4) (v := .agg #[.int .i64 0, .int .i64 1]) rfl (by kernel_rfl) (by kernel_rfl) (by kernel_rfl) (fun _ _ _ h => h) (Or.inl ⟨by kernel_rfl, fun W hSW => exec_load_ag stT rfl rfl rfl hSW.1⟩) hS ?_
                go_simp
                refine wpAnyH_take (i := 5) (v := .agg #[.int .i64 0, .int .i64 1]) rfl (by kernel_rfl) (by kernel_rfl) (by kernel_rfl) (fun _ _ _ h => h) (Or.inl ⟨by kernel_rfl, fun W hSW => exec_build_t rfl⟩) hS ?_
                go_simp
                refine wpAnyH_take (i := 6) (v := .bool false) rfl (by kernel_rfl) (by kernel_rfl) (by kernel_rfl) (fun _ _ _ h => h) (Or.inl ⟨by kernel_rfl, fun W hSW => exec_neq_stH rfl (0, 1) (0, 1) rfl rfl (by decide)⟩) hS ?_
                refine wpAnyH_take (i := 7) (v := ?_) rfl (by kernel_rfl) (by kernel_rfl) (by kernel_rfl) (fun _ _ _ h => h) (Or.inl ⟨by kernel_rfl, ?_⟩) hS ?_
                rotate_left
                · intro W hSW
                  go_simp
                  all_goals with_reducible rfl
                refine wpAnyH_take (i := 8) (v := ?_) rfl (by kernel_rfl) (by kernel_rfl) (by kernel_rfl) (fun _ _ _ h => h) (Or.inl ⟨by kernel_rfl, ?_⟩) hS ?_
                rotate_left
                · intro W hSW
                  go_simp
                  all_goals with_reducible rfl
                refine wpAnyH_take (i := 9) (v := ?_) rfl (by kernel_rfl) (by kernel_rfl) (by kernel_rfl) (fun _ _ _ h => h) (Or.inl ⟨by kernel_rfl, ?_⟩) hS ?_
                rotate_left
                · intro W hSW
                  go_simp
                  all_goals with_reducible rfl
                go_simp
                refine wpAnyH_take (i := 10) (v := ?_) rfl (by kernel_rfl) (by kernel_rfl) (by kernel_rfl) (fun _ _ _ h => h) (Or.inl ⟨by kernel_rfl, ?_⟩) hS ?_
                rotate_left
                · intro W hSW
                  go_simp
                  all_goals with_reducible rfl
                go_simp
                refine wpAnyH_take (i := 11) (v := .agg #[.int .i64 p1, .int .i64 p2]) rfl (by kernel_rfl) (by kernel_rfl) (by kernel_rfl) (fun _ _ _ h => h) (Or.inl ⟨by kernel_rfl, fun W hSW => exec_load_part stT rfl rfl [.int .i64 p1, .int .i64 p2] rfl hSW.2.1 (spPar (s := ((p1, p2), key)))⟩) hS ?_
                refine wpAnyH_take (i := 12) (v := ?_) rfl (by kernel_rfl) (by kernel_rfl) (by kernel_rfl) (fun _ _ _ h => h) (Or.inl ⟨by kernel_rfl, ?_⟩) hS ?_
                rotate_left
                · intro W hSW
                  go_simp
                  all_goals with_reducible rfl
                refine wpAnyH_take (i := 13) (v := ?_) rfl (by kernel_rfl) (by kernel_rfl) (by kernel_rfl) (fun _ _ _ h => h) (Or.inl ⟨by kernel_rfl, ?_⟩) hS ?_
                rotate_left
                · intro W hSW
                  go_simp
                  all_goals with_reducible rfl
                refine wpAnyH_take (i := 14) (v := ?_) rfl (by kernel_rfl) (by kernel_rfl) (by kernel_rfl) (fun _ _ _ h => h) (Or.inl ⟨by kernel_rfl, ?_⟩) hS ?_
                rotate_left
                · intro W hSW
                  go_simp
                  all_goals with_reducible rfl
                go_simp
                refine wpAnyH_take (i := 15) (v := .agg #[.int .i64 n1, .int .i64 n2]) rfl (by kernel_rfl) (by kernel_rfl) (by kernel_rfl) (fun _ _ _ h => h) (Or.inl ⟨by kernel_rfl, fun W hSW => exec_load_stH rfl rfl hSW.2.2 HN.out⟩) hS ?_
                go_simp
                refine wpAnyH_ready (rs := [16]) (by kernel_rfl) (by simp) ?_
                refine AllReadyH.cons rfl (fun K hK => ?_) AllReadyH.nil
                go_simp
                go_wp2_with ((go_at_call 25; refine (GH.reach p1 p2 n1 n2 true HG.out HRN.out.wp HRN.out.wn (b := false) ⟨fun h => (by cases h), fun h => absurd h HRN.out.upP⟩).mono ?_; rintro e wn ⟨rfl, hg⟩))
                have HGX := Lib.hid hg
                refine hK.out _ _ ⟨HGX.out.at_ (by simp), HGX.out.at_ (by simp), HGX.out.rd (by simp)⟩ (fun hS => ?_)
                clear hK K hg
                refine wpAnyH_take (i := 17) (v := ?_) rfl (by kernel_rfl) (by kernel_rfl) (by kernel_rfl) (fun _ _ _ h => h) (Or.inl ⟨by kernel_rfl, ?_⟩) hS ?_
                rotate_left
                · intro W hSW
                  go_simp
                  all_goals with_reducible rfl
                go_simp
                refine wpAnyH_done (by kernel_rfl) ?_ _
                go_simp
                clear hS HG
                go_wp2
                go_meet
                case rel => exact ⟨rfl, HGX.out.less (fun e he => by simp at he; simp [he]) (fun e he => he)⟩
            case rest =>
              rename World => wy
              obtain ⟨rfl, hg⟩ := hcut
              replace HG := Lib.hid (hg.less (bs' := []) (rs' := [(some ⟨bm, om, none⟩, stCells m)]) (fun e he => by cases he) (fun e he => by simp at he; simp [he]))
              clear hg HTT HLA c1 c2 c3 c4 h0l hjl
              go_wp2_with (refine wpList_value (by kernel_rfl) (exec_load_stH rfl rfl (HG.out.rd (p := some ⟨bm, om, none⟩) (cs := stCells m) (by simp)) HN.out) ?_)
              obtain ⟨r1, r2, rb, hrb, HMAS0⟩ : ∃ r1 r2 rb, (((Gm.run ops).m (n1, n2)).getD (0, 0) = (r1, r2) ∧ ((Gm.run ops).m (n1, n2)).isSome = rb) ∧ (rb = true → (Gm.run ops).m (n1, n2) = some (r1, r2)) := by
                cases e : (Gm.run ops).m (n1, n2) with
                | none => exact ⟨0, 0, false, ⟨rfl, rfl⟩, fun h => by cases h⟩
                | some r => exact ⟨r.1, r.2, true, ⟨rfl, rfl⟩, fun _ => rfl⟩
              refine (GH.ref n1 n2 HG.out HRN.out.wn hrb).mono ?_
              rintro e wv ⟨rfl, hg⟩
              replace HG := Lib.hid hg
              have HMAS := Lib.hid HMAS0
              clear hg hrb HMAS0
              go_upto_region 22 with (refine wpList_store_newag stT rfl _ _ rfl rfl _ (A := stA (r1, r2)) rfl rfl rfl (stA_one _ _) ?_; intro wx hv8 hb8)
              obtain ⟨br, hbz⟩ : ∃ b, b = wv.heap.size := ⟨_, rfl⟩
              rw [← hbz] at hv8 ⊢
              replace HG := Lib.hid (HG.out.box hb8 hv8 (Nat.le_of_eq hbz.symm))
              clear hv8 hb8 hbz
              go_simp
              go_cut [147] (fun s147 wc => s147 = .bool false ∧ GH w gg ops [] [(some ⟨bm, om, none⟩, stCells m)] wc)
              case first =>
                cases rb with
                | false =>
                  replace HG := Lib.hid (HG.out.kept (Below.drew (Below.refl wx.heap.size wx)))
                  refine wp_region_held_drew (S := fun _ => True) (by kernel_rfl) trivial (fun hS => ?_)
                  generalize wx.drew = wd at *
                  refine wpAnyH_take (i := 0) (v := ?_) rfl (by kernel_rfl) (by kernel_rfl) (by kernel_rfl) (fun _ _ _ h => h) (Or.inl ⟨by kernel_rfl, ?_⟩) hS ?_
                  rotate_left
                  · intro W hSW
                    go_simp
                    all_goals with_reducible rfl
                  refine wpAnyH_take (i := 1) (v := ?_) rfl (by kernel_rfl) (by kernel_rfl) (by kernel_rfl) (fun _ _ _ h => h) (Or.inl ⟨by kernel_rfl, ?_⟩) hS ?_
                  rotate_left
                  · intro W hSW
                    go_simp
                    all_goals with_reducible rfl
                  go_simp
                  refine wpAnyH_take (i := 2) (v := undef) rfl (by kernel_rfl) (by kernel_rfl) (by kernel_rfl) (fun _ _ _ h => h) (Or.inr ⟨by kernel_rfl, rfl⟩) hS ?_
                  go_simp
                  refine wpAnyH_take (i := 3) (v := undef) rfl (by kernel_rfl) (by kernel_rfl) (by kernel_rfl) (fun _ _ _ h => h) (Or.inr ⟨by kernel_rfl, rfl⟩) hS ?_
                  go_simp
                  refine wpAnyH_take (i := 4) (v := undef) rfl (by kernel_rfl) (by kernel_rfl) (by kernel_rfl) (fun _ _ _ h => h) (Or.inr ⟨by kernel_rfl, rfl⟩) hS ?_
                  go_simp
                  refine wpAnyH_take (i := 5) (v := undef) rfl (by kernel_rfl) (by kernel_rfl) (by kernel_rfl) (fun _ _ _ h => h) (Or.inr ⟨by kernel_rfl, rfl⟩) hS ?_
                  go_simp
                  refine wpAnyH_take (i := 6) (v := undef) rfl (by kernel_rfl) (by kernel_rfl) (by kernel_rfl) (fun _ _ _ h => h) (Or.inr ⟨by kernel_rfl, rfl⟩) hS ?_
                  go_simp
                  refine wpAnyH_take (i := 7) (v := undef) rfl (by kernel_rfl) (by kernel_rfl) (by kernel_rfl) (fun _ _ _ h => h) (Or.inr ⟨by kernel_rfl, rfl⟩) hS ?_
                  go_simp
                  refine wpAnyH_take (i := 8) (v := undef) rfl (by kernel_rfl) (by kernel_rfl) (by kernel_rfl) (fun _ _ _ h => h) (Or.inr ⟨by kernel_rfl, rfl⟩) hS ?_
                  go_simp
                  refine wpAnyH_take (i := 9) (v := undef) rfl (by kernel_rfl) (by kernel_rfl) (by kernel_rfl) (fun _ _ _ h => h) (Or.inr ⟨by kernel_rfl, rfl⟩) hS ?_
                  go_simp
                  refine wpAnyH_take (i := 10) (v := undef) rfl (by kernel_rfl) (by kernel_rfl) (by kernel_rfl) (fun _ _ _ h => h) (Or.inr ⟨by kernel_rfl, rfl⟩) hS ?_
                  go_simp
                  refine wpAnyH_take (i := 11) (v := undef) rfl (by kernel_rfl) (by kernel_rfl) (by kernel_rfl) (fun _ _ _ h => h) (Or.inr ⟨by kernel_rfl, rfl⟩) hS ?_
                  go_simp
                  refine wpAnyH_take (i := 12) (v := undef) rfl (by kernel_rfl) (by kernel_rfl) (by kernel_rfl) (fun _ _ _ h => h) (Or.inr ⟨by kernel_rfl, rfl⟩) hS ?_
                  go_simp
                  refine wpAnyH_take (i := 13) (v := undef) rfl (by kernel_rfl) (by kernel_rfl) (by kernel_rfl) (fun _ _ _ h => h) (Or.inr ⟨by kernel_rfl, rfl⟩) hS ?_
                  go_simp
                  refine wpAnyH_take (i := 14) (v := undef) rfl (by kernel_rfl) (by kernel_rfl) (by kernel_rfl) (fun _ _ _ h => h) (Or.inr ⟨by kernel_rfl, rfl⟩) hS ?_
                  go_simp
                  refine wpAnyH_take (i := 15) (v := undef) rfl (by kernel_rfl) (by kernel_rfl) (by kernel_rfl) (fun _ _ _ h => h) (Or.inr ⟨by kernel_rfl, rfl⟩) hS ?_
                  go_simp
                  refine wpAnyH_take (i := 16) (v := undef) rfl (by kernel_rfl) (by kernel_rfl) (by kernel_rfl) (fun _ _ _ h => h) (Or.inr ⟨by kernel_rfl, rfl⟩) hS ?_
                  go_simp
                  refine wpAnyH_take (i := 17) (v := undef) rfl (by kernel_rfl) (by kernel_rfl) (by kernel_rfl) (fun _ _ _ h => h) (Or.inr ⟨by kernel_rfl, rfl⟩) hS ?_
                  go_simp
                  refine wpAnyH_take (i := 18) (v := undef) rfl (by kernel_rfl) (by kernel_rfl) (by kernel_rfl) (fun _ _ _ h => h) (Or.inr ⟨by kernel_rfl, rfl⟩) hS ?_
                  go_simp
                  refine wpAnyH_take (i := 19) (v := undef) rfl (by kernel_rfl) (by kernel_rfl) (by kernel_rfl) (fun _ _ _ h => h) (Or.inr ⟨by kernel_rfl, rfl⟩) hS ?_
                  go_simp
                  refine wpAnyH_take (i := 20) (v := undef) rfl (by kernel_rfl) (by kernel_rfl) (by kernel_rfl) (fun _ _ _ h => h) (Or.inr ⟨by kernel_rfl, rfl⟩) hS ?_
                  go_simp
                  refine wpAnyH_take (i := 21) (v := undef) rfl (by kernel_rfl) (by kernel_rfl) (by kernel_rfl) (fun _ _ _ h => h) (Or.inr ⟨by kernel_rfl, rfl⟩) hS ?_
                  go_simp
                  refine wpAnyH_take (i := 22) (v := undef) rfl (by kernel_rfl) (by kernel_rfl) (by kernel_rfl) (fun _ _ _ h => h) (Or.inr ⟨by kernel_rfl, rfl⟩) hS ?_
                  go_simp
                  refine wpAnyH_take (i := 23) (v := undef) rfl (by kernel_rfl) (by kernel_rfl) (by kernel_rfl) (fun _ _ _ h => h) (Or.inr ⟨by kernel_rfl, rfl⟩) hS ?_
                  refine wpAnyH_take (i := 24) (v := ?_) rfl (by kernel_rfl) (by kernel_rfl) (by kernel_rfl) (fun _ _ _ h => h) (Or.inl ⟨by kernel_rfl, ?_⟩) hS ?_
                  rotate_left
                  · intro W hSW
                    go_simp
                    all_goals with_reducible rfl
                  go_simp
                  refine wpAnyH_done (by kernel_rfl) ?_ _
                  go_simp
                  clear hS
                  go_wp2
                  go_meet
                  case rel => exact ⟨rfl, HG.out.less (fun e he => by cases he) (fun e he => he)⟩
                | true =>
                  have HMS := Lib.hid (HRN.out.mas (r1, r2) (HMAS.out rfl))
                  replace HG := Lib.hid (HG.out.kept (Below.drew (Below.refl wx.heap.size wx)))
                  refine wp_region_held_drew (S := fun W => AgAt W br (stA (r1, r2)) ∧ Rd W (some ⟨bm, om, none⟩) (stCells m)) (by kernel_rfl) ⟨HG.out.at_ (by simp), HG.out.rd (by simp)⟩ (fun hS => ?_)
                  generalize wx.drew = wd at *
                  refine wpAnyH_take (i := 0) (v := ?_) rfl (by kernel_rfl) (by kernel_rfl) (by kernel_rfl) (fun _ _ _ h => h) (Or.inl ⟨by kernel_rfl, ?_⟩) hS ?_
                  rotate_left
                  · intro W hSW
                    go_simp
                    all_goals with_reducible rfl
                  refine wpAnyH_take (i := 1) (v := ?_) rfl (by kernel_rfl) (by kernel_rfl) (by kernel_rfl) (fun _ _ _ h => h) (Or.inl ⟨by kernel_rfl, ?_⟩) hS ?_
                  rotate_left
                  · intro W hSW
                    go_simp
                    all_goals with_reducible rfl
                  refine wpAnyH_take (i := 2) (v := ?_) rfl (by kernel_rfl) (by kernel_rfl) (by kernel_rfl) (fun _ _ _ h => h) (Or.inl ⟨by kernel_rfl, ?_⟩) hS ?_
                  rotate_left
                  · intro W hSW
                    go_simp
                    all_goals with_reducible rfl
                  go_simp
                  refine wpAnyH_take (i := 3) (v := .agg #[.int .i64 r1, .int .i64 r2]) rfl (by kernel_rfl) (by kernel_rfl) (by kernel_rfl) (fun _ _ _ h => h) (Or.inl ⟨by kernel_rfl, fun W hSW => exec_load_ag stT rfl rfl rfl hSW.1⟩) hS ?_
                  refine wpAnyH_take (i := 4) (v := ?_) rfl (by kernel_rfl) (by kernel_rfl) (by kernel_rfl) (fun _ _ _ h => h) (Or.inl ⟨by kernel_rfl, ?_⟩) hS ?_
                  rotate_left
                  · intro W hSW
                    go_simp
                    all_goals with_reducible rfl
                  refine wpAnyH_take (i := 5) (v := ?_) rfl (by kernel_rfl) (by kernel_rfl) (by kernel_rfl) (fun _ _ _ h => h) (Or.inl ⟨by kernel_rfl, ?_⟩) hS ?_
                  rotate_left
                  · intro W hSW
                    go_simp
                    all_goals with_reducible rfl
                  refine wpAnyH_take (i := 6) (v := ?_) rfl (by kernel_rfl) (by kernel_rfl) (by kernel_rfl) (fun _ _ _ h => h) (Or.inl ⟨by kernel_rfl, ?_⟩) hS ?_
                  rotate_left
                  · intro W hSW
                    go_simp
                    all_goals with_reducible rfl
                  go_simp
                  refine wpAnyH_take (i := 7) (v := .agg #[.int .i64 n1, .int .i64 n2]) rfl (by kernel_rfl) (by kernel_rfl) (by kernel_rfl) (fun _ _ _ h => h) (Or.inl ⟨by kernel_rfl, fun W hSW => exec_load_stH rfl rfl hSW.2 HN.out⟩) hS ?_
                  go_simp
                  refine wpAnyH_ready (rs := [8]) (by kernel_rfl) (by simp) ?_
                  refine AllReadyH.cons rfl (fun K hK => ?_) AllReadyH.nil
                  go_simp
                  go_wp2_with ((go_at_call 25; refine (GH.reach r1 r2 n1 n2 true HG.out HMS.out.1 HRN.out.wn (b := false) ⟨fun h => (by cases h), fun h => absurd h HMS.out.2.1⟩).mono ?_; rintro e wn ⟨rfl, hg⟩))
                  have HG1 := Lib.hid hg
                  refine hK.out _ _ ⟨HG1.out.at_ (by simp), HG1.out.rd (by simp)⟩ (fun hS => ?_)
                  clear hK K hg
                  refine wpAnyH_take (i := 9) (v := ?_) rfl (by kernel_rfl) (by kernel_rfl) (by kernel_rfl) (fun _ _ _ h => h) (Or.inl ⟨by kernel_rfl, ?_⟩) hS ?_
                  rotate_left
                  · intro W hSW
                    go_simp
                    all_goals with_reducible rfl
                  refine wpAnyH_take (i := 10) (v := ?_) rfl (by kernel_rfl) (by kernel_rfl) (by kernel_rfl) (fun _ _ _ h => h) (Or.inl ⟨by kernel_rfl, ?_⟩) hS ?_
                  rotate_left
                  · intro W hSW
                    go_simp
                    all_goals with_reducible rfl
                  go_simp
                  refine wpAnyH_take (i := 11) (v := .agg #[.int .i64 r1, .int .i64 r2]) rfl (by kernel_rfl) (by kernel_rfl) (by kernel_rfl) (fun _ _ _ h => h) (Or.inl ⟨by kernel_rfl, fun W hSW => exec_load_ag stT rfl rfl rfl hSW.1⟩) hS ?_
                  refine wpAnyH_take (i := 12) (v := ?_) rfl (by kernel_rfl) (by kernel_rfl) (by kernel_rfl) (fun _ _ _ h => h) (Or.inl ⟨by kernel_rfl, ?_⟩) hS ?_
                  rotate_left
                  · intro W hSW
                    go_simp
                    all_goals with_reducible rfl
                  refine wpAnyH_take (i := 13) (v := ?_) rfl (by kernel_rfl) (by kernel_rfl) (by kernel_rfl) (fun _ _ _ h => h) (Or.inl ⟨by kernel_rfl, ?_⟩) hS ?_
                  rotate_left
                  · intro W hSW
                    go_simp
                    all_goals with_reducible rfl
                  refine wpAnyH_take (i := 14) (v := ?_) rfl (by kernel_rfl) (by kernel_rfl) (by kernel_rfl) (fun _ _ _ h => h) (Or.inl ⟨by kernel_rfl, ?_⟩) hS ?_
                  rotate_left
                  · intro W hSW
                    go_simp
                    all_goals with_reducible rfl
                  go_simp
                  refine wpAnyH_take (i := 15) (v := .agg #[.int .i64 n1, .int .i64 n2]) rfl (by kernel_rfl) (by kernel_rfl) (by kernel_rfl) (fun _ _ _ h => h) (Or.inl ⟨by kernel_rfl, fun W hSW => exec_load_stH rfl rfl hSW.2 HN.out⟩) hS ?_
                  go_simp
                  refine wpAnyH_ready (rs := [16]) (by kernel_rfl) (by simp) ?_
                  refine AllReadyH.cons rfl (fun K hK => ?_) AllReadyH.nil
                  go_simp
                  go_wp2_with ((go_at_call 25; refine (GH.reach r1 r2 n1 n2 false HG1.out HMS.out.1 HRN.out.wn (b := false) ⟨fun h => (by cases h), fun h => absurd h HMS.out.2.2.1⟩).mono ?_; rintro e wn ⟨rfl, hg⟩))
                  have HG2 := Lib.hid hg
                  refine hK.out _ _ ⟨HG2.out.at_ (by simp), HG2.out.rd (by simp)⟩ (fun hS => ?_)
                  clear hK K hg
                  refine wpAnyH_take (i := 17) (v := ?_) rfl (by kernel_rfl) (by kernel_rfl) (by kernel_rfl) (fun _ _ _ h => h) (Or.inl ⟨by kernel_rfl, ?_⟩) hS ?_
                  rotate_left
                  · intro W hSW
                    go_simp
                    all_goals with_reducible rfl
                  refine wpAnyH_take (i := 18) (v := ?_) rfl (by kernel_rfl) (by kernel_rfl) (by kernel_rfl) (fun _ _ _ h => h) (Or.inl ⟨by kernel_rfl, ?_⟩) hS ?_
                  rotate_left
                  · intro W hSW
                    go_simp
                    all_goals with_reducible rfl
                  refine wpAnyH_take (i := 19) (v := ?_) rfl (by kernel_rfl) (by kernel_rfl) (by kernel_rfl) (fun _ _ _ h => h) (Or.inl ⟨by kernel_rfl, ?_⟩) hS ?_
                  rotate_left
                  · intro W hSW
                    go_simp
                    all_goals with_reducible rfl
                  go_simp
                  refine wpAnyH_take (i := 20) (v := .agg #[.int .i64 r1, .int .i64 r2]) rfl (by kernel_rfl) (by kernel_rfl) (by kernel_rfl) (fun _ _ _ h => h) (Or.inl ⟨by kernel_rfl, fun W hSW => exec_load_ag stT rfl rfl rfl hSW.1⟩) hS ?_
                  go_simp
                  refine wpAnyH_ready (rs := [21]) (by kernel_rfl) (by simp) ?_
                  refine AllReadyH.cons rfl (fun K hK => ?_) AllReadyH.nil
                  go_simp
                  go_wp2_with ((go_at_call 24; refine (GH.has r1 r2 HG2.out HMS.out.1 HMS.out.2.2.2).mono ?_; rintro e wn ⟨rfl, hg⟩))
                  have HG3 := Lib.hid hg
                  refine hK.out _ _ ⟨HG3.out.at_ (by simp), HG3.out.rd (by simp)⟩ (fun hS => ?_)
                  clear hK K hg
                  refine wpAnyH_take (i := 22) (v := ?_) rfl (by kernel_rfl) (by kernel_rfl) (by kernel_rfl) (fun _ _ _ h => h) (Or.inl ⟨by kernel_rfl, ?_⟩) hS ?_
                  rotate_left
                  · intro W hSW
                    go_simp
                    all_goals with_reducible rfl
                  refine wpAnyH_take (i := 23) (v := ?_) rfl (by kernel_rfl) (by kernel_rfl) (by kernel_rfl) (fun _ _ _ h => h) (Or.inl ⟨by kernel_rfl, ?_⟩) hS ?_
                  rotate_left
                  · intro W hSW
                    go_simp
                    all_goals with_reducible rfl
                  refine wpAnyH_take (i := 24) (v := ?_) rfl (by kernel_rfl) (by kernel_rfl) (by kernel_rfl) (fun _ _ _ h => h) (Or.inl ⟨by kernel_rfl, ?_⟩) hS ?_
                  rotate_left
                  · intro W hSW
                    go_simp
                    all_goals with_reducible rfl
                  go_simp
                  refine wpAnyH_done (by kernel_rfl) ?_ _
                  go_simp
                  clear hS HG HG1 HG2
                  go_wp2
                  go_meet
                  case rel => exact ⟨rfl, HG3.out.less (fun e he => by cases he) (fun e he => he)⟩
              case rest =>
                rename World => wz
                obtain ⟨rfl, hg⟩ := hcut
                replace HG := Lib.hid hg
                clear hg HMAS
                go_wp2_with (refine wpList_value (by kernel_rfl) (exec_load_stH rfl rfl (HG.out.rd (p := some ⟨bm, om, none⟩) (cs := stCells m) (by simp)) HN.out) ?_)
                refine (GH.row n1 n2 HG.out HRN.out.wn).mono ?_
                rintro e wv ⟨po, co, mo, V, rfl, hv, ⟨hmo, -⟩, hg⟩
                replace HG := Lib.hid hg
                have HKID := Lib.hid (fun (e : Sbm.Sib) (he : e ∈ mo) => HRN.out.kid e.2 e.1 (hv.kid hmo he))
                have hmo60 : mo.length ≤ 60 := by rw [hmo.length_eq]; exact Nat.le_trans (Rtm.sibs_len _ _) hv.few
                clear hg hmo hv
                go_wp2
                go_loopw [14] (fun i wr => ∃ j : Nat, j ≤ mo.length ∧ i = .int .i64 (j : Int) ∧ GH w gg ops [] [(po, sbCells mo), (some ⟨bm, om, none⟩, stCells m)] wr) (fun i _ => mo.length - (intOf i).toNat)
                case atStart => exact ⟨0, Nat.zero_le _, rfl, HG.out⟩
                case round =>
                  clear HG
                  obtain ⟨j, hj, rfl, hg⟩ := hrel
                  have HG := Lib.hid hg
                  clear hg
                  by_cases hjt : j < mo.length
                  · have d1 : decide ((j : Int) < (mo.length : Int)) = true := decide_eq_true (by omega)
                    obtain ⟨bo, oo, hbo, -⟩ := (HG.out.rd (p := po) (cs := sbCells mo) (by simp)).addr (by rw [sbCells_length]; omega)
                    subst hbo
                    obtain ⟨ce, hce⟩ : ∃ ce, mo[j]? = some ce := ⟨_, List.getElem?_eq_getElem hjt⟩
                    have HKD := Lib.hid (HKID.out ce (List.mem_of_getElem? hce))
                    obtain ⟨ck, c1, c2⟩ := ce
                    have HCE := Lib.hid hce
                    clear hce
                    go_upto_region 28 with fail
                    obtain ⟨wl, hwl⟩ : ∃ wl : World, wl = wr := ⟨_, rfl⟩
                    subst hwl
                    replace HG := Lib.hid (HG.out.kept (Below.drew (Below.refl wl.heap.size wl)))
                    refine wp_region_held_drew (S := fun W => Rd W (some ⟨bo, oo, none⟩) (sbCells mo) ∧ Rd W (some ⟨bm, om, none⟩) (stCells m)) (by kernel_rfl) ⟨HG.out.rd (by simp), HG.out.rd (by simp)⟩ (fun hS => ?_)
                    generalize wl.drew = wd at *
                    refine wpAnyH_take (i := 0) (v := ?_) rfl (by kernel_rfl) (by kernel_rfl) (by kernel_rfl) (fun _ _ _ h => h) (Or.inl ⟨by kernel_rfl, ?_⟩) hS ?_
                    rotate_left
                    · intro W hSW
                      go_simp
                      all_goals with_reducible rfl
                    refine wpAnyH_take (i := 1) (v := ?_) rfl (by kernel_rfl) (by kernel_rfl) (by kernel_rfl) (fun _ _ _ h => h) (Or.inl ⟨by kernel_rfl, ?_⟩) hS ?_
                    rotate_left
                    · intro W hSW
                      go_simp
                      all_goals with_reducible rfl
                    refine wpAnyH_take (i := 2) (v := ?_) rfl (by kernel_rfl) (by kernel_rfl) (by kernel_rfl) (fun _ _ _ h => h) (Or.inl ⟨by kernel_rfl, ?_⟩) hS ?_
                    rotate_left
                    · intro W hSW
                      go_simp
                      all_goals with_reducible rfl
                    refine wpAnyH_take (i := 3) (v := ?_) rfl (by kernel_rfl) (by kernel_rfl) (by kernel_rfl) (fun _ _ _ h => h) (Or.inl ⟨by kernel_rfl, ?_⟩) hS ?_
                    rotate_left
                    · intro W hSW
                      go_simp
                      all_goals with_reducible rfl
                    go_simp
                    refine wpAnyH_take (i := 4) (v := ?_) rfl (by kernel_rfl) (by kernel_rfl) (by kernel_rfl) (fun _ _ _ h => h) (Or.inl ⟨by kernel_rfl, ?_⟩) hS ?_
                    rotate_left
                    · intro W hSW
                      go_simp
                      all_goals with_reducible rfl
                    go_simp
                    refine wpAnyH_take (i := 5) (v := .agg #[.int .i64 c1, .int .i64 c2]) rfl (by kernel_rfl) (by kernel_rfl) (by kernel_rfl) (fun _ _ _ h => h) (Or.inl ⟨by kernel_rfl, fun W hSW => exec_load_sbH rfl rfl hSW.1 HCE.out⟩) hS ?_
                    refine wpAnyH_take (i := 6) (v := ?_) rfl (by kernel_rfl) (by kernel_rfl) (by kernel_rfl) (fun _ _ _ h => h) (Or.inl ⟨by kernel_rfl, ?_⟩) hS ?_
                    rotate_left
                    · intro W hSW
                      go_simp
                      all_goals with_reducible rfl
                    refine wpAnyH_take (i := 7) (v := ?_) rfl (by kernel_rfl) (by kernel_rfl) (by kernel_rfl) (fun _ _ _ h => h) (Or.inl ⟨by kernel_rfl, ?_⟩) hS ?_
                    rotate_left
                    · intro W hSW
                      go_simp
                      all_goals with_reducible rfl
                    refine wpAnyH_take (i := 8) (v := ?_) rfl (by kernel_rfl) (by kernel_rfl) (by kernel_rfl) (fun _ _ _ h => h) (Or.inl ⟨by kernel_rfl, ?_⟩) hS ?_
                    rotate_left
                    · intro W hSW
                      go_simp
                      all_goals with_reducible rfl
                    go_simp
                    refine wpAnyH_take (i := 9) (v := .agg #[.int .i64 n1, .int .i64 n2]) rfl (by kernel_rfl) (by kernel_rfl) (by kernel_rfl) (fun _ _ _ h => h) (Or.inl ⟨by kernel_rfl, fun W hSW => exec_load_stH rfl rfl hSW.2 HN.out⟩) hS ?_
                    go_simp
                    refine wpAnyH_ready (rs := [10]) (by kernel_rfl) (by simp) ?_
                    refine AllReadyH.cons rfl (fun K hK => ?_) AllReadyH.nil
                    go_simp
                    go_wp2_with ((go_at_call 25; refine (GH.reach c1 c2 n1 n2 false HG.out HKD.out.1 HRN.out.wn (b := false) ⟨fun h => (by cases h), fun h => absurd h HKD.out.2⟩).mono ?_; rintro e wn ⟨rfl, hg⟩))
                    have HGX := Lib.hid hg
                    refine hK.out _ _ ⟨HGX.out.rd (by simp), HGX.out.rd (by simp)⟩ (fun hS => ?_)
                    clear hK K hg
                    refine wpAnyH_done (by kernel_rfl) ?_ _
                    go_simp
                    clear hS HG
                    go_wp2
                    go_roundw
                    case rel => exact ⟨j + 1, by omega, by go_num, HGX.out⟩
                    case measure => simp [intOf]; omega
                  · obtain rfl : j = mo.length := by omega
                    have d1 : decide ((mo.length : Int) < (mo.length : Int)) = false := decide_eq_false (by omega)
                    go_wp2
                    go_roundw
                    case rel => exact ⟨k + 1, by omega, by go_num, HG.out.less (fun e he => by cases he) (fun e he => by simp at he; simp [he])⟩
                    case measure => simp [intOf]; omega
          · obtain rfl : k = m.length := by omega
            have d0 : decide ((m.length : Int) < (m.length : Int)) = false := decide_eq_false (by omega)
            go_wp2
            go_ret
            exact ⟨rfl, HG.out.bel⟩
end Go.Proofs.YthifdefjmfakgaaGreat
