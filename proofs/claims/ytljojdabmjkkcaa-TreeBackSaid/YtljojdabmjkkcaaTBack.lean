/-
  TreeBack, walked: a move back to where it was, and a drop of what was added, make the tree that was.
  No conditions but sizes.
-/
import Derived.Test.YtljojdabmjkkcaaTBackK
namespace Go.Proofs.Ytljojdabmjkkcaa
open Go.RowKit
open Tm (Sp Tr has put cut kids)

section
variable {w wr w' : World} {a : TAct} {P M1 M2 P' N1 N2 : Nat} {U T : Tr} {F2 G : Nat → Prop}
theorem Bk.fresh (h : Bk w a P M1 M2 P' N1 N2 U F2 T G wr) : ¬ G wr.heap.size ∧ ¬ F2 wr.heap.size ∧ w.heap.size < wr.heap.size := by
  obtain ⟨D, hD⟩ := h.was
  exact ⟨fun hh => Nat.lt_irrefl _ (h.lt _ hh), fun hh => Nat.lt_irrefl _ (hD.lt _ hh), AgAt.lt h.act⟩
theorem fresh_on {b n m z : Nat} (h : ¬ G b ∧ ¬ F2 b ∧ z < b) (hb : b < n) : ¬ (fun k => G k ∨ (n ≤ k ∧ k < m)) b ∧ ¬ F2 b ∧ z < b := ⟨fun hh => hh.elim h.1 fun hh => by omega, h.2⟩
theorem Bk.turned (h : Bk w a P M1 M2 P' N1 N2 U F2 T G wr) {b : Nat} (hx : ¬ G b ∧ ¬ F2 b ∧ w.heap.size < b) (ht : Turns (fun k => k = b) wr w') : Bk w a P M1 M2 P' N1 N2 U F2 T G w' := by
  obtain ⟨C, hC⟩ := h.lay
  obtain ⟨D, hD⟩ := h.was
  exact ⟨⟨C, hC.turns ht fun k hk e => hx.1 (e ▸ hk)⟩, ⟨D, hD.turns ht fun k hk e => hx.2.1 (e ▸ hk)⟩, h.dis, AgAt.block h.act (ht.block _ (AgAt.lt h.act) (Nat.ne_of_lt hx.2.2)), h.nb, h.ge, h.bel.trans (ht.below (fun k _ hk => by rw [hk]; exact Nat.le_of_lt hx.2.2) h.bel.size)⟩
end

set_option maxRecDepth 100000 in
set_option maxHeartbeats 16000000 in
theorem treeBack_walk {p : Option Addr} {c : Nat} (l : List TAct) (a : TAct) (w : World) (h : Rd w p (acCells l)) (ha : ∀ x ∈ l, AcWf x) (hx : AcWf a) :
    Calls Try.prog 4 #[.slice p l.length c, .agg (acA a)] w fun e w' => e = .returned (.bool true) ∧ Below w.heap.size w w' := by
  have hb0 := (Below.refl w.heap.size w).alloc (Nat.le_refl _) (.cells (acA a) 33)
  have HAB := Lib.hid (AgAt.new w (acA a) 33)
  have HR := Lib.hid (h.below hb0)
  have HB0 := Lib.hid hb0
  have HLO := Lib.hid (long_any (c := c) l _ HR.out)
  have HWA := Lib.hid ha
  have HWX := Lib.hid hx
  clear h ha hx hb0
  go_enter Try.func4, Try.ntmps4
  go_wp2_with fail
  generalize w.alloc (.cells (acA a) 33) = w0 at *
  refine HLO.out.mono ?_
  rintro e wz ⟨b, rfl, hb, rfl⟩
  clear HLO
  cases b with
  | true =>
    go_wp2_with fail
    refine (knows_any w0).mono ?_
    rintro e wk ⟨rfl, hbk⟩
    have HE := Lib.hid (HB0.out.trans (hbk.mono HB0.out.size))
    clear hbk hb
    go_wp2
    go_ret
    exact ⟨rfl, HE.out⟩
  | false =>
    have HLL := Lib.hid (hb rfl).1
    have HAC := Lib.hid (fun x hm => (HWA.out x hm).ok ((hb rfl).2 x hm))
    clear HWA hb
    have HLO2 := Lib.hid (show Calls Try.prog 6 #[.slice (some ⟨w0.heap.size, 0, none⟩) 1 1] (w0.alloc (.cells (acA a) 33)) (LongT [a] (w0.alloc (.cells (acA a) 33))) from long_any (c := 1) [a] _ (Rd_ac1 w0 a))
    have hb1 := (Below.refl w0.heap.size w0).alloc (Nat.le_refl _) (.cells (acA a) 33)
    have HAB0 := HAB
    replace HAB := Lib.hid (AgAt.kept HAB0.out hb1)
    have HZ1 := Lib.hid (show w.heap.size < (w0.alloc (.cells (acA a) 33)).heap.size from AgAt.lt HAB.out)
    replace HR := Lib.hid (HR.out.below hb1)
    replace HB0 := Lib.hid (HB0.out.trans (hb1.mono HB0.out.size))
    clear hb1
    go_wp2_with (first | (refine wpList_value rfl (exec_load_ag acT rfl rfl rfl HAB0.out) ?_) | (refine wpList_value rfl (exec_build_ac rfl a rfl) ?_))
    refine HLO2.out.mono ?_
    rintro e wz ⟨b, rfl, hb, rfl⟩
    clear HLO2 HAB0
    generalize w0.alloc (.cells (acA a) 33) = w1 at *
    cases b with
    | true =>
      go_wp2_with fail
      refine (knows_any w1).mono ?_
      rintro e wk ⟨rfl, hbk⟩
      have HE := Lib.hid (HB0.out.trans (hbk.mono HB0.out.size))
      clear hbk hb
      go_wp2
      go_ret
      exact ⟨rfl, HE.out⟩
    | false =>
      have HAX := Lib.hid (HWX.out.ok ((hb rfl).2 a (List.mem_cons_self ..)))
      clear HWX hb
      go_wp2_with fail
      refine (new_any w1).mono ?_
      rintro e w2 ⟨P, Q1, Q2, rfl, hl2, hb2⟩
      have HT2 := Lib.hid (show TreeAt w2 w1.heap.size P [] from ⟨Q1, Q2, [], hl2⟩)
      have HB2 := Lib.hid hb2
      clear hl2 hb2
      go_wp2_with fail
      refine (knows_any w2).mono ?_
      rintro e w3 ⟨rfl, hb3⟩
      have HT3 := Lib.hid (HT2.out.kept hb3)
      have HB3 := Lib.hid (HB2.out.trans (hb3.mono HB2.out.size))
      clear hb3 HT2 HB2
      go_wp2_with fail
      go_loopg [6] (l.length + 1) (fun g v wr => ∃ (i : Nat) (T : Tr), v = .int .i64 (i : Int) ∧ i + g = l.length + 1 ∧ i ≤ l.length ∧ TreeAt wr w1.heap.size P T ∧ GoodT T ∧ T.length ≤ i ∧ Below w1.heap.size w1 wr)
      case atStart => exact ⟨0, [], rfl, by omega, Nat.zero_le _, HT3.out, GoodT.nil, Nat.le_refl _, HB3.out⟩
      case round =>
        clear HT3 HB3
        obtain ⟨i, T, rfl, hi, hil, hT, hg, hTl, hB⟩ := hrel
        have HT := Lib.hid hT
        have HG := Lib.hid hg
        have HTL := Lib.hid hTl
        have HB := Lib.hid hB
        clear hT hg hTl hB
        by_cases h0 : i < l.length
        · have d0 : decide ((i : Int) < (l.length : Int)) = true := decide_eq_true (by omega)
          obtain ⟨g1, rfl⟩ : ∃ g1, gk = g1 + 1 := ⟨gk - 1, by omega⟩
          obtain ⟨b, o, rfl, hbl⟩ := HR.out.addr (by rw [acCells_length]; omega)
          have HRR := Lib.hid (show Rd wr (some ⟨b, o, none⟩) (acCells l) from HR.out.base HB.out fun a ha => by cases ha; exact hbl)
          have HH0 := Lib.hid h0
          have HAI := Lib.hid (HAC.out _ (acOf_mem h0))
          have hq : i < 1000 := by have := HLL.out; omega
          clear hbl
          go_wp2_with (refine wpList_load_ac rfl _ rfl b o i rfl l HRR.out HH0.out ?_)
          refine (do_any (acOf l i) wr HT.out HB.out.size HG.out HAI.out).mono ?_
          rintro e w3 ⟨rfl, h1, h2⟩
          have HN := Lib.hid (show TreeAt w3 w1.heap.size P (doT T (acOf l i)) ∧ GoodT (doT T (acOf l i)) ∧ (doT T (acOf l i)).length ≤ i + 1 ∧ Below w1.heap.size w1 w3 from ⟨h1, HG.out.doT HAI.out.2.1, Nat.le_trans (doT_len _ _) (by have := HTL.out; omega), HB.out.trans h2⟩)
          clear h1 h2 HT HG HTL HB HRR HAI
          go_wp2
          go_roundg g1
          case rel => exact ⟨i + 1, _, by rw [Int.natCast_add]; rfl, by omega, by omega, HN.out⟩
          case measure => omega
        · have d0 : decide ((i : Int) < (l.length : Int)) = false := decide_eq_false (by omega)
          clear hi hil HTL HR HAC HLL
          obtain ⟨M1, M2, C, hL⟩ := HT.out
          have HL := Lib.hid hL
          clear hL HT
          go_wp2_with fail
          refine (clone_any wr HL.out HG.out.2).mono ?_
          rintro e w4 ⟨P', N1, N2, U, D, rfl, hU, hL', hb4⟩
          have HAL := Lib.hid (Tm.alike_perm HL.out.nd hU)
          have hE : ∃ F2 G : Nat → Prop, Bk w a P M1 M2 P' N1 N2 U F2 T G w4 := ⟨_, _, ⟨C, HL.out.kept hb4⟩, ⟨D, hL'⟩, fun k h1 h2 => by omega, AgAt.below HAB.out (HB.out.trans (hb4.mono HB.out.size)) HZ1.out,
            fun h => by have := HZ1.out; omega, fun k h => by have := HZ1.out; omega, HB0.out.trans ((HB.out.trans (hb4.mono HB.out.size)).mono HB0.out.size)⟩
          obtain ⟨F2, G, hBK⟩ := hE
          have HBK := Lib.hid hBK
          clear hBK hU hL' hb4 HL HAB HB HB0 HZ1 d0 h0
          rcases move_two HG.out a.n a.s HAX.out.2.1 with ⟨z, e1, he1, hmv⟩ | ⟨was, T1, T2, hmv, hww, hws, hmv2, hal, hg1, hg2⟩
          · have HMV := Lib.hid (fun W (hW : Bk w a P M1 M2 P' N1 N2 U F2 T G W) => hW.move HG.out a.n a.s z e1 HAX.out.1 HAX.out.2.1 HAX.out.2.2 hmv)
            have HGD := Lib.hid HG.out
            clear hmv HG
            go_upto_region 11 with fail
            have hbd := Below.drew (Below.refl w4.heap.size w4)
            replace HBK := Lib.hid (HBK.out.kept hbd)
            refine wp_region_held_drew (S := fun W => AgAt W w.heap.size (acA a)) (by kernel_rfl) HBK.out.act (fun hS => ?_)
            clear hbd
            generalize w4.drew = wd at *
            refine wpAnyH_take (i := 0) (v := ?_) rfl (by kernel_rfl) (by kernel_rfl) (by kernel_rfl) (fun _ _ _ h => h) (Or.inl ⟨by kernel_rfl, ?_⟩) hS ?_
            rotate_left
            · intro W hSW
              go_simp
              all_goals with_reducible rfl
            refine wpAnyH_take (i := 1) (v := ?_) rfl (by kernel_rfl) (by kernel_rfl) (by kernel_rfl) (fun _ _ _ h => h) (Or.inl ⟨by kernel_rfl, ?_⟩) hS ?_
            rotate_left
            · intro W hSW
              go_simp
              all_goals with_reducible rfl
            go_simp
            refine wpAnyH_take (i := 2) (v := snV a.n) rfl (by kernel_rfl) (by kernel_rfl) (by kernel_rfl) (fun _ _ _ h => h) (Or.inl ⟨by kernel_rfl, fun W hSW => exec_load_part stT rfl rfl [.int .i64 a.n.1, .int .i64 a.n.2] rfl hSW (acN a)⟩) hS ?_
            refine wpAnyH_take (i := 3) (v := ?_) rfl (by kernel_rfl) (by kernel_rfl) (by kernel_rfl) (fun _ _ _ h => h) (Or.inl ⟨by kernel_rfl, ?_⟩) hS ?_
            rotate_left
            · intro W hSW
              go_simp
              all_goals with_reducible rfl
            go_simp
            refine wpAnyH_take (i := 4) (v := .agg (spA a.s)) rfl (by kernel_rfl) (by kernel_rfl) (by kernel_rfl) (fun _ _ _ h => h) (Or.inl ⟨by kernel_rfl, fun W hSW => exec_load_part spR rfl rfl [.int .i64 a.s.1.1, .int .i64 a.s.1.2, .string a.s.2] rfl hSW (acS a)⟩) hS ?_
            go_simp
            refine wpAnyH_ready (rs := [5, 10]) (by kernel_rfl) (by simp) ?_
            refine AllReadyH.cons rfl (fun K hK => ?_) (AllReadyH.cons rfl (fun K hK => ?_) AllReadyH.nil)
            · go_simp
              go_wp2_with ((go_at_call 14; refine (own_any a.s _).mono ?_; rintro e wO ⟨rfl, hbn⟩))
              replace HBK := Lib.hid (HBK.out.kept hbn)
              refine hK.out _ _ (AgAt.kept hS hbn) (fun hS => ?_)
              clear hK K hbn
              refine wpAnyH_ready (rs := [6, 10]) (by kernel_rfl) (by simp) ?_
              refine AllReadyH.cons rfl (fun K hK => ?_) (AllReadyH.cons rfl (fun K hK => ?_) AllReadyH.nil)
              · go_simp
                go_wp2_with ((go_at_call 13; refine (HMV.out _ HBK.out).mono ?_; rintro e wM ⟨rfl, hbk, htn⟩))
                refine hK.out _ _ (AgAt.block hS (htn.block _ (AgAt.lt hS) HBK.out.nb)) (fun hS => ?_)
                replace HBK := Lib.hid hbk
                clear hK K hbk htn
                refine wpAnyH_take (i := 7) (v := ?_) rfl (by kernel_rfl) (by kernel_rfl) (by kernel_rfl) (fun _ _ _ h => h) (Or.inl ⟨by kernel_rfl, ?_⟩) hS ?_
                rotate_left
                · intro W hSW
                  go_simp
                  all_goals with_reducible rfl
                refine wpAnyH_take (i := 8) (v := ?_) rfl (by kernel_rfl) (by kernel_rfl) (by kernel_rfl) (fun _ _ _ h => h) (Or.inl ⟨by kernel_rfl, ?_⟩) hS ?_
                rotate_left
                · intro W hSW
                  go_simp
                  all_goals with_reducible rfl
                refine wpAnyH_take (i := 9) (v := ?_) rfl (by kernel_rfl) (by kernel_rfl) (by kernel_rfl) (fun _ _ _ h => h) (Or.inl ⟨by kernel_rfl, ?_⟩) hS ?_
                rotate_left
                · intro W hSW
                  go_simp
                  all_goals with_reducible rfl
                go_simp
                refine wpAnyH_ready (rs := [10]) (by kernel_rfl) (by simp) ?_
                refine AllReadyH.cons rfl (fun K hK => ?_) AllReadyH.nil
                go_simp
                have hba := (Below.refl wM.heap.size wM).alloc (Nat.le_refl _) (.cells #[.int .i64 0, .int .i64 0, .string ⟨#[]⟩] 38)
                have HX := Lib.hid (AgAt.new wM #[.int .i64 0, .int .i64 0, .string ⟨#[]⟩] 38)
                have HXN := Lib.hid HBK.out.fresh
                replace HBK := Lib.hid (HBK.out.kept hba)
                refine hK.out _ _ (AgAt.kept hS hba) (fun hS => ?_)
                clear hK K hba
                generalize wM.alloc (.cells #[.int .i64 0, .int .i64 0, .string ⟨#[]⟩] 38) = wA at *
                refine wpAnyH_ready (rs := [11]) (by kernel_rfl) (by simp) ?_
                refine AllReadyH.cons rfl (fun K hK => ?_) AllReadyH.nil
                refine step_of (by kernel_rfl) ?_
                refine wp_store_ag spT _ _ rfl _ rfl _ HX.out (A := spA z) rfl rfl rfl (spA_one _) ?_
                intro w5 hv5 hko5 hsz5 hbn5
                have HT5 := Lib.hid (show Turns (fun k => k = _) _ w5 from ⟨(hbn5 _ _ (Below.refl _ _) (Nat.le_refl _)).os, (hbn5 _ _ (Below.refl _ _) (Nat.le_refl _)).tape, (hbn5 _ _ (Below.refl _ _) (Nat.le_refl _)).output, (hbn5 _ _ (Below.refl _ _) (Nat.le_refl _)).size, fun k _ hk => hko5 k hk⟩)
                replace HBK := Lib.hid (HBK.out.turned HXN.out HT5.out)
                replace HX := Lib.hid hv5
                refine hK.out _ _ HBK.out.act (fun hS => ?_)
                clear hK K hv5 hko5 hsz5 hbn5 HT5 HXN
                refine wpAnyH_take (i := 12) (v := ?_) rfl (by kernel_rfl) (by kernel_rfl) (by kernel_rfl) (fun _ _ _ h => h) (Or.inl ⟨by kernel_rfl, ?_⟩) hS ?_
                rotate_left
                · intro W hSW
                  go_simp
                  all_goals with_reducible rfl
                go_simp
                refine wpAnyH_done (by kernel_rfl) ?_ _
                go_simp
                clear hS HMV HX
                go_wp2_with fail
                refine (num_any e1 _).mono ?_
                rintro e wn ⟨rfl, rfl⟩
                go_wp2_with fail
                refine (HBK.out.same HAL.out).mono ?_
                rintro e w9 ⟨rfl, hb9⟩
                have hE : ∃ G5 : Nat → Prop, Bk w a P M1 M2 P' N1 N2 U F2 T G5 w9 := ⟨_, HBK.out.kept hb9⟩
                obtain ⟨G5, hbk⟩ := hE
                replace HBK := Lib.hid hbk
                clear hb9 hbk
                rcases add_two HGD.out a.n a.s HAX.out.2.1 with ⟨e2, he2, hadd⟩ | ⟨T3, hadd, hdrop, hg3⟩
                · have HAD := Lib.hid (fun W (hW : Bk w a P M1 M2 P' N1 N2 U F2 T G5 W) => hW.add a.n a.s e2 HAX.out.1 HAX.out.2.1 HAX.out.2.2 hadd)
                  clear hadd
                  go_upto_region 18 with fail
                  have hbd := Below.drew (Below.refl w9.heap.size w9)
                  replace HBK := Lib.hid (HBK.out.kept hbd)
                  refine wp_region_held_drew (S := fun W => AgAt W w.heap.size (acA a)) (by kernel_rfl) HBK.out.act (fun hS => ?_)
                  clear hbd
                  generalize w9.drew = wd at *
                  refine wpAnyH_take (i := 0) (v := ?_) rfl (by kernel_rfl) (by kernel_rfl) (by kernel_rfl) (fun _ _ _ h => h) (Or.inl ⟨by kernel_rfl, ?_⟩) hS ?_
                  rotate_left
                  · intro W hSW
                    go_simp
                    all_goals with_reducible rfl
                  refine wpAnyH_take (i := 1) (v := ?_) rfl (by kernel_rfl) (by kernel_rfl) (by kernel_rfl) (fun _ _ _ h => h) (Or.inl ⟨by kernel_rfl, ?_⟩) hS ?_
                  rotate_left
                  · intro W hSW
                    go_simp
                    all_goals with_reducible rfl
                  go_simp
                  refine wpAnyH_take (i := 2) (v := snV a.n) rfl (by kernel_rfl) (by kernel_rfl) (by kernel_rfl) (fun _ _ _ h => h) (Or.inl ⟨by kernel_rfl, fun W hSW => exec_load_part stT rfl rfl [.int .i64 a.n.1, .int .i64 a.n.2] rfl hSW (acN a)⟩) hS ?_
                  refine wpAnyH_take (i := 3) (v := ?_) rfl (by kernel_rfl) (by kernel_rfl) (by kernel_rfl) (fun _ _ _ h => h) (Or.inl ⟨by kernel_rfl, ?_⟩) hS ?_
                  rotate_left
                  · intro W hSW
                    go_simp
                    all_goals with_reducible rfl
                  go_simp
                  refine wpAnyH_take (i := 4) (v := .agg (spA a.s)) rfl (by kernel_rfl) (by kernel_rfl) (by kernel_rfl) (fun _ _ _ h => h) (Or.inl ⟨by kernel_rfl, fun W hSW => exec_load_part spR rfl rfl [.int .i64 a.s.1.1, .int .i64 a.s.1.2, .string a.s.2] rfl hSW (acS a)⟩) hS ?_
                  go_simp
                  refine wpAnyH_ready (rs := [5]) (by kernel_rfl) (by simp) ?_
                  refine AllReadyH.cons rfl (fun K hK => ?_) AllReadyH.nil
                  go_simp
                  go_wp2_with ((go_at_call 14; refine (own_any a.s _).mono ?_; rintro e wO ⟨rfl, hbn⟩))
                  replace HBK := Lib.hid (HBK.out.kept hbn)
                  refine hK.out _ _ (AgAt.kept hS hbn) (fun hS => ?_)
                  clear hK K hbn
                  refine wpAnyH_ready (rs := [6]) (by kernel_rfl) (by simp) ?_
                  refine AllReadyH.cons rfl (fun K hK => ?_) AllReadyH.nil
                  go_simp
                  go_wp2_with ((go_at_call 17; refine (HAD.out _ HBK.out).mono ?_; rintro e wM ⟨rfl, hbk⟩))
                  replace HBK := Lib.hid hbk
                  refine hK.out _ _ HBK.out.act (fun hS => ?_)
                  clear hK K hbk
                  refine wpAnyH_ready (rs := [7]) (by kernel_rfl) (by simp) ?_
                  refine AllReadyH.cons rfl (fun K hK => ?_) AllReadyH.nil
                  go_simp
                  go_wp2_with ((go_at_call 15; refine (num_any e2 _).mono ?_; rintro e wn ⟨rfl, rfl⟩))
                  refine hK.out _ _ hS (fun hS => ?_)
                  clear hK K
                  refine wpAnyH_take (i := 8) (v := ?_) rfl (by kernel_rfl) (by kernel_rfl) (by kernel_rfl) (fun _ _ _ h => h) (Or.inl ⟨by kernel_rfl, ?_⟩) hS ?_
                  rotate_left
                  · intro W hSW
                    go_simp
                    all_goals with_reducible rfl
                  go_simp
                  refine wpAnyH_done (by kernel_rfl) ?_ _
                  go_simp
                  clear hS HAD
                  go_wp2_with fail
                  refine (HBK.out.same HAL.out).mono ?_
                  rintro e wF ⟨rfl, hbF⟩
                  have HE := Lib.hid (HBK.out.bel.trans (hbF.mono HBK.out.bel.size))
                  clear hbF HBK HAL
                  go_wp2
                  go_ret
                  exact ⟨rfl, HE.out⟩
                · have HAD := Lib.hid (fun W (hW : Bk w a P M1 M2 P' N1 N2 U F2 T G5 W) => hW.add a.n a.s 0 HAX.out.1 HAX.out.2.1 HAX.out.2.2 hadd)
                  have HG3 := Lib.hid hg3
                  have HDR := Lib.hid hdrop
                  clear hadd hdrop hg3
                  go_upto_region 18 with fail
                  have hbd := Below.drew (Below.refl w9.heap.size w9)
                  replace HBK := Lib.hid (HBK.out.kept hbd)
                  refine wp_region_held_drew (S := fun W => AgAt W w.heap.size (acA a)) (by kernel_rfl) HBK.out.act (fun hS => ?_)
                  clear hbd
                  generalize w9.drew = wd at *
                  refine wpAnyH_take (i := 0) (v := ?_) rfl (by kernel_rfl) (by kernel_rfl) (by kernel_rfl) (fun _ _ _ h => h) (Or.inl ⟨by kernel_rfl, ?_⟩) hS ?_
                  rotate_left
                  · intro W hSW
                    go_simp
                    all_goals with_reducible rfl
                  refine wpAnyH_take (i := 1) (v := ?_) rfl (by kernel_rfl) (by kernel_rfl) (by kernel_rfl) (fun _ _ _ h => h) (Or.inl ⟨by kernel_rfl, ?_⟩) hS ?_
                  rotate_left
                  · intro W hSW
                    go_simp
                    all_goals with_reducible rfl
                  go_simp
                  refine wpAnyH_take (i := 2) (v := snV a.n) rfl (by kernel_rfl) (by kernel_rfl) (by kernel_rfl) (fun _ _ _ h => h) (Or.inl ⟨by kernel_rfl, fun W hSW => exec_load_part stT rfl rfl [.int .i64 a.n.1, .int .i64 a.n.2] rfl hSW (acN a)⟩) hS ?_
                  refine wpAnyH_take (i := 3) (v := ?_) rfl (by kernel_rfl) (by kernel_rfl) (by kernel_rfl) (fun _ _ _ h => h) (Or.inl ⟨by kernel_rfl, ?_⟩) hS ?_
                  rotate_left
                  · intro W hSW
                    go_simp
                    all_goals with_reducible rfl
                  go_simp
                  refine wpAnyH_take (i := 4) (v := .agg (spA a.s)) rfl (by kernel_rfl) (by kernel_rfl) (by kernel_rfl) (fun _ _ _ h => h) (Or.inl ⟨by kernel_rfl, fun W hSW => exec_load_part spR rfl rfl [.int .i64 a.s.1.1, .int .i64 a.s.1.2, .string a.s.2] rfl hSW (acS a)⟩) hS ?_
                  go_simp
                  refine wpAnyH_ready (rs := [5]) (by kernel_rfl) (by simp) ?_
                  refine AllReadyH.cons rfl (fun K hK => ?_) AllReadyH.nil
                  go_simp
                  go_wp2_with ((go_at_call 14; refine (own_any a.s _).mono ?_; rintro e wO ⟨rfl, hbn⟩))
                  replace HBK := Lib.hid (HBK.out.kept hbn)
                  refine hK.out _ _ (AgAt.kept hS hbn) (fun hS => ?_)
                  clear hK K hbn
                  refine wpAnyH_ready (rs := [6]) (by kernel_rfl) (by simp) ?_
                  refine AllReadyH.cons rfl (fun K hK => ?_) AllReadyH.nil
                  go_simp
                  go_wp2_with ((go_at_call 17; refine (HAD.out _ HBK.out).mono ?_; rintro e wM ⟨rfl, hbk⟩))
                  replace HBK := Lib.hid hbk
                  refine hK.out _ _ HBK.out.act (fun hS => ?_)
                  clear hK K hbk
                  refine wpAnyH_ready (rs := [7]) (by kernel_rfl) (by simp) ?_
                  refine AllReadyH.cons rfl (fun K hK => ?_) AllReadyH.nil
                  go_simp
                  go_wp2_with ((go_at_call 15; refine (num_any 0 _).mono ?_; rintro e wn ⟨rfl, rfl⟩))
                  refine hK.out _ _ hS (fun hS => ?_)
                  clear hK K
                  refine wpAnyH_take (i := 8) (v := ?_) rfl (by kernel_rfl) (by kernel_rfl) (by kernel_rfl) (fun _ _ _ h => h) (Or.inl ⟨by kernel_rfl, ?_⟩) hS ?_
                  rotate_left
                  · intro W hSW
                    go_simp
                    all_goals with_reducible rfl
                  go_simp
                  refine wpAnyH_done (by kernel_rfl) ?_ _
                  go_simp
                  clear hS HAD
                  go_wp2_with (refine wpList_load_part stT rfl _ rfl _ 1 rfl [.int .i64 a.n.1, .int .i64 a.n.2] rfl HBK.out.act (acN a) ?_)
                  refine (HBK.out.drop HG3.out a.n a.s 0 HAX.out.1 HDR.out).mono ?_
                  rintro e w10 ⟨rfl, hbk⟩
                  replace HBK := Lib.hid hbk
                  clear hbk HG3 HDR
                  go_upto_region 20 with (refine wpList_store_newag spT rfl _ _ rfl rfl _ (A := spA a.s) rfl rfl rfl (spA_one _) ?_; intro w11 hv11 hb11)
                  replace HBK := Lib.hid (HBK.out.kept hb11)
                  have HY := Lib.hid hv11
                  clear hv11 hb11
                  have hbd := Below.drew (Below.refl w11.heap.size w11)
                  replace HBK := Lib.hid (HBK.out.kept hbd)
                  replace HY := Lib.hid (AgAt.kept HY.out hbd)
                  refine wp_region_held_drew (S := fun W => Below w11.drew.heap.size w11.drew W) (by kernel_rfl) (Below.refl _ _) (fun hS => ?_)
                  clear hbd
                  generalize w11.drew = wd at *
                  refine wpAnyH_take (i := 0) (v := ?_) rfl (by kernel_rfl) (by kernel_rfl) (by kernel_rfl) (fun _ _ _ h => h) (Or.inl ⟨by kernel_rfl, ?_⟩) hS ?_
                  rotate_left
                  · intro W hSW
                    go_simp
                    all_goals with_reducible rfl
                  go_simp
                  refine wpAnyH_ready (rs := [1]) (by kernel_rfl) (by simp) ?_
                  refine AllReadyH.cons rfl (fun K hK => ?_) AllReadyH.nil
                  go_simp
                  go_wp2_with ((go_at_call 15; refine (num_any 0 _).mono ?_; rintro e wn ⟨rfl, rfl⟩))
                  refine hK.out _ _ hS (fun hS => ?_)
                  clear hK K
                  refine wpAnyH_take (i := 2) (v := ?_) rfl (by kernel_rfl) (by kernel_rfl) (by kernel_rfl) (fun _ _ _ h => h) (Or.inl ⟨by kernel_rfl, ?_⟩) hS ?_
                  rotate_left
                  · intro W hSW
                    go_simp
                    all_goals with_reducible rfl
                  refine wpAnyH_take (i := 3) (v := ?_) rfl (by kernel_rfl) (by kernel_rfl) (by kernel_rfl) (fun _ _ _ h => h) (Or.inl ⟨by kernel_rfl, ?_⟩) hS ?_
                  rotate_left
                  · intro W hSW
                    go_simp
                    all_goals with_reducible rfl
                  go_simp
                  refine wpAnyH_take (i := 4) (v := .agg (spA a.s)) rfl (by kernel_rfl) (by kernel_rfl) (by kernel_rfl) (fun _ _ _ h => h) (Or.inl ⟨by kernel_rfl, fun W hSW => exec_load_ag spT rfl rfl rfl (AgAt.kept HY.out hSW)⟩) hS ?_
                  refine wpAnyH_take (i := 5) (v := ?_) rfl (by kernel_rfl) (by kernel_rfl) (by kernel_rfl) (fun _ _ _ h => h) (Or.inl ⟨by kernel_rfl, ?_⟩) hS ?_
                  rotate_left
                  · intro W hSW
                    go_simp
                    all_goals with_reducible rfl
                  go_simp
                  refine wpAnyH_take (i := 6) (v := .agg (spA a.s)) rfl (by kernel_rfl) (by kernel_rfl) (by kernel_rfl) (fun _ _ _ h => h) (Or.inl ⟨by kernel_rfl, fun W hSW => exec_load_part spR rfl rfl [.int .i64 a.s.1.1, .int .i64 a.s.1.2, .string a.s.2] rfl (AgAt.kept HBK.out.act hSW) (acS a)⟩) hS ?_
                  go_simp
                  refine wpAnyH_ready (rs := [7]) (by kernel_rfl) (by simp) ?_
                  refine AllReadyH.cons rfl (fun K hK => ?_) AllReadyH.nil
                  go_simp
                  go_wp2_with ((go_at_call 14; refine (own_any a.s _).mono ?_; rintro e wO ⟨rfl, hbn⟩))
                  refine hK.out _ _ (hS.trans (hbn.mono hS.size)) (fun hS => ?_)
                  clear hK K hbn
                  refine wpAnyH_take (i := 8) (v := .bool false) rfl (by kernel_rfl) (by kernel_rfl) (by kernel_rfl) (fun _ _ _ h => h) (Or.inl ⟨by kernel_rfl, fun W hSW => exec_neq_sp rfl a.s rfl rfl⟩) hS ?_
                  refine wpAnyH_take (i := 9) (v := ?_) rfl (by kernel_rfl) (by kernel_rfl) (by kernel_rfl) (fun _ _ _ h => h) (Or.inl ⟨by kernel_rfl, ?_⟩) hS ?_
                  rotate_left
                  · intro W hSW
                    go_simp
                    all_goals with_reducible rfl
                  go_simp
                  refine wpAnyH_done (by kernel_rfl) ?_ _
                  go_simp
                  replace HBK := Lib.hid (HBK.out.kept hS)
                  clear hS HY
                  go_wp2_with fail
                  refine (HBK.out.same HAL.out).mono ?_
                  rintro e wF ⟨rfl, hbF⟩
                  have HE := Lib.hid (HBK.out.bel.trans (hbF.mono HBK.out.bel.size))
                  clear hbF HBK HAL
                  go_wp2
                  go_ret
                  exact ⟨rfl, HE.out⟩
              · go_simp
                have hba := (Below.refl wO.heap.size wO).alloc (Nat.le_refl _) (.cells #[.int .i64 0, .int .i64 0, .string ⟨#[]⟩] 38)
                have HX := Lib.hid (AgAt.new wO #[.int .i64 0, .int .i64 0, .string ⟨#[]⟩] 38)
                have HXN := Lib.hid HBK.out.fresh
                replace HBK := Lib.hid (HBK.out.kept hba)
                refine hK.out _ _ (AgAt.kept hS hba) (fun hS => ?_)
                clear hK K hba
                generalize wO.alloc (.cells #[.int .i64 0, .int .i64 0, .string ⟨#[]⟩] 38) = wA at *
                refine wpAnyH_ready (rs := [6]) (by kernel_rfl) (by simp) ?_
                refine AllReadyH.cons rfl (fun K hK => ?_) AllReadyH.nil
                go_simp
                go_wp2_with ((go_at_call 13; refine (HMV.out _ HBK.out).mono ?_; rintro e wM ⟨rfl, hbk, htn⟩))
                have hlt := AgAt.lt HX.out
                replace HX := Lib.hid (AgAt.block HX.out (htn.block _ hlt HXN.out.1))
                replace HXN := Lib.hid (fresh_on (m := wM.heap.size) HXN.out hlt)
                clear hlt
                refine hK.out _ _ (AgAt.block hS (htn.block _ (AgAt.lt hS) HBK.out.nb)) (fun hS => ?_)
                replace HBK := Lib.hid hbk
                clear hK K hbk htn
                refine wpAnyH_take (i := 7) (v := ?_) rfl (by kernel_rfl) (by kernel_rfl) (by kernel_rfl) (fun _ _ _ h => h) (Or.inl ⟨by kernel_rfl, ?_⟩) hS ?_
                rotate_left
                · intro W hSW
                  go_simp
                  all_goals with_reducible rfl
                refine wpAnyH_take (i := 8) (v := ?_) rfl (by kernel_rfl) (by kernel_rfl) (by kernel_rfl) (fun _ _ _ h => h) (Or.inl ⟨by kernel_rfl, ?_⟩) hS ?_
                rotate_left
                · intro W hSW
                  go_simp
                  all_goals with_reducible rfl
                refine wpAnyH_take (i := 9) (v := ?_) rfl (by kernel_rfl) (by kernel_rfl) (by kernel_rfl) (fun _ _ _ h => h) (Or.inl ⟨by kernel_rfl, ?_⟩) hS ?_
                rotate_left
                · intro W hSW
                  go_simp
                  all_goals with_reducible rfl
                go_simp
                refine wpAnyH_ready (rs := [11]) (by kernel_rfl) (by simp) ?_
                refine AllReadyH.cons rfl (fun K hK => ?_) AllReadyH.nil
                refine step_of (by kernel_rfl) ?_
                refine wp_store_ag spT _ _ rfl _ rfl _ HX.out (A := spA z) rfl rfl rfl (spA_one _) ?_
                intro w5 hv5 hko5 hsz5 hbn5
                have HT5 := Lib.hid (show Turns (fun k => k = _) _ w5 from ⟨(hbn5 _ _ (Below.refl _ _) (Nat.le_refl _)).os, (hbn5 _ _ (Below.refl _ _) (Nat.le_refl _)).tape, (hbn5 _ _ (Below.refl _ _) (Nat.le_refl _)).output, (hbn5 _ _ (Below.refl _ _) (Nat.le_refl _)).size, fun k _ hk => hko5 k hk⟩)
                replace HBK := Lib.hid (HBK.out.turned HXN.out HT5.out)
                replace HX := Lib.hid hv5
                refine hK.out _ _ HBK.out.act (fun hS => ?_)
                clear hK K hv5 hko5 hsz5 hbn5 HT5 HXN
                refine wpAnyH_take (i := 12) (v := ?_) rfl (by kernel_rfl) (by kernel_rfl) (by kernel_rfl) (fun _ _ _ h => h) (Or.inl ⟨by kernel_rfl, ?_⟩) hS ?_
                rotate_left
                · intro W hSW
                  go_simp
                  all_goals with_reducible rfl
                go_simp
                refine wpAnyH_done (by kernel_rfl) ?_ _
                go_simp
                clear hS HMV HX
                go_wp2_with fail
                refine (num_any e1 _).mono ?_
                rintro e wn ⟨rfl, rfl⟩
                go_wp2_with fail
                refine (HBK.out.same HAL.out).mono ?_
                rintro e w9 ⟨rfl, hb9⟩
                have hE : ∃ G5 : Nat → Prop, Bk w a P M1 M2 P' N1 N2 U F2 T G5 w9 := ⟨_, HBK.out.kept hb9⟩
                obtain ⟨G5, hbk⟩ := hE
                replace HBK := Lib.hid hbk
                clear hb9 hbk
                rcases add_two HGD.out a.n a.s HAX.out.2.1 with ⟨e2, he2, hadd⟩ | ⟨T3, hadd, hdrop, hg3⟩
                · have HAD := Lib.hid (fun W (hW : Bk w a P M1 M2 P' N1 N2 U F2 T G5 W) => hW.add a.n a.s e2 HAX.out.1 HAX.out.2.1 HAX.out.2.2 hadd)
                  clear hadd
                  go_upto_region 18 with fail
                  have hbd := Below.drew (Below.refl w9.heap.size w9)
                  replace HBK := Lib.hid (HBK.out.kept hbd)
                  refine wp_region_held_drew (S := fun W => AgAt W w.heap.size (acA a)) (by kernel_rfl) HBK.out.act (fun hS => ?_)
                  clear hbd
                  generalize w9.drew = wd at *
                  refine wpAnyH_take (i := 0) (v := ?_) rfl (by kernel_rfl) (by kernel_rfl) (by kernel_rfl) (fun _ _ _ h => h) (Or.inl ⟨by kernel_rfl, ?_⟩) hS ?_
                  rotate_left
                  · intro W hSW
                    go_simp
                    all_goals with_reducible rfl
                  refine wpAnyH_take (i := 1) (v := ?_) rfl (by kernel_rfl) (by kernel_rfl) (by kernel_rfl) (fun _ _ _ h => h) (Or.inl ⟨by kernel_rfl, ?_⟩) hS ?_
                  rotate_left
                  · intro W hSW
                    go_simp
                    all_goals with_reducible rfl
                  go_simp
                  refine wpAnyH_take (i := 2) (v := snV a.n) rfl (by kernel_rfl) (by kernel_rfl) (by kernel_rfl) (fun _ _ _ h => h) (Or.inl ⟨by kernel_rfl, fun W hSW => exec_load_part stT rfl rfl [.int .i64 a.n.1, .int .i64 a.n.2] rfl hSW (acN a)⟩) hS ?_
                  refine wpAnyH_take (i := 3) (v := ?_) rfl (by kernel_rfl) (by kernel_rfl) (by kernel_rfl) (fun _ _ _ h => h) (Or.inl ⟨by kernel_rfl, ?_⟩) hS ?_
                  rotate_left
                  · intro W hSW
                    go_simp
                    all_goals with_reducible rfl
                  go_simp
                  refine wpAnyH_take (i := 4) (v := .agg (spA a.s)) rfl (by kernel_rfl) (by kernel_rfl) (by kernel_rfl) (fun _ _ _ h => h) (Or.inl ⟨by kernel_rfl, fun W hSW => exec_load_part spR rfl rfl [.int .i64 a.s.1.1, .int .i64 a.s.1.2, .string a.s.2] rfl hSW (acS a)⟩) hS ?_
                  go_simp
                  refine wpAnyH_ready (rs := [5]) (by kernel_rfl) (by simp) ?_
                  refine AllReadyH.cons rfl (fun K hK => ?_) AllReadyH.nil
                  go_simp
                  go_wp2_with ((go_at_call 14; refine (own_any a.s _).mono ?_; rintro e wO ⟨rfl, hbn⟩))
                  replace HBK := Lib.hid (HBK.out.kept hbn)
                  refine hK.out _ _ (AgAt.kept hS hbn) (fun hS => ?_)
                  clear hK K hbn
                  refine wpAnyH_ready (rs := [6]) (by kernel_rfl) (by simp) ?_
                  refine AllReadyH.cons rfl (fun K hK => ?_) AllReadyH.nil
                  go_simp
                  go_wp2_with ((go_at_call 17; refine (HAD.out _ HBK.out).mono ?_; rintro e wM ⟨rfl, hbk⟩))
                  replace HBK := Lib.hid hbk
                  refine hK.out _ _ HBK.out.act (fun hS => ?_)
                  clear hK K hbk
                  refine wpAnyH_ready (rs := [7]) (by kernel_rfl) (by simp) ?_
                  refine AllReadyH.cons rfl (fun K hK => ?_) AllReadyH.nil
                  go_simp
                  go_wp2_with ((go_at_call 15; refine (num_any e2 _).mono ?_; rintro e wn ⟨rfl, rfl⟩))
                  refine hK.out _ _ hS (fun hS => ?_)
                  clear hK K
                  refine wpAnyH_take (i := 8) (v := ?_) rfl (by kernel_rfl) (by kernel_rfl) (by kernel_rfl) (fun _ _ _ h => h) (Or.inl ⟨by kernel_rfl, ?_⟩) hS ?_
                  rotate_left
                  · intro W hSW
                    go_simp
                    all_goals with_reducible rfl
                  go_simp
                  refine wpAnyH_done (by kernel_rfl) ?_ _
                  go_simp
                  clear hS HAD
                  go_wp2_with fail
                  refine (HBK.out.same HAL.out).mono ?_
                  rintro e wF ⟨rfl, hbF⟩
                  have HE := Lib.hid (HBK.out.bel.trans (hbF.mono HBK.out.bel.size))
                  clear hbF HBK HAL
                  go_wp2
                  go_ret
                  exact ⟨rfl, HE.out⟩
                · have HAD := Lib.hid (fun W (hW : Bk w a P M1 M2 P' N1 N2 U F2 T G5 W) => hW.add a.n a.s 0 HAX.out.1 HAX.out.2.1 HAX.out.2.2 hadd)
                  have HG3 := Lib.hid hg3
                  have HDR := Lib.hid hdrop
                  clear hadd hdrop hg3
                  go_upto_region 18 with fail
                  have hbd := Below.drew (Below.refl w9.heap.size w9)
                  replace HBK := Lib.hid (HBK.out.kept hbd)
                  refine wp_region_held_drew (S := fun W => AgAt W w.heap.size (acA a)) (by kernel_rfl) HBK.out.act (fun hS => ?_)
                  clear hbd
                  generalize w9.drew = wd at *
                  refine wpAnyH_take (i := 0) (v := ?_) rfl (by kernel_rfl) (by kernel_rfl) (by kernel_rfl) (fun _ _ _ h => h) (Or.inl ⟨by kernel_rfl, ?_⟩) hS ?_
                  rotate_left
                  · intro W hSW
                    go_simp
                    all_goals with_reducible rfl
                  refine wpAnyH_take (i := 1) (v := ?_) rfl (by kernel_rfl) (by kernel_rfl) (by kernel_rfl) (fun _ _ _ h => h) (Or.inl ⟨by kernel_rfl, ?_⟩) hS ?_
                  rotate_left
                  · intro W hSW
                    go_simp
                    all_goals with_reducible rfl
                  go_simp
                  refine wpAnyH_take (i := 2) (v := snV a.n) rfl (by kernel_rfl) (by kernel_rfl) (by kernel_rfl) (fun _ _ _ h => h) (Or.inl ⟨by kernel_rfl, fun W hSW => exec_load_part stT rfl rfl [.int .i64 a.n.1, .int .i64 a.n.2] rfl hSW (acN a)⟩) hS ?_
                  refine wpAnyH_take (i := 3) (v := ?_) rfl (by kernel_rfl) (by kernel_rfl) (by kernel_rfl) (fun _ _ _ h => h) (Or.inl ⟨by kernel_rfl, ?_⟩) hS ?_
                  rotate_left
                  · intro W hSW
                    go_simp
                    all_goals with_reducible rfl
                  go_simp
                  refine wpAnyH_take (i := 4) (v := .agg (spA a.s)) rfl (by kernel_rfl) (by kernel_rfl) (by kernel_rfl) (fun _ _ _ h => h) (Or.inl ⟨by kernel_rfl, fun W hSW => exec_load_part spR rfl rfl [.int .i64 a.s.1.1, .int .i64 a.s.1.2, .string a.s.2] rfl hSW (acS a)⟩) hS ?_
                  go_simp
                  refine wpAnyH_ready (rs := [5]) (by kernel_rfl) (by simp) ?_
                  refine AllReadyH.cons rfl (fun K hK => ?_) AllReadyH.nil
                  go_simp
                  go_wp2_with ((go_at_call 14; refine (own_any a.s _).mono ?_; rintro e wO ⟨rfl, hbn⟩))
                  replace HBK := Lib.hid (HBK.out.kept hbn)
                  refine hK.out _ _ (AgAt.kept hS hbn) (fun hS => ?_)
                  clear hK K hbn
                  refine wpAnyH_ready (rs := [6]) (by kernel_rfl) (by simp) ?_
                  refine AllReadyH.cons rfl (fun K hK => ?_) AllReadyH.nil
                  go_simp
                  go_wp2_with ((go_at_call 17; refine (HAD.out _ HBK.out).mono ?_; rintro e wM ⟨rfl, hbk⟩))
                  replace HBK := Lib.hid hbk
                  refine hK.out _ _ HBK.out.act (fun hS => ?_)
                  clear hK K hbk
                  refine wpAnyH_ready (rs := [7]) (by kernel_rfl) (by simp) ?_
                  refine AllReadyH.cons rfl (fun K hK => ?_) AllReadyH.nil
                  go_simp
                  go_wp2_with ((go_at_call 15; refine (num_any 0 _).mono ?_; rintro e wn ⟨rfl, rfl⟩))
                  refine hK.out _ _ hS (fun hS => ?_)
                  clear hK K
                  refine wpAnyH_take (i := 8) (v := ?_) rfl (by kernel_rfl) (by kernel_rfl) (by kernel_rfl) (fun _ _ _ h => h) (Or.inl ⟨by kernel_rfl, ?_⟩) hS ?_
                  rotate_left
                  · intro W hSW
                    go_simp
                    all_goals with_reducible rfl
                  go_simp
                  refine wpAnyH_done (by kernel_rfl) ?_ _
                  go_simp
                  clear hS HAD
                  go_wp2_with (refine wpList_load_part stT rfl _ rfl _ 1 rfl [.int .i64 a.n.1, .int .i64 a.n.2] rfl HBK.out.act (acN a) ?_)
                  refine (HBK.out.drop HG3.out a.n a.s 0 HAX.out.1 HDR.out).mono ?_
                  rintro e w10 ⟨rfl, hbk⟩
                  replace HBK := Lib.hid hbk
                  clear hbk HG3 HDR
                  go_upto_region 20 with (refine wpList_store_newag spT rfl _ _ rfl rfl _ (A := spA a.s) rfl rfl rfl (spA_one _) ?_; intro w11 hv11 hb11)
                  replace HBK := Lib.hid (HBK.out.kept hb11)
                  have HY := Lib.hid hv11
                  clear hv11 hb11
                  have hbd := Below.drew (Below.refl w11.heap.size w11)
                  replace HBK := Lib.hid (HBK.out.kept hbd)
                  replace HY := Lib.hid (AgAt.kept HY.out hbd)
                  refine wp_region_held_drew (S := fun W => Below w11.drew.heap.size w11.drew W) (by kernel_rfl) (Below.refl _ _) (fun hS => ?_)
                  clear hbd
                  generalize w11.drew = wd at *
                  refine wpAnyH_take (i := 0) (v := ?_) rfl (by kernel_rfl) (by kernel_rfl) (by kernel_rfl) (fun _ _ _ h => h) (Or.inl ⟨by kernel_rfl, ?_⟩) hS ?_
                  rotate_left
                  · intro W hSW
                    go_simp
                    all_goals with_reducible rfl
                  go_simp
                  refine wpAnyH_ready (rs := [1]) (by kernel_rfl) (by simp) ?_
                  refine AllReadyH.cons rfl (fun K hK => ?_) AllReadyH.nil
                  go_simp
                  go_wp2_with ((go_at_call 15; refine (num_any 0 _).mono ?_; rintro e wn ⟨rfl, rfl⟩))
                  refine hK.out _ _ hS (fun hS => ?_)
                  clear hK K
                  refine wpAnyH_take (i := 2) (v := ?_) rfl (by kernel_rfl) (by kernel_rfl) (by kernel_rfl) (fun _ _ _ h => h) (Or.inl ⟨by kernel_rfl, ?_⟩) hS ?_
                  rotate_left
                  · intro W hSW
                    go_simp
                    all_goals with_reducible rfl
                  refine wpAnyH_take (i := 3) (v := ?_) rfl (by kernel_rfl) (by kernel_rfl) (by kernel_rfl) (fun _ _ _ h => h) (Or.inl ⟨by kernel_rfl, ?_⟩) hS ?_
                  rotate_left
                  · intro W hSW
                    go_simp
                    all_goals with_reducible rfl
                  go_simp
                  refine wpAnyH_take (i := 4) (v := .agg (spA a.s)) rfl (by kernel_rfl) (by kernel_rfl) (by kernel_rfl) (fun _ _ _ h => h) (Or.inl ⟨by kernel_rfl, fun W hSW => exec_load_ag spT rfl rfl rfl (AgAt.kept HY.out hSW)⟩) hS ?_
                  refine wpAnyH_take (i := 5) (v := ?_) rfl (by kernel_rfl) (by kernel_rfl) (by kernel_rfl) (fun _ _ _ h => h) (Or.inl ⟨by kernel_rfl, ?_⟩) hS ?_
                  rotate_left
                  · intro W hSW
                    go_simp
                    all_goals with_reducible rfl
                  go_simp
                  refine wpAnyH_take (i := 6) (v := .agg (spA a.s)) rfl (by kernel_rfl) (by kernel_rfl) (by kernel_rfl) (fun _ _ _ h => h) (Or.inl ⟨by kernel_rfl, fun W hSW => exec_load_part spR rfl rfl [.int .i64 a.s.1.1, .int .i64 a.s.1.2, .string a.s.2] rfl (AgAt.kept HBK.out.act hSW) (acS a)⟩) hS ?_
                  go_simp
                  refine wpAnyH_ready (rs := [7]) (by kernel_rfl) (by simp) ?_
                  refine AllReadyH.cons rfl (fun K hK => ?_) AllReadyH.nil
                  go_simp
                  go_wp2_with ((go_at_call 14; refine (own_any a.s _).mono ?_; rintro e wO ⟨rfl, hbn⟩))
                  refine hK.out _ _ (hS.trans (hbn.mono hS.size)) (fun hS => ?_)
                  clear hK K hbn
                  refine wpAnyH_take (i := 8) (v := .bool false) rfl (by kernel_rfl) (by kernel_rfl) (by kernel_rfl) (fun _ _ _ h => h) (Or.inl ⟨by kernel_rfl, fun W hSW => exec_neq_sp rfl a.s rfl rfl⟩) hS ?_
                  refine wpAnyH_take (i := 9) (v := ?_) rfl (by kernel_rfl) (by kernel_rfl) (by kernel_rfl) (fun _ _ _ h => h) (Or.inl ⟨by kernel_rfl, ?_⟩) hS ?_
                  rotate_left
                  · intro W hSW
                    go_simp
                    all_goals with_reducible rfl
                  go_simp
                  refine wpAnyH_done (by kernel_rfl) ?_ _
                  go_simp
                  replace HBK := Lib.hid (HBK.out.kept hS)
                  clear hS HY
                  go_wp2_with fail
                  refine (HBK.out.same HAL.out).mono ?_
                  rintro e wF ⟨rfl, hbF⟩
                  have HE := Lib.hid (HBK.out.bel.trans (hbF.mono HBK.out.bel.size))
                  clear hbF HBK HAL
                  go_wp2
                  go_ret
                  exact ⟨rfl, HE.out⟩
            · go_simp
              have hba := (Below.refl wd.heap.size wd).alloc (Nat.le_refl _) (.cells #[.int .i64 0, .int .i64 0, .string ⟨#[]⟩] 38)
              have HX := Lib.hid (AgAt.new wd #[.int .i64 0, .int .i64 0, .string ⟨#[]⟩] 38)
              have HXN := Lib.hid HBK.out.fresh
              replace HBK := Lib.hid (HBK.out.kept hba)
              refine hK.out _ _ (AgAt.kept hS hba) (fun hS => ?_)
              clear hK K hba
              generalize wd.alloc (.cells #[.int .i64 0, .int .i64 0, .string ⟨#[]⟩] 38) = wA at *
              refine wpAnyH_ready (rs := [5]) (by kernel_rfl) (by simp) ?_
              refine AllReadyH.cons rfl (fun K hK => ?_) AllReadyH.nil
              go_simp
              go_wp2_with ((go_at_call 14; refine (own_any a.s _).mono ?_; rintro e wO ⟨rfl, hbn⟩))
              replace HBK := Lib.hid (HBK.out.kept hbn)
              replace HX := Lib.hid (AgAt.kept HX.out hbn)
              refine hK.out _ _ (AgAt.kept hS hbn) (fun hS => ?_)
              clear hK K hbn
              refine wpAnyH_ready (rs := [6]) (by kernel_rfl) (by simp) ?_
              refine AllReadyH.cons rfl (fun K hK => ?_) AllReadyH.nil
              go_simp
              go_wp2_with ((go_at_call 13; refine (HMV.out _ HBK.out).mono ?_; rintro e wM ⟨rfl, hbk, htn⟩))
              have hlt := AgAt.lt HX.out
              replace HX := Lib.hid (AgAt.block HX.out (htn.block _ hlt HXN.out.1))
              replace HXN := Lib.hid (fresh_on (m := wM.heap.size) HXN.out hlt)
              clear hlt
              refine hK.out _ _ (AgAt.block hS (htn.block _ (AgAt.lt hS) HBK.out.nb)) (fun hS => ?_)
              replace HBK := Lib.hid hbk
              clear hK K hbk htn
              refine wpAnyH_take (i := 7) (v := ?_) rfl (by kernel_rfl) (by kernel_rfl) (by kernel_rfl) (fun _ _ _ h => h) (Or.inl ⟨by kernel_rfl, ?_⟩) hS ?_
              rotate_left
              · intro W hSW
                go_simp
                all_goals with_reducible rfl
              refine wpAnyH_take (i := 8) (v := ?_) rfl (by kernel_rfl) (by kernel_rfl) (by kernel_rfl) (fun _ _ _ h => h) (Or.inl ⟨by kernel_rfl, ?_⟩) hS ?_
              rotate_left
              · intro W hSW
                go_simp
                all_goals with_reducible rfl
              refine wpAnyH_take (i := 9) (v := ?_) rfl (by kernel_rfl) (by kernel_rfl) (by kernel_rfl) (fun _ _ _ h => h) (Or.inl ⟨by kernel_rfl, ?_⟩) hS ?_
              rotate_left
              · intro W hSW
                go_simp
                all_goals with_reducible rfl
              go_simp
              refine wpAnyH_ready (rs := [11]) (by kernel_rfl) (by simp) ?_
              refine AllReadyH.cons rfl (fun K hK => ?_) AllReadyH.nil
              refine step_of (by kernel_rfl) ?_
              refine wp_store_ag spT _ _ rfl _ rfl _ HX.out (A := spA z) rfl rfl rfl (spA_one _) ?_
              intro w5 hv5 hko5 hsz5 hbn5
              have HT5 := Lib.hid (show Turns (fun k => k = _) _ w5 from ⟨(hbn5 _ _ (Below.refl _ _) (Nat.le_refl _)).os, (hbn5 _ _ (Below.refl _ _) (Nat.le_refl _)).tape, (hbn5 _ _ (Below.refl _ _) (Nat.le_refl _)).output, (hbn5 _ _ (Below.refl _ _) (Nat.le_refl _)).size, fun k _ hk => hko5 k hk⟩)
              replace HBK := Lib.hid (HBK.out.turned HXN.out HT5.out)
              replace HX := Lib.hid hv5
              refine hK.out _ _ HBK.out.act (fun hS => ?_)
              clear hK K hv5 hko5 hsz5 hbn5 HT5 HXN
              refine wpAnyH_take (i := 12) (v := ?_) rfl (by kernel_rfl) (by kernel_rfl) (by kernel_rfl) (fun _ _ _ h => h) (Or.inl ⟨by kernel_rfl, ?_⟩) hS ?_
              rotate_left
              · intro W hSW
                go_simp
                all_goals with_reducible rfl
              go_simp
              refine wpAnyH_done (by kernel_rfl) ?_ _
              go_simp
              clear hS HMV HX
              go_wp2_with fail
              refine (num_any e1 _).mono ?_
              rintro e wn ⟨rfl, rfl⟩
              go_wp2_with fail
              refine (HBK.out.same HAL.out).mono ?_
              rintro e w9 ⟨rfl, hb9⟩
              have hE : ∃ G5 : Nat → Prop, Bk w a P M1 M2 P' N1 N2 U F2 T G5 w9 := ⟨_, HBK.out.kept hb9⟩
              obtain ⟨G5, hbk⟩ := hE
              replace HBK := Lib.hid hbk
              clear hb9 hbk
              rcases add_two HGD.out a.n a.s HAX.out.2.1 with ⟨e2, he2, hadd⟩ | ⟨T3, hadd, hdrop, hg3⟩
              · have HAD := Lib.hid (fun W (hW : Bk w a P M1 M2 P' N1 N2 U F2 T G5 W) => hW.add a.n a.s e2 HAX.out.1 HAX.out.2.1 HAX.out.2.2 hadd)
                clear hadd
                go_upto_region 18 with fail
                have hbd := Below.drew (Below.refl w9.heap.size w9)
                replace HBK := Lib.hid (HBK.out.kept hbd)
                refine wp_region_held_drew (S := fun W => AgAt W w.heap.size (acA a)) (by kernel_rfl) HBK.out.act (fun hS => ?_)
                clear hbd
                generalize w9.drew = wd at *
                refine wpAnyH_take (i := 0) (v := ?_) rfl (by kernel_rfl) (by kernel_rfl) (by kernel_rfl) (fun _ _ _ h => h) (Or.inl ⟨by kernel_rfl, ?_⟩) hS ?_
                rotate_left
                · intro W hSW
                  go_simp
                  all_goals with_reducible rfl
                refine wpAnyH_take (i := 1) (v := ?_) rfl (by kernel_rfl) (by kernel_rfl) (by kernel_rfl) (fun _ _ _ h => h) (Or.inl ⟨by kernel_rfl, ?_⟩) hS ?_
                rotate_left
                · intro W hSW
                  go_simp
                  all_goals with_reducible rfl
                go_simp
                refine wpAnyH_take (i := 2) (v := snV a.n) rfl (by kernel_rfl) (by kernel_rfl) (by kernel_rfl) (fun _ _ _ h => h) (Or.inl ⟨by kernel_rfl, fun W hSW => exec_load_part stT rfl rfl [.int .i64 a.n.1, .int .i64 a.n.2] rfl hSW (acN a)⟩) hS ?_
                refine wpAnyH_take (i := 3) (v := ?_) rfl (by kernel_rfl) (by kernel_rfl) (by kernel_rfl) (fun _ _ _ h => h) (Or.inl ⟨by kernel_rfl, ?_⟩) hS ?_
                rotate_left
                · intro W hSW
                  go_simp
                  all_goals with_reducible rfl
                go_simp
                refine wpAnyH_take (i := 4) (v := .agg (spA a.s)) rfl (by kernel_rfl) (by kernel_rfl) (by kernel_rfl) (fun _ _ _ h => h) (Or.inl ⟨by kernel_rfl, fun W hSW => exec_load_part spR rfl rfl [.int .i64 a.s.1.1, .int .i64 a.s.1.2, .string a.s.2] rfl hSW (acS a)⟩) hS ?_
                go_simp
                refine wpAnyH_ready (rs := [5]) (by kernel_rfl) (by simp) ?_
                refine AllReadyH.cons rfl (fun K hK => ?_) AllReadyH.nil
                go_simp
                go_wp2_with ((go_at_call 14; refine (own_any a.s _).mono ?_; rintro e wO ⟨rfl, hbn⟩))
                replace HBK := Lib.hid (HBK.out.kept hbn)
                refine hK.out _ _ (AgAt.kept hS hbn) (fun hS => ?_)
                clear hK K hbn
                refine wpAnyH_ready (rs := [6]) (by kernel_rfl) (by simp) ?_
                refine AllReadyH.cons rfl (fun K hK => ?_) AllReadyH.nil
                go_simp
                go_wp2_with ((go_at_call 17; refine (HAD.out _ HBK.out).mono ?_; rintro e wM ⟨rfl, hbk⟩))
                replace HBK := Lib.hid hbk
                refine hK.out _ _ HBK.out.act (fun hS => ?_)
                clear hK K hbk
                refine wpAnyH_ready (rs := [7]) (by kernel_rfl) (by simp) ?_
                refine AllReadyH.cons rfl (fun K hK => ?_) AllReadyH.nil
                go_simp
                go_wp2_with ((go_at_call 15; refine (num_any e2 _).mono ?_; rintro e wn ⟨rfl, rfl⟩))
                refine hK.out _ _ hS (fun hS => ?_)
                clear hK K
                refine wpAnyH_take (i := 8) (v := ?_) rfl (by kernel_rfl) (by kernel_rfl) (by kernel_rfl) (fun _ _ _ h => h) (Or.inl ⟨by kernel_rfl, ?_⟩) hS ?_
                rotate_left
                · intro W hSW
                  go_simp
                  all_goals with_reducible rfl
                go_simp
                refine wpAnyH_done (by kernel_rfl) ?_ _
                go_simp
                clear hS HAD
                go_wp2_with fail
                refine (HBK.out.same HAL.out).mono ?_
                rintro e wF ⟨rfl, hbF⟩
                have HE := Lib.hid (HBK.out.bel.trans (hbF.mono HBK.out.bel.size))
                clear hbF HBK HAL
                go_wp2
                go_ret
                exact ⟨rfl, HE.out⟩
              · have HAD := Lib.hid (fun W (hW : Bk w a P M1 M2 P' N1 N2 U F2 T G5 W) => hW.add a.n a.s 0 HAX.out.1 HAX.out.2.1 HAX.out.2.2 hadd)
                have HG3 := Lib.hid hg3
                have HDR := Lib.hid hdrop
                clear hadd hdrop hg3
                go_upto_region 18 with fail
                have hbd := Below.drew (Below.refl w9.heap.size w9)
                replace HBK := Lib.hid (HBK.out.kept hbd)
                refine wp_region_held_drew (S := fun W => AgAt W w.heap.size (acA a)) (by kernel_rfl) HBK.out.act (fun hS => ?_)
                clear hbd
                generalize w9.drew = wd at *
                refine wpAnyH_take (i := 0) (v := ?_) rfl (by kernel_rfl) (by kernel_rfl) (by kernel_rfl) (fun _ _ _ h => h) (Or.inl ⟨by kernel_rfl, ?_⟩) hS ?_
                rotate_left
                · intro W hSW
                  go_simp
                  all_goals with_reducible rfl
                refine wpAnyH_take (i := 1) (v := ?_) rfl (by kernel_rfl) (by kernel_rfl) (by kernel_rfl) (fun _ _ _ h => h) (Or.inl ⟨by kernel_rfl, ?_⟩) hS ?_
                rotate_left
                · intro W hSW
                  go_simp
                  all_goals with_reducible rfl
                go_simp
                refine wpAnyH_take (i := 2) (v := snV a.n) rfl (by kernel_rfl) (by kernel_rfl) (by kernel_rfl) (fun _ _ _ h => h) (Or.inl ⟨by kernel_rfl, fun W hSW => exec_load_part stT rfl rfl [.int .i64 a.n.1, .int .i64 a.n.2] rfl hSW (acN a)⟩) hS ?_
                refine wpAnyH_take (i := 3) (v := ?_) rfl (by kernel_rfl) (by kernel_rfl) (by kernel_rfl) (fun _ _ _ h => h) (Or.inl ⟨by kernel_rfl, ?_⟩) hS ?_
                rotate_left
                · intro W hSW
                  go_simp
                  all_goals with_reducible rfl
                go_simp
                refine wpAnyH_take (i := 4) (v := .agg (spA a.s)) rfl (by kernel_rfl) (by kernel_rfl) (by kernel_rfl) (fun _ _ _ h => h) (Or.inl ⟨by kernel_rfl, fun W hSW => exec_load_part spR rfl rfl [.int .i64 a.s.1.1, .int .i64 a.s.1.2, .string a.s.2] rfl hSW (acS a)⟩) hS ?_
                go_simp
                refine wpAnyH_ready (rs := [5]) (by kernel_rfl) (by simp) ?_
                refine AllReadyH.cons rfl (fun K hK => ?_) AllReadyH.nil
                go_simp
                go_wp2_with ((go_at_call 14; refine (own_any a.s _).mono ?_; rintro e wO ⟨rfl, hbn⟩))
                replace HBK := Lib.hid (HBK.out.kept hbn)
                refine hK.out _ _ (AgAt.kept hS hbn) (fun hS => ?_)
                clear hK K hbn
                refine wpAnyH_ready (rs := [6]) (by kernel_rfl) (by simp) ?_
                refine AllReadyH.cons rfl (fun K hK => ?_) AllReadyH.nil
                go_simp
                go_wp2_with ((go_at_call 17; refine (HAD.out _ HBK.out).mono ?_; rintro e wM ⟨rfl, hbk⟩))
                replace HBK := Lib.hid hbk
                refine hK.out _ _ HBK.out.act (fun hS => ?_)
                clear hK K hbk
                refine wpAnyH_ready (rs := [7]) (by kernel_rfl) (by simp) ?_
                refine AllReadyH.cons rfl (fun K hK => ?_) AllReadyH.nil
                go_simp
                go_wp2_with ((go_at_call 15; refine (num_any 0 _).mono ?_; rintro e wn ⟨rfl, rfl⟩))
                refine hK.out _ _ hS (fun hS => ?_)
                clear hK K
                refine wpAnyH_take (i := 8) (v := ?_) rfl (by kernel_rfl) (by kernel_rfl) (by kernel_rfl) (fun _ _ _ h => h) (Or.inl ⟨by kernel_rfl, ?_⟩) hS ?_
                rotate_left
                · intro W hSW
                  go_simp
                  all_goals with_reducible rfl
                go_simp
                refine wpAnyH_done (by kernel_rfl) ?_ _
                go_simp
                clear hS HAD
                go_wp2_with (refine wpList_load_part stT rfl _ rfl _ 1 rfl [.int .i64 a.n.1, .int .i64 a.n.2] rfl HBK.out.act (acN a) ?_)
                refine (HBK.out.drop HG3.out a.n a.s 0 HAX.out.1 HDR.out).mono ?_
                rintro e w10 ⟨rfl, hbk⟩
                replace HBK := Lib.hid hbk
                clear hbk HG3 HDR
                go_upto_region 20 with (refine wpList_store_newag spT rfl _ _ rfl rfl _ (A := spA a.s) rfl rfl rfl (spA_one _) ?_; intro w11 hv11 hb11)
                replace HBK := Lib.hid (HBK.out.kept hb11)
                have HY := Lib.hid hv11
                clear hv11 hb11
                have hbd := Below.drew (Below.refl w11.heap.size w11)
                replace HBK := Lib.hid (HBK.out.kept hbd)
                replace HY := Lib.hid (AgAt.kept HY.out hbd)
                refine wp_region_held_drew (S := fun W => Below w11.drew.heap.size w11.drew W) (by kernel_rfl) (Below.refl _ _) (fun hS => ?_)
                clear hbd
                generalize w11.drew = wd at *
                refine wpAnyH_take (i := 0) (v := ?_) rfl (by kernel_rfl) (by kernel_rfl) (by kernel_rfl) (fun _ _ _ h => h) (Or.inl ⟨by kernel_rfl, ?_⟩) hS ?_
                rotate_left
                · intro W hSW
                  go_simp
                  all_goals with_reducible rfl
                go_simp
                refine wpAnyH_ready (rs := [1]) (by kernel_rfl) (by simp) ?_
                refine AllReadyH.cons rfl (fun K hK => ?_) AllReadyH.nil
                go_simp
                go_wp2_with ((go_at_call 15; refine (num_any 0 _).mono ?_; rintro e wn ⟨rfl, rfl⟩))
                refine hK.out _ _ hS (fun hS => ?_)
                clear hK K
                refine wpAnyH_take (i := 2) (v := ?_) rfl (by kernel_rfl) (by kernel_rfl) (by kernel_rfl) (fun _ _ _ h => h) (Or.inl ⟨by kernel_rfl, ?_⟩) hS ?_
                rotate_left
                · intro W hSW
                  go_simp
                  all_goals with_reducible rfl
                refine wpAnyH_take (i := 3) (v := ?_) rfl (by kernel_rfl) (by kernel_rfl) (by kernel_rfl) (fun _ _ _ h => h) (Or.inl ⟨by kernel_rfl, ?_⟩) hS ?_
                rotate_left
                · intro W hSW
                  go_simp
                  all_goals with_reducible rfl
                go_simp
                refine wpAnyH_take (i := 4) (v := .agg (spA a.s)) rfl (by kernel_rfl) (by kernel_rfl) (by kernel_rfl) (fun _ _ _ h => h) (Or.inl ⟨by kernel_rfl, fun W hSW => exec_load_ag spT rfl rfl rfl (AgAt.kept HY.out hSW)⟩) hS ?_
                refine wpAnyH_take (i := 5) (v := ?_) rfl (by kernel_rfl) (by kernel_rfl) (by kernel_rfl) (fun _ _ _ h => h) (Or.inl ⟨by kernel_rfl, ?_⟩) hS ?_
                rotate_left
                · intro W hSW
                  go_simp
                  all_goals with_reducible rfl
                go_simp
                refine wpAnyH_take (i := 6) (v := .agg (spA a.s)) rfl (by kernel_rfl) (by kernel_rfl) (by kernel_rfl) (fun _ _ _ h => h) (Or.inl ⟨by kernel_rfl, fun W hSW => exec_load_part spR rfl rfl [.int .i64 a.s.1.1, .int .i64 a.s.1.2, .string a.s.2] rfl (AgAt.kept HBK.out.act hSW) (acS a)⟩) hS ?_
                go_simp
                refine wpAnyH_ready (rs := [7]) (by kernel_rfl) (by simp) ?_
                refine AllReadyH.cons rfl (fun K hK => ?_) AllReadyH.nil
                go_simp
                go_wp2_with ((go_at_call 14; refine (own_any a.s _).mono ?_; rintro e wO ⟨rfl, hbn⟩))
                refine hK.out _ _ (hS.trans (hbn.mono hS.size)) (fun hS => ?_)
                clear hK K hbn
                refine wpAnyH_take (i := 8) (v := .bool false) rfl (by kernel_rfl) (by kernel_rfl) (by kernel_rfl) (fun _ _ _ h => h) (Or.inl ⟨by kernel_rfl, fun W hSW => exec_neq_sp rfl a.s rfl rfl⟩) hS ?_
                refine wpAnyH_take (i := 9) (v := ?_) rfl (by kernel_rfl) (by kernel_rfl) (by kernel_rfl) (fun _ _ _ h => h) (Or.inl ⟨by kernel_rfl, ?_⟩) hS ?_
                rotate_left
                · intro W hSW
                  go_simp
                  all_goals with_reducible rfl
                go_simp
                refine wpAnyH_done (by kernel_rfl) ?_ _
                go_simp
                replace HBK := Lib.hid (HBK.out.kept hS)
                clear hS HY
                go_wp2_with fail
                refine (HBK.out.same HAL.out).mono ?_
                rintro e wF ⟨rfl, hbF⟩
                have HE := Lib.hid (HBK.out.bel.trans (hbF.mono HBK.out.bel.size))
                clear hbF HBK HAL
                go_wp2
                go_ret
                exact ⟨rfl, HE.out⟩
          · have HMV := Lib.hid (fun W (hW : Bk w a P M1 M2 P' N1 N2 U F2 T G W) => hW.move HG.out a.n a.s was 0 HAX.out.1 HAX.out.2.1 HAX.out.2.2 hmv)
            replace HAL := Lib.hid (Tm.Alike.trans hal HAL.out)
            have HG1 := Lib.hid hg1
            have HGD := Lib.hid hg2
            have HWW := Lib.hid (And.intro hww hws)
            have HM2 := Lib.hid hmv2
            clear hmv hal hg1 hg2 hww hws hmv2 HG
            go_upto_region 11 with fail
            have hbd := Below.drew (Below.refl w4.heap.size w4)
            replace HBK := Lib.hid (HBK.out.kept hbd)
            refine wp_region_held_drew (S := fun W => AgAt W w.heap.size (acA a)) (by kernel_rfl) HBK.out.act (fun hS => ?_)
            clear hbd
            generalize w4.drew = wd at *
            refine wpAnyH_take (i := 0) (v := ?_) rfl (by kernel_rfl) (by kernel_rfl) (by kernel_rfl) (fun _ _ _ h => h) (Or.inl ⟨by kernel_rfl, ?_⟩) hS ?_
            rotate_left
            · intro W hSW
              go_simp
              all_goals with_reducible rfl
            refine wpAnyH_take (i := 1) (v := ?_) rfl (by kernel_rfl) (by kernel_rfl) (by kernel_rfl) (fun _ _ _ h => h) (Or.inl ⟨by kernel_rfl, ?_⟩) hS ?_
            rotate_left
            · intro W hSW
              go_simp
              all_goals with_reducible rfl
            go_simp
            refine wpAnyH_take (i := 2) (v := snV a.n) rfl (by kernel_rfl) (by kernel_rfl) (by kernel_rfl) (fun _ _ _ h => h) (Or.inl ⟨by kernel_rfl, fun W hSW => exec_load_part stT rfl rfl [.int .i64 a.n.1, .int .i64 a.n.2] rfl hSW (acN a)⟩) hS ?_
            refine wpAnyH_take (i := 3) (v := ?_) rfl (by kernel_rfl) (by kernel_rfl) (by kernel_rfl) (fun _ _ _ h => h) (Or.inl ⟨by kernel_rfl, ?_⟩) hS ?_
            rotate_left
            · intro W hSW
              go_simp
              all_goals with_reducible rfl
            go_simp
            refine wpAnyH_take (i := 4) (v := .agg (spA a.s)) rfl (by kernel_rfl) (by kernel_rfl) (by kernel_rfl) (fun _ _ _ h => h) (Or.inl ⟨by kernel_rfl, fun W hSW => exec_load_part spR rfl rfl [.int .i64 a.s.1.1, .int .i64 a.s.1.2, .string a.s.2] rfl hSW (acS a)⟩) hS ?_
            go_simp
            refine wpAnyH_ready (rs := [5, 10]) (by kernel_rfl) (by simp) ?_
            refine AllReadyH.cons rfl (fun K hK => ?_) (AllReadyH.cons rfl (fun K hK => ?_) AllReadyH.nil)
            · go_simp
              go_wp2_with ((go_at_call 14; refine (own_any a.s _).mono ?_; rintro e wO ⟨rfl, hbn⟩))
              replace HBK := Lib.hid (HBK.out.kept hbn)
              refine hK.out _ _ (AgAt.kept hS hbn) (fun hS => ?_)
              clear hK K hbn
              refine wpAnyH_ready (rs := [6, 10]) (by kernel_rfl) (by simp) ?_
              refine AllReadyH.cons rfl (fun K hK => ?_) (AllReadyH.cons rfl (fun K hK => ?_) AllReadyH.nil)
              · go_simp
                go_wp2_with ((go_at_call 13; refine (HMV.out _ HBK.out).mono ?_; rintro e wM ⟨rfl, hbk, htn⟩))
                refine hK.out _ _ (AgAt.block hS (htn.block _ (AgAt.lt hS) HBK.out.nb)) (fun hS => ?_)
                replace HBK := Lib.hid hbk
                clear hK K hbk htn
                refine wpAnyH_take (i := 7) (v := ?_) rfl (by kernel_rfl) (by kernel_rfl) (by kernel_rfl) (fun _ _ _ h => h) (Or.inl ⟨by kernel_rfl, ?_⟩) hS ?_
                rotate_left
                · intro W hSW
                  go_simp
                  all_goals with_reducible rfl
                refine wpAnyH_take (i := 8) (v := ?_) rfl (by kernel_rfl) (by kernel_rfl) (by kernel_rfl) (fun _ _ _ h => h) (Or.inl ⟨by kernel_rfl, ?_⟩) hS ?_
                rotate_left
                · intro W hSW
                  go_simp
                  all_goals with_reducible rfl
                refine wpAnyH_take (i := 9) (v := ?_) rfl (by kernel_rfl) (by kernel_rfl) (by kernel_rfl) (fun _ _ _ h => h) (Or.inl ⟨by kernel_rfl, ?_⟩) hS ?_
                rotate_left
                · intro W hSW
                  go_simp
                  all_goals with_reducible rfl
                go_simp
                refine wpAnyH_ready (rs := [10]) (by kernel_rfl) (by simp) ?_
                refine AllReadyH.cons rfl (fun K hK => ?_) AllReadyH.nil
                go_simp
                have hba := (Below.refl wM.heap.size wM).alloc (Nat.le_refl _) (.cells #[.int .i64 0, .int .i64 0, .string ⟨#[]⟩] 38)
                have HX := Lib.hid (AgAt.new wM #[.int .i64 0, .int .i64 0, .string ⟨#[]⟩] 38)
                have HXN := Lib.hid HBK.out.fresh
                replace HBK := Lib.hid (HBK.out.kept hba)
                refine hK.out _ _ (AgAt.kept hS hba) (fun hS => ?_)
                clear hK K hba
                generalize wM.alloc (.cells #[.int .i64 0, .int .i64 0, .string ⟨#[]⟩] 38) = wA at *
                refine wpAnyH_ready (rs := [11]) (by kernel_rfl) (by simp) ?_
                refine AllReadyH.cons rfl (fun K hK => ?_) AllReadyH.nil
                refine step_of (by kernel_rfl) ?_
                refine wp_store_ag spT _ _ rfl _ rfl _ HX.out (A := spA was) rfl rfl rfl (spA_one _) ?_
                intro w5 hv5 hko5 hsz5 hbn5
                have HT5 := Lib.hid (show Turns (fun k => k = _) _ w5 from ⟨(hbn5 _ _ (Below.refl _ _) (Nat.le_refl _)).os, (hbn5 _ _ (Below.refl _ _) (Nat.le_refl _)).tape, (hbn5 _ _ (Below.refl _ _) (Nat.le_refl _)).output, (hbn5 _ _ (Below.refl _ _) (Nat.le_refl _)).size, fun k _ hk => hko5 k hk⟩)
                replace HBK := Lib.hid (HBK.out.turned HXN.out HT5.out)
                replace HX := Lib.hid hv5
                refine hK.out _ _ HBK.out.act (fun hS => ?_)
                clear hK K hv5 hko5 hsz5 hbn5 HT5 HXN
                refine wpAnyH_take (i := 12) (v := ?_) rfl (by kernel_rfl) (by kernel_rfl) (by kernel_rfl) (fun _ _ _ h => h) (Or.inl ⟨by kernel_rfl, ?_⟩) hS ?_
                rotate_left
                · intro W hSW
                  go_simp
                  all_goals with_reducible rfl
                go_simp
                refine wpAnyH_done (by kernel_rfl) ?_ _
                go_simp
                clear hS HMV
                go_wp2_with fail
                refine (num_any 0 _).mono ?_
                rintro e wn ⟨rfl, rfl⟩
                go_wp2_with (first | (refine wpList_load_part stT rfl _ rfl _ 1 rfl [.int .i64 a.n.1, .int .i64 a.n.2] rfl HBK.out.act (acN a) ?_) | (refine wpList_load_ag spT rfl _ rfl _ rfl (A := spA was) rfl HX.out ?_))
                refine (HBK.out.move HG1.out a.n was a.s 0 HAX.out.1 HWW.out.1 HWW.out.2 HM2.out).mono ?_
                rintro e w7 ⟨rfl, hbk, -⟩
                replace HBK := Lib.hid hbk
                clear hbk HG1 HWW HM2 HX
                go_upto_region 14 with (refine wpList_store_newag spT rfl _ _ rfl rfl _ (A := spA a.s) rfl rfl rfl (spA_one _) ?_; intro w8 hv8 hb8)
                replace HBK := Lib.hid (HBK.out.kept hb8)
                have HY := Lib.hid hv8
                clear hv8 hb8
                have hbd := Below.drew (Below.refl w8.heap.size w8)
                replace HBK := Lib.hid (HBK.out.kept hbd)
                replace HY := Lib.hid (AgAt.kept HY.out hbd)
                refine wp_region_held_drew (S := fun W => Below w8.drew.heap.size w8.drew W) (by kernel_rfl) (Below.refl _ _) (fun hS => ?_)
                clear hbd
                generalize w8.drew = wd at *
                refine wpAnyH_take (i := 0) (v := ?_) rfl (by kernel_rfl) (by kernel_rfl) (by kernel_rfl) (fun _ _ _ h => h) (Or.inl ⟨by kernel_rfl, ?_⟩) hS ?_
                rotate_left
                · intro W hSW
                  go_simp
                  all_goals with_reducible rfl
                go_simp
                refine wpAnyH_ready (rs := [1]) (by kernel_rfl) (by simp) ?_
                refine AllReadyH.cons rfl (fun K hK => ?_) AllReadyH.nil
                go_simp
                go_wp2_with ((go_at_call 15; refine (num_any 0 _).mono ?_; rintro e wn ⟨rfl, rfl⟩))
                refine hK.out _ _ hS (fun hS => ?_)
                clear hK K
                refine wpAnyH_take (i := 2) (v := ?_) rfl (by kernel_rfl) (by kernel_rfl) (by kernel_rfl) (fun _ _ _ h => h) (Or.inl ⟨by kernel_rfl, ?_⟩) hS ?_
                rotate_left
                · intro W hSW
                  go_simp
                  all_goals with_reducible rfl
                refine wpAnyH_take (i := 3) (v := ?_) rfl (by kernel_rfl) (by kernel_rfl) (by kernel_rfl) (fun _ _ _ h => h) (Or.inl ⟨by kernel_rfl, ?_⟩) hS ?_
                rotate_left
                · intro W hSW
                  go_simp
                  all_goals with_reducible rfl
                go_simp
                refine wpAnyH_take (i := 4) (v := .agg (spA a.s)) rfl (by kernel_rfl) (by kernel_rfl) (by kernel_rfl) (fun _ _ _ h => h) (Or.inl ⟨by kernel_rfl, fun W hSW => exec_load_ag spT rfl rfl rfl (AgAt.kept HY.out hSW)⟩) hS ?_
                refine wpAnyH_take (i := 5) (v := ?_) rfl (by kernel_rfl) (by kernel_rfl) (by kernel_rfl) (fun _ _ _ h => h) (Or.inl ⟨by kernel_rfl, ?_⟩) hS ?_
                rotate_left
                · intro W hSW
                  go_simp
                  all_goals with_reducible rfl
                go_simp
                refine wpAnyH_take (i := 6) (v := .agg (spA a.s)) rfl (by kernel_rfl) (by kernel_rfl) (by kernel_rfl) (fun _ _ _ h => h) (Or.inl ⟨by kernel_rfl, fun W hSW => exec_load_part spR rfl rfl [.int .i64 a.s.1.1, .int .i64 a.s.1.2, .string a.s.2] rfl (AgAt.kept HBK.out.act hSW) (acS a)⟩) hS ?_
                go_simp
                refine wpAnyH_ready (rs := [7]) (by kernel_rfl) (by simp) ?_
                refine AllReadyH.cons rfl (fun K hK => ?_) AllReadyH.nil
                go_simp
                go_wp2_with ((go_at_call 14; refine (own_any a.s _).mono ?_; rintro e wO ⟨rfl, hbn⟩))
                refine hK.out _ _ (hS.trans (hbn.mono hS.size)) (fun hS => ?_)
                clear hK K hbn
                refine wpAnyH_take (i := 8) (v := .bool false) rfl (by kernel_rfl) (by kernel_rfl) (by kernel_rfl) (fun _ _ _ h => h) (Or.inl ⟨by kernel_rfl, fun W hSW => exec_neq_sp rfl a.s rfl rfl⟩) hS ?_
                refine wpAnyH_take (i := 9) (v := ?_) rfl (by kernel_rfl) (by kernel_rfl) (by kernel_rfl) (fun _ _ _ h => h) (Or.inl ⟨by kernel_rfl, ?_⟩) hS ?_
                rotate_left
                · intro W hSW
                  go_simp
                  all_goals with_reducible rfl
                go_simp
                refine wpAnyH_done (by kernel_rfl) ?_ _
                go_simp
                replace HBK := Lib.hid (HBK.out.kept hS)
                clear hS HY
                go_wp2_with fail
                refine (HBK.out.same HAL.out).mono ?_
                rintro e w9 ⟨rfl, hb9⟩
                have hE : ∃ G5 : Nat → Prop, Bk w a P M1 M2 P' N1 N2 U F2 T2 G5 w9 := ⟨_, HBK.out.kept hb9⟩
                obtain ⟨G5, hbk⟩ := hE
                replace HBK := Lib.hid hbk
                clear hb9 hbk
                rcases add_two HGD.out a.n a.s HAX.out.2.1 with ⟨e2, he2, hadd⟩ | ⟨T3, hadd, hdrop, hg3⟩
                · have HAD := Lib.hid (fun W (hW : Bk w a P M1 M2 P' N1 N2 U F2 T2 G5 W) => hW.add a.n a.s e2 HAX.out.1 HAX.out.2.1 HAX.out.2.2 hadd)
                  clear hadd
                  go_upto_region 18 with fail
                  have hbd := Below.drew (Below.refl w9.heap.size w9)
                  replace HBK := Lib.hid (HBK.out.kept hbd)
                  refine wp_region_held_drew (S := fun W => AgAt W w.heap.size (acA a)) (by kernel_rfl) HBK.out.act (fun hS => ?_)
                  clear hbd
                  generalize w9.drew = wd at *
                  refine wpAnyH_take (i := 0) (v := ?_) rfl (by kernel_rfl) (by kernel_rfl) (by kernel_rfl) (fun _ _ _ h => h) (Or.inl ⟨by kernel_rfl, ?_⟩) hS ?_
                  rotate_left
                  · intro W hSW
                    go_simp
                    all_goals with_reducible rfl
                  refine wpAnyH_take (i := 1) (v := ?_) rfl (by kernel_rfl) (by kernel_rfl) (by kernel_rfl) (fun _ _ _ h => h) (Or.inl ⟨by kernel_rfl, ?_⟩) hS ?_
                  rotate_left
                  · intro W hSW
                    go_simp
                    all_goals with_reducible rfl
                  go_simp
                  refine wpAnyH_take (i := 2) (v := snV a.n) rfl (by kernel_rfl) (by kernel_rfl) (by kernel_rfl) (fun _ _ _ h => h) (Or.inl ⟨by kernel_rfl, fun W hSW => exec_load_part stT rfl rfl [.int .i64 a.n.1, .int .i64 a.n.2] rfl hSW (acN a)⟩) hS ?_
                  refine wpAnyH_take (i := 3) (v := ?_) rfl (by kernel_rfl) (by kernel_rfl) (by kernel_rfl) (fun _ _ _ h => h) (Or.inl ⟨by kernel_rfl, ?_⟩) hS ?_
                  rotate_left
                  · intro W hSW
                    go_simp
                    all_goals with_reducible rfl
                  go_simp
                  refine wpAnyH_take (i := 4) (v := .agg (spA a.s)) rfl (by kernel_rfl) (by kernel_rfl) (by kernel_rfl) (fun _ _ _ h => h) (Or.inl ⟨by kernel_rfl, fun W hSW => exec_load_part spR rfl rfl [.int .i64 a.s.1.1, .int .i64 a.s.1.2, .string a.s.2] rfl hSW (acS a)⟩) hS ?_
                  go_simp
                  refine wpAnyH_ready (rs := [5]) (by kernel_rfl) (by simp) ?_
                  refine AllReadyH.cons rfl (fun K hK => ?_) AllReadyH.nil
                  go_simp
                  go_wp2_with ((go_at_call 14; refine (own_any a.s _).mono ?_; rintro e wO ⟨rfl, hbn⟩))
                  replace HBK := Lib.hid (HBK.out.kept hbn)
                  refine hK.out _ _ (AgAt.kept hS hbn) (fun hS => ?_)
                  clear hK K hbn
                  refine wpAnyH_ready (rs := [6]) (by kernel_rfl) (by simp) ?_
                  refine AllReadyH.cons rfl (fun K hK => ?_) AllReadyH.nil
                  go_simp
                  go_wp2_with ((go_at_call 17; refine (HAD.out _ HBK.out).mono ?_; rintro e wM ⟨rfl, hbk⟩))
                  replace HBK := Lib.hid hbk
                  refine hK.out _ _ HBK.out.act (fun hS => ?_)
                  clear hK K hbk
                  refine wpAnyH_ready (rs := [7]) (by kernel_rfl) (by simp) ?_
                  refine AllReadyH.cons rfl (fun K hK => ?_) AllReadyH.nil
                  go_simp
                  go_wp2_with ((go_at_call 15; refine (num_any e2 _).mono ?_; rintro e wn ⟨rfl, rfl⟩))
                  refine hK.out _ _ hS (fun hS => ?_)
                  clear hK K
                  refine wpAnyH_take (i := 8) (v := ?_) rfl (by kernel_rfl) (by kernel_rfl) (by kernel_rfl) (fun _ _ _ h => h) (Or.inl ⟨by kernel_rfl, ?_⟩) hS ?_
                  rotate_left
                  · intro W hSW
                    go_simp
                    all_goals with_reducible rfl
                  go_simp
                  refine wpAnyH_done (by kernel_rfl) ?_ _
                  go_simp
                  clear hS HAD
                  go_wp2_with fail
                  refine (HBK.out.same HAL.out).mono ?_
                  rintro e wF ⟨rfl, hbF⟩
                  have HE := Lib.hid (HBK.out.bel.trans (hbF.mono HBK.out.bel.size))
                  clear hbF HBK HAL
                  go_wp2
                  go_ret
                  exact ⟨rfl, HE.out⟩
                · have HAD := Lib.hid (fun W (hW : Bk w a P M1 M2 P' N1 N2 U F2 T2 G5 W) => hW.add a.n a.s 0 HAX.out.1 HAX.out.2.1 HAX.out.2.2 hadd)
                  have HG3 := Lib.hid hg3
                  have HDR := Lib.hid hdrop
                  clear hadd hdrop hg3
                  go_upto_region 18 with fail
                  have hbd := Below.drew (Below.refl w9.heap.size w9)
                  replace HBK := Lib.hid (HBK.out.kept hbd)
                  refine wp_region_held_drew (S := fun W => AgAt W w.heap.size (acA a)) (by kernel_rfl) HBK.out.act (fun hS => ?_)
                  clear hbd
                  generalize w9.drew = wd at *
                  refine wpAnyH_take (i := 0) (v := ?_) rfl (by kernel_rfl) (by kernel_rfl) (by kernel_rfl) (fun _ _ _ h => h) (Or.inl ⟨by kernel_rfl, ?_⟩) hS ?_
                  rotate_left
                  · intro W hSW
                    go_simp
                    all_goals with_reducible rfl
                  refine wpAnyH_take (i := 1) (v := ?_) rfl (by kernel_rfl) (by kernel_rfl) (by kernel_rfl) (fun _ _ _ h => h) (Or.inl ⟨by kernel_rfl, ?_⟩) hS ?_
                  rotate_left
                  · intro W hSW
                    go_simp
                    all_goals with_reducible rfl
                  go_simp
                  refine wpAnyH_take (i := 2) (v := snV a.n) rfl (by kernel_rfl) (by kernel_rfl) (by kernel_rfl) (fun _ _ _ h => h) (Or.inl ⟨by kernel_rfl, fun W hSW => exec_load_part stT rfl rfl [.int .i64 a.n.1, .int .i64 a.n.2] rfl hSW (acN a)⟩) hS ?_
                  refine wpAnyH_take (i := 3) (v := ?_) rfl (by kernel_rfl) (by kernel_rfl) (by kernel_rfl) (fun _ _ _ h => h) (Or.inl ⟨by kernel_rfl, ?_⟩) hS ?_
                  rotate_left
                  · intro W hSW
                    go_simp
                    all_goals with_reducible rfl
                  go_simp
                  refine wpAnyH_take (i := 4) (v := .agg (spA a.s)) rfl (by kernel_rfl) (by kernel_rfl) (by kernel_rfl) (fun _ _ _ h => h) (Or.inl ⟨by kernel_rfl, fun W hSW => exec_load_part spR rfl rfl [.int .i64 a.s.1.1, .int .i64 a.s.1.2, .string a.s.2] rfl hSW (acS a)⟩) hS ?_
                  go_simp
                  refine wpAnyH_ready (rs := [5]) (by kernel_rfl) (by simp) ?_
                  refine AllReadyH.cons rfl (fun K hK => ?_) AllReadyH.nil
                  go_simp
                  go_wp2_with ((go_at_call 14; refine (own_any a.s _).mono ?_; rintro e wO ⟨rfl, hbn⟩))
                  replace HBK := Lib.hid (HBK.out.kept hbn)
                  refine hK.out _ _ (AgAt.kept hS hbn) (fun hS => ?_)
                  clear hK K hbn
                  refine wpAnyH_ready (rs := [6]) (by kernel_rfl) (by simp) ?_
                  refine AllReadyH.cons rfl (fun K hK => ?_) AllReadyH.nil
                  go_simp
                  go_wp2_with ((go_at_call 17; refine (HAD.out _ HBK.out).mono ?_; rintro e wM ⟨rfl, hbk⟩))
                  replace HBK := Lib.hid hbk
                  refine hK.out _ _ HBK.out.act (fun hS => ?_)
                  clear hK K hbk
                  refine wpAnyH_ready (rs := [7]) (by kernel_rfl) (by simp) ?_
                  refine AllReadyH.cons rfl (fun K hK => ?_) AllReadyH.nil
                  go_simp
                  go_wp2_with ((go_at_call 15; refine (num_any 0 _).mono ?_; rintro e wn ⟨rfl, rfl⟩))
                  refine hK.out _ _ hS (fun hS => ?_)
                  clear hK K
                  refine wpAnyH_take (i := 8) (v := ?_) rfl (by kernel_rfl) (by kernel_rfl) (by kernel_rfl) (fun _ _ _ h => h) (Or.inl ⟨by kernel_rfl, ?_⟩) hS ?_
                  rotate_left
                  · intro W hSW
                    go_simp
                    all_goals with_reducible rfl
                  go_simp
                  refine wpAnyH_done (by kernel_rfl) ?_ _
                  go_simp
                  clear hS HAD
                  go_wp2_with (refine wpList_load_part stT rfl _ rfl _ 1 rfl [.int .i64 a.n.1, .int .i64 a.n.2] rfl HBK.out.act (acN a) ?_)
                  refine (HBK.out.drop HG3.out a.n a.s 0 HAX.out.1 HDR.out).mono ?_
                  rintro e w10 ⟨rfl, hbk⟩
                  replace HBK := Lib.hid hbk
                  clear hbk HG3 HDR
                  go_upto_region 20 with (refine wpList_store_newag spT rfl _ _ rfl rfl _ (A := spA a.s) rfl rfl rfl (spA_one _) ?_; intro w11 hv11 hb11)
                  replace HBK := Lib.hid (HBK.out.kept hb11)
                  have HY := Lib.hid hv11
                  clear hv11 hb11
                  have hbd := Below.drew (Below.refl w11.heap.size w11)
                  replace HBK := Lib.hid (HBK.out.kept hbd)
                  replace HY := Lib.hid (AgAt.kept HY.out hbd)
                  refine wp_region_held_drew (S := fun W => Below w11.drew.heap.size w11.drew W) (by kernel_rfl) (Below.refl _ _) (fun hS => ?_)
                  clear hbd
                  generalize w11.drew = wd at *
                  refine wpAnyH_take (i := 0) (v := ?_) rfl (by kernel_rfl) (by kernel_rfl) (by kernel_rfl) (fun _ _ _ h => h) (Or.inl ⟨by kernel_rfl, ?_⟩) hS ?_
                  rotate_left
                  · intro W hSW
                    go_simp
                    all_goals with_reducible rfl
                  go_simp
                  refine wpAnyH_ready (rs := [1]) (by kernel_rfl) (by simp) ?_
                  refine AllReadyH.cons rfl (fun K hK => ?_) AllReadyH.nil
                  go_simp
                  go_wp2_with ((go_at_call 15; refine (num_any 0 _).mono ?_; rintro e wn ⟨rfl, rfl⟩))
                  refine hK.out _ _ hS (fun hS => ?_)
                  clear hK K
                  refine wpAnyH_take (i := 2) (v := ?_) rfl (by kernel_rfl) (by kernel_rfl) (by kernel_rfl) (fun _ _ _ h => h) (Or.inl ⟨by kernel_rfl, ?_⟩) hS ?_
                  rotate_left
                  · intro W hSW
                    go_simp
                    all_goals with_reducible rfl
                  refine wpAnyH_take (i := 3) (v := ?_) rfl (by kernel_rfl) (by kernel_rfl) (by kernel_rfl) (fun _ _ _ h => h) (Or.inl ⟨by kernel_rfl, ?_⟩) hS ?_
                  rotate_left
                  · intro W hSW
                    go_simp
                    all_goals with_reducible rfl
                  go_simp
                  refine wpAnyH_take (i := 4) (v := .agg (spA a.s)) rfl (by kernel_rfl) (by kernel_rfl) (by kernel_rfl) (fun _ _ _ h => h) (Or.inl ⟨by kernel_rfl, fun W hSW => exec_load_ag spT rfl rfl rfl (AgAt.kept HY.out hSW)⟩) hS ?_
                  refine wpAnyH_take (i := 5) (v := ?_) rfl (by kernel_rfl) (by kernel_rfl) (by kernel_rfl) (fun _ _ _ h => h) (Or.inl ⟨by kernel_rfl, ?_⟩) hS ?_
                  rotate_left
                  · intro W hSW
                    go_simp
                    all_goals with_reducible rfl
                  go_simp
                  refine wpAnyH_take (i := 6) (v := .agg (spA a.s)) rfl (by kernel_rfl) (by kernel_rfl) (by kernel_rfl) (fun _ _ _ h => h) (Or.inl ⟨by kernel_rfl, fun W hSW => exec_load_part spR rfl rfl [.int .i64 a.s.1.1, .int .i64 a.s.1.2, .string a.s.2] rfl (AgAt.kept HBK.out.act hSW) (acS a)⟩) hS ?_
                  go_simp
                  refine wpAnyH_ready (rs := [7]) (by kernel_rfl) (by simp) ?_
                  refine AllReadyH.cons rfl (fun K hK => ?_) AllReadyH.nil
                  go_simp
                  go_wp2_with ((go_at_call 14; refine (own_any a.s _).mono ?_; rintro e wO ⟨rfl, hbn⟩))
                  refine hK.out _ _ (hS.trans (hbn.mono hS.size)) (fun hS => ?_)
                  clear hK K hbn
                  refine wpAnyH_take (i := 8) (v := .bool false) rfl (by kernel_rfl) (by kernel_rfl) (by kernel_rfl) (fun _ _ _ h => h) (Or.inl ⟨by kernel_rfl, fun W hSW => exec_neq_sp rfl a.s rfl rfl⟩) hS ?_
                  refine wpAnyH_take (i := 9) (v := ?_) rfl (by kernel_rfl) (by kernel_rfl) (by kernel_rfl) (fun _ _ _ h => h) (Or.inl ⟨by kernel_rfl, ?_⟩) hS ?_
                  rotate_left
                  · intro W hSW
                    go_simp
                    all_goals with_reducible rfl
                  go_simp
                  refine wpAnyH_done (by kernel_rfl) ?_ _
                  go_simp
                  replace HBK := Lib.hid (HBK.out.kept hS)
                  clear hS HY
                  go_wp2_with fail
                  refine (HBK.out.same HAL.out).mono ?_
                  rintro e wF ⟨rfl, hbF⟩
                  have HE := Lib.hid (HBK.out.bel.trans (hbF.mono HBK.out.bel.size))
                  clear hbF HBK HAL
                  go_wp2
                  go_ret
                  exact ⟨rfl, HE.out⟩
              · go_simp
                have hba := (Below.refl wO.heap.size wO).alloc (Nat.le_refl _) (.cells #[.int .i64 0, .int .i64 0, .string ⟨#[]⟩] 38)
                have HX := Lib.hid (AgAt.new wO #[.int .i64 0, .int .i64 0, .string ⟨#[]⟩] 38)
                have HXN := Lib.hid HBK.out.fresh
                replace HBK := Lib.hid (HBK.out.kept hba)
                refine hK.out _ _ (AgAt.kept hS hba) (fun hS => ?_)
                clear hK K hba
                generalize wO.alloc (.cells #[.int .i64 0, .int .i64 0, .string ⟨#[]⟩] 38) = wA at *
                refine wpAnyH_ready (rs := [6]) (by kernel_rfl) (by simp) ?_
                refine AllReadyH.cons rfl (fun K hK => ?_) AllReadyH.nil
                go_simp
                go_wp2_with ((go_at_call 13; refine (HMV.out _ HBK.out).mono ?_; rintro e wM ⟨rfl, hbk, htn⟩))
                have hlt := AgAt.lt HX.out
                replace HX := Lib.hid (AgAt.block HX.out (htn.block _ hlt HXN.out.1))
                replace HXN := Lib.hid (fresh_on (m := wM.heap.size) HXN.out hlt)
                clear hlt
                refine hK.out _ _ (AgAt.block hS (htn.block _ (AgAt.lt hS) HBK.out.nb)) (fun hS => ?_)
                replace HBK := Lib.hid hbk
                clear hK K hbk htn
                refine wpAnyH_take (i := 7) (v := ?_) rfl (by kernel_rfl) (by kernel_rfl) (by kernel_rfl) (fun _ _ _ h => h) (Or.inl ⟨by kernel_rfl, ?_⟩) hS ?_
                rotate_left
                · intro W hSW
                  go_simp
                  all_goals with_reducible rfl
                refine wpAnyH_take (i := 8) (v := ?_) rfl (by kernel_rfl) (by kernel_rfl) (by kernel_rfl) (fun _ _ _ h => h) (Or.inl ⟨by kernel_rfl, ?_⟩) hS ?_
                rotate_left
                · intro W hSW
                  go_simp
                  all_goals with_reducible rfl
                refine wpAnyH_take (i := 9) (v := ?_) rfl (by kernel_rfl) (by kernel_rfl) (by kernel_rfl) (fun _ _ _ h => h) (Or.inl ⟨by kernel_rfl, ?_⟩) hS ?_
                rotate_left
                · intro W hSW
                  go_simp
                  all_goals with_reducible rfl
                go_simp
                refine wpAnyH_ready (rs := [11]) (by kernel_rfl) (by simp) ?_
                refine AllReadyH.cons rfl (fun K hK => ?_) AllReadyH.nil
                refine step_of (by kernel_rfl) ?_
                refine wp_store_ag spT _ _ rfl _ rfl _ HX.out (A := spA was) rfl rfl rfl (spA_one _) ?_
                intro w5 hv5 hko5 hsz5 hbn5
                have HT5 := Lib.hid (show Turns (fun k => k = _) _ w5 from ⟨(hbn5 _ _ (Below.refl _ _) (Nat.le_refl _)).os, (hbn5 _ _ (Below.refl _ _) (Nat.le_refl _)).tape, (hbn5 _ _ (Below.refl _ _) (Nat.le_refl _)).output, (hbn5 _ _ (Below.refl _ _) (Nat.le_refl _)).size, fun k _ hk => hko5 k hk⟩)
                replace HBK := Lib.hid (HBK.out.turned HXN.out HT5.out)
                replace HX := Lib.hid hv5
                refine hK.out _ _ HBK.out.act (fun hS => ?_)
                clear hK K hv5 hko5 hsz5 hbn5 HT5 HXN
                refine wpAnyH_take (i := 12) (v := ?_) rfl (by kernel_rfl) (by kernel_rfl) (by kernel_rfl) (fun _ _ _ h => h) (Or.inl ⟨by kernel_rfl, ?_⟩) hS ?_
                rotate_left
                · intro W hSW
                  go_simp
                  all_goals with_reducible rfl
                go_simp
                refine wpAnyH_done (by kernel_rfl) ?_ _
                go_simp
                clear hS HMV
                go_wp2_with fail
                refine (num_any 0 _).mono ?_
                rintro e wn ⟨rfl, rfl⟩
                go_wp2_with (first | (refine wpList_load_part stT rfl _ rfl _ 1 rfl [.int .i64 a.n.1, .int .i64 a.n.2] rfl HBK.out.act (acN a) ?_) | (refine wpList_load_ag spT rfl _ rfl _ rfl (A := spA was) rfl HX.out ?_))
                refine (HBK.out.move HG1.out a.n was a.s 0 HAX.out.1 HWW.out.1 HWW.out.2 HM2.out).mono ?_
                rintro e w7 ⟨rfl, hbk, -⟩
                replace HBK := Lib.hid hbk
                clear hbk HG1 HWW HM2 HX
                go_upto_region 14 with (refine wpList_store_newag spT rfl _ _ rfl rfl _ (A := spA a.s) rfl rfl rfl (spA_one _) ?_; intro w8 hv8 hb8)
                replace HBK := Lib.hid (HBK.out.kept hb8)
                have HY := Lib.hid hv8
                clear hv8 hb8
                have hbd := Below.drew (Below.refl w8.heap.size w8)
                replace HBK := Lib.hid (HBK.out.kept hbd)
                replace HY := Lib.hid (AgAt.kept HY.out hbd)
                refine wp_region_held_drew (S := fun W => Below w8.drew.heap.size w8.drew W) (by kernel_rfl) (Below.refl _ _) (fun hS => ?_)
                clear hbd
                generalize w8.drew = wd at *
                refine wpAnyH_take (i := 0) (v := ?_) rfl (by kernel_rfl) (by kernel_rfl) (by kernel_rfl) (fun _ _ _ h => h) (Or.inl ⟨by kernel_rfl, ?_⟩) hS ?_
                rotate_left
                · intro W hSW
                  go_simp
                  all_goals with_reducible rfl
                go_simp
                refine wpAnyH_ready (rs := [1]) (by kernel_rfl) (by simp) ?_
                refine AllReadyH.cons rfl (fun K hK => ?_) AllReadyH.nil
                go_simp
                go_wp2_with ((go_at_call 15; refine (num_any 0 _).mono ?_; rintro e wn ⟨rfl, rfl⟩))
                refine hK.out _ _ hS (fun hS => ?_)
                clear hK K
                refine wpAnyH_take (i := 2) (v := ?_) rfl (by kernel_rfl) (by kernel_rfl) (by kernel_rfl) (fun _ _ _ h => h) (Or.inl ⟨by kernel_rfl, ?_⟩) hS ?_
                rotate_left
                · intro W hSW
                  go_simp
                  all_goals with_reducible rfl
                refine wpAnyH_take (i := 3) (v := ?_) rfl (by kernel_rfl) (by kernel_rfl) (by kernel_rfl) (fun _ _ _ h => h) (Or.inl ⟨by kernel_rfl, ?_⟩) hS ?_
                rotate_left
                · intro W hSW
                  go_simp
                  all_goals with_reducible rfl
                go_simp
                refine wpAnyH_take (i := 4) (v := .agg (spA a.s)) rfl (by kernel_rfl) (by kernel_rfl) (by kernel_rfl) (fun _ _ _ h => h) (Or.inl ⟨by kernel_rfl, fun W hSW => exec_load_ag spT rfl rfl rfl (AgAt.kept HY.out hSW)⟩) hS ?_
                refine wpAnyH_take (i := 5) (v := ?_) rfl (by kernel_rfl) (by kernel_rfl) (by kernel_rfl) (fun _ _ _ h => h) (Or.inl ⟨by kernel_rfl, ?_⟩) hS ?_
                rotate_left
                · intro W hSW
                  go_simp
                  all_goals with_reducible rfl
                go_simp
                refine wpAnyH_take (i := 6) (v := .agg (spA a.s)) rfl (by kernel_rfl) (by kernel_rfl) (by kernel_rfl) (fun _ _ _ h => h) (Or.inl ⟨by kernel_rfl, fun W hSW => exec_load_part spR rfl rfl [.int .i64 a.s.1.1, .int .i64 a.s.1.2, .string a.s.2] rfl (AgAt.kept HBK.out.act hSW) (acS a)⟩) hS ?_
                go_simp
                refine wpAnyH_ready (rs := [7]) (by kernel_rfl) (by simp) ?_
                refine AllReadyH.cons rfl (fun K hK => ?_) AllReadyH.nil
                go_simp
                go_wp2_with ((go_at_call 14; refine (own_any a.s _).mono ?_; rintro e wO ⟨rfl, hbn⟩))
                refine hK.out _ _ (hS.trans (hbn.mono hS.size)) (fun hS => ?_)
                clear hK K hbn
                refine wpAnyH_take (i := 8) (v := .bool false) rfl (by kernel_rfl) (by kernel_rfl) (by kernel_rfl) (fun _ _ _ h => h) (Or.inl ⟨by kernel_rfl, fun W hSW => exec_neq_sp rfl a.s rfl rfl⟩) hS ?_
                refine wpAnyH_take (i := 9) (v := ?_) rfl (by kernel_rfl) (by kernel_rfl) (by kernel_rfl) (fun _ _ _ h => h) (Or.inl ⟨by kernel_rfl, ?_⟩) hS ?_
                rotate_left
                · intro W hSW
                  go_simp
                  all_goals with_reducible rfl
                go_simp
                refine wpAnyH_done (by kernel_rfl) ?_ _
                go_simp
                replace HBK := Lib.hid (HBK.out.kept hS)
                clear hS HY
                go_wp2_with fail
                refine (HBK.out.same HAL.out).mono ?_
                rintro e w9 ⟨rfl, hb9⟩
                have hE : ∃ G5 : Nat → Prop, Bk w a P M1 M2 P' N1 N2 U F2 T2 G5 w9 := ⟨_, HBK.out.kept hb9⟩
                obtain ⟨G5, hbk⟩ := hE
                replace HBK := Lib.hid hbk
                clear hb9 hbk
                rcases add_two HGD.out a.n a.s HAX.out.2.1 with ⟨e2, he2, hadd⟩ | ⟨T3, hadd, hdrop, hg3⟩
                · have HAD := Lib.hid (fun W (hW : Bk w a P M1 M2 P' N1 N2 U F2 T2 G5 W) => hW.add a.n a.s e2 HAX.out.1 HAX.out.2.1 HAX.out.2.2 hadd)
                  clear hadd
                  go_upto_region 18 with fail
                  have hbd := Below.drew (Below.refl w9.heap.size w9)
                  replace HBK := Lib.hid (HBK.out.kept hbd)
                  refine wp_region_held_drew (S := fun W => AgAt W w.heap.size (acA a)) (by kernel_rfl) HBK.out.act (fun hS => ?_)
                  clear hbd
                  generalize w9.drew = wd at *
                  refine wpAnyH_take (i := 0) (v := ?_) rfl (by kernel_rfl) (by kernel_rfl) (by kernel_rfl) (fun _ _ _ h => h) (Or.inl ⟨by kernel_rfl, ?_⟩) hS ?_
                  rotate_left
                  · intro W hSW
                    go_simp
                    all_goals with_reducible rfl
                  refine wpAnyH_take (i := 1) (v := ?_) rfl (by kernel_rfl) (by kernel_rfl) (by kernel_rfl) (fun _ _ _ h => h) (Or.inl ⟨by kernel_rfl, ?_⟩) hS ?_
                  rotate_left
                  · intro W hSW
                    go_simp
                    all_goals with_reducible rfl
                  go_simp
                  refine wpAnyH_take (i := 2) (v := snV a.n) rfl (by kernel_rfl) (by kernel_rfl) (by kernel_rfl) (fun _ _ _ h => h) (Or.inl ⟨by kernel_rfl, fun W hSW => exec_load_part stT rfl rfl [.int .i64 a.n.1, .int .i64 a.n.2] rfl hSW (acN a)⟩) hS ?_
                  refine wpAnyH_take (i := 3) (v := ?_) rfl (by kernel_rfl) (by kernel_rfl) (by kernel_rfl) (fun _ _ _ h => h) (Or.inl ⟨by kernel_rfl, ?_⟩) hS ?_
                  rotate_left
                  · intro W hSW
                    go_simp
                    all_goals with_reducible rfl
                  go_simp
                  refine wpAnyH_take (i := 4) (v := .agg (spA a.s)) rfl (by kernel_rfl) (by kernel_rfl) (by kernel_rfl) (fun _ _ _ h => h) (Or.inl ⟨by kernel_rfl, fun W hSW => exec_load_part spR rfl rfl [.int .i64 a.s.1.1, .int .i64 a.s.1.2, .string a.s.2] rfl hSW (acS a)⟩) hS ?_
                  go_simp
                  refine wpAnyH_ready (rs := [5]) (by kernel_rfl) (by simp) ?_
                  refine AllReadyH.cons rfl (fun K hK => ?_) AllReadyH.nil
                  go_simp
                  go_wp2_with ((go_at_call 14; refine (own_any a.s _).mono ?_; rintro e wO ⟨rfl, hbn⟩))
                  replace HBK := Lib.hid (HBK.out.kept hbn)
                  refine hK.out _ _ (AgAt.kept hS hbn) (fun hS => ?_)
                  clear hK K hbn
                  refine wpAnyH_ready (rs := [6]) (by kernel_rfl) (by simp) ?_
                  refine AllReadyH.cons rfl (fun K hK => ?_) AllReadyH.nil
                  go_simp
                  go_wp2_with ((go_at_call 17; refine (HAD.out _ HBK.out).mono ?_; rintro e wM ⟨rfl, hbk⟩))
                  replace HBK := Lib.hid hbk
                  refine hK.out _ _ HBK.out.act (fun hS => ?_)
                  clear hK K hbk
                  refine wpAnyH_ready (rs := [7]) (by kernel_rfl) (by simp) ?_
                  refine AllReadyH.cons rfl (fun K hK => ?_) AllReadyH.nil
                  go_simp
                  go_wp2_with ((go_at_call 15; refine (num_any e2 _).mono ?_; rintro e wn ⟨rfl, rfl⟩))
                  refine hK.out _ _ hS (fun hS => ?_)
                  clear hK K
                  refine wpAnyH_take (i := 8) (v := ?_) rfl (by kernel_rfl) (by kernel_rfl) (by kernel_rfl) (fun _ _ _ h => h) (Or.inl ⟨by kernel_rfl, ?_⟩) hS ?_
                  rotate_left
                  · intro W hSW
                    go_simp
                    all_goals with_reducible rfl
                  go_simp
                  refine wpAnyH_done (by kernel_rfl) ?_ _
                  go_simp
                  clear hS HAD
                  go_wp2_with fail
                  refine (HBK.out.same HAL.out).mono ?_
                  rintro e wF ⟨rfl, hbF⟩
                  have HE := Lib.hid (HBK.out.bel.trans (hbF.mono HBK.out.bel.size))
                  clear hbF HBK HAL
                  go_wp2
                  go_ret
                  exact ⟨rfl, HE.out⟩
                · have HAD := Lib.hid (fun W (hW : Bk w a P M1 M2 P' N1 N2 U F2 T2 G5 W) => hW.add a.n a.s 0 HAX.out.1 HAX.out.2.1 HAX.out.2.2 hadd)
                  have HG3 := Lib.hid hg3
                  have HDR := Lib.hid hdrop
                  clear hadd hdrop hg3
                  go_upto_region 18 with fail
                  have hbd := Below.drew (Below.refl w9.heap.size w9)
                  replace HBK := Lib.hid (HBK.out.kept hbd)
                  refine wp_region_held_drew (S := fun W => AgAt W w.heap.size (acA a)) (by kernel_rfl) HBK.out.act (fun hS => ?_)
                  clear hbd
                  generalize w9.drew = wd at *
                  refine wpAnyH_take (i := 0) (v := ?_) rfl (by kernel_rfl) (by kernel_rfl) (by kernel_rfl) (fun _ _ _ h => h) (Or.inl ⟨by kernel_rfl, ?_⟩) hS ?_
                  rotate_left
                  · intro W hSW
                    go_simp
                    all_goals with_reducible rfl
                  refine wpAnyH_take (i := 1) (v := ?_) rfl (by kernel_rfl) (by kernel_rfl) (by kernel_rfl) (fun _ _ _ h => h) (Or.inl ⟨by kernel_rfl, ?_⟩) hS ?_
                  rotate_left
                  · intro W hSW
                    go_simp
                    all_goals with_reducible rfl
                  go_simp
                  refine wpAnyH_take (i := 2) (v := snV a.n) rfl (by kernel_rfl) (by kernel_rfl) (by kernel_rfl) (fun _ _ _ h => h) (Or.inl ⟨by kernel_rfl, fun W hSW => exec_load_part stT rfl rfl [.int .i64 a.n.1, .int .i64 a.n.2] rfl hSW (acN a)⟩) hS ?_
                  refine wpAnyH_take (i := 3) (v := ?_) rfl (by kernel_rfl) (by kernel_rfl) (by kernel_rfl) (fun _ _ _ h => h) (Or.inl ⟨by kernel_rfl, ?_⟩) hS ?_
                  rotate_left
                  · intro W hSW
                    go_simp
                    all_goals with_reducible rfl
                  go_simp
                  refine wpAnyH_take (i := 4) (v := .agg (spA a.s)) rfl (by kernel_rfl) (by kernel_rfl) (by kernel_rfl) (fun _ _ _ h => h) (Or.inl ⟨by kernel_rfl, fun W hSW => exec_load_part spR rfl rfl [.int .i64 a.s.1.1, .int .i64 a.s.1.2, .string a.s.2] rfl hSW (acS a)⟩) hS ?_
                  go_simp
                  refine wpAnyH_ready (rs := [5]) (by kernel_rfl) (by simp) ?_
                  refine AllReadyH.cons rfl (fun K hK => ?_) AllReadyH.nil
                  go_simp
                  go_wp2_with ((go_at_call 14; refine (own_any a.s _).mono ?_; rintro e wO ⟨rfl, hbn⟩))
                  replace HBK := Lib.hid (HBK.out.kept hbn)
                  refine hK.out _ _ (AgAt.kept hS hbn) (fun hS => ?_)
                  clear hK K hbn
                  refine wpAnyH_ready (rs := [6]) (by kernel_rfl) (by simp) ?_
                  refine AllReadyH.cons rfl (fun K hK => ?_) AllReadyH.nil
                  go_simp
                  go_wp2_with ((go_at_call 17; refine (HAD.out _ HBK.out).mono ?_; rintro e wM ⟨rfl, hbk⟩))
                  replace HBK := Lib.hid hbk
                  refine hK.out _ _ HBK.out.act (fun hS => ?_)
                  clear hK K hbk
                  refine wpAnyH_ready (rs := [7]) (by kernel_rfl) (by simp) ?_
                  refine AllReadyH.cons rfl (fun K hK => ?_) AllReadyH.nil
                  go_simp
                  go_wp2_with ((go_at_call 15; refine (num_any 0 _).mono ?_; rintro e wn ⟨rfl, rfl⟩))
                  refine hK.out _ _ hS (fun hS => ?_)
                  clear hK K
                  refine wpAnyH_take (i := 8) (v := ?_) rfl (by kernel_rfl) (by kernel_rfl) (by kernel_rfl) (fun _ _ _ h => h) (Or.inl ⟨by kernel_rfl, ?_⟩) hS ?_
                  rotate_left
                  · intro W hSW
                    go_simp
                    all_goals with_reducible rfl
                  go_simp
                  refine wpAnyH_done (by kernel_rfl) ?_ _
                  go_simp
                  clear hS HAD
                  go_wp2_with (refine wpList_load_part stT rfl _ rfl _ 1 rfl [.int .i64 a.n.1, .int .i64 a.n.2] rfl HBK.out.act (acN a) ?_)
                  refine (HBK.out.drop HG3.out a.n a.s 0 HAX.out.1 HDR.out).mono ?_
                  rintro e w10 ⟨rfl, hbk⟩
                  replace HBK := Lib.hid hbk
                  clear hbk HG3 HDR
                  go_upto_region 20 with (refine wpList_store_newag spT rfl _ _ rfl rfl _ (A := spA a.s) rfl rfl rfl (spA_one _) ?_; intro w11 hv11 hb11)
                  replace HBK := Lib.hid (HBK.out.kept hb11)
                  have HY := Lib.hid hv11
                  clear hv11 hb11
                  have hbd := Below.drew (Below.refl w11.heap.size w11)
                  replace HBK := Lib.hid (HBK.out.kept hbd)
                  replace HY := Lib.hid (AgAt.kept HY.out hbd)
                  refine wp_region_held_drew (S := fun W => Below w11.drew.heap.size w11.drew W) (by kernel_rfl) (Below.refl _ _) (fun hS => ?_)
                  clear hbd
                  generalize w11.drew = wd at *
                  refine wpAnyH_take (i := 0) (v := ?_) rfl (by kernel_rfl) (by kernel_rfl) (by kernel_rfl) (fun _ _ _ h => h) (Or.inl ⟨by kernel_rfl, ?_⟩) hS ?_
                  rotate_left
                  · intro W hSW
                    go_simp
                    all_goals with_reducible rfl
                  go_simp
                  refine wpAnyH_ready (rs := [1]) (by kernel_rfl) (by simp) ?_
                  refine AllReadyH.cons rfl (fun K hK => ?_) AllReadyH.nil
                  go_simp
                  go_wp2_with ((go_at_call 15; refine (num_any 0 _).mono ?_; rintro e wn ⟨rfl, rfl⟩))
                  refine hK.out _ _ hS (fun hS => ?_)
                  clear hK K
                  refine wpAnyH_take (i := 2) (v := ?_) rfl (by kernel_rfl) (by kernel_rfl) (by kernel_rfl) (fun _ _ _ h => h) (Or.inl ⟨by kernel_rfl, ?_⟩) hS ?_
                  rotate_left
                  · intro W hSW
                    go_simp
                    all_goals with_reducible rfl
                  refine wpAnyH_take (i := 3) (v := ?_) rfl (by kernel_rfl) (by kernel_rfl) (by kernel_rfl) (fun _ _ _ h => h) (Or.inl ⟨by kernel_rfl, ?_⟩) hS ?_
                  rotate_left
                  · intro W hSW
                    go_simp
                    all_goals with_reducible rfl
                  go_simp
                  refine wpAnyH_take (i := 4) (v := .agg (spA a.s)) rfl (by kernel_rfl) (by kernel_rfl) (by kernel_rfl) (fun _ _ _ h => h) (Or.inl ⟨by kernel_rfl, fun W hSW => exec_load_ag spT rfl rfl rfl (AgAt.kept HY.out hSW)⟩) hS ?_
                  refine wpAnyH_take (i := 5) (v := ?_) rfl (by kernel_rfl) (by kernel_rfl) (by kernel_rfl) (fun _ _ _ h => h) (Or.inl ⟨by kernel_rfl, ?_⟩) hS ?_
                  rotate_left
                  · intro W hSW
                    go_simp
                    all_goals with_reducible rfl
                  go_simp
                  refine wpAnyH_take (i := 6) (v := .agg (spA a.s)) rfl (by kernel_rfl) (by kernel_rfl) (by kernel_rfl) (fun _ _ _ h => h) (Or.inl ⟨by kernel_rfl, fun W hSW => exec_load_part spR rfl rfl [.int .i64 a.s.1.1, .int .i64 a.s.1.2, .string a.s.2] rfl (AgAt.kept HBK.out.act hSW) (acS a)⟩) hS ?_
                  go_simp
                  refine wpAnyH_ready (rs := [7]) (by kernel_rfl) (by simp) ?_
                  refine AllReadyH.cons rfl (fun K hK => ?_) AllReadyH.nil
                  go_simp
                  go_wp2_with ((go_at_call 14; refine (own_any a.s _).mono ?_; rintro e wO ⟨rfl, hbn⟩))
                  refine hK.out _ _ (hS.trans (hbn.mono hS.size)) (fun hS => ?_)
                  clear hK K hbn
                  refine wpAnyH_take (i := 8) (v := .bool false) rfl (by kernel_rfl) (by kernel_rfl) (by kernel_rfl) (fun _ _ _ h => h) (Or.inl ⟨by kernel_rfl, fun W hSW => exec_neq_sp rfl a.s rfl rfl⟩) hS ?_
                  refine wpAnyH_take (i := 9) (v := ?_) rfl (by kernel_rfl) (by kernel_rfl) (by kernel_rfl) (fun _ _ _ h => h) (Or.inl ⟨by kernel_rfl, ?_⟩) hS ?_
                  rotate_left
                  · intro W hSW
                    go_simp
                    all_goals with_reducible rfl
                  go_simp
                  refine wpAnyH_done (by kernel_rfl) ?_ _
                  go_simp
                  replace HBK := Lib.hid (HBK.out.kept hS)
                  clear hS HY
                  go_wp2_with fail
                  refine (HBK.out.same HAL.out).mono ?_
                  rintro e wF ⟨rfl, hbF⟩
                  have HE := Lib.hid (HBK.out.bel.trans (hbF.mono HBK.out.bel.size))
                  clear hbF HBK HAL
                  go_wp2
                  go_ret
                  exact ⟨rfl, HE.out⟩
            · go_simp
              have hba := (Below.refl wd.heap.size wd).alloc (Nat.le_refl _) (.cells #[.int .i64 0, .int .i64 0, .string ⟨#[]⟩] 38)
              have HX := Lib.hid (AgAt.new wd #[.int .i64 0, .int .i64 0, .string ⟨#[]⟩] 38)
              have HXN := Lib.hid HBK.out.fresh
              replace HBK := Lib.hid (HBK.out.kept hba)
              refine hK.out _ _ (AgAt.kept hS hba) (fun hS => ?_)
              clear hK K hba
              generalize wd.alloc (.cells #[.int .i64 0, .int .i64 0, .string ⟨#[]⟩] 38) = wA at *
              refine wpAnyH_ready (rs := [5]) (by kernel_rfl) (by simp) ?_
              refine AllReadyH.cons rfl (fun K hK => ?_) AllReadyH.nil
              go_simp
              go_wp2_with ((go_at_call 14; refine (own_any a.s _).mono ?_; rintro e wO ⟨rfl, hbn⟩))
              replace HBK := Lib.hid (HBK.out.kept hbn)
              replace HX := Lib.hid (AgAt.kept HX.out hbn)
              refine hK.out _ _ (AgAt.kept hS hbn) (fun hS => ?_)
              clear hK K hbn
              refine wpAnyH_ready (rs := [6]) (by kernel_rfl) (by simp) ?_
              refine AllReadyH.cons rfl (fun K hK => ?_) AllReadyH.nil
              go_simp
              go_wp2_with ((go_at_call 13; refine (HMV.out _ HBK.out).mono ?_; rintro e wM ⟨rfl, hbk, htn⟩))
              have hlt := AgAt.lt HX.out
              replace HX := Lib.hid (AgAt.block HX.out (htn.block _ hlt HXN.out.1))
              replace HXN := Lib.hid (fresh_on (m := wM.heap.size) HXN.out hlt)
              clear hlt
              refine hK.out _ _ (AgAt.block hS (htn.block _ (AgAt.lt hS) HBK.out.nb)) (fun hS => ?_)
              replace HBK := Lib.hid hbk
              clear hK K hbk htn
              refine wpAnyH_take (i := 7) (v := ?_) rfl (by kernel_rfl) (by kernel_rfl) (by kernel_rfl) (fun _ _ _ h => h) (Or.inl ⟨by kernel_rfl, ?_⟩) hS ?_
              rotate_left
              · intro W hSW
                go_simp
                all_goals with_reducible rfl
              refine wpAnyH_take (i := 8) (v := ?_) rfl (by kernel_rfl) (by kernel_rfl) (by kernel_rfl) (fun _ _ _ h => h) (Or.inl ⟨by kernel_rfl, ?_⟩) hS ?_
              rotate_left
              · intro W hSW
                go_simp
                all_goals with_reducible rfl
              refine wpAnyH_take (i := 9) (v := ?_) rfl (by kernel_rfl) (by kernel_rfl) (by kernel_rfl) (fun _ _ _ h => h) (Or.inl ⟨by kernel_rfl, ?_⟩) hS ?_
              rotate_left
              · intro W hSW
                go_simp
                all_goals with_reducible rfl
              go_simp
              refine wpAnyH_ready (rs := [11]) (by kernel_rfl) (by simp) ?_
              refine AllReadyH.cons rfl (fun K hK => ?_) AllReadyH.nil
              refine step_of (by kernel_rfl) ?_
              refine wp_store_ag spT _ _ rfl _ rfl _ HX.out (A := spA was) rfl rfl rfl (spA_one _) ?_
              intro w5 hv5 hko5 hsz5 hbn5
              have HT5 := Lib.hid (show Turns (fun k => k = _) _ w5 from ⟨(hbn5 _ _ (Below.refl _ _) (Nat.le_refl _)).os, (hbn5 _ _ (Below.refl _ _) (Nat.le_refl _)).tape, (hbn5 _ _ (Below.refl _ _) (Nat.le_refl _)).output, (hbn5 _ _ (Below.refl _ _) (Nat.le_refl _)).size, fun k _ hk => hko5 k hk⟩)
              replace HBK := Lib.hid (HBK.out.turned HXN.out HT5.out)
              replace HX := Lib.hid hv5
              refine hK.out _ _ HBK.out.act (fun hS => ?_)
              clear hK K hv5 hko5 hsz5 hbn5 HT5 HXN
              refine wpAnyH_take (i := 12) (v := ?_) rfl (by kernel_rfl) (by kernel_rfl) (by kernel_rfl) (fun _ _ _ h => h) (Or.inl ⟨by kernel_rfl, ?_⟩) hS ?_
              rotate_left
              · intro W hSW
                go_simp
                all_goals with_reducible rfl
              go_simp
              refine wpAnyH_done (by kernel_rfl) ?_ _
              go_simp
              clear hS HMV
              go_wp2_with fail
              refine (num_any 0 _).mono ?_
              rintro e wn ⟨rfl, rfl⟩
              go_wp2_with (first | (refine wpList_load_part stT rfl _ rfl _ 1 rfl [.int .i64 a.n.1, .int .i64 a.n.2] rfl HBK.out.act (acN a) ?_) | (refine wpList_load_ag spT rfl _ rfl _ rfl (A := spA was) rfl HX.out ?_))
              refine (HBK.out.move HG1.out a.n was a.s 0 HAX.out.1 HWW.out.1 HWW.out.2 HM2.out).mono ?_
              rintro e w7 ⟨rfl, hbk, -⟩
              replace HBK := Lib.hid hbk
              clear hbk HG1 HWW HM2 HX
              go_upto_region 14 with (refine wpList_store_newag spT rfl _ _ rfl rfl _ (A := spA a.s) rfl rfl rfl (spA_one _) ?_; intro w8 hv8 hb8)
              replace HBK := Lib.hid (HBK.out.kept hb8)
              have HY := Lib.hid hv8
              clear hv8 hb8
              have hbd := Below.drew (Below.refl w8.heap.size w8)
              replace HBK := Lib.hid (HBK.out.kept hbd)
              replace HY := Lib.hid (AgAt.kept HY.out hbd)
              refine wp_region_held_drew (S := fun W => Below w8.drew.heap.size w8.drew W) (by kernel_rfl) (Below.refl _ _) (fun hS => ?_)
              clear hbd
              generalize w8.drew = wd at *
              refine wpAnyH_take (i := 0) (v := ?_) rfl (by kernel_rfl) (by kernel_rfl) (by kernel_rfl) (fun _ _ _ h => h) (Or.inl ⟨by kernel_rfl, ?_⟩) hS ?_
              rotate_left
              · intro W hSW
                go_simp
                all_goals with_reducible rfl
              go_simp
              refine wpAnyH_ready (rs := [1]) (by kernel_rfl) (by simp) ?_
              refine AllReadyH.cons rfl (fun K hK => ?_) AllReadyH.nil
              go_simp
              go_wp2_with ((go_at_call 15; refine (num_any 0 _).mono ?_; rintro e wn ⟨rfl, rfl⟩))
              refine hK.out _ _ hS (fun hS => ?_)
              clear hK K
              refine wpAnyH_take (i := 2) (v := ?_) rfl (by kernel_rfl) (by kernel_rfl) (by kernel_rfl) (fun _ _ _ h => h) (Or.inl ⟨by kernel_rfl, ?_⟩) hS ?_
              rotate_left
              · intro W hSW
                go_simp
                all_goals with_reducible rfl
              refine wpAnyH_take (i := 3) (v := ?_) rfl (by kernel_rfl) (by kernel_rfl) (by kernel_rfl) (fun _ _ _ h => h) (Or.inl ⟨by kernel_rfl, ?_⟩) hS ?_
              rotate_left
              · intro W hSW
                go_simp
                all_goals with_reducible rfl
              go_simp
              refine wpAnyH_take (i := 4) (v := .agg (spA a.s)) rfl (by kernel_rfl) (by kernel_rfl) (by kernel_rfl) (fun _ _ _ h => h) (Or.inl ⟨by kernel_rfl, fun W hSW => exec_load_ag spT rfl rfl rfl (AgAt.kept HY.out hSW)⟩) hS ?_
              refine wpAnyH_take (i := 5) (v := ?_) rfl (by kernel_rfl) (by kernel_rfl) (by kernel_rfl) (fun _ _ _ h => h) (Or.inl ⟨by kernel_rfl, ?_⟩) hS ?_
              rotate_left
              · intro W hSW
                go_simp
                all_goals with_reducible rfl
              go_simp
              refine wpAnyH_take (i := 6) (v := .agg (spA a.s)) rfl (by kernel_rfl) (by kernel_rfl) (by kernel_rfl) (fun _ _ _ h => h) (Or.inl ⟨by kernel_rfl, fun W hSW => exec_load_part spR rfl rfl [.int .i64 a.s.1.1, .int .i64 a.s.1.2, .string a.s.2] rfl (AgAt.kept HBK.out.act hSW) (acS a)⟩) hS ?_
              go_simp
              refine wpAnyH_ready (rs := [7]) (by kernel_rfl) (by simp) ?_
              refine AllReadyH.cons rfl (fun K hK => ?_) AllReadyH.nil
              go_simp
              go_wp2_with ((go_at_call 14; refine (own_any a.s _).mono ?_; rintro e wO ⟨rfl, hbn⟩))
              refine hK.out _ _ (hS.trans (hbn.mono hS.size)) (fun hS => ?_)
              clear hK K hbn
              refine wpAnyH_take (i := 8) (v := .bool false) rfl (by kernel_rfl) (by kernel_rfl) (by kernel_rfl) (fun _ _ _ h => h) (Or.inl ⟨by kernel_rfl, fun W hSW => exec_neq_sp rfl a.s rfl rfl⟩) hS ?_
              refine wpAnyH_take (i := 9) (v := ?_) rfl (by kernel_rfl) (by kernel_rfl) (by kernel_rfl) (fun _ _ _ h => h) (Or.inl ⟨by kernel_rfl, ?_⟩) hS ?_
              rotate_left
              · intro W hSW
                go_simp
                all_goals with_reducible rfl
              go_simp
              refine wpAnyH_done (by kernel_rfl) ?_ _
              go_simp
              replace HBK := Lib.hid (HBK.out.kept hS)
              clear hS HY
              go_wp2_with fail
              refine (HBK.out.same HAL.out).mono ?_
              rintro e w9 ⟨rfl, hb9⟩
              have hE : ∃ G5 : Nat → Prop, Bk w a P M1 M2 P' N1 N2 U F2 T2 G5 w9 := ⟨_, HBK.out.kept hb9⟩
              obtain ⟨G5, hbk⟩ := hE
              replace HBK := Lib.hid hbk
              clear hb9 hbk
              rcases add_two HGD.out a.n a.s HAX.out.2.1 with ⟨e2, he2, hadd⟩ | ⟨T3, hadd, hdrop, hg3⟩
              · have HAD := Lib.hid (fun W (hW : Bk w a P M1 M2 P' N1 N2 U F2 T2 G5 W) => hW.add a.n a.s e2 HAX.out.1 HAX.out.2.1 HAX.out.2.2 hadd)
                clear hadd
                go_upto_region 18 with fail
                have hbd := Below.drew (Below.refl w9.heap.size w9)
                replace HBK := Lib.hid (HBK.out.kept hbd)
                refine wp_region_held_drew (S := fun W => AgAt W w.heap.size (acA a)) (by kernel_rfl) HBK.out.act (fun hS => ?_)
                clear hbd
                generalize w9.drew = wd at *
                refine wpAnyH_take (i := 0) (v := ?_) rfl (by kernel_rfl) (by kernel_rfl) (by kernel_rfl) (fun _ _ _ h => h) (Or.inl ⟨by kernel_rfl, ?_⟩) hS ?_
                rotate_left
                · intro W hSW
                  go_simp
                  all_goals with_reducible rfl
                refine wpAnyH_take (i := 1) (v := ?_) rfl (by kernel_rfl) (by kernel_rfl) (by kernel_rfl) (fun _ _ _ h => h) (Or.inl ⟨by kernel_rfl, ?_⟩) hS ?_
                rotate_left
                · intro W hSW
                  go_simp
                  all_goals with_reducible rfl
                go_simp
                refine wpAnyH_take (i := 2) (v := snV a.n) rfl (by kernel_rfl) (by kernel_rfl) (by kernel_rfl) (fun _ _ _ h => h) (Or.inl ⟨by kernel_rfl, fun W hSW => exec_load_part stT rfl rfl [.int .i64 a.n.1, .int .i64 a.n.2] rfl hSW (acN a)⟩) hS ?_
                refine wpAnyH_take (i := 3) (v := ?_) rfl (by kernel_rfl) (by kernel_rfl) (by kernel_rfl) (fun _ _ _ h => h) (Or.inl ⟨by kernel_rfl, ?_⟩) hS ?_
                rotate_left
                · intro W hSW
                  go_simp
                  all_goals with_reducible rfl
                go_simp
                refine wpAnyH_take (i := 4) (v := .agg (spA a.s)) rfl (by kernel_rfl) (by kernel_rfl) (by kernel_rfl) (fun _ _ _ h => h) (Or.inl ⟨by kernel_rfl, fun W hSW => exec_load_part spR rfl rfl [.int .i64 a.s.1.1, .int .i64 a.s.1.2, .string a.s.2] rfl hSW (acS a)⟩) hS ?_
                go_simp
                refine wpAnyH_ready (rs := [5]) (by kernel_rfl) (by simp) ?_
                refine AllReadyH.cons rfl (fun K hK => ?_) AllReadyH.nil
                go_simp
                go_wp2_with ((go_at_call 14; refine (own_any a.s _).mono ?_; rintro e wO ⟨rfl, hbn⟩))
                replace HBK := Lib.hid (HBK.out.kept hbn)
                refine hK.out _ _ (AgAt.kept hS hbn) (fun hS => ?_)
                clear hK K hbn
                refine wpAnyH_ready (rs := [6]) (by kernel_rfl) (by simp) ?_
                refine AllReadyH.cons rfl (fun K hK => ?_) AllReadyH.nil
                go_simp
                go_wp2_with ((go_at_call 17; refine (HAD.out _ HBK.out).mono ?_; rintro e wM ⟨rfl, hbk⟩))
                replace HBK := Lib.hid hbk
                refine hK.out _ _ HBK.out.act (fun hS => ?_)
                clear hK K hbk
                refine wpAnyH_ready (rs := [7]) (by kernel_rfl) (by simp) ?_
                refine AllReadyH.cons rfl (fun K hK => ?_) AllReadyH.nil
                go_simp
                go_wp2_with ((go_at_call 15; refine (num_any e2 _).mono ?_; rintro e wn ⟨rfl, rfl⟩))
                refine hK.out _ _ hS (fun hS => ?_)
                clear hK K
                refine wpAnyH_take (i := 8) (v := ?_) rfl (by kernel_rfl) (by kernel_rfl) (by kernel_rfl) (fun _ _ _ h => h) (Or.inl ⟨by kernel_rfl, ?_⟩) hS ?_
                rotate_left
                · intro W hSW
                  go_simp
                  all_goals with_reducible rfl
                go_simp
                refine wpAnyH_done (by kernel_rfl) ?_ _
                go_simp
                clear hS HAD
                go_wp2_with fail
                refine (HBK.out.same HAL.out).mono ?_
                rintro e wF ⟨rfl, hbF⟩
                have HE := Lib.hid (HBK.out.bel.trans (hbF.mono HBK.out.bel.size))
                clear hbF HBK HAL
                go_wp2
                go_ret
                exact ⟨rfl, HE.out⟩
              · have HAD := Lib.hid (fun W (hW : Bk w a P M1 M2 P' N1 N2 U F2 T2 G5 W) => hW.add a.n a.s 0 HAX.out.1 HAX.out.2.1 HAX.out.2.2 hadd)
                have HG3 := Lib.hid hg3
                have HDR := Lib.hid hdrop
                clear hadd hdrop hg3
                go_upto_region 18 with fail
                have hbd := Below.drew (Below.refl w9.heap.size w9)
                replace HBK := Lib.hid (HBK.out.kept hbd)
                refine wp_region_held_drew (S := fun W => AgAt W w.heap.size (acA a)) (by kernel_rfl) HBK.out.act (fun hS => ?_)
                clear hbd
                generalize w9.drew = wd at *
                refine wpAnyH_take (i := 0) (v := ?_) rfl (by kernel_rfl) (by kernel_rfl) (by kernel_rfl) (fun _ _ _ h => h) (Or.inl ⟨by kernel_rfl, ?_⟩) hS ?_
                rotate_left
                · intro W hSW
                  go_simp
                  all_goals with_reducible rfl
                refine wpAnyH_take (i := 1) (v := ?_) rfl (by kernel_rfl) (by kernel_rfl) (by kernel_rfl) (fun _ _ _ h => h) (Or.inl ⟨by kernel_rfl, ?_⟩) hS ?_
                rotate_left
                · intro W hSW
                  go_simp
                  all_goals with_reducible rfl
                go_simp
                refine wpAnyH_take (i := 2) (v := snV a.n) rfl (by kernel_rfl) (by kernel_rfl) (by kernel_rfl) (fun _ _ _ h => h) (Or.inl ⟨by kernel_rfl, fun W hSW => exec_load_part stT rfl rfl [.int .i64 a.n.1, .int .i64 a.n.2] rfl hSW (acN a)⟩) hS ?_
                refine wpAnyH_take (i := 3) (v := ?_) rfl (by kernel_rfl) (by kernel_rfl) (by kernel_rfl) (fun _ _ _ h => h) (Or.inl ⟨by kernel_rfl, ?_⟩) hS ?_
                rotate_left
                · intro W hSW
                  go_simp
                  all_goals with_reducible rfl
                go_simp
                refine wpAnyH_take (i := 4) (v := .agg (spA a.s)) rfl (by kernel_rfl) (by kernel_rfl) (by kernel_rfl) (fun _ _ _ h => h) (Or.inl ⟨by kernel_rfl, fun W hSW => exec_load_part spR rfl rfl [.int .i64 a.s.1.1, .int .i64 a.s.1.2, .string a.s.2] rfl hSW (acS a)⟩) hS ?_
                go_simp
                refine wpAnyH_ready (rs := [5]) (by kernel_rfl) (by simp) ?_
                refine AllReadyH.cons rfl (fun K hK => ?_) AllReadyH.nil
                go_simp
                go_wp2_with ((go_at_call 14; refine (own_any a.s _).mono ?_; rintro e wO ⟨rfl, hbn⟩))
                replace HBK := Lib.hid (HBK.out.kept hbn)
                refine hK.out _ _ (AgAt.kept hS hbn) (fun hS => ?_)
                clear hK K hbn
                refine wpAnyH_ready (rs := [6]) (by kernel_rfl) (by simp) ?_
                refine AllReadyH.cons rfl (fun K hK => ?_) AllReadyH.nil
                go_simp
                go_wp2_with ((go_at_call 17; refine (HAD.out _ HBK.out).mono ?_; rintro e wM ⟨rfl, hbk⟩))
                replace HBK := Lib.hid hbk
                refine hK.out _ _ HBK.out.act (fun hS => ?_)
                clear hK K hbk
                refine wpAnyH_ready (rs := [7]) (by kernel_rfl) (by simp) ?_
                refine AllReadyH.cons rfl (fun K hK => ?_) AllReadyH.nil
                go_simp
                go_wp2_with ((go_at_call 15; refine (num_any 0 _).mono ?_; rintro e wn ⟨rfl, rfl⟩))
                refine hK.out _ _ hS (fun hS => ?_)
                clear hK K
                refine wpAnyH_take (i := 8) (v := ?_) rfl (by kernel_rfl) (by kernel_rfl) (by kernel_rfl) (fun _ _ _ h => h) (Or.inl ⟨by kernel_rfl, ?_⟩) hS ?_
                rotate_left
                · intro W hSW
                  go_simp
                  all_goals with_reducible rfl
                go_simp
                refine wpAnyH_done (by kernel_rfl) ?_ _
                go_simp
                clear hS HAD
                go_wp2_with (refine wpList_load_part stT rfl _ rfl _ 1 rfl [.int .i64 a.n.1, .int .i64 a.n.2] rfl HBK.out.act (acN a) ?_)
                refine (HBK.out.drop HG3.out a.n a.s 0 HAX.out.1 HDR.out).mono ?_
                rintro e w10 ⟨rfl, hbk⟩
                replace HBK := Lib.hid hbk
                clear hbk HG3 HDR
                go_upto_region 20 with (refine wpList_store_newag spT rfl _ _ rfl rfl _ (A := spA a.s) rfl rfl rfl (spA_one _) ?_; intro w11 hv11 hb11)
                replace HBK := Lib.hid (HBK.out.kept hb11)
                have HY := Lib.hid hv11
                clear hv11 hb11
                have hbd := Below.drew (Below.refl w11.heap.size w11)
                replace HBK := Lib.hid (HBK.out.kept hbd)
                replace HY := Lib.hid (AgAt.kept HY.out hbd)
                refine wp_region_held_drew (S := fun W => Below w11.drew.heap.size w11.drew W) (by kernel_rfl) (Below.refl _ _) (fun hS => ?_)
                clear hbd
                generalize w11.drew = wd at *
                refine wpAnyH_take (i := 0) (v := ?_) rfl (by kernel_rfl) (by kernel_rfl) (by kernel_rfl) (fun _ _ _ h => h) (Or.inl ⟨by kernel_rfl, ?_⟩) hS ?_
                rotate_left
                · intro W hSW
                  go_simp
                  all_goals with_reducible rfl
                go_simp
                refine wpAnyH_ready (rs := [1]) (by kernel_rfl) (by simp) ?_
                refine AllReadyH.cons rfl (fun K hK => ?_) AllReadyH.nil
                go_simp
                go_wp2_with ((go_at_call 15; refine (num_any 0 _).mono ?_; rintro e wn ⟨rfl, rfl⟩))
                refine hK.out _ _ hS (fun hS => ?_)
                clear hK K
                refine wpAnyH_take (i := 2) (v := ?_) rfl (by kernel_rfl) (by kernel_rfl) (by kernel_rfl) (fun _ _ _ h => h) (Or.inl ⟨by kernel_rfl, ?_⟩) hS ?_
                rotate_left
                · intro W hSW
                  go_simp
                  all_goals with_reducible rfl
                refine wpAnyH_take (i := 3) (v := ?_) rfl (by kernel_rfl) (by kernel_rfl) (by kernel_rfl) (fun _ _ _ h => h) (Or.inl ⟨by kernel_rfl, ?_⟩) hS ?_
                rotate_left
                · intro W hSW
                  go_simp
                  all_goals with_reducible rfl
                go_simp
                refine wpAnyH_take (i := 4) (v := .agg (spA a.s)) rfl (by kernel_rfl) (by kernel_rfl) (by kernel_rfl) (fun _ _ _ h => h) (Or.inl ⟨by kernel_rfl, fun W hSW => exec_load_ag spT rfl rfl rfl (AgAt.kept HY.out hSW)⟩) hS ?_
                refine wpAnyH_take (i := 5) (v := ?_) rfl (by kernel_rfl) (by kernel_rfl) (by kernel_rfl) (fun _ _ _ h => h) (Or.inl ⟨by kernel_rfl, ?_⟩) hS ?_
                rotate_left
                · intro W hSW
                  go_simp
                  all_goals with_reducible rfl
                go_simp
                refine wpAnyH_take (i := 6) (v := .agg (spA a.s)) rfl (by kernel_rfl) (by kernel_rfl) (by kernel_rfl) (fun _ _ _ h => h) (Or.inl ⟨by kernel_rfl, fun W hSW => exec_load_part spR rfl rfl [.int .i64 a.s.1.1, .int .i64 a.s.1.2, .string a.s.2] rfl (AgAt.kept HBK.out.act hSW) (acS a)⟩) hS ?_
                go_simp
                refine wpAnyH_ready (rs := [7]) (by kernel_rfl) (by simp) ?_
                refine AllReadyH.cons rfl (fun K hK => ?_) AllReadyH.nil
                go_simp
                go_wp2_with ((go_at_call 14; refine (own_any a.s _).mono ?_; rintro e wO ⟨rfl, hbn⟩))
                refine hK.out _ _ (hS.trans (hbn.mono hS.size)) (fun hS => ?_)
                clear hK K hbn
                refine wpAnyH_take (i := 8) (v := .bool false) rfl (by kernel_rfl) (by kernel_rfl) (by kernel_rfl) (fun _ _ _ h => h) (Or.inl ⟨by kernel_rfl, fun W hSW => exec_neq_sp rfl a.s rfl rfl⟩) hS ?_
                refine wpAnyH_take (i := 9) (v := ?_) rfl (by kernel_rfl) (by kernel_rfl) (by kernel_rfl) (fun _ _ _ h => h) (Or.inl ⟨by kernel_rfl, ?_⟩) hS ?_
                rotate_left
                · intro W hSW
                  go_simp
                  all_goals with_reducible rfl
                go_simp
                refine wpAnyH_done (by kernel_rfl) ?_ _
                go_simp
                replace HBK := Lib.hid (HBK.out.kept hS)
                clear hS HY
                go_wp2_with fail
                refine (HBK.out.same HAL.out).mono ?_
                rintro e wF ⟨rfl, hbF⟩
                have HE := Lib.hid (HBK.out.bel.trans (hbF.mono HBK.out.bel.size))
                clear hbF HBK HAL
                go_wp2
                go_ret
                exact ⟨rfl, HE.out⟩
end Go.Proofs.Ytljojdabmjkkcaa
