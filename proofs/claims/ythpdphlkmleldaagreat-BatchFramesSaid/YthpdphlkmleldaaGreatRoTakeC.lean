/-
  THE DOCUMENT's TAKE: an op is read (kind 6).
  No conditions.
-/
import Derived.Test.YthpdphlkmleldaaGreatRoTakeR
namespace Go.Proofs.YthpdphlkmleldaaGreat
open Go.RowKit

set_option maxRecDepth 100000 in
set_option maxHeartbeats 8000000 in
theorem rtake6_any (B b : Nat) (s : RS) (w : World) (h : RrS w B b s) (hk : (numS s).1 = 6) : Calls Tryz.prog 58 #[.pointer (some ⟨b, 0, none⟩)] w (TookRo w B b (takeRo s)) := by
  obtain ⟨i0, hi, hz0, hz1, hz2⟩ := info_parts oinfo_st
  have hb0 := (Below.refl w.heap.size w).alloc (Nat.le_refl _) (.cells #[.int .i64 0, .int .i64 0, .int .i64 0, .int .i64 0, .int .i64 0, .string ⟨#[]⟩, .slice none 0 0, .int .i64 0, .int .i64 0, .int .i64 0, .string ⟨#[]⟩, .bool false] 52)
  have HN := Lib.hid (rnums_any B b s _ (h.kept hb0))
  have HTK : Hid (takeRo s = endR (rawR (numS s).1 (numS s).2)) := Lib.hid (takeRo_eq (by omega))
  have hblt := h.lt
  rw [hk] at HN HTK
  generalize (numS s).2 = s1 at *
  have HO0 := Lib.hid (Only.of_below (b := b) hb0)
  have HR0 := Lib.hid (show OpAt _ w.heap.size Opp.zero none 0 from OpAt.new w Opp.zero none 0 52)
  clear h hb0 hk
  have HRW : Hid (rawR 6 s1 = ({ Opp.zero with k := 6, nt := (stS s1).1.1, nr := (stS s1).1.2, path := (paR (stS s1).2).1, p := (numS (paR (stS s1).2).2).1, vk := (vlS (numS (paR (stS s1).2).2).2).1.1, vn := (vlS (numS (paR (stS s1).2).2).2).1.2.1, vt := (vlS (numS (paR (stS s1).2).2).2).1.2.2 }, (vlS (numS (paR (stS s1).2).2).2).2)) := Lib.hid rfl
  have HU2 := Lib.hid (fun W h => rsts_any B b s1 W h)
  generalize stS s1 = q2 at *
  obtain ⟨⟨nt, nr⟩, s2⟩ := q2
  dsimp only at *
  have HUL := Lib.hid (fun W h => ruptos_any B b 8 s2 W h)
  have n8 : (uptoS 8 s2).1 ≤ 8 := uptoS_le 8 s2
  have HPR : Hid (paR s2 = lpR (uptoS 8 s2).1 (uptoS 8 s2).2 []) := Lib.hid rfl
  have hzp := paR_le s2
  generalize uptoS 8 s2 = qu at *
  obtain ⟨n, su⟩ := qu
  generalize paR s2 = q3 at *
  obtain ⟨path, s3⟩ := q3
  dsimp only at *
  have HU4 := Lib.hid (fun W h => rnums_any B b s3 W h)
  generalize numS s3 = q4 at *
  obtain ⟨pn, s4⟩ := q4
  dsimp only at *
  have HU5 := Lib.hid (fun W h => rvls_any B b s4 W h)
  have hzv := vlS_size s4
  generalize vlS s4 = q5 at *
  obtain ⟨⟨vk, vn, vt⟩, s5⟩ := q5
  dsimp only at *
  have HSZ := Lib.hid (show Sz ({ Opp.zero with k := 6, nt := nt, nr := nr, path := path, p := pn, vk := vk, vn := vn, vt := vt } : Opp) from ⟨Nat.zero_le _, Nat.le_trans hzv (by decide), Nat.le_trans hzp (by decide)⟩)
  have HE : Hid (takeRo s = endR (({ Opp.zero with k := 6, nt := nt, nr := nr, path := path, p := pn, vk := vk, vn := vn, vt := vt } : Opp), s5)) := Lib.hid (HTK.out.trans (congrArg endR HRW.out))
  clear HTK HRW
  by_cases hez : s5.2 = 0
  · have te : ((s5.2 : Int) != 0) = false := by rw [hez]; rfl
    have te0 : ((s5.2 : Int) == 0) = true := by rw [hez]; rfl
    cases hrg : rightO ({ Opp.zero with k := 6, nt := nt, nr := nr, path := path, p := pn, vk := vk, vn := vn, vt := vt } : Opp) with
    | false =>
      have HRG := Lib.hid hrg
      have HV := Lib.hid (HE.out.trans (endR_no hez hrg))
      clear hrg
      go_enter Tryz.func58, Tryz.ntmps58
      go_wp2_with fail
      refine HN.out.mono ?_
      rintro e wv ⟨rfl, hr1, ho1⟩
      have hr := HR0.out.only ho1 (by omega)
      have hlt1 := hr.lt
      have hb1 := (Below.refl wv.heap.size wv).alloc (Nat.le_refl _) (.cells #[.int .i64 (6 : Int), .int .i64 0, .int .i64 0, .int .i64 0, .int .i64 0, .string ⟨#[]⟩, .slice none 0 0, .int .i64 0, .int .i64 0, .int .i64 0, .string ⟨#[]⟩, .bool false] 52)
      have T := Lib.hid (show RkO w B b w.heap.size wv.heap.size { Opp.zero with k := 6 } none 0 s1 (wv.alloc (.cells #[.int .i64 (6 : Int), .int .i64 0, .int .i64 0, .int .i64 0, .int .i64 0, .string ⟨#[]⟩, .slice none 0 0, .int .i64 0, .int .i64 0, .int .i64 0, .string ⟨#[]⟩, .bool false] 52)) from
        { hR := Nat.le_refl _, hV := hlt1, hb := hblt, res := hr.kept hb1, op := OpAt.new wv { Opp.zero with k := 6 } none 0 52, rd := hr1.kept hb1, only := (HO0.out.trans ho1).trans (Only.of_below (b := b) hb1), own := OwnP.nil _ _ })
      clear hr hr1 ho1 hb1 HR0 HO0
      have x0 := T.out.op.cell 0
      simp only [opL, List.getElem?_cons_zero] at x0
      go_wp2_with fail
      refine (HU2.out _ T.out.rd).mono ?_
      rintro e wr2 ⟨rfl, hr, ho⟩
      clear x0
      replace T := Lib.hid (T.out.read hr ho)
      have f1 := T.out.op.free 1
      have x1 := T.out.op.cell 1
      simp only [opL, List.getElem?_cons_zero, List.getElem?_cons_succ] at x1
      have f2 := T.out.op.free 2
      have x2 := T.out.op.cell 2
      simp only [opL, List.getElem?_cons_zero, List.getElem?_cons_succ] at x2
      clear hr ho
      replace T := Lib.hid (T.out.setN nt nr)
      have x0 := T.out.op.cell 0
      simp only [opL, List.getElem?_cons_zero] at x0
      go_wp2_with fail
      refine (HUL.out _ T.out.rd).mono ?_
      rintro e wl ⟨rfl, hr, ho⟩
      clear x0
      replace T := Lib.hid (T.out.read hr ho)
      clear hr ho
      have x0 := T.out.op.cell 0
      simp only [opL, List.getElem?_cons_zero] at x0
      go_wp2
      go_loopw [5] (fun i wr => ∃ (k : Nat) (acc : List Qm.St) (t : RS) (q : Option Addr) (c : Nat), k ≤ n ∧ i = .int .i64 (k : Int) ∧ RkO w B b w.heap.size wv.heap.size { Opp.zero with k := 6, nt := nt, nr := nr, path := acc } q c t wr ∧ (path, s3) = lpR (n - k) t acc ∧ acc.length = k) (fun i _ => n - (intOf i).toNat)
      case atStart => exact ⟨0, [], _, _, _, Nat.zero_le _, rfl, T.out, HPR.out, rfl⟩
      case round =>
        clear T x0
        obtain ⟨k, acc, t, q, c, hk, rfl, ht, hq, hal⟩ := hrel
        have T := Lib.hid ht
        have HQ := Lib.hid hq
        have HAL := Lib.hid hal
        clear ht hq hal
        have he := T.out.rd.err
        have x0 := T.out.op.cell 0
        simp only [opL, List.getElem?_cons_zero] at x0
        by_cases hlt : k < n
        · have d0 : decide ((k : Int) < (n : Int)) = true := decide_eq_true (by omega)
          by_cases ht0 : t.2 = 0
          · have te0 : ((t.2 : Int) == 0) = true := by rw [ht0]; rfl
            have HNX := Lib.hid (show (path, s3) = lpR (n - (k + 1)) (stS t).2 (acc ++ [(stS t).1]) from by rw [HQ.out, show n - k = (n - (k + 1)) + 1 by omega, lpR, if_neg (by simp [ht0])])
            have HT := Lib.hid (fun W h => rsts_any B b t W h)
            generalize stS t = qq at *
            obtain ⟨⟨st, sr⟩, t2⟩ := qq
            dsimp only at HNX HT
            replace T := Lib.hid (T.out.kept (Below.drew (Below.refl _ _)))
            go_wp2
            refine wp_region_held_drew (S := fun _ => True) (by kernel_rfl) trivial (fun hS => ?_)
            clear x0 he
            generalize wr.drew = w0 at *
            refine wpAnyH_take (i := 0) (v := ?_) rfl (by kernel_rfl) (by kernel_rfl) (by kernel_rfl) (fun _ _ _ h => h) (Or.inl ⟨by kernel_rfl, ?_⟩) hS ?_
            rotate_left
            · intro W hSW
              go_simp
              all_goals with_reducible rfl
            refine wpAnyH_take (i := 2) (v := ?_) rfl (by kernel_rfl) (by kernel_rfl) (by kernel_rfl) (fun _ _ _ h => h) (Or.inl ⟨by kernel_rfl, ?_⟩) hS ?_
            rotate_left
            · intro W hSW
              go_simp
              all_goals with_reducible rfl
            go_simp
            refine wpAnyH_ready (rs := [1, 3]) (by kernel_rfl) (by simp) ?_
            refine AllReadyH.cons rfl (fun K hK => ?_) (AllReadyH.cons rfl (fun K hK => ?_) AllReadyH.nil)
            · have x6 := T.out.op.cell 6
              simp only [opL, List.getElem?_cons_zero, List.getElem?_cons_succ] at x6
              go_simp
              refine hK.out _ _ trivial (fun hS => ?_)
              clear hK K x6
              refine wpAnyH_ready (rs := [3]) (by kernel_rfl) (by simp) ?_
              refine AllReadyH.cons rfl (fun K hK => ?_) AllReadyH.nil
              go_simp
              go_wp2_with ((go_at_call 85; refine (HT.out _ T.out.rd).mono ?_; rintro e w2 ⟨rfl, hr2, ho2⟩))
              replace T := Lib.hid (T.out.read hr2 ho2)
              clear hr2 ho2
              refine hK.out _ _ trivial (fun hS => ?_)
              clear hK K
              refine wpAnyH_ready (rs := [4]) (by kernel_rfl) (by simp) ?_
              refine AllReadyH.cons rfl (fun K hK => ?_) AllReadyH.nil
              have hb3 := (Below.refl w2.heap.size w2).alloc (Nat.le_refl _) (.cells #[.int .i64 st, .int .i64 sr] 47)
              replace T := Lib.hid (T.out.kept hb3)
              have HRW := Lib.hid (rd_st_one w2 (st, sr) 47)
              clear hb3
              go_simp
              refine hK.out _ _ trivial (fun hS => ?_)
              clear hK K
              generalize w2.alloc (.cells #[.int .i64 st, .int .i64 sr] 47) = w3 at *
              refine wpAnyH_ready (rs := [5]) (by kernel_rfl) (by simp) ?_
              refine AllReadyH.cons rfl (fun K hK => ?_) AllReadyH.nil
              refine step_append_kN (by kernel_rfl) _ _ 48 rfl (wv.heap.size + 1) 47 i0 _ 2 16 Tryz.underlying48 hi hz0 hz1 (by decide) hz2 (by decide) rfl _ acc.length (stCells acc) rfl T.out.own _ 1 1 (stCells [(st, sr)]) rfl rfl HRW.out (fun h => by cases h) stCells_one (by have := HAL.out; omega) (by have := T.out.op.lt; omega) ?_
              intro p4 c4 w4 ho4 hg4 _
              have HG := Lib.hid (T.out.push (st, sr) ho4 hg4)
              clear ho4 hg4
              refine hK.out _ _ trivial (fun hS => ?_)
              clear hK K
              refine wpAnyH_take (i := 6) (v := ?_) rfl (by kernel_rfl) (by kernel_rfl) (by kernel_rfl) (fun _ _ _ h => h) (Or.inl ⟨by kernel_rfl, ?_⟩) hS ?_
              rotate_left
              · intro W hSW
                go_simp
                all_goals with_reducible rfl
              go_simp
              refine wpAnyH_ready (rs := [7]) (by kernel_rfl) (by simp) ?_
              refine AllReadyH.cons rfl (fun K hK => ?_) AllReadyH.nil
              have y6 := HG.out.2.cell 6
              have yf := HG.out.2.free 6
              simp only [opL, List.getElem?_cons_zero, List.getElem?_cons_succ] at y6
              go_simp
              refine hK.out _ _ trivial (fun hS => ?_)
              clear hK K y6 yf
              refine wpAnyH_done (by kernel_rfl) ?_ _
              go_simp
              have T2 := Lib.hid HG.out.1
              clear T HG HRW
              generalize w4.setCell ⟨wv.heap.size, 6, none⟩ (.slice p4 (acc.length + 1) c4) = w5 at *
              go_wp2
              go_roundw
              case rel => exact ⟨k + 1, acc ++ [(st, sr)], _, _, _, by omega, by go_num, T2.out, HNX.out, by rw [List.length_append, HAL.out]; rfl⟩
              case measure => simp [intOf]; omega
            · go_simp
              go_wp2_with ((go_at_call 85; refine (HT.out _ T.out.rd).mono ?_; rintro e w2 ⟨rfl, hr2, ho2⟩))
              replace T := Lib.hid (T.out.read hr2 ho2)
              clear hr2 ho2
              refine hK.out _ _ trivial (fun hS => ?_)
              clear hK K
              refine wpAnyH_ready (rs := [1, 4]) (by kernel_rfl) (by simp) ?_
              refine AllReadyH.cons rfl (fun K hK => ?_) (AllReadyH.cons rfl (fun K hK => ?_) AllReadyH.nil)
              · have x6 := T.out.op.cell 6
                simp only [opL, List.getElem?_cons_zero, List.getElem?_cons_succ] at x6
                go_simp
                refine hK.out _ _ trivial (fun hS => ?_)
                clear hK K x6
                refine wpAnyH_ready (rs := [4]) (by kernel_rfl) (by simp) ?_
                refine AllReadyH.cons rfl (fun K hK => ?_) AllReadyH.nil
                have hb3 := (Below.refl w2.heap.size w2).alloc (Nat.le_refl _) (.cells #[.int .i64 st, .int .i64 sr] 47)
                replace T := Lib.hid (T.out.kept hb3)
                have HRW := Lib.hid (rd_st_one w2 (st, sr) 47)
                clear hb3
                go_simp
                refine hK.out _ _ trivial (fun hS => ?_)
                clear hK K
                generalize w2.alloc (.cells #[.int .i64 st, .int .i64 sr] 47) = w3 at *
                refine wpAnyH_ready (rs := [5]) (by kernel_rfl) (by simp) ?_
                refine AllReadyH.cons rfl (fun K hK => ?_) AllReadyH.nil
                refine step_append_kN (by kernel_rfl) _ _ 48 rfl (wv.heap.size + 1) 47 i0 _ 2 16 Tryz.underlying48 hi hz0 hz1 (by decide) hz2 (by decide) rfl _ acc.length (stCells acc) rfl T.out.own _ 1 1 (stCells [(st, sr)]) rfl rfl HRW.out (fun h => by cases h) stCells_one (by have := HAL.out; omega) (by have := T.out.op.lt; omega) ?_
                intro p4 c4 w4 ho4 hg4 _
                have HG := Lib.hid (T.out.push (st, sr) ho4 hg4)
                clear ho4 hg4
                refine hK.out _ _ trivial (fun hS => ?_)
                clear hK K
                refine wpAnyH_take (i := 6) (v := ?_) rfl (by kernel_rfl) (by kernel_rfl) (by kernel_rfl) (fun _ _ _ h => h) (Or.inl ⟨by kernel_rfl, ?_⟩) hS ?_
                rotate_left
                · intro W hSW
                  go_simp
                  all_goals with_reducible rfl
                go_simp
                refine wpAnyH_ready (rs := [7]) (by kernel_rfl) (by simp) ?_
                refine AllReadyH.cons rfl (fun K hK => ?_) AllReadyH.nil
                have y6 := HG.out.2.cell 6
                have yf := HG.out.2.free 6
                simp only [opL, List.getElem?_cons_zero, List.getElem?_cons_succ] at y6
                go_simp
                refine hK.out _ _ trivial (fun hS => ?_)
                clear hK K y6 yf
                refine wpAnyH_done (by kernel_rfl) ?_ _
                go_simp
                have T2 := Lib.hid HG.out.1
                clear T HG HRW
                generalize w4.setCell ⟨wv.heap.size, 6, none⟩ (.slice p4 (acc.length + 1) c4) = w5 at *
                go_wp2
                go_roundw
                case rel => exact ⟨k + 1, acc ++ [(st, sr)], _, _, _, by omega, by go_num, T2.out, HNX.out, by rw [List.length_append, HAL.out]; rfl⟩
                case measure => simp [intOf]; omega
              · have hb3 := (Below.refl w2.heap.size w2).alloc (Nat.le_refl _) (.cells #[.int .i64 st, .int .i64 sr] 47)
                replace T := Lib.hid (T.out.kept hb3)
                have HRW := Lib.hid (rd_st_one w2 (st, sr) 47)
                clear hb3
                go_simp
                refine hK.out _ _ trivial (fun hS => ?_)
                clear hK K
                generalize w2.alloc (.cells #[.int .i64 st, .int .i64 sr] 47) = w3 at *
                refine wpAnyH_ready (rs := [1]) (by kernel_rfl) (by simp) ?_
                refine AllReadyH.cons rfl (fun K hK => ?_) AllReadyH.nil
                have x6 := T.out.op.cell 6
                simp only [opL, List.getElem?_cons_zero, List.getElem?_cons_succ] at x6
                go_simp
                refine hK.out _ _ trivial (fun hS => ?_)
                clear hK K x6
                refine wpAnyH_ready (rs := [5]) (by kernel_rfl) (by simp) ?_
                refine AllReadyH.cons rfl (fun K hK => ?_) AllReadyH.nil
                refine step_append_kN (by kernel_rfl) _ _ 48 rfl (wv.heap.size + 1) 47 i0 _ 2 16 Tryz.underlying48 hi hz0 hz1 (by decide) hz2 (by decide) rfl _ acc.length (stCells acc) rfl T.out.own _ 1 1 (stCells [(st, sr)]) rfl rfl HRW.out (fun h => by cases h) stCells_one (by have := HAL.out; omega) (by have := T.out.op.lt; omega) ?_
                intro p4 c4 w4 ho4 hg4 _
                have HG := Lib.hid (T.out.push (st, sr) ho4 hg4)
                clear ho4 hg4
                refine hK.out _ _ trivial (fun hS => ?_)
                clear hK K
                refine wpAnyH_take (i := 6) (v := ?_) rfl (by kernel_rfl) (by kernel_rfl) (by kernel_rfl) (fun _ _ _ h => h) (Or.inl ⟨by kernel_rfl, ?_⟩) hS ?_
                rotate_left
                · intro W hSW
                  go_simp
                  all_goals with_reducible rfl
                go_simp
                refine wpAnyH_ready (rs := [7]) (by kernel_rfl) (by simp) ?_
                refine AllReadyH.cons rfl (fun K hK => ?_) AllReadyH.nil
                have y6 := HG.out.2.cell 6
                have yf := HG.out.2.free 6
                simp only [opL, List.getElem?_cons_zero, List.getElem?_cons_succ] at y6
                go_simp
                refine hK.out _ _ trivial (fun hS => ?_)
                clear hK K y6 yf
                refine wpAnyH_done (by kernel_rfl) ?_ _
                go_simp
                have T2 := Lib.hid HG.out.1
                clear T HG HRW
                generalize w4.setCell ⟨wv.heap.size, 6, none⟩ (.slice p4 (acc.length + 1) c4) = w5 at *
                go_wp2
                go_roundw
                case rel => exact ⟨k + 1, acc ++ [(st, sr)], _, _, _, by omega, by go_num, T2.out, HNX.out, by rw [List.length_append, HAL.out]; rfl⟩
                case measure => simp [intOf]; omega
          · have te0 : ((t.2 : Int) == 0) = false := by rw [beq_eq_false_iff_ne]; omega
            have hpq : lpR (n - k) t acc = (acc, t) := by rw [show n - k = (n - k - 1) + 1 by omega, lpR, if_pos ht0]
            rw [hpq] at HQ
            obtain ⟨rfl, rfl⟩ : path = acc ∧ s3 = t := by have := HQ.out; exact ⟨congrArg Prod.fst this, congrArg Prod.snd this⟩
            clear hpq HQ HPR
            go_wp2_with fail
            refine (HU4.out _ T.out.rd).mono ?_
            rintro e wr4 ⟨rfl, hr, ho⟩
            clear x0
            replace T := Lib.hid (T.out.read hr ho)
            have f7 := T.out.op.free 7
            have x7 := T.out.op.cell 7
            simp only [opL, List.getElem?_cons_zero, List.getElem?_cons_succ] at x7
            clear hr ho
            replace T := Lib.hid (T.out.setP (pn : Int))
            have x0 := T.out.op.cell 0
            simp only [opL, List.getElem?_cons_zero] at x0
            go_wp2_with fail
            refine (HU5.out _ T.out.rd).mono ?_
            rintro e wr5 ⟨rfl, hr, ho⟩
            clear x0
            replace T := Lib.hid (T.out.read hr ho)
            have f8 := T.out.op.free 8
            have x8 := T.out.op.cell 8
            simp only [opL, List.getElem?_cons_zero, List.getElem?_cons_succ] at x8
            have f9 := T.out.op.free 9
            have x9 := T.out.op.cell 9
            simp only [opL, List.getElem?_cons_zero, List.getElem?_cons_succ] at x9
            have f10 := T.out.op.free 10
            have x10 := T.out.op.cell 10
            simp only [opL, List.getElem?_cons_zero, List.getElem?_cons_succ] at x10
            clear hr ho
            replace T := Lib.hid (T.out.setV vk vn vt)
            have x0 := T.out.op.cell 0
            simp only [opL, List.getElem?_cons_zero] at x0
            have he := T.out.rd.err
            have hop := T.out.op
            go_wp2_with (refine wpList_load_opG otR (by kernel_rfl) _ rfl _ rfl _ _ _ (by assumption) ?_)
            refine (rright_any _ _ _ _ HSZ.out T.out.pa).mono ?_
            rw [HRG.out]
            rintro e wa ⟨rfl, hba⟩
            replace T := Lib.hid (T.out.kept hba)
            clear hba hop x0 he
            go_wp2_with fail
            refine (rfails_any B b s5 _ T.out.rd).mono ?_
            rintro e wb ⟨rfl, hr, ho⟩
            replace T := Lib.hid (T.out.read hr ho)
            clear hr ho
            have hne := failS_ne s5
            generalize failS 21 s5 = sf at *
            have te2 : ((sf.2 : Int) != 0) = true := by rw [bne_iff_ne]; omega
            have he := T.out.rd.err
            obtain ⟨TT, hTT⟩ := T.out.res
            go_wp2_with (refine wpList_store_op otR rfl _ _ rfl _ rfl TT _ hTT rfl Opp.zero none 0 rfl ?_; intro wz hvz hko _ hbn)
            refine bodyPost_ret (results_op otR _ rfl hvz rfl) rfl ?_
            rw [HV.out]
            exact ⟨none, 0, rfl, Pa.none _ _ rfl, T.out.done hbn, T.out.doneO hbn, fun a h => by cases h⟩
        · obtain rfl : k = n := by omega
          have d0 : decide ((k : Int) < (k : Int)) = false := decide_eq_false (by omega)
          have hpq : lpR (k - k) t acc = (acc, t) := by rw [Nat.sub_self]; rfl
          rw [hpq] at HQ
          obtain ⟨rfl, rfl⟩ : path = acc ∧ s3 = t := by have := HQ.out; exact ⟨congrArg Prod.fst this, congrArg Prod.snd this⟩
          clear hpq HQ HPR
          go_wp2_with fail
          refine (HU4.out _ T.out.rd).mono ?_
          rintro e wr4 ⟨rfl, hr, ho⟩
          clear x0
          replace T := Lib.hid (T.out.read hr ho)
          have f7 := T.out.op.free 7
          have x7 := T.out.op.cell 7
          simp only [opL, List.getElem?_cons_zero, List.getElem?_cons_succ] at x7
          clear hr ho
          replace T := Lib.hid (T.out.setP (pn : Int))
          have x0 := T.out.op.cell 0
          simp only [opL, List.getElem?_cons_zero] at x0
          go_wp2_with fail
          refine (HU5.out _ T.out.rd).mono ?_
          rintro e wr5 ⟨rfl, hr, ho⟩
          clear x0
          replace T := Lib.hid (T.out.read hr ho)
          have f8 := T.out.op.free 8
          have x8 := T.out.op.cell 8
          simp only [opL, List.getElem?_cons_zero, List.getElem?_cons_succ] at x8
          have f9 := T.out.op.free 9
          have x9 := T.out.op.cell 9
          simp only [opL, List.getElem?_cons_zero, List.getElem?_cons_succ] at x9
          have f10 := T.out.op.free 10
          have x10 := T.out.op.cell 10
          simp only [opL, List.getElem?_cons_zero, List.getElem?_cons_succ] at x10
          clear hr ho
          replace T := Lib.hid (T.out.setV vk vn vt)
          have x0 := T.out.op.cell 0
          simp only [opL, List.getElem?_cons_zero] at x0
          have he := T.out.rd.err
          have hop := T.out.op
          go_wp2_with (refine wpList_load_opG otR (by kernel_rfl) _ rfl _ rfl _ _ _ (by assumption) ?_)
          refine (rright_any _ _ _ _ HSZ.out T.out.pa).mono ?_
          rw [HRG.out]
          rintro e wa ⟨rfl, hba⟩
          replace T := Lib.hid (T.out.kept hba)
          clear hba hop x0 he
          go_wp2_with fail
          refine (rfails_any B b s5 _ T.out.rd).mono ?_
          rintro e wb ⟨rfl, hr, ho⟩
          replace T := Lib.hid (T.out.read hr ho)
          clear hr ho
          have hne := failS_ne s5
          generalize failS 21 s5 = sf at *
          have te2 : ((sf.2 : Int) != 0) = true := by rw [bne_iff_ne]; omega
          have he := T.out.rd.err
          obtain ⟨TT, hTT⟩ := T.out.res
          go_wp2_with (refine wpList_store_op otR rfl _ _ rfl _ rfl TT _ hTT rfl Opp.zero none 0 rfl ?_; intro wz hvz hko _ hbn)
          refine bodyPost_ret (results_op otR _ rfl hvz rfl) rfl ?_
          rw [HV.out]
          exact ⟨none, 0, rfl, Pa.none _ _ rfl, T.out.done hbn, T.out.doneO hbn, fun a h => by cases h⟩
    | true =>
      have HRG := Lib.hid hrg
      have HV := Lib.hid (HE.out.trans (endR_ok hrg hez))
      clear hrg
      go_enter Tryz.func58, Tryz.ntmps58
      go_wp2_with fail
      refine HN.out.mono ?_
      rintro e wv ⟨rfl, hr1, ho1⟩
      have hr := HR0.out.only ho1 (by omega)
      have hlt1 := hr.lt
      have hb1 := (Below.refl wv.heap.size wv).alloc (Nat.le_refl _) (.cells #[.int .i64 (6 : Int), .int .i64 0, .int .i64 0, .int .i64 0, .int .i64 0, .string ⟨#[]⟩, .slice none 0 0, .int .i64 0, .int .i64 0, .int .i64 0, .string ⟨#[]⟩, .bool false] 52)
      have T := Lib.hid (show RkO w B b w.heap.size wv.heap.size { Opp.zero with k := 6 } none 0 s1 (wv.alloc (.cells #[.int .i64 (6 : Int), .int .i64 0, .int .i64 0, .int .i64 0, .int .i64 0, .string ⟨#[]⟩, .slice none 0 0, .int .i64 0, .int .i64 0, .int .i64 0, .string ⟨#[]⟩, .bool false] 52)) from
        { hR := Nat.le_refl _, hV := hlt1, hb := hblt, res := hr.kept hb1, op := OpAt.new wv { Opp.zero with k := 6 } none 0 52, rd := hr1.kept hb1, only := (HO0.out.trans ho1).trans (Only.of_below (b := b) hb1), own := OwnP.nil _ _ })
      clear hr hr1 ho1 hb1 HR0 HO0
      have x0 := T.out.op.cell 0
      simp only [opL, List.getElem?_cons_zero] at x0
      go_wp2_with fail
      refine (HU2.out _ T.out.rd).mono ?_
      rintro e wr2 ⟨rfl, hr, ho⟩
      clear x0
      replace T := Lib.hid (T.out.read hr ho)
      have f1 := T.out.op.free 1
      have x1 := T.out.op.cell 1
      simp only [opL, List.getElem?_cons_zero, List.getElem?_cons_succ] at x1
      have f2 := T.out.op.free 2
      have x2 := T.out.op.cell 2
      simp only [opL, List.getElem?_cons_zero, List.getElem?_cons_succ] at x2
      clear hr ho
      replace T := Lib.hid (T.out.setN nt nr)
      have x0 := T.out.op.cell 0
      simp only [opL, List.getElem?_cons_zero] at x0
      go_wp2_with fail
      refine (HUL.out _ T.out.rd).mono ?_
      rintro e wl ⟨rfl, hr, ho⟩
      clear x0
      replace T := Lib.hid (T.out.read hr ho)
      clear hr ho
      have x0 := T.out.op.cell 0
      simp only [opL, List.getElem?_cons_zero] at x0
      go_wp2
      go_loopw [5] (fun i wr => ∃ (k : Nat) (acc : List Qm.St) (t : RS) (q : Option Addr) (c : Nat), k ≤ n ∧ i = .int .i64 (k : Int) ∧ RkO w B b w.heap.size wv.heap.size { Opp.zero with k := 6, nt := nt, nr := nr, path := acc } q c t wr ∧ (path, s3) = lpR (n - k) t acc ∧ acc.length = k) (fun i _ => n - (intOf i).toNat)
      case atStart => exact ⟨0, [], _, _, _, Nat.zero_le _, rfl, T.out, HPR.out, rfl⟩
      case round =>
        clear T x0
        obtain ⟨k, acc, t, q, c, hk, rfl, ht, hq, hal⟩ := hrel
        have T := Lib.hid ht
        have HQ := Lib.hid hq
        have HAL := Lib.hid hal
        clear ht hq hal
        have he := T.out.rd.err
        have x0 := T.out.op.cell 0
        simp only [opL, List.getElem?_cons_zero] at x0
        by_cases hlt : k < n
        · have d0 : decide ((k : Int) < (n : Int)) = true := decide_eq_true (by omega)
          by_cases ht0 : t.2 = 0
          · have te0 : ((t.2 : Int) == 0) = true := by rw [ht0]; rfl
            have HNX := Lib.hid (show (path, s3) = lpR (n - (k + 1)) (stS t).2 (acc ++ [(stS t).1]) from by rw [HQ.out, show n - k = (n - (k + 1)) + 1 by omega, lpR, if_neg (by simp [ht0])])
            have HT := Lib.hid (fun W h => rsts_any B b t W h)
            generalize stS t = qq at *
            obtain ⟨⟨st, sr⟩, t2⟩ := qq
            dsimp only at HNX HT
            replace T := Lib.hid (T.out.kept (Below.drew (Below.refl _ _)))
            go_wp2
            refine wp_region_held_drew (S := fun _ => True) (by kernel_rfl) trivial (fun hS => ?_)
            clear x0 he
            generalize wr.drew = w0 at *
            refine wpAnyH_take (i := 0) (v := ?_) rfl (by kernel_rfl) (by kernel_rfl) (by kernel_rfl) (fun _ _ _ h => h) (Or.inl ⟨by kernel_rfl, ?_⟩) hS ?_
            rotate_left
            · intro W hSW
              go_simp
              all_goals with_reducible rfl
            refine wpAnyH_take (i := 2) (v := ?_) rfl (by kernel_rfl) (by kernel_rfl) (by kernel_rfl) (fun _ _ _ h => h) (Or.inl ⟨by kernel_rfl, ?_⟩) hS ?_
            rotate_left
            · intro W hSW
              go_simp
              all_goals with_reducible rfl
            go_simp
            refine wpAnyH_ready (rs := [1, 3]) (by kernel_rfl) (by simp) ?_
            refine AllReadyH.cons rfl (fun K hK => ?_) (AllReadyH.cons rfl (fun K hK => ?_) AllReadyH.nil)
            · have x6 := T.out.op.cell 6
              simp only [opL, List.getElem?_cons_zero, List.getElem?_cons_succ] at x6
              go_simp
              refine hK.out _ _ trivial (fun hS => ?_)
              clear hK K x6
              refine wpAnyH_ready (rs := [3]) (by kernel_rfl) (by simp) ?_
              refine AllReadyH.cons rfl (fun K hK => ?_) AllReadyH.nil
              go_simp
              go_wp2_with ((go_at_call 85; refine (HT.out _ T.out.rd).mono ?_; rintro e w2 ⟨rfl, hr2, ho2⟩))
              replace T := Lib.hid (T.out.read hr2 ho2)
              clear hr2 ho2
              refine hK.out _ _ trivial (fun hS => ?_)
              clear hK K
              refine wpAnyH_ready (rs := [4]) (by kernel_rfl) (by simp) ?_
              refine AllReadyH.cons rfl (fun K hK => ?_) AllReadyH.nil
              have hb3 := (Below.refl w2.heap.size w2).alloc (Nat.le_refl _) (.cells #[.int .i64 st, .int .i64 sr] 47)
              replace T := Lib.hid (T.out.kept hb3)
              have HRW := Lib.hid (rd_st_one w2 (st, sr) 47)
              clear hb3
              go_simp
              refine hK.out _ _ trivial (fun hS => ?_)
              clear hK K
              generalize w2.alloc (.cells #[.int .i64 st, .int .i64 sr] 47) = w3 at *
              refine wpAnyH_ready (rs := [5]) (by kernel_rfl) (by simp) ?_
              refine AllReadyH.cons rfl (fun K hK => ?_) AllReadyH.nil
              refine step_append_kN (by kernel_rfl) _ _ 48 rfl (wv.heap.size + 1) 47 i0 _ 2 16 Tryz.underlying48 hi hz0 hz1 (by decide) hz2 (by decide) rfl _ acc.length (stCells acc) rfl T.out.own _ 1 1 (stCells [(st, sr)]) rfl rfl HRW.out (fun h => by cases h) stCells_one (by have := HAL.out; omega) (by have := T.out.op.lt; omega) ?_
              intro p4 c4 w4 ho4 hg4 _
              have HG := Lib.hid (T.out.push (st, sr) ho4 hg4)
              clear ho4 hg4
              refine hK.out _ _ trivial (fun hS => ?_)
              clear hK K
              refine wpAnyH_take (i := 6) (v := ?_) rfl (by kernel_rfl) (by kernel_rfl) (by kernel_rfl) (fun _ _ _ h => h) (Or.inl ⟨by kernel_rfl, ?_⟩) hS ?_
              rotate_left
              · intro W hSW
                go_simp
                all_goals with_reducible rfl
              go_simp
              refine wpAnyH_ready (rs := [7]) (by kernel_rfl) (by simp) ?_
              refine AllReadyH.cons rfl (fun K hK => ?_) AllReadyH.nil
              have y6 := HG.out.2.cell 6
              have yf := HG.out.2.free 6
              simp only [opL, List.getElem?_cons_zero, List.getElem?_cons_succ] at y6
              go_simp
              refine hK.out _ _ trivial (fun hS => ?_)
              clear hK K y6 yf
              refine wpAnyH_done (by kernel_rfl) ?_ _
              go_simp
              have T2 := Lib.hid HG.out.1
              clear T HG HRW
              generalize w4.setCell ⟨wv.heap.size, 6, none⟩ (.slice p4 (acc.length + 1) c4) = w5 at *
              go_wp2
              go_roundw
              case rel => exact ⟨k + 1, acc ++ [(st, sr)], _, _, _, by omega, by go_num, T2.out, HNX.out, by rw [List.length_append, HAL.out]; rfl⟩
              case measure => simp [intOf]; omega
            · go_simp
              go_wp2_with ((go_at_call 85; refine (HT.out _ T.out.rd).mono ?_; rintro e w2 ⟨rfl, hr2, ho2⟩))
              replace T := Lib.hid (T.out.read hr2 ho2)
              clear hr2 ho2
              refine hK.out _ _ trivial (fun hS => ?_)
              clear hK K
              refine wpAnyH_ready (rs := [1, 4]) (by kernel_rfl) (by simp) ?_
              refine AllReadyH.cons rfl (fun K hK => ?_) (AllReadyH.cons rfl (fun K hK => ?_) AllReadyH.nil)
              · have x6 := T.out.op.cell 6
                simp only [opL, List.getElem?_cons_zero, List.getElem?_cons_succ] at x6
                go_simp
                refine hK.out _ _ trivial (fun hS => ?_)
                clear hK K x6
                refine wpAnyH_ready (rs := [4]) (by kernel_rfl) (by simp) ?_
                refine AllReadyH.cons rfl (fun K hK => ?_) AllReadyH.nil
                have hb3 := (Below.refl w2.heap.size w2).alloc (Nat.le_refl _) (.cells #[.int .i64 st, .int .i64 sr] 47)
                replace T := Lib.hid (T.out.kept hb3)
                have HRW := Lib.hid (rd_st_one w2 (st, sr) 47)
                clear hb3
                go_simp
                refine hK.out _ _ trivial (fun hS => ?_)
                clear hK K
                generalize w2.alloc (.cells #[.int .i64 st, .int .i64 sr] 47) = w3 at *
                refine wpAnyH_ready (rs := [5]) (by kernel_rfl) (by simp) ?_
                refine AllReadyH.cons rfl (fun K hK => ?_) AllReadyH.nil
                refine step_append_kN (by kernel_rfl) _ _ 48 rfl (wv.heap.size + 1) 47 i0 _ 2 16 Tryz.underlying48 hi hz0 hz1 (by decide) hz2 (by decide) rfl _ acc.length (stCells acc) rfl T.out.own _ 1 1 (stCells [(st, sr)]) rfl rfl HRW.out (fun h => by cases h) stCells_one (by have := HAL.out; omega) (by have := T.out.op.lt; omega) ?_
                intro p4 c4 w4 ho4 hg4 _
                have HG := Lib.hid (T.out.push (st, sr) ho4 hg4)
                clear ho4 hg4
                refine hK.out _ _ trivial (fun hS => ?_)
                clear hK K
                refine wpAnyH_take (i := 6) (v := ?_) rfl (by kernel_rfl) (by kernel_rfl) (by kernel_rfl) (fun _ _ _ h => h) (Or.inl ⟨by kernel_rfl, ?_⟩) hS ?_
                rotate_left
                · intro W hSW
                  go_simp
                  all_goals with_reducible rfl
                go_simp
                refine wpAnyH_ready (rs := [7]) (by kernel_rfl) (by simp) ?_
                refine AllReadyH.cons rfl (fun K hK => ?_) AllReadyH.nil
                have y6 := HG.out.2.cell 6
                have yf := HG.out.2.free 6
                simp only [opL, List.getElem?_cons_zero, List.getElem?_cons_succ] at y6
                go_simp
                refine hK.out _ _ trivial (fun hS => ?_)
                clear hK K y6 yf
                refine wpAnyH_done (by kernel_rfl) ?_ _
                go_simp
                have T2 := Lib.hid HG.out.1
                clear T HG HRW
                generalize w4.setCell ⟨wv.heap.size, 6, none⟩ (.slice p4 (acc.length + 1) c4) = w5 at *
                go_wp2
                go_roundw
                case rel => exact ⟨k + 1, acc ++ [(st, sr)], _, _, _, by omega, by go_num, T2.out, HNX.out, by rw [List.length_append, HAL.out]; rfl⟩
                case measure => simp [intOf]; omega
              · have hb3 := (Below.refl w2.heap.size w2).alloc (Nat.le_refl _) (.cells #[.int .i64 st, .int .i64 sr] 47)
                replace T := Lib.hid (T.out.kept hb3)
                have HRW := Lib.hid (rd_st_one w2 (st, sr) 47)
                clear hb3
                go_simp
                refine hK.out _ _ trivial (fun hS => ?_)
                clear hK K
                generalize w2.alloc (.cells #[.int .i64 st, .int .i64 sr] 47) = w3 at *
                refine wpAnyH_ready (rs := [1]) (by kernel_rfl) (by simp) ?_
                refine AllReadyH.cons rfl (fun K hK => ?_) AllReadyH.nil
                have x6 := T.out.op.cell 6
                simp only [opL, List.getElem?_cons_zero, List.getElem?_cons_succ] at x6
                go_simp
                refine hK.out _ _ trivial (fun hS => ?_)
                clear hK K x6
                refine wpAnyH_ready (rs := [5]) (by kernel_rfl) (by simp) ?_
                refine AllReadyH.cons rfl (fun K hK => ?_) AllReadyH.nil
                refine step_append_kN (by kernel_rfl) _ _ 48 rfl (wv.heap.size + 1) 47 i0 _ 2 16 Tryz.underlying48 hi hz0 hz1 (by decide) hz2 (by decide) rfl _ acc.length (stCells acc) rfl T.out.own _ 1 1 (stCells [(st, sr)]) rfl rfl HRW.out (fun h => by cases h) stCells_one (by have := HAL.out; omega) (by have := T.out.op.lt; omega) ?_
                intro p4 c4 w4 ho4 hg4 _
                have HG := Lib.hid (T.out.push (st, sr) ho4 hg4)
                clear ho4 hg4
                refine hK.out _ _ trivial (fun hS => ?_)
                clear hK K
                refine wpAnyH_take (i := 6) (v := ?_) rfl (by kernel_rfl) (by kernel_rfl) (by kernel_rfl) (fun _ _ _ h => h) (Or.inl ⟨by kernel_rfl, ?_⟩) hS ?_
                rotate_left
                · intro W hSW
                  go_simp
                  all_goals with_reducible rfl
                go_simp
                refine wpAnyH_ready (rs := [7]) (by kernel_rfl) (by simp) ?_
                refine AllReadyH.cons rfl (fun K hK => ?_) AllReadyH.nil
                have y6 := HG.out.2.cell 6
                have yf := HG.out.2.free 6
                simp only [opL, List.getElem?_cons_zero, List.getElem?_cons_succ] at y6
                go_simp
                refine hK.out _ _ trivial (fun hS => ?_)
                clear hK K y6 yf
                refine wpAnyH_done (by kernel_rfl) ?_ _
                go_simp
                have T2 := Lib.hid HG.out.1
                clear T HG HRW
                generalize w4.setCell ⟨wv.heap.size, 6, none⟩ (.slice p4 (acc.length + 1) c4) = w5 at *
                go_wp2
                go_roundw
                case rel => exact ⟨k + 1, acc ++ [(st, sr)], _, _, _, by omega, by go_num, T2.out, HNX.out, by rw [List.length_append, HAL.out]; rfl⟩
                case measure => simp [intOf]; omega
          · have te0 : ((t.2 : Int) == 0) = false := by rw [beq_eq_false_iff_ne]; omega
            have hpq : lpR (n - k) t acc = (acc, t) := by rw [show n - k = (n - k - 1) + 1 by omega, lpR, if_pos ht0]
            rw [hpq] at HQ
            obtain ⟨rfl, rfl⟩ : path = acc ∧ s3 = t := by have := HQ.out; exact ⟨congrArg Prod.fst this, congrArg Prod.snd this⟩
            clear hpq HQ HPR
            go_wp2_with fail
            refine (HU4.out _ T.out.rd).mono ?_
            rintro e wr4 ⟨rfl, hr, ho⟩
            clear x0
            replace T := Lib.hid (T.out.read hr ho)
            have f7 := T.out.op.free 7
            have x7 := T.out.op.cell 7
            simp only [opL, List.getElem?_cons_zero, List.getElem?_cons_succ] at x7
            clear hr ho
            replace T := Lib.hid (T.out.setP (pn : Int))
            have x0 := T.out.op.cell 0
            simp only [opL, List.getElem?_cons_zero] at x0
            go_wp2_with fail
            refine (HU5.out _ T.out.rd).mono ?_
            rintro e wr5 ⟨rfl, hr, ho⟩
            clear x0
            replace T := Lib.hid (T.out.read hr ho)
            have f8 := T.out.op.free 8
            have x8 := T.out.op.cell 8
            simp only [opL, List.getElem?_cons_zero, List.getElem?_cons_succ] at x8
            have f9 := T.out.op.free 9
            have x9 := T.out.op.cell 9
            simp only [opL, List.getElem?_cons_zero, List.getElem?_cons_succ] at x9
            have f10 := T.out.op.free 10
            have x10 := T.out.op.cell 10
            simp only [opL, List.getElem?_cons_zero, List.getElem?_cons_succ] at x10
            clear hr ho
            replace T := Lib.hid (T.out.setV vk vn vt)
            have x0 := T.out.op.cell 0
            simp only [opL, List.getElem?_cons_zero] at x0
            have he := T.out.rd.err
            have hop := T.out.op
            go_wp2_with (refine wpList_load_opG otR (by kernel_rfl) _ rfl _ rfl _ _ _ (by assumption) ?_)
            refine (rright_any _ _ _ _ HSZ.out T.out.pa).mono ?_
            rw [HRG.out]
            rintro e wa ⟨rfl, hba⟩
            replace T := Lib.hid (T.out.kept hba)
            clear hba hop x0 he
            have he := T.out.rd.err
            have hop := T.out.op
            obtain ⟨TT, hTT⟩ := T.out.res
            go_wp2_with (first | (refine wpList_load_op otR rfl _ rfl _ rfl _ _ _ (by assumption) ?_) | (refine wpList_store_op otR rfl _ _ rfl _ rfl TT _ hTT rfl _ _ _ rfl ?_; intro wz hvz hko _ hbn))
            refine bodyPost_ret (results_op otR _ rfl hvz rfl) rfl ?_
            rw [HV.out]
            exact ⟨_, _, rfl, T.out.donePa hko, T.out.done hbn, T.out.doneO hbn, T.out.doneN⟩
        · obtain rfl : k = n := by omega
          have d0 : decide ((k : Int) < (k : Int)) = false := decide_eq_false (by omega)
          have hpq : lpR (k - k) t acc = (acc, t) := by rw [Nat.sub_self]; rfl
          rw [hpq] at HQ
          obtain ⟨rfl, rfl⟩ : path = acc ∧ s3 = t := by have := HQ.out; exact ⟨congrArg Prod.fst this, congrArg Prod.snd this⟩
          clear hpq HQ HPR
          go_wp2_with fail
          refine (HU4.out _ T.out.rd).mono ?_
          rintro e wr4 ⟨rfl, hr, ho⟩
          clear x0
          replace T := Lib.hid (T.out.read hr ho)
          have f7 := T.out.op.free 7
          have x7 := T.out.op.cell 7
          simp only [opL, List.getElem?_cons_zero, List.getElem?_cons_succ] at x7
          clear hr ho
          replace T := Lib.hid (T.out.setP (pn : Int))
          have x0 := T.out.op.cell 0
          simp only [opL, List.getElem?_cons_zero] at x0
          go_wp2_with fail
          refine (HU5.out _ T.out.rd).mono ?_
          rintro e wr5 ⟨rfl, hr, ho⟩
          clear x0
          replace T := Lib.hid (T.out.read hr ho)
          have f8 := T.out.op.free 8
          have x8 := T.out.op.cell 8
          simp only [opL, List.getElem?_cons_zero, List.getElem?_cons_succ] at x8
          have f9 := T.out.op.free 9
          have x9 := T.out.op.cell 9
          simp only [opL, List.getElem?_cons_zero, List.getElem?_cons_succ] at x9
          have f10 := T.out.op.free 10
          have x10 := T.out.op.cell 10
          simp only [opL, List.getElem?_cons_zero, List.getElem?_cons_succ] at x10
          clear hr ho
          replace T := Lib.hid (T.out.setV vk vn vt)
          have x0 := T.out.op.cell 0
          simp only [opL, List.getElem?_cons_zero] at x0
          have he := T.out.rd.err
          have hop := T.out.op
          go_wp2_with (refine wpList_load_opG otR (by kernel_rfl) _ rfl _ rfl _ _ _ (by assumption) ?_)
          refine (rright_any _ _ _ _ HSZ.out T.out.pa).mono ?_
          rw [HRG.out]
          rintro e wa ⟨rfl, hba⟩
          replace T := Lib.hid (T.out.kept hba)
          clear hba hop x0 he
          have he := T.out.rd.err
          have hop := T.out.op
          obtain ⟨TT, hTT⟩ := T.out.res
          go_wp2_with (first | (refine wpList_load_op otR rfl _ rfl _ rfl _ _ _ (by assumption) ?_) | (refine wpList_store_op otR rfl _ _ rfl _ rfl TT _ hTT rfl _ _ _ rfl ?_; intro wz hvz hko _ hbn))
          refine bodyPost_ret (results_op otR _ rfl hvz rfl) rfl ?_
          rw [HV.out]
          exact ⟨_, _, rfl, T.out.donePa hko, T.out.done hbn, T.out.doneO hbn, T.out.doneN⟩
  · have te : ((s5.2 : Int) != 0) = true := by rw [bne_iff_ne]; omega
    have te0 : ((s5.2 : Int) == 0) = false := by rw [beq_eq_false_iff_ne]; omega
    have HV := Lib.hid (HE.out.trans (endR_err (q := (({ Opp.zero with k := 6, nt := nt, nr := nr, path := path, p := pn, vk := vk, vn := vn, vt := vt } : Opp), s5)) hez))
    go_enter Tryz.func58, Tryz.ntmps58
    go_wp2_with fail
    refine HN.out.mono ?_
    rintro e wv ⟨rfl, hr1, ho1⟩
    have hr := HR0.out.only ho1 (by omega)
    have hlt1 := hr.lt
    have hb1 := (Below.refl wv.heap.size wv).alloc (Nat.le_refl _) (.cells #[.int .i64 (6 : Int), .int .i64 0, .int .i64 0, .int .i64 0, .int .i64 0, .string ⟨#[]⟩, .slice none 0 0, .int .i64 0, .int .i64 0, .int .i64 0, .string ⟨#[]⟩, .bool false] 52)
    have T := Lib.hid (show RkO w B b w.heap.size wv.heap.size { Opp.zero with k := 6 } none 0 s1 (wv.alloc (.cells #[.int .i64 (6 : Int), .int .i64 0, .int .i64 0, .int .i64 0, .int .i64 0, .string ⟨#[]⟩, .slice none 0 0, .int .i64 0, .int .i64 0, .int .i64 0, .string ⟨#[]⟩, .bool false] 52)) from
      { hR := Nat.le_refl _, hV := hlt1, hb := hblt, res := hr.kept hb1, op := OpAt.new wv { Opp.zero with k := 6 } none 0 52, rd := hr1.kept hb1, only := (HO0.out.trans ho1).trans (Only.of_below (b := b) hb1), own := OwnP.nil _ _ })
    clear hr hr1 ho1 hb1 HR0 HO0
    have x0 := T.out.op.cell 0
    simp only [opL, List.getElem?_cons_zero] at x0
    go_wp2_with fail
    refine (HU2.out _ T.out.rd).mono ?_
    rintro e wr2 ⟨rfl, hr, ho⟩
    clear x0
    replace T := Lib.hid (T.out.read hr ho)
    have f1 := T.out.op.free 1
    have x1 := T.out.op.cell 1
    simp only [opL, List.getElem?_cons_zero, List.getElem?_cons_succ] at x1
    have f2 := T.out.op.free 2
    have x2 := T.out.op.cell 2
    simp only [opL, List.getElem?_cons_zero, List.getElem?_cons_succ] at x2
    clear hr ho
    replace T := Lib.hid (T.out.setN nt nr)
    have x0 := T.out.op.cell 0
    simp only [opL, List.getElem?_cons_zero] at x0
    go_wp2_with fail
    refine (HUL.out _ T.out.rd).mono ?_
    rintro e wl ⟨rfl, hr, ho⟩
    clear x0
    replace T := Lib.hid (T.out.read hr ho)
    clear hr ho
    have x0 := T.out.op.cell 0
    simp only [opL, List.getElem?_cons_zero] at x0
    go_wp2
    go_loopw [5] (fun i wr => ∃ (k : Nat) (acc : List Qm.St) (t : RS) (q : Option Addr) (c : Nat), k ≤ n ∧ i = .int .i64 (k : Int) ∧ RkO w B b w.heap.size wv.heap.size { Opp.zero with k := 6, nt := nt, nr := nr, path := acc } q c t wr ∧ (path, s3) = lpR (n - k) t acc ∧ acc.length = k) (fun i _ => n - (intOf i).toNat)
    case atStart => exact ⟨0, [], _, _, _, Nat.zero_le _, rfl, T.out, HPR.out, rfl⟩
    case round =>
      clear T x0
      obtain ⟨k, acc, t, q, c, hk, rfl, ht, hq, hal⟩ := hrel
      have T := Lib.hid ht
      have HQ := Lib.hid hq
      have HAL := Lib.hid hal
      clear ht hq hal
      have he := T.out.rd.err
      have x0 := T.out.op.cell 0
      simp only [opL, List.getElem?_cons_zero] at x0
      by_cases hlt : k < n
      · have d0 : decide ((k : Int) < (n : Int)) = true := decide_eq_true (by omega)
        by_cases ht0 : t.2 = 0
        · have te0 : ((t.2 : Int) == 0) = true := by rw [ht0]; rfl
          have HNX := Lib.hid (show (path, s3) = lpR (n - (k + 1)) (stS t).2 (acc ++ [(stS t).1]) from by rw [HQ.out, show n - k = (n - (k + 1)) + 1 by omega, lpR, if_neg (by simp [ht0])])
          have HT := Lib.hid (fun W h => rsts_any B b t W h)
          generalize stS t = qq at *
          obtain ⟨⟨st, sr⟩, t2⟩ := qq
          dsimp only at HNX HT
          replace T := Lib.hid (T.out.kept (Below.drew (Below.refl _ _)))
          go_wp2
          refine wp_region_held_drew (S := fun _ => True) (by kernel_rfl) trivial (fun hS => ?_)
          clear x0 he
          generalize wr.drew = w0 at *
          refine wpAnyH_take (i := 0) (v := ?_) rfl (by kernel_rfl) (by kernel_rfl) (by kernel_rfl) (fun _ _ _ h => h) (Or.inl ⟨by kernel_rfl, ?_⟩) hS ?_
          rotate_left
          · intro W hSW
            go_simp
            all_goals with_reducible rfl
          refine wpAnyH_take (i := 2) (v := ?_) rfl (by kernel_rfl) (by kernel_rfl) (by kernel_rfl) (fun _ _ _ h => h) (Or.inl ⟨by kernel_rfl, ?_⟩) hS ?_
          rotate_left
          · intro W hSW
            go_simp
            all_goals with_reducible rfl
          go_simp
          refine wpAnyH_ready (rs := [1, 3]) (by kernel_rfl) (by simp) ?_
          refine AllReadyH.cons rfl (fun K hK => ?_) (AllReadyH.cons rfl (fun K hK => ?_) AllReadyH.nil)
          · have x6 := T.out.op.cell 6
            simp only [opL, List.getElem?_cons_zero, List.getElem?_cons_succ] at x6
            go_simp
            refine hK.out _ _ trivial (fun hS => ?_)
            clear hK K x6
            refine wpAnyH_ready (rs := [3]) (by kernel_rfl) (by simp) ?_
            refine AllReadyH.cons rfl (fun K hK => ?_) AllReadyH.nil
            go_simp
            go_wp2_with ((go_at_call 85; refine (HT.out _ T.out.rd).mono ?_; rintro e w2 ⟨rfl, hr2, ho2⟩))
            replace T := Lib.hid (T.out.read hr2 ho2)
            clear hr2 ho2
            refine hK.out _ _ trivial (fun hS => ?_)
            clear hK K
            refine wpAnyH_ready (rs := [4]) (by kernel_rfl) (by simp) ?_
            refine AllReadyH.cons rfl (fun K hK => ?_) AllReadyH.nil
            have hb3 := (Below.refl w2.heap.size w2).alloc (Nat.le_refl _) (.cells #[.int .i64 st, .int .i64 sr] 47)
            replace T := Lib.hid (T.out.kept hb3)
            have HRW := Lib.hid (rd_st_one w2 (st, sr) 47)
            clear hb3
            go_simp
            refine hK.out _ _ trivial (fun hS => ?_)
            clear hK K
            generalize w2.alloc (.cells #[.int .i64 st, .int .i64 sr] 47) = w3 at *
            refine wpAnyH_ready (rs := [5]) (by kernel_rfl) (by simp) ?_
            refine AllReadyH.cons rfl (fun K hK => ?_) AllReadyH.nil
            refine step_append_kN (by kernel_rfl) _ _ 48 rfl (wv.heap.size + 1) 47 i0 _ 2 16 Tryz.underlying48 hi hz0 hz1 (by decide) hz2 (by decide) rfl _ acc.length (stCells acc) rfl T.out.own _ 1 1 (stCells [(st, sr)]) rfl rfl HRW.out (fun h => by cases h) stCells_one (by have := HAL.out; omega) (by have := T.out.op.lt; omega) ?_
            intro p4 c4 w4 ho4 hg4 _
            have HG := Lib.hid (T.out.push (st, sr) ho4 hg4)
            clear ho4 hg4
            refine hK.out _ _ trivial (fun hS => ?_)
            clear hK K
            refine wpAnyH_take (i := 6) (v := ?_) rfl (by kernel_rfl) (by kernel_rfl) (by kernel_rfl) (fun _ _ _ h => h) (Or.inl ⟨by kernel_rfl, ?_⟩) hS ?_
            rotate_left
            · intro W hSW
              go_simp
              all_goals with_reducible rfl
            go_simp
            refine wpAnyH_ready (rs := [7]) (by kernel_rfl) (by simp) ?_
            refine AllReadyH.cons rfl (fun K hK => ?_) AllReadyH.nil
            have y6 := HG.out.2.cell 6
            have yf := HG.out.2.free 6
            simp only [opL, List.getElem?_cons_zero, List.getElem?_cons_succ] at y6
            go_simp
            refine hK.out _ _ trivial (fun hS => ?_)
            clear hK K y6 yf
            refine wpAnyH_done (by kernel_rfl) ?_ _
            go_simp
            have T2 := Lib.hid HG.out.1
            clear T HG HRW
            generalize w4.setCell ⟨wv.heap.size, 6, none⟩ (.slice p4 (acc.length + 1) c4) = w5 at *
            go_wp2
            go_roundw
            case rel => exact ⟨k + 1, acc ++ [(st, sr)], _, _, _, by omega, by go_num, T2.out, HNX.out, by rw [List.length_append, HAL.out]; rfl⟩
            case measure => simp [intOf]; omega
          · go_simp
            go_wp2_with ((go_at_call 85; refine (HT.out _ T.out.rd).mono ?_; rintro e w2 ⟨rfl, hr2, ho2⟩))
            replace T := Lib.hid (T.out.read hr2 ho2)
            clear hr2 ho2
            refine hK.out _ _ trivial (fun hS => ?_)
            clear hK K
            refine wpAnyH_ready (rs := [1, 4]) (by kernel_rfl) (by simp) ?_
            refine AllReadyH.cons rfl (fun K hK => ?_) (AllReadyH.cons rfl (fun K hK => ?_) AllReadyH.nil)
            · have x6 := T.out.op.cell 6
              simp only [opL, List.getElem?_cons_zero, List.getElem?_cons_succ] at x6
              go_simp
              refine hK.out _ _ trivial (fun hS => ?_)
              clear hK K x6
              refine wpAnyH_ready (rs := [4]) (by kernel_rfl) (by simp) ?_
              refine AllReadyH.cons rfl (fun K hK => ?_) AllReadyH.nil
              have hb3 := (Below.refl w2.heap.size w2).alloc (Nat.le_refl _) (.cells #[.int .i64 st, .int .i64 sr] 47)
              replace T := Lib.hid (T.out.kept hb3)
              have HRW := Lib.hid (rd_st_one w2 (st, sr) 47)
              clear hb3
              go_simp
              refine hK.out _ _ trivial (fun hS => ?_)
              clear hK K
              generalize w2.alloc (.cells #[.int .i64 st, .int .i64 sr] 47) = w3 at *
              refine wpAnyH_ready (rs := [5]) (by kernel_rfl) (by simp) ?_
              refine AllReadyH.cons rfl (fun K hK => ?_) AllReadyH.nil
              refine step_append_kN (by kernel_rfl) _ _ 48 rfl (wv.heap.size + 1) 47 i0 _ 2 16 Tryz.underlying48 hi hz0 hz1 (by decide) hz2 (by decide) rfl _ acc.length (stCells acc) rfl T.out.own _ 1 1 (stCells [(st, sr)]) rfl rfl HRW.out (fun h => by cases h) stCells_one (by have := HAL.out; omega) (by have := T.out.op.lt; omega) ?_
              intro p4 c4 w4 ho4 hg4 _
              have HG := Lib.hid (T.out.push (st, sr) ho4 hg4)
              clear ho4 hg4
              refine hK.out _ _ trivial (fun hS => ?_)
              clear hK K
              refine wpAnyH_take (i := 6) (v := ?_) rfl (by kernel_rfl) (by kernel_rfl) (by kernel_rfl) (fun _ _ _ h => h) (Or.inl ⟨by kernel_rfl, ?_⟩) hS ?_
              rotate_left
              · intro W hSW
                go_simp
                all_goals with_reducible rfl
              go_simp
              refine wpAnyH_ready (rs := [7]) (by kernel_rfl) (by simp) ?_
              refine AllReadyH.cons rfl (fun K hK => ?_) AllReadyH.nil
              have y6 := HG.out.2.cell 6
              have yf := HG.out.2.free 6
              simp only [opL, List.getElem?_cons_zero, List.getElem?_cons_succ] at y6
              go_simp
              refine hK.out _ _ trivial (fun hS => ?_)
              clear hK K y6 yf
              refine wpAnyH_done (by kernel_rfl) ?_ _
              go_simp
              have T2 := Lib.hid HG.out.1
              clear T HG HRW
              generalize w4.setCell ⟨wv.heap.size, 6, none⟩ (.slice p4 (acc.length + 1) c4) = w5 at *
              go_wp2
              go_roundw
              case rel => exact ⟨k + 1, acc ++ [(st, sr)], _, _, _, by omega, by go_num, T2.out, HNX.out, by rw [List.length_append, HAL.out]; rfl⟩
              case measure => simp [intOf]; omega
            · have hb3 := (Below.refl w2.heap.size w2).alloc (Nat.le_refl _) (.cells #[.int .i64 st, .int .i64 sr] 47)
              replace T := Lib.hid (T.out.kept hb3)
              have HRW := Lib.hid (rd_st_one w2 (st, sr) 47)
              clear hb3
              go_simp
              refine hK.out _ _ trivial (fun hS => ?_)
              clear hK K
              generalize w2.alloc (.cells #[.int .i64 st, .int .i64 sr] 47) = w3 at *
              refine wpAnyH_ready (rs := [1]) (by kernel_rfl) (by simp) ?_
              refine AllReadyH.cons rfl (fun K hK => ?_) AllReadyH.nil
              have x6 := T.out.op.cell 6
              simp only [opL, List.getElem?_cons_zero, List.getElem?_cons_succ] at x6
              go_simp
              refine hK.out _ _ trivial (fun hS => ?_)
              clear hK K x6
              refine wpAnyH_ready (rs := [5]) (by kernel_rfl) (by simp) ?_
              refine AllReadyH.cons rfl (fun K hK => ?_) AllReadyH.nil
              refine step_append_kN (by kernel_rfl) _ _ 48 rfl (wv.heap.size + 1) 47 i0 _ 2 16 Tryz.underlying48 hi hz0 hz1 (by decide) hz2 (by decide) rfl _ acc.length (stCells acc) rfl T.out.own _ 1 1 (stCells [(st, sr)]) rfl rfl HRW.out (fun h => by cases h) stCells_one (by have := HAL.out; omega) (by have := T.out.op.lt; omega) ?_
              intro p4 c4 w4 ho4 hg4 _
              have HG := Lib.hid (T.out.push (st, sr) ho4 hg4)
              clear ho4 hg4
              refine hK.out _ _ trivial (fun hS => ?_)
              clear hK K
              refine wpAnyH_take (i := 6) (v := ?_) rfl (by kernel_rfl) (by kernel_rfl) (by kernel_rfl) (fun _ _ _ h => h) (Or.inl ⟨by kernel_rfl, ?_⟩) hS ?_
              rotate_left
              · intro W hSW
                go_simp
                all_goals with_reducible rfl
              go_simp
              refine wpAnyH_ready (rs := [7]) (by kernel_rfl) (by simp) ?_
              refine AllReadyH.cons rfl (fun K hK => ?_) AllReadyH.nil
              have y6 := HG.out.2.cell 6
              have yf := HG.out.2.free 6
              simp only [opL, List.getElem?_cons_zero, List.getElem?_cons_succ] at y6
              go_simp
              refine hK.out _ _ trivial (fun hS => ?_)
              clear hK K y6 yf
              refine wpAnyH_done (by kernel_rfl) ?_ _
              go_simp
              have T2 := Lib.hid HG.out.1
              clear T HG HRW
              generalize w4.setCell ⟨wv.heap.size, 6, none⟩ (.slice p4 (acc.length + 1) c4) = w5 at *
              go_wp2
              go_roundw
              case rel => exact ⟨k + 1, acc ++ [(st, sr)], _, _, _, by omega, by go_num, T2.out, HNX.out, by rw [List.length_append, HAL.out]; rfl⟩
              case measure => simp [intOf]; omega
        · have te0 : ((t.2 : Int) == 0) = false := by rw [beq_eq_false_iff_ne]; omega
          have hpq : lpR (n - k) t acc = (acc, t) := by rw [show n - k = (n - k - 1) + 1 by omega, lpR, if_pos ht0]
          rw [hpq] at HQ
          obtain ⟨rfl, rfl⟩ : path = acc ∧ s3 = t := by have := HQ.out; exact ⟨congrArg Prod.fst this, congrArg Prod.snd this⟩
          clear hpq HQ HPR
          go_wp2_with fail
          refine (HU4.out _ T.out.rd).mono ?_
          rintro e wr4 ⟨rfl, hr, ho⟩
          clear x0
          replace T := Lib.hid (T.out.read hr ho)
          have f7 := T.out.op.free 7
          have x7 := T.out.op.cell 7
          simp only [opL, List.getElem?_cons_zero, List.getElem?_cons_succ] at x7
          clear hr ho
          replace T := Lib.hid (T.out.setP (pn : Int))
          have x0 := T.out.op.cell 0
          simp only [opL, List.getElem?_cons_zero] at x0
          go_wp2_with fail
          refine (HU5.out _ T.out.rd).mono ?_
          rintro e wr5 ⟨rfl, hr, ho⟩
          clear x0
          replace T := Lib.hid (T.out.read hr ho)
          have f8 := T.out.op.free 8
          have x8 := T.out.op.cell 8
          simp only [opL, List.getElem?_cons_zero, List.getElem?_cons_succ] at x8
          have f9 := T.out.op.free 9
          have x9 := T.out.op.cell 9
          simp only [opL, List.getElem?_cons_zero, List.getElem?_cons_succ] at x9
          have f10 := T.out.op.free 10
          have x10 := T.out.op.cell 10
          simp only [opL, List.getElem?_cons_zero, List.getElem?_cons_succ] at x10
          clear hr ho
          replace T := Lib.hid (T.out.setV vk vn vt)
          have x0 := T.out.op.cell 0
          simp only [opL, List.getElem?_cons_zero] at x0
          have he := T.out.rd.err
          obtain ⟨TT, hTT⟩ := T.out.res
          go_wp2_with (refine wpList_store_op otR rfl _ _ rfl _ rfl TT _ hTT rfl Opp.zero none 0 rfl ?_; intro wz hvz hko _ hbn)
          refine bodyPost_ret (results_op otR _ rfl hvz rfl) rfl ?_
          rw [HV.out]
          exact ⟨none, 0, rfl, Pa.none _ _ rfl, T.out.done hbn, T.out.doneO hbn, fun a h => by cases h⟩
      · obtain rfl : k = n := by omega
        have d0 : decide ((k : Int) < (k : Int)) = false := decide_eq_false (by omega)
        have hpq : lpR (k - k) t acc = (acc, t) := by rw [Nat.sub_self]; rfl
        rw [hpq] at HQ
        obtain ⟨rfl, rfl⟩ : path = acc ∧ s3 = t := by have := HQ.out; exact ⟨congrArg Prod.fst this, congrArg Prod.snd this⟩
        clear hpq HQ HPR
        go_wp2_with fail
        refine (HU4.out _ T.out.rd).mono ?_
        rintro e wr4 ⟨rfl, hr, ho⟩
        clear x0
        replace T := Lib.hid (T.out.read hr ho)
        have f7 := T.out.op.free 7
        have x7 := T.out.op.cell 7
        simp only [opL, List.getElem?_cons_zero, List.getElem?_cons_succ] at x7
        clear hr ho
        replace T := Lib.hid (T.out.setP (pn : Int))
        have x0 := T.out.op.cell 0
        simp only [opL, List.getElem?_cons_zero] at x0
        go_wp2_with fail
        refine (HU5.out _ T.out.rd).mono ?_
        rintro e wr5 ⟨rfl, hr, ho⟩
        clear x0
        replace T := Lib.hid (T.out.read hr ho)
        have f8 := T.out.op.free 8
        have x8 := T.out.op.cell 8
        simp only [opL, List.getElem?_cons_zero, List.getElem?_cons_succ] at x8
        have f9 := T.out.op.free 9
        have x9 := T.out.op.cell 9
        simp only [opL, List.getElem?_cons_zero, List.getElem?_cons_succ] at x9
        have f10 := T.out.op.free 10
        have x10 := T.out.op.cell 10
        simp only [opL, List.getElem?_cons_zero, List.getElem?_cons_succ] at x10
        clear hr ho
        replace T := Lib.hid (T.out.setV vk vn vt)
        have x0 := T.out.op.cell 0
        simp only [opL, List.getElem?_cons_zero] at x0
        have he := T.out.rd.err
        obtain ⟨TT, hTT⟩ := T.out.res
        go_wp2_with (refine wpList_store_op otR rfl _ _ rfl _ rfl TT _ hTT rfl Opp.zero none 0 rfl ?_; intro wz hvz hko _ hbn)
        refine bodyPost_ret (results_op otR _ rfl hvz rfl) rfl ?_
        rw [HV.out]
        exact ⟨none, 0, rfl, Pa.none _ _ rfl, T.out.done hbn, T.out.doneO hbn, fun a h => by cases h⟩
end Go.Proofs.YthpdphlkmleldaaGreat
