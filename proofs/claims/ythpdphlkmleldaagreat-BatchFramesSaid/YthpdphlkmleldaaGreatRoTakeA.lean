/-
  THE DOCUMENT's TAKE: an op is read (kinds 1 to 3).
  No conditions.
-/
import Derived.Test.YthpdphlkmleldaaGreatRoTakeR
namespace Go.Proofs.YthpdphlkmleldaaGreat
open Go.RowKit

set_option maxRecDepth 100000 in
set_option maxHeartbeats 8000000 in
theorem rtake1_any (B b : Nat) (s : RS) (w : World) (h : RrS w B b s) (hk : (numS s).1 = 1) : Calls Tryz.prog 58 #[.pointer (some ⟨b, 0, none⟩)] w (TookRo w B b (takeRo s)) := by
  have hb0 := (Below.refl w.heap.size w).alloc (Nat.le_refl _) (.cells #[.int .i64 0, .int .i64 0, .int .i64 0, .int .i64 0, .int .i64 0, .string ⟨#[]⟩, .slice none 0 0, .int .i64 0, .int .i64 0, .int .i64 0, .string ⟨#[]⟩, .bool false] 52)
  have HN := Lib.hid (rnums_any B b s _ (h.kept hb0))
  have HTK : Hid (takeRo s = endR (rawR (numS s).1 (numS s).2)) := Lib.hid (takeRo_eq (by omega))
  have hblt := h.lt
  rw [hk] at HN HTK
  generalize (numS s).2 = s1 at *
  have HO0 := Lib.hid (Only.of_below (b := b) hb0)
  have HR0 := Lib.hid (show OpAt _ w.heap.size Opp.zero none 0 from OpAt.new w Opp.zero none 0 52)
  clear h hb0 hk
  have HRW : Hid (rawR 1 s1 = ({ Opp.zero with k := 1, rt := (stS s1).1.1, rr := (stS s1).1.2, key := (txS (stS s1).2).1 }, (txS (stS s1).2).2)) := Lib.hid rfl
  have HU2 := Lib.hid (fun W h => rsts_any B b s1 W h)
  generalize stS s1 = q2 at *
  obtain ⟨⟨rt, rr⟩, s2⟩ := q2
  dsimp only at *
  have HU3 := Lib.hid (fun W h => rtexts_any B b s2 W h)
  have hzk := txS_small s2
  generalize txS s2 = q3 at *
  obtain ⟨key, s3⟩ := q3
  dsimp only at *
  have HSZ := Lib.hid (show Sz ({ Opp.zero with k := 1, rt := rt, rr := rr, key := key } : Opp) from ⟨Nat.le_trans hzk (by decide), Nat.zero_le _, Nat.zero_le _⟩)
  have HE : Hid (takeRo s = endR (({ Opp.zero with k := 1, rt := rt, rr := rr, key := key } : Opp), s3)) := Lib.hid (HTK.out.trans (congrArg endR HRW.out))
  clear HTK HRW
  by_cases hez : s3.2 = 0
  · have te : ((s3.2 : Int) != 0) = false := by rw [hez]; rfl
    have te0 : ((s3.2 : Int) == 0) = true := by rw [hez]; rfl
    cases hrg : rightO ({ Opp.zero with k := 1, rt := rt, rr := rr, key := key } : Opp) with
    | false =>
      have HRG := Lib.hid hrg
      have HV := Lib.hid (HE.out.trans (endR_no hez hrg))
      clear hrg
      go_enter Tryz.func58, Tryz.ntmps58
      go_wp2_with fail
      refine HN.out.mono ?_
      rintro e wv ⟨rfl, hr1, ho1⟩
      have hr := HR0.out.only ho1 (by omega)
      have hlt1 := hr.lt
      have hb1 := (Below.refl wv.heap.size wv).alloc (Nat.le_refl _) (.cells #[.int .i64 (1 : Int), .int .i64 0, .int .i64 0, .int .i64 0, .int .i64 0, .string ⟨#[]⟩, .slice none 0 0, .int .i64 0, .int .i64 0, .int .i64 0, .string ⟨#[]⟩, .bool false] 52)
      have T := Lib.hid (show RkO w B b w.heap.size wv.heap.size { Opp.zero with k := 1 } none 0 s1 (wv.alloc (.cells #[.int .i64 (1 : Int), .int .i64 0, .int .i64 0, .int .i64 0, .int .i64 0, .string ⟨#[]⟩, .slice none 0 0, .int .i64 0, .int .i64 0, .int .i64 0, .string ⟨#[]⟩, .bool false] 52)) from
        { hR := Nat.le_refl _, hV := hlt1, hb := hblt, res := hr.kept hb1, op := OpAt.new wv { Opp.zero with k := 1 } none 0 52, rd := hr1.kept hb1, only := (HO0.out.trans ho1).trans (Only.of_below (b := b) hb1), own := OwnP.nil _ _ })
      clear hr hr1 ho1 hb1 HR0 HO0
      have x0 := T.out.op.cell 0
      simp only [opL, List.getElem?_cons_zero] at x0
      go_wp2_with fail
      refine (HU2.out _ T.out.rd).mono ?_
      rintro e wr2 ⟨rfl, hr, ho⟩
      clear x0
      replace T := Lib.hid (T.out.read hr ho)
      have f3 := T.out.op.free 3
      have x3 := T.out.op.cell 3
      simp only [opL, List.getElem?_cons_zero, List.getElem?_cons_succ] at x3
      have f4 := T.out.op.free 4
      have x4 := T.out.op.cell 4
      simp only [opL, List.getElem?_cons_zero, List.getElem?_cons_succ] at x4
      clear hr ho
      replace T := Lib.hid (T.out.setR rt rr)
      have x0 := T.out.op.cell 0
      simp only [opL, List.getElem?_cons_zero] at x0
      go_wp2_with fail
      refine (HU3.out _ T.out.rd).mono ?_
      rintro e wr3 ⟨rfl, hr, ho⟩
      clear x0
      replace T := Lib.hid (T.out.read hr ho)
      have f5 := T.out.op.free 5
      have x5 := T.out.op.cell 5
      simp only [opL, List.getElem?_cons_zero, List.getElem?_cons_succ] at x5
      clear hr ho
      replace T := Lib.hid (T.out.setKey key)
      have x0 := T.out.op.cell 0
      simp only [opL, List.getElem?_cons_zero] at x0
      have he := T.out.rd.err
      have hop := T.out.op
      go_wp2_with (refine wpList_load_opG otR (by kernel_rfl) _ rfl _ rfl _ _ _ (by assumption) ?_)
      refine (rright_any _ _ _ _ HSZ.out T.out.pa).mono ?_
      rw [HRG.out]
      rintro e wa ⟨rfl, hba⟩
      replace T := Lib.hid (T.out.kept hba)
      clear hba hop x0 he
      go_wp2_with fail
      refine (rfails_any B b s3 _ T.out.rd).mono ?_
      rintro e wb ⟨rfl, hr, ho⟩
      replace T := Lib.hid (T.out.read hr ho)
      clear hr ho
      have hne := failS_ne s3
      generalize failS 21 s3 = sf at *
      have te2 : ((sf.2 : Int) != 0) = true := by rw [bne_iff_ne]; omega
      have he := T.out.rd.err
      obtain ⟨TT, hTT⟩ := T.out.res
      go_wp2_with (refine wpList_store_op otR rfl _ _ rfl _ rfl TT _ hTT rfl Opp.zero none 0 rfl ?_; intro wz hvz hko _ hbn)
      refine bodyPost_ret (results_op otR _ rfl hvz rfl) rfl ?_
      rw [HV.out]
      exact ⟨none, 0, rfl, Pa.none _ _ rfl, T.out.done hbn, T.out.doneO hbn, fun a h => by cases h⟩
    | true =>
      have HRG := Lib.hid hrg
      have HV := Lib.hid (HE.out.trans (endR_ok hrg hez))
      clear hrg
      go_enter Tryz.func58, Tryz.ntmps58
      go_wp2_with fail
      refine HN.out.mono ?_
      rintro e wv ⟨rfl, hr1, ho1⟩
      have hr := HR0.out.only ho1 (by omega)
      have hlt1 := hr.lt
      have hb1 := (Below.refl wv.heap.size wv).alloc (Nat.le_refl _) (.cells #[.int .i64 (1 : Int), .int .i64 0, .int .i64 0, .int .i64 0, .int .i64 0, .string ⟨#[]⟩, .slice none 0 0, .int .i64 0, .int .i64 0, .int .i64 0, .string ⟨#[]⟩, .bool false] 52)
      have T := Lib.hid (show RkO w B b w.heap.size wv.heap.size { Opp.zero with k := 1 } none 0 s1 (wv.alloc (.cells #[.int .i64 (1 : Int), .int .i64 0, .int .i64 0, .int .i64 0, .int .i64 0, .string ⟨#[]⟩, .slice none 0 0, .int .i64 0, .int .i64 0, .int .i64 0, .string ⟨#[]⟩, .bool false] 52)) from
        { hR := Nat.le_refl _, hV := hlt1, hb := hblt, res := hr.kept hb1, op := OpAt.new wv { Opp.zero with k := 1 } none 0 52, rd := hr1.kept hb1, only := (HO0.out.trans ho1).trans (Only.of_below (b := b) hb1), own := OwnP.nil _ _ })
      clear hr hr1 ho1 hb1 HR0 HO0
      have x0 := T.out.op.cell 0
      simp only [opL, List.getElem?_cons_zero] at x0
      go_wp2_with fail
      refine (HU2.out _ T.out.rd).mono ?_
      rintro e wr2 ⟨rfl, hr, ho⟩
      clear x0
      replace T := Lib.hid (T.out.read hr ho)
      have f3 := T.out.op.free 3
      have x3 := T.out.op.cell 3
      simp only [opL, List.getElem?_cons_zero, List.getElem?_cons_succ] at x3
      have f4 := T.out.op.free 4
      have x4 := T.out.op.cell 4
      simp only [opL, List.getElem?_cons_zero, List.getElem?_cons_succ] at x4
      clear hr ho
      replace T := Lib.hid (T.out.setR rt rr)
      have x0 := T.out.op.cell 0
      simp only [opL, List.getElem?_cons_zero] at x0
      go_wp2_with fail
      refine (HU3.out _ T.out.rd).mono ?_
      rintro e wr3 ⟨rfl, hr, ho⟩
      clear x0
      replace T := Lib.hid (T.out.read hr ho)
      have f5 := T.out.op.free 5
      have x5 := T.out.op.cell 5
      simp only [opL, List.getElem?_cons_zero, List.getElem?_cons_succ] at x5
      clear hr ho
      replace T := Lib.hid (T.out.setKey key)
      have x0 := T.out.op.cell 0
      simp only [opL, List.getElem?_cons_zero] at x0
      have he := T.out.rd.err
      have hop := T.out.op
      go_wp2_with (refine wpList_load_opG otR (by kernel_rfl) _ rfl _ rfl _ _ _ (by assumption) ?_)
      refine (rright_any _ _ _ _ HSZ.out T.out.pa).mono ?_
      rw [HRG.out]
      rintro e wa ⟨rfl, hba⟩
      replace T := Lib.hid (T.out.kept hba)
      clear hba hop x0 he
      have he := T.out.rd.err
      have hop := T.out.op
      obtain ⟨TT, hTT⟩ := T.out.res
      go_wp2_with (first | (refine wpList_load_op otR rfl _ rfl _ rfl _ _ _ (by assumption) ?_) | (refine wpList_store_op otR rfl _ _ rfl _ rfl TT _ hTT rfl _ _ _ rfl ?_; intro wz hvz hko _ hbn))
      refine bodyPost_ret (results_op otR _ rfl hvz rfl) rfl ?_
      rw [HV.out]
      exact ⟨_, _, rfl, T.out.donePa hko, T.out.done hbn, T.out.doneO hbn, T.out.doneN⟩
  · have te : ((s3.2 : Int) != 0) = true := by rw [bne_iff_ne]; omega
    have te0 : ((s3.2 : Int) == 0) = false := by rw [beq_eq_false_iff_ne]; omega
    have HV := Lib.hid (HE.out.trans (endR_err (q := (({ Opp.zero with k := 1, rt := rt, rr := rr, key := key } : Opp), s3)) hez))
    go_enter Tryz.func58, Tryz.ntmps58
    go_wp2_with fail
    refine HN.out.mono ?_
    rintro e wv ⟨rfl, hr1, ho1⟩
    have hr := HR0.out.only ho1 (by omega)
    have hlt1 := hr.lt
    have hb1 := (Below.refl wv.heap.size wv).alloc (Nat.le_refl _) (.cells #[.int .i64 (1 : Int), .int .i64 0, .int .i64 0, .int .i64 0, .int .i64 0, .string ⟨#[]⟩, .slice none 0 0, .int .i64 0, .int .i64 0, .int .i64 0, .string ⟨#[]⟩, .bool false] 52)
    have T := Lib.hid (show RkO w B b w.heap.size wv.heap.size { Opp.zero with k := 1 } none 0 s1 (wv.alloc (.cells #[.int .i64 (1 : Int), .int .i64 0, .int .i64 0, .int .i64 0, .int .i64 0, .string ⟨#[]⟩, .slice none 0 0, .int .i64 0, .int .i64 0, .int .i64 0, .string ⟨#[]⟩, .bool false] 52)) from
      { hR := Nat.le_refl _, hV := hlt1, hb := hblt, res := hr.kept hb1, op := OpAt.new wv { Opp.zero with k := 1 } none 0 52, rd := hr1.kept hb1, only := (HO0.out.trans ho1).trans (Only.of_below (b := b) hb1), own := OwnP.nil _ _ })
    clear hr hr1 ho1 hb1 HR0 HO0
    have x0 := T.out.op.cell 0
    simp only [opL, List.getElem?_cons_zero] at x0
    go_wp2_with fail
    refine (HU2.out _ T.out.rd).mono ?_
    rintro e wr2 ⟨rfl, hr, ho⟩
    clear x0
    replace T := Lib.hid (T.out.read hr ho)
    have f3 := T.out.op.free 3
    have x3 := T.out.op.cell 3
    simp only [opL, List.getElem?_cons_zero, List.getElem?_cons_succ] at x3
    have f4 := T.out.op.free 4
    have x4 := T.out.op.cell 4
    simp only [opL, List.getElem?_cons_zero, List.getElem?_cons_succ] at x4
    clear hr ho
    replace T := Lib.hid (T.out.setR rt rr)
    have x0 := T.out.op.cell 0
    simp only [opL, List.getElem?_cons_zero] at x0
    go_wp2_with fail
    refine (HU3.out _ T.out.rd).mono ?_
    rintro e wr3 ⟨rfl, hr, ho⟩
    clear x0
    replace T := Lib.hid (T.out.read hr ho)
    have f5 := T.out.op.free 5
    have x5 := T.out.op.cell 5
    simp only [opL, List.getElem?_cons_zero, List.getElem?_cons_succ] at x5
    clear hr ho
    replace T := Lib.hid (T.out.setKey key)
    have x0 := T.out.op.cell 0
    simp only [opL, List.getElem?_cons_zero] at x0
    have he := T.out.rd.err
    obtain ⟨TT, hTT⟩ := T.out.res
    go_wp2_with (refine wpList_store_op otR rfl _ _ rfl _ rfl TT _ hTT rfl Opp.zero none 0 rfl ?_; intro wz hvz hko _ hbn)
    refine bodyPost_ret (results_op otR _ rfl hvz rfl) rfl ?_
    rw [HV.out]
    exact ⟨none, 0, rfl, Pa.none _ _ rfl, T.out.done hbn, T.out.doneO hbn, fun a h => by cases h⟩

set_option maxRecDepth 100000 in
set_option maxHeartbeats 8000000 in
theorem rtake2_any (B b : Nat) (s : RS) (w : World) (h : RrS w B b s) (hk : (numS s).1 = 2) : Calls Tryz.prog 58 #[.pointer (some ⟨b, 0, none⟩)] w (TookRo w B b (takeRo s)) := by
  have hb0 := (Below.refl w.heap.size w).alloc (Nat.le_refl _) (.cells #[.int .i64 0, .int .i64 0, .int .i64 0, .int .i64 0, .int .i64 0, .string ⟨#[]⟩, .slice none 0 0, .int .i64 0, .int .i64 0, .int .i64 0, .string ⟨#[]⟩, .bool false] 52)
  have HN := Lib.hid (rnums_any B b s _ (h.kept hb0))
  have HTK : Hid (takeRo s = endR (rawR (numS s).1 (numS s).2)) := Lib.hid (takeRo_eq (by omega))
  have hblt := h.lt
  rw [hk] at HN HTK
  generalize (numS s).2 = s1 at *
  have HO0 := Lib.hid (Only.of_below (b := b) hb0)
  have HR0 := Lib.hid (show OpAt _ w.heap.size Opp.zero none 0 from OpAt.new w Opp.zero none 0 52)
  clear h hb0 hk
  have HRW : Hid (rawR 2 s1 = ({ Opp.zero with k := 2, nt := (stS s1).1.1, nr := (stS s1).1.2, rt := (stS (stS s1).2).1.1, rr := (stS (stS s1).2).1.2, key := (txS (stS (stS s1).2).2).1 }, (txS (stS (stS s1).2).2).2)) := Lib.hid rfl
  have HU2 := Lib.hid (fun W h => rsts_any B b s1 W h)
  generalize stS s1 = q2 at *
  obtain ⟨⟨nt, nr⟩, s2⟩ := q2
  dsimp only at *
  have HU3 := Lib.hid (fun W h => rsts_any B b s2 W h)
  generalize stS s2 = q3 at *
  obtain ⟨⟨rt, rr⟩, s3⟩ := q3
  dsimp only at *
  have HU4 := Lib.hid (fun W h => rtexts_any B b s3 W h)
  have hzk := txS_small s3
  generalize txS s3 = q4 at *
  obtain ⟨key, s4⟩ := q4
  dsimp only at *
  have HSZ := Lib.hid (show Sz ({ Opp.zero with k := 2, nt := nt, nr := nr, rt := rt, rr := rr, key := key } : Opp) from ⟨Nat.le_trans hzk (by decide), Nat.zero_le _, Nat.zero_le _⟩)
  have HE : Hid (takeRo s = endR (({ Opp.zero with k := 2, nt := nt, nr := nr, rt := rt, rr := rr, key := key } : Opp), s4)) := Lib.hid (HTK.out.trans (congrArg endR HRW.out))
  clear HTK HRW
  by_cases hez : s4.2 = 0
  · have te : ((s4.2 : Int) != 0) = false := by rw [hez]; rfl
    have te0 : ((s4.2 : Int) == 0) = true := by rw [hez]; rfl
    cases hrg : rightO ({ Opp.zero with k := 2, nt := nt, nr := nr, rt := rt, rr := rr, key := key } : Opp) with
    | false =>
      have HRG := Lib.hid hrg
      have HV := Lib.hid (HE.out.trans (endR_no hez hrg))
      clear hrg
      go_enter Tryz.func58, Tryz.ntmps58
      go_wp2_with fail
      refine HN.out.mono ?_
      rintro e wv ⟨rfl, hr1, ho1⟩
      have hr := HR0.out.only ho1 (by omega)
      have hlt1 := hr.lt
      have hb1 := (Below.refl wv.heap.size wv).alloc (Nat.le_refl _) (.cells #[.int .i64 (2 : Int), .int .i64 0, .int .i64 0, .int .i64 0, .int .i64 0, .string ⟨#[]⟩, .slice none 0 0, .int .i64 0, .int .i64 0, .int .i64 0, .string ⟨#[]⟩, .bool false] 52)
      have T := Lib.hid (show RkO w B b w.heap.size wv.heap.size { Opp.zero with k := 2 } none 0 s1 (wv.alloc (.cells #[.int .i64 (2 : Int), .int .i64 0, .int .i64 0, .int .i64 0, .int .i64 0, .string ⟨#[]⟩, .slice none 0 0, .int .i64 0, .int .i64 0, .int .i64 0, .string ⟨#[]⟩, .bool false] 52)) from
        { hR := Nat.le_refl _, hV := hlt1, hb := hblt, res := hr.kept hb1, op := OpAt.new wv { Opp.zero with k := 2 } none 0 52, rd := hr1.kept hb1, only := (HO0.out.trans ho1).trans (Only.of_below (b := b) hb1), own := OwnP.nil _ _ })
      clear hr hr1 ho1 hb1 HR0 HO0
      have x0 := T.out.op.cell 0
      simp only [opL, List.getElem?_cons_zero] at x0
      go_wp2_with fail
      refine (HU2.out _ T.out.rd).mono ?_
      rintro e wr2 ⟨rfl, hr, ho⟩
      clear x0
      replace T := Lib.hid (T.out.read hr ho)
      have f1 := T.out.op.free 1
      have x1 := T.out.op.cell 1
      simp only [opL, List.getElem?_cons_zero, List.getElem?_cons_succ] at x1
      have f2 := T.out.op.free 2
      have x2 := T.out.op.cell 2
      simp only [opL, List.getElem?_cons_zero, List.getElem?_cons_succ] at x2
      clear hr ho
      replace T := Lib.hid (T.out.setN nt nr)
      have x0 := T.out.op.cell 0
      simp only [opL, List.getElem?_cons_zero] at x0
      go_wp2_with fail
      refine (HU3.out _ T.out.rd).mono ?_
      rintro e wr3 ⟨rfl, hr, ho⟩
      clear x0
      replace T := Lib.hid (T.out.read hr ho)
      have f3 := T.out.op.free 3
      have x3 := T.out.op.cell 3
      simp only [opL, List.getElem?_cons_zero, List.getElem?_cons_succ] at x3
      have f4 := T.out.op.free 4
      have x4 := T.out.op.cell 4
      simp only [opL, List.getElem?_cons_zero, List.getElem?_cons_succ] at x4
      clear hr ho
      replace T := Lib.hid (T.out.setR rt rr)
      have x0 := T.out.op.cell 0
      simp only [opL, List.getElem?_cons_zero] at x0
      go_wp2_with fail
      refine (HU4.out _ T.out.rd).mono ?_
      rintro e wr4 ⟨rfl, hr, ho⟩
      clear x0
      replace T := Lib.hid (T.out.read hr ho)
      have f5 := T.out.op.free 5
      have x5 := T.out.op.cell 5
      simp only [opL, List.getElem?_cons_zero, List.getElem?_cons_succ] at x5
      clear hr ho
      replace T := Lib.hid (T.out.setKey key)
      have x0 := T.out.op.cell 0
      simp only [opL, List.getElem?_cons_zero] at x0
      have he := T.out.rd.err
      have hop := T.out.op
      go_wp2_with (refine wpList_load_opG otR (by kernel_rfl) _ rfl _ rfl _ _ _ (by assumption) ?_)
      refine (rright_any _ _ _ _ HSZ.out T.out.pa).mono ?_
      rw [HRG.out]
      rintro e wa ⟨rfl, hba⟩
      replace T := Lib.hid (T.out.kept hba)
      clear hba hop x0 he
      go_wp2_with fail
      refine (rfails_any B b s4 _ T.out.rd).mono ?_
      rintro e wb ⟨rfl, hr, ho⟩
      replace T := Lib.hid (T.out.read hr ho)
      clear hr ho
      have hne := failS_ne s4
      generalize failS 21 s4 = sf at *
      have te2 : ((sf.2 : Int) != 0) = true := by rw [bne_iff_ne]; omega
      have he := T.out.rd.err
      obtain ⟨TT, hTT⟩ := T.out.res
      go_wp2_with (refine wpList_store_op otR rfl _ _ rfl _ rfl TT _ hTT rfl Opp.zero none 0 rfl ?_; intro wz hvz hko _ hbn)
      refine bodyPost_ret (results_op otR _ rfl hvz rfl) rfl ?_
      rw [HV.out]
      exact ⟨none, 0, rfl, Pa.none _ _ rfl, T.out.done hbn, T.out.doneO hbn, fun a h => by cases h⟩
    | true =>
      have HRG := Lib.hid hrg
      have HV := Lib.hid (HE.out.trans (endR_ok hrg hez))
      clear hrg
      go_enter Tryz.func58, Tryz.ntmps58
      go_wp2_with fail
      refine HN.out.mono ?_
      rintro e wv ⟨rfl, hr1, ho1⟩
      have hr := HR0.out.only ho1 (by omega)
      have hlt1 := hr.lt
      have hb1 := (Below.refl wv.heap.size wv).alloc (Nat.le_refl _) (.cells #[.int .i64 (2 : Int), .int .i64 0, .int .i64 0, .int .i64 0, .int .i64 0, .string ⟨#[]⟩, .slice none 0 0, .int .i64 0, .int .i64 0, .int .i64 0, .string ⟨#[]⟩, .bool false] 52)
      have T := Lib.hid (show RkO w B b w.heap.size wv.heap.size { Opp.zero with k := 2 } none 0 s1 (wv.alloc (.cells #[.int .i64 (2 : Int), .int .i64 0, .int .i64 0, .int .i64 0, .int .i64 0, .string ⟨#[]⟩, .slice none 0 0, .int .i64 0, .int .i64 0, .int .i64 0, .string ⟨#[]⟩, .bool false] 52)) from
        { hR := Nat.le_refl _, hV := hlt1, hb := hblt, res := hr.kept hb1, op := OpAt.new wv { Opp.zero with k := 2 } none 0 52, rd := hr1.kept hb1, only := (HO0.out.trans ho1).trans (Only.of_below (b := b) hb1), own := OwnP.nil _ _ })
      clear hr hr1 ho1 hb1 HR0 HO0
      have x0 := T.out.op.cell 0
      simp only [opL, List.getElem?_cons_zero] at x0
      go_wp2_with fail
      refine (HU2.out _ T.out.rd).mono ?_
      rintro e wr2 ⟨rfl, hr, ho⟩
      clear x0
      replace T := Lib.hid (T.out.read hr ho)
      have f1 := T.out.op.free 1
      have x1 := T.out.op.cell 1
      simp only [opL, List.getElem?_cons_zero, List.getElem?_cons_succ] at x1
      have f2 := T.out.op.free 2
      have x2 := T.out.op.cell 2
      simp only [opL, List.getElem?_cons_zero, List.getElem?_cons_succ] at x2
      clear hr ho
      replace T := Lib.hid (T.out.setN nt nr)
      have x0 := T.out.op.cell 0
      simp only [opL, List.getElem?_cons_zero] at x0
      go_wp2_with fail
      refine (HU3.out _ T.out.rd).mono ?_
      rintro e wr3 ⟨rfl, hr, ho⟩
      clear x0
      replace T := Lib.hid (T.out.read hr ho)
      have f3 := T.out.op.free 3
      have x3 := T.out.op.cell 3
      simp only [opL, List.getElem?_cons_zero, List.getElem?_cons_succ] at x3
      have f4 := T.out.op.free 4
      have x4 := T.out.op.cell 4
      simp only [opL, List.getElem?_cons_zero, List.getElem?_cons_succ] at x4
      clear hr ho
      replace T := Lib.hid (T.out.setR rt rr)
      have x0 := T.out.op.cell 0
      simp only [opL, List.getElem?_cons_zero] at x0
      go_wp2_with fail
      refine (HU4.out _ T.out.rd).mono ?_
      rintro e wr4 ⟨rfl, hr, ho⟩
      clear x0
      replace T := Lib.hid (T.out.read hr ho)
      have f5 := T.out.op.free 5
      have x5 := T.out.op.cell 5
      simp only [opL, List.getElem?_cons_zero, List.getElem?_cons_succ] at x5
      clear hr ho
      replace T := Lib.hid (T.out.setKey key)
      have x0 := T.out.op.cell 0
      simp only [opL, List.getElem?_cons_zero] at x0
      have he := T.out.rd.err
      have hop := T.out.op
      go_wp2_with (refine wpList_load_opG otR (by kernel_rfl) _ rfl _ rfl _ _ _ (by assumption) ?_)
      refine (rright_any _ _ _ _ HSZ.out T.out.pa).mono ?_
      rw [HRG.out]
      rintro e wa ⟨rfl, hba⟩
      replace T := Lib.hid (T.out.kept hba)
      clear hba hop x0 he
      have he := T.out.rd.err
      have hop := T.out.op
      obtain ⟨TT, hTT⟩ := T.out.res
      go_wp2_with (first | (refine wpList_load_op otR rfl _ rfl _ rfl _ _ _ (by assumption) ?_) | (refine wpList_store_op otR rfl _ _ rfl _ rfl TT _ hTT rfl _ _ _ rfl ?_; intro wz hvz hko _ hbn))
      refine bodyPost_ret (results_op otR _ rfl hvz rfl) rfl ?_
      rw [HV.out]
      exact ⟨_, _, rfl, T.out.donePa hko, T.out.done hbn, T.out.doneO hbn, T.out.doneN⟩
  · have te : ((s4.2 : Int) != 0) = true := by rw [bne_iff_ne]; omega
    have te0 : ((s4.2 : Int) == 0) = false := by rw [beq_eq_false_iff_ne]; omega
    have HV := Lib.hid (HE.out.trans (endR_err (q := (({ Opp.zero with k := 2, nt := nt, nr := nr, rt := rt, rr := rr, key := key } : Opp), s4)) hez))
    go_enter Tryz.func58, Tryz.ntmps58
    go_wp2_with fail
    refine HN.out.mono ?_
    rintro e wv ⟨rfl, hr1, ho1⟩
    have hr := HR0.out.only ho1 (by omega)
    have hlt1 := hr.lt
    have hb1 := (Below.refl wv.heap.size wv).alloc (Nat.le_refl _) (.cells #[.int .i64 (2 : Int), .int .i64 0, .int .i64 0, .int .i64 0, .int .i64 0, .string ⟨#[]⟩, .slice none 0 0, .int .i64 0, .int .i64 0, .int .i64 0, .string ⟨#[]⟩, .bool false] 52)
    have T := Lib.hid (show RkO w B b w.heap.size wv.heap.size { Opp.zero with k := 2 } none 0 s1 (wv.alloc (.cells #[.int .i64 (2 : Int), .int .i64 0, .int .i64 0, .int .i64 0, .int .i64 0, .string ⟨#[]⟩, .slice none 0 0, .int .i64 0, .int .i64 0, .int .i64 0, .string ⟨#[]⟩, .bool false] 52)) from
      { hR := Nat.le_refl _, hV := hlt1, hb := hblt, res := hr.kept hb1, op := OpAt.new wv { Opp.zero with k := 2 } none 0 52, rd := hr1.kept hb1, only := (HO0.out.trans ho1).trans (Only.of_below (b := b) hb1), own := OwnP.nil _ _ })
    clear hr hr1 ho1 hb1 HR0 HO0
    have x0 := T.out.op.cell 0
    simp only [opL, List.getElem?_cons_zero] at x0
    go_wp2_with fail
    refine (HU2.out _ T.out.rd).mono ?_
    rintro e wr2 ⟨rfl, hr, ho⟩
    clear x0
    replace T := Lib.hid (T.out.read hr ho)
    have f1 := T.out.op.free 1
    have x1 := T.out.op.cell 1
    simp only [opL, List.getElem?_cons_zero, List.getElem?_cons_succ] at x1
    have f2 := T.out.op.free 2
    have x2 := T.out.op.cell 2
    simp only [opL, List.getElem?_cons_zero, List.getElem?_cons_succ] at x2
    clear hr ho
    replace T := Lib.hid (T.out.setN nt nr)
    have x0 := T.out.op.cell 0
    simp only [opL, List.getElem?_cons_zero] at x0
    go_wp2_with fail
    refine (HU3.out _ T.out.rd).mono ?_
    rintro e wr3 ⟨rfl, hr, ho⟩
    clear x0
    replace T := Lib.hid (T.out.read hr ho)
    have f3 := T.out.op.free 3
    have x3 := T.out.op.cell 3
    simp only [opL, List.getElem?_cons_zero, List.getElem?_cons_succ] at x3
    have f4 := T.out.op.free 4
    have x4 := T.out.op.cell 4
    simp only [opL, List.getElem?_cons_zero, List.getElem?_cons_succ] at x4
    clear hr ho
    replace T := Lib.hid (T.out.setR rt rr)
    have x0 := T.out.op.cell 0
    simp only [opL, List.getElem?_cons_zero] at x0
    go_wp2_with fail
    refine (HU4.out _ T.out.rd).mono ?_
    rintro e wr4 ⟨rfl, hr, ho⟩
    clear x0
    replace T := Lib.hid (T.out.read hr ho)
    have f5 := T.out.op.free 5
    have x5 := T.out.op.cell 5
    simp only [opL, List.getElem?_cons_zero, List.getElem?_cons_succ] at x5
    clear hr ho
    replace T := Lib.hid (T.out.setKey key)
    have x0 := T.out.op.cell 0
    simp only [opL, List.getElem?_cons_zero] at x0
    have he := T.out.rd.err
    obtain ⟨TT, hTT⟩ := T.out.res
    go_wp2_with (refine wpList_store_op otR rfl _ _ rfl _ rfl TT _ hTT rfl Opp.zero none 0 rfl ?_; intro wz hvz hko _ hbn)
    refine bodyPost_ret (results_op otR _ rfl hvz rfl) rfl ?_
    rw [HV.out]
    exact ⟨none, 0, rfl, Pa.none _ _ rfl, T.out.done hbn, T.out.doneO hbn, fun a h => by cases h⟩

set_option maxRecDepth 100000 in
set_option maxHeartbeats 8000000 in
theorem rtake3_any (B b : Nat) (s : RS) (w : World) (h : RrS w B b s) (hk : (numS s).1 = 3) : Calls Tryz.prog 58 #[.pointer (some ⟨b, 0, none⟩)] w (TookRo w B b (takeRo s)) := by
  have hb0 := (Below.refl w.heap.size w).alloc (Nat.le_refl _) (.cells #[.int .i64 0, .int .i64 0, .int .i64 0, .int .i64 0, .int .i64 0, .string ⟨#[]⟩, .slice none 0 0, .int .i64 0, .int .i64 0, .int .i64 0, .string ⟨#[]⟩, .bool false] 52)
  have HN := Lib.hid (rnums_any B b s _ (h.kept hb0))
  have HTK : Hid (takeRo s = endR (rawR (numS s).1 (numS s).2)) := Lib.hid (takeRo_eq (by omega))
  have hblt := h.lt
  rw [hk] at HN HTK
  generalize (numS s).2 = s1 at *
  have HO0 := Lib.hid (Only.of_below (b := b) hb0)
  have HR0 := Lib.hid (show OpAt _ w.heap.size Opp.zero none 0 from OpAt.new w Opp.zero none 0 52)
  clear h hb0 hk
  have HRW : Hid (rawR 3 s1 = ({ Opp.zero with k := 3, nt := (stS s1).1.1, nr := (stS s1).1.2, p := (numS (stS s1).2).1, vk := (vlS (numS (stS s1).2).2).1.1, vn := (vlS (numS (stS s1).2).2).1.2.1, vt := (vlS (numS (stS s1).2).2).1.2.2 }, (vlS (numS (stS s1).2).2).2)) := Lib.hid rfl
  have HU2 := Lib.hid (fun W h => rsts_any B b s1 W h)
  generalize stS s1 = q2 at *
  obtain ⟨⟨nt, nr⟩, s2⟩ := q2
  dsimp only at *
  have HU3 := Lib.hid (fun W h => rnums_any B b s2 W h)
  generalize numS s2 = q3 at *
  obtain ⟨pn, s3⟩ := q3
  dsimp only at *
  have HU4 := Lib.hid (fun W h => rvls_any B b s3 W h)
  have hzv := vlS_size s3
  generalize vlS s3 = q4 at *
  obtain ⟨⟨vk, vn, vt⟩, s4⟩ := q4
  dsimp only at *
  have HSZ := Lib.hid (show Sz ({ Opp.zero with k := 3, nt := nt, nr := nr, p := pn, vk := vk, vn := vn, vt := vt } : Opp) from ⟨Nat.zero_le _, Nat.le_trans hzv (by decide), Nat.zero_le _⟩)
  have HE : Hid (takeRo s = endR (({ Opp.zero with k := 3, nt := nt, nr := nr, p := pn, vk := vk, vn := vn, vt := vt } : Opp), s4)) := Lib.hid (HTK.out.trans (congrArg endR HRW.out))
  clear HTK HRW
  by_cases hez : s4.2 = 0
  · have te : ((s4.2 : Int) != 0) = false := by rw [hez]; rfl
    have te0 : ((s4.2 : Int) == 0) = true := by rw [hez]; rfl
    cases hrg : rightO ({ Opp.zero with k := 3, nt := nt, nr := nr, p := pn, vk := vk, vn := vn, vt := vt } : Opp) with
    | false =>
      have HRG := Lib.hid hrg
      have HV := Lib.hid (HE.out.trans (endR_no hez hrg))
      clear hrg
      go_enter Tryz.func58, Tryz.ntmps58
      go_wp2_with fail
      refine HN.out.mono ?_
      rintro e wv ⟨rfl, hr1, ho1⟩
      have hr := HR0.out.only ho1 (by omega)
      have hlt1 := hr.lt
      have hb1 := (Below.refl wv.heap.size wv).alloc (Nat.le_refl _) (.cells #[.int .i64 (3 : Int), .int .i64 0, .int .i64 0, .int .i64 0, .int .i64 0, .string ⟨#[]⟩, .slice none 0 0, .int .i64 0, .int .i64 0, .int .i64 0, .string ⟨#[]⟩, .bool false] 52)
      have T := Lib.hid (show RkO w B b w.heap.size wv.heap.size { Opp.zero with k := 3 } none 0 s1 (wv.alloc (.cells #[.int .i64 (3 : Int), .int .i64 0, .int .i64 0, .int .i64 0, .int .i64 0, .string ⟨#[]⟩, .slice none 0 0, .int .i64 0, .int .i64 0, .int .i64 0, .string ⟨#[]⟩, .bool false] 52)) from
        { hR := Nat.le_refl _, hV := hlt1, hb := hblt, res := hr.kept hb1, op := OpAt.new wv { Opp.zero with k := 3 } none 0 52, rd := hr1.kept hb1, only := (HO0.out.trans ho1).trans (Only.of_below (b := b) hb1), own := OwnP.nil _ _ })
      clear hr hr1 ho1 hb1 HR0 HO0
      have x0 := T.out.op.cell 0
      simp only [opL, List.getElem?_cons_zero] at x0
      go_wp2_with fail
      refine (HU2.out _ T.out.rd).mono ?_
      rintro e wr2 ⟨rfl, hr, ho⟩
      clear x0
      replace T := Lib.hid (T.out.read hr ho)
      have f1 := T.out.op.free 1
      have x1 := T.out.op.cell 1
      simp only [opL, List.getElem?_cons_zero, List.getElem?_cons_succ] at x1
      have f2 := T.out.op.free 2
      have x2 := T.out.op.cell 2
      simp only [opL, List.getElem?_cons_zero, List.getElem?_cons_succ] at x2
      clear hr ho
      replace T := Lib.hid (T.out.setN nt nr)
      have x0 := T.out.op.cell 0
      simp only [opL, List.getElem?_cons_zero] at x0
      go_wp2_with fail
      refine (HU3.out _ T.out.rd).mono ?_
      rintro e wr3 ⟨rfl, hr, ho⟩
      clear x0
      replace T := Lib.hid (T.out.read hr ho)
      have f7 := T.out.op.free 7
      have x7 := T.out.op.cell 7
      simp only [opL, List.getElem?_cons_zero, List.getElem?_cons_succ] at x7
      clear hr ho
      replace T := Lib.hid (T.out.setP (pn : Int))
      have x0 := T.out.op.cell 0
      simp only [opL, List.getElem?_cons_zero] at x0
      go_wp2_with fail
      refine (HU4.out _ T.out.rd).mono ?_
      rintro e wr4 ⟨rfl, hr, ho⟩
      clear x0
      replace T := Lib.hid (T.out.read hr ho)
      have f8 := T.out.op.free 8
      have x8 := T.out.op.cell 8
      simp only [opL, List.getElem?_cons_zero, List.getElem?_cons_succ] at x8
      have f9 := T.out.op.free 9
      have x9 := T.out.op.cell 9
      simp only [opL, List.getElem?_cons_zero, List.getElem?_cons_succ] at x9
      have f10 := T.out.op.free 10
      have x10 := T.out.op.cell 10
      simp only [opL, List.getElem?_cons_zero, List.getElem?_cons_succ] at x10
      clear hr ho
      replace T := Lib.hid (T.out.setV vk vn vt)
      have x0 := T.out.op.cell 0
      simp only [opL, List.getElem?_cons_zero] at x0
      have he := T.out.rd.err
      have hop := T.out.op
      go_wp2_with (refine wpList_load_opG otR (by kernel_rfl) _ rfl _ rfl _ _ _ (by assumption) ?_)
      refine (rright_any _ _ _ _ HSZ.out T.out.pa).mono ?_
      rw [HRG.out]
      rintro e wa ⟨rfl, hba⟩
      replace T := Lib.hid (T.out.kept hba)
      clear hba hop x0 he
      go_wp2_with fail
      refine (rfails_any B b s4 _ T.out.rd).mono ?_
      rintro e wb ⟨rfl, hr, ho⟩
      replace T := Lib.hid (T.out.read hr ho)
      clear hr ho
      have hne := failS_ne s4
      generalize failS 21 s4 = sf at *
      have te2 : ((sf.2 : Int) != 0) = true := by rw [bne_iff_ne]; omega
      have he := T.out.rd.err
      obtain ⟨TT, hTT⟩ := T.out.res
      go_wp2_with (refine wpList_store_op otR rfl _ _ rfl _ rfl TT _ hTT rfl Opp.zero none 0 rfl ?_; intro wz hvz hko _ hbn)
      refine bodyPost_ret (results_op otR _ rfl hvz rfl) rfl ?_
      rw [HV.out]
      exact ⟨none, 0, rfl, Pa.none _ _ rfl, T.out.done hbn, T.out.doneO hbn, fun a h => by cases h⟩
    | true =>
      have HRG := Lib.hid hrg
      have HV := Lib.hid (HE.out.trans (endR_ok hrg hez))
      clear hrg
      go_enter Tryz.func58, Tryz.ntmps58
      go_wp2_with fail
      refine HN.out.mono ?_
      rintro e wv ⟨rfl, hr1, ho1⟩
      have hr := HR0.out.only ho1 (by omega)
      have hlt1 := hr.lt
      have hb1 := (Below.refl wv.heap.size wv).alloc (Nat.le_refl _) (.cells #[.int .i64 (3 : Int), .int .i64 0, .int .i64 0, .int .i64 0, .int .i64 0, .string ⟨#[]⟩, .slice none 0 0, .int .i64 0, .int .i64 0, .int .i64 0, .string ⟨#[]⟩, .bool false] 52)
      have T := Lib.hid (show RkO w B b w.heap.size wv.heap.size { Opp.zero with k := 3 } none 0 s1 (wv.alloc (.cells #[.int .i64 (3 : Int), .int .i64 0, .int .i64 0, .int .i64 0, .int .i64 0, .string ⟨#[]⟩, .slice none 0 0, .int .i64 0, .int .i64 0, .int .i64 0, .string ⟨#[]⟩, .bool false] 52)) from
        { hR := Nat.le_refl _, hV := hlt1, hb := hblt, res := hr.kept hb1, op := OpAt.new wv { Opp.zero with k := 3 } none 0 52, rd := hr1.kept hb1, only := (HO0.out.trans ho1).trans (Only.of_below (b := b) hb1), own := OwnP.nil _ _ })
      clear hr hr1 ho1 hb1 HR0 HO0
      have x0 := T.out.op.cell 0
      simp only [opL, List.getElem?_cons_zero] at x0
      go_wp2_with fail
      refine (HU2.out _ T.out.rd).mono ?_
      rintro e wr2 ⟨rfl, hr, ho⟩
      clear x0
      replace T := Lib.hid (T.out.read hr ho)
      have f1 := T.out.op.free 1
      have x1 := T.out.op.cell 1
      simp only [opL, List.getElem?_cons_zero, List.getElem?_cons_succ] at x1
      have f2 := T.out.op.free 2
      have x2 := T.out.op.cell 2
      simp only [opL, List.getElem?_cons_zero, List.getElem?_cons_succ] at x2
      clear hr ho
      replace T := Lib.hid (T.out.setN nt nr)
      have x0 := T.out.op.cell 0
      simp only [opL, List.getElem?_cons_zero] at x0
      go_wp2_with fail
      refine (HU3.out _ T.out.rd).mono ?_
      rintro e wr3 ⟨rfl, hr, ho⟩
      clear x0
      replace T := Lib.hid (T.out.read hr ho)
      have f7 := T.out.op.free 7
      have x7 := T.out.op.cell 7
      simp only [opL, List.getElem?_cons_zero, List.getElem?_cons_succ] at x7
      clear hr ho
      replace T := Lib.hid (T.out.setP (pn : Int))
      have x0 := T.out.op.cell 0
      simp only [opL, List.getElem?_cons_zero] at x0
      go_wp2_with fail
      refine (HU4.out _ T.out.rd).mono ?_
      rintro e wr4 ⟨rfl, hr, ho⟩
      clear x0
      replace T := Lib.hid (T.out.read hr ho)
      have f8 := T.out.op.free 8
      have x8 := T.out.op.cell 8
      simp only [opL, List.getElem?_cons_zero, List.getElem?_cons_succ] at x8
      have f9 := T.out.op.free 9
      have x9 := T.out.op.cell 9
      simp only [opL, List.getElem?_cons_zero, List.getElem?_cons_succ] at x9
      have f10 := T.out.op.free 10
      have x10 := T.out.op.cell 10
      simp only [opL, List.getElem?_cons_zero, List.getElem?_cons_succ] at x10
      clear hr ho
      replace T := Lib.hid (T.out.setV vk vn vt)
      have x0 := T.out.op.cell 0
      simp only [opL, List.getElem?_cons_zero] at x0
      have he := T.out.rd.err
      have hop := T.out.op
      go_wp2_with (refine wpList_load_opG otR (by kernel_rfl) _ rfl _ rfl _ _ _ (by assumption) ?_)
      refine (rright_any _ _ _ _ HSZ.out T.out.pa).mono ?_
      rw [HRG.out]
      rintro e wa ⟨rfl, hba⟩
      replace T := Lib.hid (T.out.kept hba)
      clear hba hop x0 he
      have he := T.out.rd.err
      have hop := T.out.op
      obtain ⟨TT, hTT⟩ := T.out.res
      go_wp2_with (first | (refine wpList_load_op otR rfl _ rfl _ rfl _ _ _ (by assumption) ?_) | (refine wpList_store_op otR rfl _ _ rfl _ rfl TT _ hTT rfl _ _ _ rfl ?_; intro wz hvz hko _ hbn))
      refine bodyPost_ret (results_op otR _ rfl hvz rfl) rfl ?_
      rw [HV.out]
      exact ⟨_, _, rfl, T.out.donePa hko, T.out.done hbn, T.out.doneO hbn, T.out.doneN⟩
  · have te : ((s4.2 : Int) != 0) = true := by rw [bne_iff_ne]; omega
    have te0 : ((s4.2 : Int) == 0) = false := by rw [beq_eq_false_iff_ne]; omega
    have HV := Lib.hid (HE.out.trans (endR_err (q := (({ Opp.zero with k := 3, nt := nt, nr := nr, p := pn, vk := vk, vn := vn, vt := vt } : Opp), s4)) hez))
    go_enter Tryz.func58, Tryz.ntmps58
    go_wp2_with fail
    refine HN.out.mono ?_
    rintro e wv ⟨rfl, hr1, ho1⟩
    have hr := HR0.out.only ho1 (by omega)
    have hlt1 := hr.lt
    have hb1 := (Below.refl wv.heap.size wv).alloc (Nat.le_refl _) (.cells #[.int .i64 (3 : Int), .int .i64 0, .int .i64 0, .int .i64 0, .int .i64 0, .string ⟨#[]⟩, .slice none 0 0, .int .i64 0, .int .i64 0, .int .i64 0, .string ⟨#[]⟩, .bool false] 52)
    have T := Lib.hid (show RkO w B b w.heap.size wv.heap.size { Opp.zero with k := 3 } none 0 s1 (wv.alloc (.cells #[.int .i64 (3 : Int), .int .i64 0, .int .i64 0, .int .i64 0, .int .i64 0, .string ⟨#[]⟩, .slice none 0 0, .int .i64 0, .int .i64 0, .int .i64 0, .string ⟨#[]⟩, .bool false] 52)) from
      { hR := Nat.le_refl _, hV := hlt1, hb := hblt, res := hr.kept hb1, op := OpAt.new wv { Opp.zero with k := 3 } none 0 52, rd := hr1.kept hb1, only := (HO0.out.trans ho1).trans (Only.of_below (b := b) hb1), own := OwnP.nil _ _ })
    clear hr hr1 ho1 hb1 HR0 HO0
    have x0 := T.out.op.cell 0
    simp only [opL, List.getElem?_cons_zero] at x0
    go_wp2_with fail
    refine (HU2.out _ T.out.rd).mono ?_
    rintro e wr2 ⟨rfl, hr, ho⟩
    clear x0
    replace T := Lib.hid (T.out.read hr ho)
    have f1 := T.out.op.free 1
    have x1 := T.out.op.cell 1
    simp only [opL, List.getElem?_cons_zero, List.getElem?_cons_succ] at x1
    have f2 := T.out.op.free 2
    have x2 := T.out.op.cell 2
    simp only [opL, List.getElem?_cons_zero, List.getElem?_cons_succ] at x2
    clear hr ho
    replace T := Lib.hid (T.out.setN nt nr)
    have x0 := T.out.op.cell 0
    simp only [opL, List.getElem?_cons_zero] at x0
    go_wp2_with fail
    refine (HU3.out _ T.out.rd).mono ?_
    rintro e wr3 ⟨rfl, hr, ho⟩
    clear x0
    replace T := Lib.hid (T.out.read hr ho)
    have f7 := T.out.op.free 7
    have x7 := T.out.op.cell 7
    simp only [opL, List.getElem?_cons_zero, List.getElem?_cons_succ] at x7
    clear hr ho
    replace T := Lib.hid (T.out.setP (pn : Int))
    have x0 := T.out.op.cell 0
    simp only [opL, List.getElem?_cons_zero] at x0
    go_wp2_with fail
    refine (HU4.out _ T.out.rd).mono ?_
    rintro e wr4 ⟨rfl, hr, ho⟩
    clear x0
    replace T := Lib.hid (T.out.read hr ho)
    have f8 := T.out.op.free 8
    have x8 := T.out.op.cell 8
    simp only [opL, List.getElem?_cons_zero, List.getElem?_cons_succ] at x8
    have f9 := T.out.op.free 9
    have x9 := T.out.op.cell 9
    simp only [opL, List.getElem?_cons_zero, List.getElem?_cons_succ] at x9
    have f10 := T.out.op.free 10
    have x10 := T.out.op.cell 10
    simp only [opL, List.getElem?_cons_zero, List.getElem?_cons_succ] at x10
    clear hr ho
    replace T := Lib.hid (T.out.setV vk vn vt)
    have x0 := T.out.op.cell 0
    simp only [opL, List.getElem?_cons_zero] at x0
    have he := T.out.rd.err
    obtain ⟨TT, hTT⟩ := T.out.res
    go_wp2_with (refine wpList_store_op otR rfl _ _ rfl _ rfl TT _ hTT rfl Opp.zero none 0 rfl ?_; intro wz hvz hko _ hbn)
    refine bodyPost_ret (results_op otR _ rfl hvz rfl) rfl ?_
    rw [HV.out]
    exact ⟨none, 0, rfl, Pa.none _ _ rfl, T.out.done hbn, T.out.doneO hbn, fun a h => by cases h⟩
end Go.Proofs.YthpdphlkmleldaaGreat
