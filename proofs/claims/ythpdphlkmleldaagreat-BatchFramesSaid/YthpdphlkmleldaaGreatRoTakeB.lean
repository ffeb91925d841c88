/-
  THE DOCUMENT's TAKE: an op is read (kinds 4, 5 and none).
  No conditions.
-/
import Derived.Test.YthpdphlkmleldaaGreatRoTakeR
namespace Go.Proofs.YthpdphlkmleldaaGreat
open Go.RowKit

set_option maxRecDepth 100000 in
set_option maxHeartbeats 8000000 in
theorem rtake4_any (B b : Nat) (s : RS) (w : World) (h : RrS w B b s) (hk : (numS s).1 = 4) : Calls Tryz.prog 58 #[.pointer (some ⟨b, 0, none⟩)] w (TookRo w B b (takeRo s)) := by
  have hb0 := (Below.refl w.heap.size w).alloc (Nat.le_refl _) (.cells #[.int .i64 0, .int .i64 0, .int .i64 0, .int .i64 0, .int .i64 0, .string ⟨#[]⟩, .slice none 0 0, .int .i64 0, .int .i64 0, .int .i64 0, .string ⟨#[]⟩, .bool false] 52)
  have HN := Lib.hid (rnums_any B b s _ (h.kept hb0))
  have HTK : Hid (takeRo s = endR (rawR (numS s).1 (numS s).2)) := Lib.hid (takeRo_eq (by omega))
  have hblt := h.lt
  rw [hk] at HN HTK
  generalize (numS s).2 = s1 at *
  have HO0 := Lib.hid (Only.of_below (b := b) hb0)
  have HR0 := Lib.hid (show OpAt _ w.heap.size Opp.zero none 0 from OpAt.new w Opp.zero none 0 52)
  clear h hb0 hk
  have HRW : Hid (rawR 4 s1 = ({ Opp.zero with k := 4, nt := (stS s1).1.1, nr := (stS s1).1.2, on := (uptoS 1 (stS s1).2).1 == 1 }, (uptoS 1 (stS s1).2).2)) := Lib.hid rfl
  have HU2 := Lib.hid (fun W h => rsts_any B b s1 W h)
  generalize stS s1 = q2 at *
  obtain ⟨⟨nt, nr⟩, s2⟩ := q2
  dsimp only at *
  have HU3 := Lib.hid (fun W h => ruptos_any B b 1 s2 W h)
  generalize uptoS 1 s2 = q3 at *
  obtain ⟨no, s3⟩ := q3
  dsimp only at *
  have hon : ((no : Int) == 1) = (no == 1) := by rw [Bool.eq_iff_iff]; simp; omega
  generalize (no == 1) = on at *
  have HSZ := Lib.hid (show Sz ({ Opp.zero with k := 4, nt := nt, nr := nr, on := on } : Opp) from ⟨Nat.zero_le _, Nat.zero_le _, Nat.zero_le _⟩)
  have HE : Hid (takeRo s = endR (({ Opp.zero with k := 4, nt := nt, nr := nr, on := on } : Opp), s3)) := Lib.hid (HTK.out.trans (congrArg endR HRW.out))
  clear HTK HRW
  by_cases hez : s3.2 = 0
  · have te : ((s3.2 : Int) != 0) = false := by rw [hez]; rfl
    have te0 : ((s3.2 : Int) == 0) = true := by rw [hez]; rfl
    cases hrg : rightO ({ Opp.zero with k := 4, nt := nt, nr := nr, on := on } : Opp) with
    | false =>
      have HRG := Lib.hid hrg
      have HV := Lib.hid (HE.out.trans (endR_no hez hrg))
      clear hrg
      go_enter Tryz.func58, Tryz.ntmps58
      go_wp2_with fail
      refine HN.out.mono ?_
      rintro e wv ⟨rfl, hr1, ho1⟩
      have hr := HR0.out.only ho1 (by omega)
      have hlt1 := hr.lt
      have hb1 := (Below.refl wv.heap.size wv).alloc (Nat.le_refl _) (.cells #[.int .i64 (4 : Int), .int .i64 0, .int .i64 0, .int .i64 0, .int .i64 0, .string ⟨#[]⟩, .slice none 0 0, .int .i64 0, .int .i64 0, .int .i64 0, .string ⟨#[]⟩, .bool false] 52)
      have T := Lib.hid (show RkO w B b w.heap.size wv.heap.size { Opp.zero with k := 4 } none 0 s1 (wv.alloc (.cells #[.int .i64 (4 : Int), .int .i64 0, .int .i64 0, .int .i64 0, .int .i64 0, .string ⟨#[]⟩, .slice none 0 0, .int .i64 0, .int .i64 0, .int .i64 0, .string ⟨#[]⟩, .bool false] 52)) from
        { hR := Nat.le_refl _, hV := hlt1, hb := hblt, res := hr.kept hb1, op := OpAt.new wv { Opp.zero with k := 4 } none 0 52, rd := hr1.kept hb1, only := (HO0.out.trans ho1).trans (Only.of_below (b := b) hb1), own := OwnP.nil _ _ })
      clear hr hr1 ho1 hb1 HR0 HO0
      have x0 := T.out.op.cell 0
      simp only [opL, List.getElem?_cons_zero] at x0
      go_wp2_with fail
      refine (HU2.out _ T.out.rd).mono ?_
      rintro e wr2 ⟨rfl, hr, ho⟩
      clear x0
      replace T := Lib.hid (T.out.read hr ho)
      have f1 := T.out.op.free 1
      have x1 := T.out.op.cell 1
      simp only [opL, List.getElem?_cons_zero, List.getElem?_cons_succ] at x1
      have f2 := T.out.op.free 2
      have x2 := T.out.op.cell 2
      simp only [opL, List.getElem?_cons_zero, List.getElem?_cons_succ] at x2
      clear hr ho
      replace T := Lib.hid (T.out.setN nt nr)
      have x0 := T.out.op.cell 0
      simp only [opL, List.getElem?_cons_zero] at x0
      go_wp2_with fail
      refine (HU3.out _ T.out.rd).mono ?_
      rintro e wr3 ⟨rfl, hr, ho⟩
      clear x0
      replace T := Lib.hid (T.out.read hr ho)
      have f11 := T.out.op.free 11
      have x11 := T.out.op.cell 11
      simp only [opL, List.getElem?_cons_zero, List.getElem?_cons_succ] at x11
      clear hr ho
      replace T := Lib.hid (T.out.setOn on)
      have x0 := T.out.op.cell 0
      simp only [opL, List.getElem?_cons_zero] at x0
      have he := T.out.rd.err
      have hop := T.out.op
      go_wp2_with (refine wpList_load_opG otR (by kernel_rfl) _ rfl _ rfl _ _ _ (by assumption) ?_)
      refine (rright_any _ _ _ _ HSZ.out T.out.pa).mono ?_
      rw [HRG.out]
      rintro e wa ⟨rfl, hba⟩
      replace T := Lib.hid (T.out.kept hba)
      clear hba hop x0 he
      go_wp2_with fail
      refine (rfails_any B b s3 _ T.out.rd).mono ?_
      rintro e wb ⟨rfl, hr, ho⟩
      replace T := Lib.hid (T.out.read hr ho)
      clear hr ho
      have hne := failS_ne s3
      generalize failS 21 s3 = sf at *
      have te2 : ((sf.2 : Int) != 0) = true := by rw [bne_iff_ne]; omega
      have he := T.out.rd.err
      obtain ⟨TT, hTT⟩ := T.out.res
      go_wp2_with (refine wpList_store_op otR rfl _ _ rfl _ rfl TT _ hTT rfl Opp.zero none 0 rfl ?_; intro wz hvz hko _ hbn)
      refine bodyPost_ret (results_op otR _ rfl hvz rfl) rfl ?_
      rw [HV.out]
      exact ⟨none, 0, rfl, Pa.none _ _ rfl, T.out.done hbn, T.out.doneO hbn, fun a h => by cases h⟩
    | true =>
      have HRG := Lib.hid hrg
      have HV := Lib.hid (HE.out.trans (endR_ok hrg hez))
      clear hrg
      go_enter Tryz.func58, Tryz.ntmps58
      go_wp2_with fail
      refine HN.out.mono ?_
      rintro e wv ⟨rfl, hr1, ho1⟩
      have hr := HR0.out.only ho1 (by omega)
      have hlt1 := hr.lt
      have hb1 := (Below.refl wv.heap.size wv).alloc (Nat.le_refl _) (.cells #[.int .i64 (4 : Int), .int .i64 0, .int .i64 0, .int .i64 0, .int .i64 0, .string ⟨#[]⟩, .slice none 0 0, .int .i64 0, .int .i64 0, .int .i64 0, .string ⟨#[]⟩, .bool false] 52)
      have T := Lib.hid (show RkO w B b w.heap.size wv.heap.size { Opp.zero with k := 4 } none 0 s1 (wv.alloc (.cells #[.int .i64 (4 : Int), .int .i64 0, .int .i64 0, .int .i64 0, .int .i64 0, .string ⟨#[]⟩, .slice none 0 0, .int .i64 0, .int .i64 0, .int .i64 0, .string ⟨#[]⟩, .bool false] 52)) from
        { hR := Nat.le_refl _, hV := hlt1, hb := hblt, res := hr.kept hb1, op := OpAt.new wv { Opp.zero with k := 4 } none 0 52, rd := hr1.kept hb1, only := (HO0.out.trans ho1).trans (Only.of_below (b := b) hb1), own := OwnP.nil _ _ })
      clear hr hr1 ho1 hb1 HR0 HO0
      have x0 := T.out.op.cell 0
      simp only [opL, List.getElem?_cons_zero] at x0
      go_wp2_with fail
      refine (HU2.out _ T.out.rd).mono ?_
      rintro e wr2 ⟨rfl, hr, ho⟩
      clear x0
      replace T := Lib.hid (T.out.read hr ho)
      have f1 := T.out.op.free 1
      have x1 := T.out.op.cell 1
      simp only [opL, List.getElem?_cons_zero, List.getElem?_cons_succ] at x1
      have f2 := T.out.op.free 2
      have x2 := T.out.op.cell 2
      simp only [opL, List.getElem?_cons_zero, List.getElem?_cons_succ] at x2
      clear hr ho
      replace T := Lib.hid (T.out.setN nt nr)
      have x0 := T.out.op.cell 0
      simp only [opL, List.getElem?_cons_zero] at x0
      go_wp2_with fail
      refine (HU3.out _ T.out.rd).mono ?_
      rintro e wr3 ⟨rfl, hr, ho⟩
      clear x0
      replace T := Lib.hid (T.out.read hr ho)
      have f11 := T.out.op.free 11
      have x11 := T.out.op.cell 11
      simp only [opL, List.getElem?_cons_zero, List.getElem?_cons_succ] at x11
      clear hr ho
      replace T := Lib.hid (T.out.setOn on)
      have x0 := T.out.op.cell 0
      simp only [opL, List.getElem?_cons_zero] at x0
      have he := T.out.rd.err
      have hop := T.out.op
      go_wp2_with (refine wpList_load_opG otR (by kernel_rfl) _ rfl _ rfl _ _ _ (by assumption) ?_)
      refine (rright_any _ _ _ _ HSZ.out T.out.pa).mono ?_
      rw [HRG.out]
      rintro e wa ⟨rfl, hba⟩
      replace T := Lib.hid (T.out.kept hba)
      clear hba hop x0 he
      have he := T.out.rd.err
      have hop := T.out.op
      obtain ⟨TT, hTT⟩ := T.out.res
      go_wp2_with (first | (refine wpList_load_op otR rfl _ rfl _ rfl _ _ _ (by assumption) ?_) | (refine wpList_store_op otR rfl _ _ rfl _ rfl TT _ hTT rfl _ _ _ rfl ?_; intro wz hvz hko _ hbn))
      refine bodyPost_ret (results_op otR _ rfl hvz rfl) rfl ?_
      rw [HV.out]
      exact ⟨_, _, rfl, T.out.donePa hko, T.out.done hbn, T.out.doneO hbn, T.out.doneN⟩
  · have te : ((s3.2 : Int) != 0) = true := by rw [bne_iff_ne]; omega
    have te0 : ((s3.2 : Int) == 0) = false := by rw [beq_eq_false_iff_ne]; omega
    have HV := Lib.hid (HE.out.trans (endR_err (q := (({ Opp.zero with k := 4, nt := nt, nr := nr, on := on } : Opp), s3)) hez))
    go_enter Tryz.func58, Tryz.ntmps58
    go_wp2_with fail
    refine HN.out.mono ?_
    rintro e wv ⟨rfl, hr1, ho1⟩
    have hr := HR0.out.only ho1 (by omega)
    have hlt1 := hr.lt
    have hb1 := (Below.refl wv.heap.size wv).alloc (Nat.le_refl _) (.cells #[.int .i64 (4 : Int), .int .i64 0, .int .i64 0, .int .i64 0, .int .i64 0, .string ⟨#[]⟩, .slice none 0 0, .int .i64 0, .int .i64 0, .int .i64 0, .string ⟨#[]⟩, .bool false] 52)
    have T := Lib.hid (show RkO w B b w.heap.size wv.heap.size { Opp.zero with k := 4 } none 0 s1 (wv.alloc (.cells #[.int .i64 (4 : Int), .int .i64 0, .int .i64 0, .int .i64 0, .int .i64 0, .string ⟨#[]⟩, .slice none 0 0, .int .i64 0, .int .i64 0, .int .i64 0, .string ⟨#[]⟩, .bool false] 52)) from
      { hR := Nat.le_refl _, hV := hlt1, hb := hblt, res := hr.kept hb1, op := OpAt.new wv { Opp.zero with k := 4 } none 0 52, rd := hr1.kept hb1, only := (HO0.out.trans ho1).trans (Only.of_below (b := b) hb1), own := OwnP.nil _ _ })
    clear hr hr1 ho1 hb1 HR0 HO0
    have x0 := T.out.op.cell 0
    simp only [opL, List.getElem?_cons_zero] at x0
    go_wp2_with fail
    refine (HU2.out _ T.out.rd).mono ?_
    rintro e wr2 ⟨rfl, hr, ho⟩
    clear x0
    replace T := Lib.hid (T.out.read hr ho)
    have f1 := T.out.op.free 1
    have x1 := T.out.op.cell 1
    simp only [opL, List.getElem?_cons_zero, List.getElem?_cons_succ] at x1
    have f2 := T.out.op.free 2
    have x2 := T.out.op.cell 2
    simp only [opL, List.getElem?_cons_zero, List.getElem?_cons_succ] at x2
    clear hr ho
    replace T := Lib.hid (T.out.setN nt nr)
    have x0 := T.out.op.cell 0
    simp only [opL, List.getElem?_cons_zero] at x0
    go_wp2_with fail
    refine (HU3.out _ T.out.rd).mono ?_
    rintro e wr3 ⟨rfl, hr, ho⟩
    clear x0
    replace T := Lib.hid (T.out.read hr ho)
    have f11 := T.out.op.free 11
    have x11 := T.out.op.cell 11
    simp only [opL, List.getElem?_cons_zero, List.getElem?_cons_succ] at x11
    clear hr ho
    replace T := Lib.hid (T.out.setOn on)
    have x0 := T.out.op.cell 0
    simp only [opL, List.getElem?_cons_zero] at x0
    have he := T.out.rd.err
    obtain ⟨TT, hTT⟩ := T.out.res
    go_wp2_with (refine wpList_store_op otR rfl _ _ rfl _ rfl TT _ hTT rfl Opp.zero none 0 rfl ?_; intro wz hvz hko _ hbn)
    refine bodyPost_ret (results_op otR _ rfl hvz rfl) rfl ?_
    rw [HV.out]
    exact ⟨none, 0, rfl, Pa.none _ _ rfl, T.out.done hbn, T.out.doneO hbn, fun a h => by cases h⟩

set_option maxRecDepth 100000 in
set_option maxHeartbeats 8000000 in
theorem rtake5_any (B b : Nat) (s : RS) (w : World) (h : RrS w B b s) (hk : (numS s).1 = 5) : Calls Tryz.prog 58 #[.pointer (some ⟨b, 0, none⟩)] w (TookRo w B b (takeRo s)) := by
  have hb0 := (Below.refl w.heap.size w).alloc (Nat.le_refl _) (.cells #[.int .i64 0, .int .i64 0, .int .i64 0, .int .i64 0, .int .i64 0, .string ⟨#[]⟩, .slice none 0 0, .int .i64 0, .int .i64 0, .int .i64 0, .string ⟨#[]⟩, .bool false] 52)
  have HN := Lib.hid (rnums_any B b s _ (h.kept hb0))
  have HTK : Hid (takeRo s = endR (rawR (numS s).1 (numS s).2)) := Lib.hid (takeRo_eq (by omega))
  have hblt := h.lt
  rw [hk] at HN HTK
  generalize (numS s).2 = s1 at *
  have HO0 := Lib.hid (Only.of_below (b := b) hb0)
  have HR0 := Lib.hid (show OpAt _ w.heap.size Opp.zero none 0 from OpAt.new w Opp.zero none 0 52)
  clear h hb0 hk
  have HRW : Hid (rawR 5 s1 = ({ Opp.zero with k := 5, nt := (stS s1).1.1, nr := (stS s1).1.2, rt := (stS (stS s1).2).1.1, rr := (stS (stS s1).2).1.2 }, (stS (stS s1).2).2)) := Lib.hid rfl
  have HU2 := Lib.hid (fun W h => rsts_any B b s1 W h)
  generalize stS s1 = q2 at *
  obtain ⟨⟨nt, nr⟩, s2⟩ := q2
  dsimp only at *
  have HU3 := Lib.hid (fun W h => rsts_any B b s2 W h)
  generalize stS s2 = q3 at *
  obtain ⟨⟨rt, rr⟩, s3⟩ := q3
  dsimp only at *
  have HSZ := Lib.hid (show Sz ({ Opp.zero with k := 5, nt := nt, nr := nr, rt := rt, rr := rr } : Opp) from ⟨Nat.zero_le _, Nat.zero_le _, Nat.zero_le _⟩)
  have HE : Hid (takeRo s = endR (({ Opp.zero with k := 5, nt := nt, nr := nr, rt := rt, rr := rr } : Opp), s3)) := Lib.hid (HTK.out.trans (congrArg endR HRW.out))
  clear HTK HRW
  by_cases hez : s3.2 = 0
  · have te : ((s3.2 : Int) != 0) = false := by rw [hez]; rfl
    have te0 : ((s3.2 : Int) == 0) = true := by rw [hez]; rfl
    cases hrg : rightO ({ Opp.zero with k := 5, nt := nt, nr := nr, rt := rt, rr := rr } : Opp) with
    | false =>
      have HRG := Lib.hid hrg
      have HV := Lib.hid (HE.out.trans (endR_no hez hrg))
      clear hrg
      go_enter Tryz.func58, Tryz.ntmps58
      go_wp2_with fail
      refine HN.out.mono ?_
      rintro e wv ⟨rfl, hr1, ho1⟩
      have hr := HR0.out.only ho1 (by omega)
      have hlt1 := hr.lt
      have hb1 := (Below.refl wv.heap.size wv).alloc (Nat.le_refl _) (.cells #[.int .i64 (5 : Int), .int .i64 0, .int .i64 0, .int .i64 0, .int .i64 0, .string ⟨#[]⟩, .slice none 0 0, .int .i64 0, .int .i64 0, .int .i64 0, .string ⟨#[]⟩, .bool false] 52)
      have T := Lib.hid (show RkO w B b w.heap.size wv.heap.size { Opp.zero with k := 5 } none 0 s1 (wv.alloc (.cells #[.int .i64 (5 : Int), .int .i64 0, .int .i64 0, .int .i64 0, .int .i64 0, .string ⟨#[]⟩, .slice none 0 0, .int .i64 0, .int .i64 0, .int .i64 0, .string ⟨#[]⟩, .bool false] 52)) from
        { hR := Nat.le_refl _, hV := hlt1, hb := hblt, res := hr.kept hb1, op := OpAt.new wv { Opp.zero with k := 5 } none 0 52, rd := hr1.kept hb1, only := (HO0.out.trans ho1).trans (Only.of_below (b := b) hb1), own := OwnP.nil _ _ })
      clear hr hr1 ho1 hb1 HR0 HO0
      have x0 := T.out.op.cell 0
      simp only [opL, List.getElem?_cons_zero] at x0
      go_wp2_with fail
      refine (HU2.out _ T.out.rd).mono ?_
      rintro e wr2 ⟨rfl, hr, ho⟩
      clear x0
      replace T := Lib.hid (T.out.read hr ho)
      have f1 := T.out.op.free 1
      have x1 := T.out.op.cell 1
      simp only [opL, List.getElem?_cons_zero, List.getElem?_cons_succ] at x1
      have f2 := T.out.op.free 2
      have x2 := T.out.op.cell 2
      simp only [opL, List.getElem?_cons_zero, List.getElem?_cons_succ] at x2
      clear hr ho
      replace T := Lib.hid (T.out.setN nt nr)
      have x0 := T.out.op.cell 0
      simp only [opL, List.getElem?_cons_zero] at x0
      go_wp2_with fail
      refine (HU3.out _ T.out.rd).mono ?_
      rintro e wr3 ⟨rfl, hr, ho⟩
      clear x0
      replace T := Lib.hid (T.out.read hr ho)
      have f3 := T.out.op.free 3
      have x3 := T.out.op.cell 3
      simp only [opL, List.getElem?_cons_zero, List.getElem?_cons_succ] at x3
      have f4 := T.out.op.free 4
      have x4 := T.out.op.cell 4
      simp only [opL, List.getElem?_cons_zero, List.getElem?_cons_succ] at x4
      clear hr ho
      replace T := Lib.hid (T.out.setR rt rr)
      have x0 := T.out.op.cell 0
      simp only [opL, List.getElem?_cons_zero] at x0
      have he := T.out.rd.err
      have hop := T.out.op
      go_wp2_with (refine wpList_load_opG otR (by kernel_rfl) _ rfl _ rfl _ _ _ (by assumption) ?_)
      refine (rright_any _ _ _ _ HSZ.out T.out.pa).mono ?_
      rw [HRG.out]
      rintro e wa ⟨rfl, hba⟩
      replace T := Lib.hid (T.out.kept hba)
      clear hba hop x0 he
      go_wp2_with fail
      refine (rfails_any B b s3 _ T.out.rd).mono ?_
      rintro e wb ⟨rfl, hr, ho⟩
      replace T := Lib.hid (T.out.read hr ho)
      clear hr ho
      have hne := failS_ne s3
      generalize failS 21 s3 = sf at *
      have te2 : ((sf.2 : Int) != 0) = true := by rw [bne_iff_ne]; omega
      have he := T.out.rd.err
      obtain ⟨TT, hTT⟩ := T.out.res
      go_wp2_with (refine wpList_store_op otR rfl _ _ rfl _ rfl TT _ hTT rfl Opp.zero none 0 rfl ?_; intro wz hvz hko _ hbn)
      refine bodyPost_ret (results_op otR _ rfl hvz rfl) rfl ?_
      rw [HV.out]
      exact ⟨none, 0, rfl, Pa.none _ _ rfl, T.out.done hbn, T.out.doneO hbn, fun a h => by cases h⟩
    | true =>
      have HRG := Lib.hid hrg
      have HV := Lib.hid (HE.out.trans (endR_ok hrg hez))
      clear hrg
      go_enter Tryz.func58, Tryz.ntmps58
      go_wp2_with fail
      refine HN.out.mono ?_
      rintro e wv ⟨rfl, hr1, ho1⟩
      have hr := HR0.out.only ho1 (by omega)
      have hlt1 := hr.lt
      have hb1 := (Below.refl wv.heap.size wv).alloc (Nat.le_refl _) (.cells #[.int .i64 (5 : Int), .int .i64 0, .int .i64 0, .int .i64 0, .int .i64 0, .string ⟨#[]⟩, .slice none 0 0, .int .i64 0, .int .i64 0, .int .i64 0, .string ⟨#[]⟩, .bool false] 52)
      have T := Lib.hid (show RkO w B b w.heap.size wv.heap.size { Opp.zero with k := 5 } none 0 s1 (wv.alloc (.cells #[.int .i64 (5 : Int), .int .i64 0, .int .i64 0, .int .i64 0, .int .i64 0, .string ⟨#[]⟩, .slice none 0 0, .int .i64 0, .int .i64 0, .int .i64 0, .string ⟨#[]⟩, .bool false] 52)) from
        { hR := Nat.le_refl _, hV := hlt1, hb := hblt, res := hr.kept hb1, op := OpAt.new wv { Opp.zero with k := 5 } none 0 52, rd := hr1.kept hb1, only := (HO0.out.trans ho1).trans (Only.of_below (b := b) hb1), own := OwnP.nil _ _ })
      clear hr hr1 ho1 hb1 HR0 HO0
      have x0 := T.out.op.cell 0
      simp only [opL, List.getElem?_cons_zero] at x0
      go_wp2_with fail
      refine (HU2.out _ T.out.rd).mono ?_
      rintro e wr2 ⟨rfl, hr, ho⟩
      clear x0
      replace T := Lib.hid (T.out.read hr ho)
      have f1 := T.out.op.free 1
      have x1 := T.out.op.cell 1
      simp only [opL, List.getElem?_cons_zero, List.getElem?_cons_succ] at x1
      have f2 := T.out.op.free 2
      have x2 := T.out.op.cell 2
      simp only [opL, List.getElem?_cons_zero, List.getElem?_cons_succ] at x2
      clear hr ho
      replace T := Lib.hid (T.out.setN nt nr)
      have x0 := T.out.op.cell 0
      simp only [opL, List.getElem?_cons_zero] at x0
      go_wp2_with fail
      refine (HU3.out _ T.out.rd).mono ?_
      rintro e wr3 ⟨rfl, hr, ho⟩
      clear x0
      replace T := Lib.hid (T.out.read hr ho)
      have f3 := T.out.op.free 3
      have x3 := T.out.op.cell 3
      simp only [opL, List.getElem?_cons_zero, List.getElem?_cons_succ] at x3
      have f4 := T.out.op.free 4
      have x4 := T.out.op.cell 4
      simp only [opL, List.getElem?_cons_zero, List.getElem?_cons_succ] at x4
      clear hr ho
      replace T := Lib.hid (T.out.setR rt rr)
      have x0 := T.out.op.cell 0
      simp only [opL, List.getElem?_cons_zero] at x0
      have he := T.out.rd.err
      have hop := T.out.op
      go_wp2_with (refine wpList_load_opG otR (by kernel_rfl) _ rfl _ rfl _ _ _ (by assumption) ?_)
      refine (rright_any _ _ _ _ HSZ.out T.out.pa).mono ?_
      rw [HRG.out]
      rintro e wa ⟨rfl, hba⟩
      replace T := Lib.hid (T.out.kept hba)
      clear hba hop x0 he
      have he := T.out.rd.err
      have hop := T.out.op
      obtain ⟨TT, hTT⟩ := T.out.res
      go_wp2_with (first | (refine wpList_load_op otR rfl _ rfl _ rfl _ _ _ (by assumption) ?_) | (refine wpList_store_op otR rfl _ _ rfl _ rfl TT _ hTT rfl _ _ _ rfl ?_; intro wz hvz hko _ hbn))
      refine bodyPost_ret (results_op otR _ rfl hvz rfl) rfl ?_
      rw [HV.out]
      exact ⟨_, _, rfl, T.out.donePa hko, T.out.done hbn, T.out.doneO hbn, T.out.doneN⟩
  · have te : ((s3.2 : Int) != 0) = true := by rw [bne_iff_ne]; omega
    have te0 : ((s3.2 : Int) == 0) = false := by rw [beq_eq_false_iff_ne]; omega
    have HV := Lib.hid (HE.out.trans (endR_err (q := (({ Opp.zero with k := 5, nt := nt, nr := nr, rt := rt, rr := rr } : Opp), s3)) hez))
    go_enter Tryz.func58, Tryz.ntmps58
    go_wp2_with fail
    refine HN.out.mono ?_
    rintro e wv ⟨rfl, hr1, ho1⟩
    have hr := HR0.out.only ho1 (by omega)
    have hlt1 := hr.lt
    have hb1 := (Below.refl wv.heap.size wv).alloc (Nat.le_refl _) (.cells #[.int .i64 (5 : Int), .int .i64 0, .int .i64 0, .int .i64 0, .int .i64 0, .string ⟨#[]⟩, .slice none 0 0, .int .i64 0, .int .i64 0, .int .i64 0, .string ⟨#[]⟩, .bool false] 52)
    have T := Lib.hid (show RkO w B b w.heap.size wv.heap.size { Opp.zero with k := 5 } none 0 s1 (wv.alloc (.cells #[.int .i64 (5 : Int), .int .i64 0, .int .i64 0, .int .i64 0, .int .i64 0, .string ⟨#[]⟩, .slice none 0 0, .int .i64 0, .int .i64 0, .int .i64 0, .string ⟨#[]⟩, .bool false] 52)) from
      { hR := Nat.le_refl _, hV := hlt1, hb := hblt, res := hr.kept hb1, op := OpAt.new wv { Opp.zero with k := 5 } none 0 52, rd := hr1.kept hb1, only := (HO0.out.trans ho1).trans (Only.of_below (b := b) hb1), own := OwnP.nil _ _ })
    clear hr hr1 ho1 hb1 HR0 HO0
    have x0 := T.out.op.cell 0
    simp only [opL, List.getElem?_cons_zero] at x0
    go_wp2_with fail
    refine (HU2.out _ T.out.rd).mono ?_
    rintro e wr2 ⟨rfl, hr, ho⟩
    clear x0
    replace T := Lib.hid (T.out.read hr ho)
    have f1 := T.out.op.free 1
    have x1 := T.out.op.cell 1
    simp only [opL, List.getElem?_cons_zero, List.getElem?_cons_succ] at x1
    have f2 := T.out.op.free 2
    have x2 := T.out.op.cell 2
    simp only [opL, List.getElem?_cons_zero, List.getElem?_cons_succ] at x2
    clear hr ho
    replace T := Lib.hid (T.out.setN nt nr)
    have x0 := T.out.op.cell 0
    simp only [opL, List.getElem?_cons_zero] at x0
    go_wp2_with fail
    refine (HU3.out _ T.out.rd).mono ?_
    rintro e wr3 ⟨rfl, hr, ho⟩
    clear x0
    replace T := Lib.hid (T.out.read hr ho)
    have f3 := T.out.op.free 3
    have x3 := T.out.op.cell 3
    simp only [opL, List.getElem?_cons_zero, List.getElem?_cons_succ] at x3
    have f4 := T.out.op.free 4
    have x4 := T.out.op.cell 4
    simp only [opL, List.getElem?_cons_zero, List.getElem?_cons_succ] at x4
    clear hr ho
    replace T := Lib.hid (T.out.setR rt rr)
    have x0 := T.out.op.cell 0
    simp only [opL, List.getElem?_cons_zero] at x0
    have he := T.out.rd.err
    obtain ⟨TT, hTT⟩ := T.out.res
    go_wp2_with (refine wpList_store_op otR rfl _ _ rfl _ rfl TT _ hTT rfl Opp.zero none 0 rfl ?_; intro wz hvz hko _ hbn)
    refine bodyPost_ret (results_op otR _ rfl hvz rfl) rfl ?_
    rw [HV.out]
    exact ⟨none, 0, rfl, Pa.none _ _ rfl, T.out.done hbn, T.out.doneO hbn, fun a h => by cases h⟩

set_option maxRecDepth 100000 in
set_option maxHeartbeats 2000000 in
theorem rtakeN_any (B b : Nat) (s : RS) (w : World) (h : RrS w B b s) (hk : (numS s).1 < 1 ∨ 6 < (numS s).1) : Calls Tryz.prog 58 #[.pointer (some ⟨b, 0, none⟩)] w (TookRo w B b (takeRo s)) := by
  have hb0 := (Below.refl w.heap.size w).alloc (Nat.le_refl _) (.cells #[.int .i64 0, .int .i64 0, .int .i64 0, .int .i64 0, .int .i64 0, .string ⟨#[]⟩, .slice none 0 0, .int .i64 0, .int .i64 0, .int .i64 0, .string ⟨#[]⟩, .bool false] 52)
  have HN := Lib.hid (rnums_any B b s _ (h.kept hb0))
  have HV : Hid (takeRo s = (Opp.zero, failS 21 (numS s).2)) := Lib.hid (by unfold takeRo; rw [if_pos hk])
  have hblt := h.lt
  have HO0 := Lib.hid (Only.of_below (b := b) hb0)
  have HR0 := Lib.hid (show OpAt _ w.heap.size Opp.zero none 0 from OpAt.new w Opp.zero none 0 52)
  clear h hb0
  generalize numS s = q1 at *
  obtain ⟨kk, s1⟩ := q1
  dsimp only at *
  rcases hk with hk | hk
  · obtain rfl : kk = 0 := by omega
    clear hk
    go_enter Tryz.func58, Tryz.ntmps58
    go_wp2_with fail
    refine HN.out.mono ?_
    rintro e wv ⟨rfl, hr1, ho1⟩
    have hr := HR0.out.only ho1 (by omega)
    have hlt1 := hr.lt
    have hb1 := (Below.refl wv.heap.size wv).alloc (Nat.le_refl _) (.cells #[.int .i64 0, .int .i64 0, .int .i64 0, .int .i64 0, .int .i64 0, .string ⟨#[]⟩, .slice none 0 0, .int .i64 0, .int .i64 0, .int .i64 0, .string ⟨#[]⟩, .bool false] 52)
    have T := Lib.hid (show RkO w B b w.heap.size wv.heap.size { Opp.zero with k := 0 } none 0 s1 (wv.alloc (.cells #[.int .i64 0, .int .i64 0, .int .i64 0, .int .i64 0, .int .i64 0, .string ⟨#[]⟩, .slice none 0 0, .int .i64 0, .int .i64 0, .int .i64 0, .string ⟨#[]⟩, .bool false] 52)) from
      { hR := Nat.le_refl _, hV := hlt1, hb := hblt, res := hr.kept hb1, op := OpAt.new wv { Opp.zero with k := 0 } none 0 52, rd := hr1.kept hb1, only := (HO0.out.trans ho1).trans (Only.of_below (b := b) hb1), own := OwnP.nil _ _ })
    clear hr hr1 ho1 hb1 HR0 HO0
    have x0 := T.out.op.cell 0
    simp only [opL, List.getElem?_cons_zero] at x0
    go_wp2_with fail
    refine (rfails_any B b s1 _ T.out.rd).mono ?_
    rintro e wb ⟨rfl, hr, ho⟩
    replace T := Lib.hid (T.out.read hr ho)
    clear hr ho x0
    obtain ⟨TT, hTT⟩ := T.out.res
    go_wp2_with (refine wpList_store_op otR rfl _ _ rfl _ rfl TT _ hTT rfl Opp.zero none 0 rfl ?_; intro wz hvz hko _ hbn)
    refine bodyPost_ret (results_op otR _ rfl hvz rfl) rfl ?_
    rw [HV.out]
    exact ⟨none, 0, rfl, Pa.none _ _ rfl, T.out.done hbn, T.out.doneO hbn, fun a h => by cases h⟩
  · have d1 : decide ((kk : Int) < 1) = false := decide_eq_false (by omega)
    have d2 : decide ((6 : Int) < (kk : Int)) = true := decide_eq_true (by omega)
    clear hk
    go_enter Tryz.func58, Tryz.ntmps58
    go_wp2_with fail
    refine HN.out.mono ?_
    rintro e wv ⟨rfl, hr1, ho1⟩
    have hr := HR0.out.only ho1 (by omega)
    have hlt1 := hr.lt
    have hb1 := (Below.refl wv.heap.size wv).alloc (Nat.le_refl _) (.cells #[.int .i64 ((kk : Nat) : Int), .int .i64 0, .int .i64 0, .int .i64 0, .int .i64 0, .string ⟨#[]⟩, .slice none 0 0, .int .i64 0, .int .i64 0, .int .i64 0, .string ⟨#[]⟩, .bool false] 52)
    have T := Lib.hid (show RkO w B b w.heap.size wv.heap.size { Opp.zero with k := (kk : Int) } none 0 s1 (wv.alloc (.cells #[.int .i64 ((kk : Nat) : Int), .int .i64 0, .int .i64 0, .int .i64 0, .int .i64 0, .string ⟨#[]⟩, .slice none 0 0, .int .i64 0, .int .i64 0, .int .i64 0, .string ⟨#[]⟩, .bool false] 52)) from
      { hR := Nat.le_refl _, hV := hlt1, hb := hblt, res := hr.kept hb1, op := OpAt.new wv { Opp.zero with k := (kk : Int) } none 0 52, rd := hr1.kept hb1, only := (HO0.out.trans ho1).trans (Only.of_below (b := b) hb1), own := OwnP.nil _ _ })
    clear hr hr1 ho1 hb1 HR0 HO0
    have x0 := T.out.op.cell 0
    simp only [opL, List.getElem?_cons_zero] at x0
    go_wp2_with fail
    refine (rfails_any B b s1 _ T.out.rd).mono ?_
    rintro e wb ⟨rfl, hr, ho⟩
    replace T := Lib.hid (T.out.read hr ho)
    clear hr ho x0
    obtain ⟨TT, hTT⟩ := T.out.res
    go_wp2_with (refine wpList_store_op otR rfl _ _ rfl _ rfl TT _ hTT rfl Opp.zero none 0 rfl ?_; intro wz hvz hko _ hbn)
    refine bodyPost_ret (results_op otR _ rfl hvz rfl) rfl ?_
    rw [HV.out]
    exact ⟨none, 0, rfl, Pa.none _ _ rfl, T.out.done hbn, T.out.doneO hbn, fun a h => by cases h⟩
end Go.Proofs.YthpdphlkmleldaaGreat
