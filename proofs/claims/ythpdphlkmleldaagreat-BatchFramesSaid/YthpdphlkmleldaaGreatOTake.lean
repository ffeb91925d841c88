/-
  TAKE: an op is read.
  Conditions: at most 10^12 bytes are left, or the op's Path is not longer.
-/
import Derived.Test.YthpdphlkmleldaaGreatORight
import Derived.Test.YthpdphlkmleldaaGreatGE
namespace Go.Proofs.YthpdphlkmleldaaGreat
open Go.RowKit

/-- what Take carries: the result's block, the op's, what its kind names; the reader -/
structure TkO (w0 : World) (B b R V PB : Nat) (p : Prt) (x : Opp) (q : Option Addr) (c : Nat) (s : RS) (w : World) : Prop where
  hR : w0.heap.size ≤ R
  hV : R < V
  hP : V < PB
  hb : b < w0.heap.size
  res : OpAt w R Opp.zero none 0
  op : OpAt w V x q c
  pr : PrAt w PB p
  rd : RdS w B b s
  only : Only b w0 w
  own : OwnP w (V + 1) (.slice q x.path.length c) x.path
theorem TkO.kept {w0 w w' : World} {B b R V PB : Nat} {p : Prt} {x : Opp} {q : Option Addr} {c : Nat} {s : RS} (h : TkO w0 B b R V PB p x q c s w) (hb : Below w.heap.size w w') : TkO w0 B b R V PB p x q c s w' :=
  { h with res := h.res.kept hb, op := h.op.kept hb, pr := h.pr.kept hb, rd := h.rd.kept hb, only := h.only.trans (Only.of_below hb), own := h.own.below hb }
theorem TkO.read {w0 w w' : World} {B b R V PB : Nat} {p : Prt} {x : Opp} {q : Option Addr} {c : Nat} {s s' : RS} (h : TkO w0 B b R V PB p x q c s w) (hr : RdS w' B b s') (ho : Only b w w') : TkO w0 B b R V PB p x q c s' w' := by
  have h1 := h.hR; have h2 := h.hV; have h3 := h.hP; have h4 := h.hb
  exact { h with res := h.res.only ho (by omega), op := h.op.only ho (by omega), pr := h.pr.only ho (by omega), rd := hr, only := h.only.trans ho, own := h.own.only ho (by omega) }
theorem TkO.set {w0 w w' : World} {B b R V PB : Nat} {p : Prt} {x y : Opp} {q q' : Option Addr} {c c' : Nat} {s : RS} (h : TkO w0 B b R V PB p x q c s w) (hc : Only V w w') (hop : OpAt w' V y q' c') (hown : OwnP w' (V + 1) (.slice q' y.path.length c') y.path) : TkO w0 B b R V PB p y q' c' s w' := by
  have h1 := h.hR; have h2 := h.hV; have h3 := h.hP; have h4 := h.hb
  have hbw : Below w0.heap.size w w' := ⟨hc.os, hc.tape, hc.output, hc.size, fun k hk => hc.block k (by have := h.only.size; omega) (by simp; omega)⟩
  exact { h with res := h.res.only hc (by omega), op := hop, pr := h.pr.only hc (by omega), rd := h.rd.under hbw h4, only := h.only.then_new hbw, own := hown }
theorem only_two (V i j : Nat) (w : World) (a b : Value) : Only V w ((w.setCell ⟨V, i, none⟩ a).setCell ⟨V, j, none⟩ b) := (Only.set V i w a).trans (Only.set V j _ b)
theorem only_three (V i j k : Nat) (w : World) (a b c : Value) : Only V w (((w.setCell ⟨V, i, none⟩ a).setCell ⟨V, j, none⟩ b).setCell ⟨V, k, none⟩ c) := (only_two V i j w a b).trans (Only.set V k _ c)
section
variable {w0 w : World} {B b R V PB : Nat} {p : Prt} {x : Opp} {q : Option Addr} {c : Nat} {s : RS}
theorem TkO.setN (h : TkO w0 B b R V PB p x q c s w) (t r : Int) : TkO w0 B b R V PB p { x with nt := t, nr := r } q c s ((w.setCell ⟨V, 1, none⟩ (.int .i64 t)).setCell ⟨V, 2, none⟩ (.int .i64 r)) := h.set (only_two _ _ _ _ _ _) (h.op.setN t r) (h.own.only (only_two _ _ _ _ _ _) (Nat.lt_succ_self _))
theorem TkO.setR (h : TkO w0 B b R V PB p x q c s w) (t r : Int) : TkO w0 B b R V PB p { x with rt := t, rr := r } q c s ((w.setCell ⟨V, 3, none⟩ (.int .i64 t)).setCell ⟨V, 4, none⟩ (.int .i64 r)) := h.set (only_two _ _ _ _ _ _) (h.op.setR t r) (h.own.only (only_two _ _ _ _ _ _) (Nat.lt_succ_self _))
theorem TkO.setKey (h : TkO w0 B b R V PB p x q c s w) (t : ByteArray) : TkO w0 B b R V PB p { x with key := t } q c s (w.setCell ⟨V, 5, none⟩ (.string t)) := h.set (Only.set _ _ _ _) (h.op.setKey t) (h.own.only (Only.set _ _ _ _) (Nat.lt_succ_self _))
theorem TkO.setP (h : TkO w0 B b R V PB p x q c s w) (t : Int) : TkO w0 B b R V PB p { x with p := t } q c s (w.setCell ⟨V, 7, none⟩ (.int .i64 t)) := h.set (Only.set _ _ _ _) (h.op.setP t) (h.own.only (Only.set _ _ _ _) (Nat.lt_succ_self _))
theorem TkO.setV (h : TkO w0 B b R V PB p x q c s w) (k n : Int) (t : ByteArray) : TkO w0 B b R V PB p { x with vk := k, vn := n, vt := t } q c s (((w.setCell ⟨V, 8, none⟩ (.int .i64 k)).setCell ⟨V, 9, none⟩ (.int .i64 n)).setCell ⟨V, 10, none⟩ (.string t)) := h.set (only_three _ _ _ _ _ _ _ _) (h.op.setV k n t) (h.own.only (only_three _ _ _ _ _ _ _ _) (Nat.lt_succ_self _))
theorem TkO.setOn (h : TkO w0 B b R V PB p x q c s w) (t : Bool) : TkO w0 B b R V PB p { x with on := t } q c s (w.setCell ⟨V, 11, none⟩ (.bool t)) := h.set (Only.set _ _ _ _) (h.op.setOn t) (h.own.only (Only.set _ _ _ _) (Nat.lt_succ_self _))
theorem TkO.setPath (h : TkO w0 B b R V PB p x q c s w) (l : List Qm.St) (q' : Option Addr) (c' : Nat) (hl : OwnP w (V + 1) (.slice q' l.length c') l) : TkO w0 B b R V PB p { x with path := l } q' c' s (w.setCell ⟨V, 6, none⟩ (.slice q' l.length c')) :=
  h.set (Only.set _ _ _ _) (h.op.setPath l q' c') (hl.only (Only.set _ _ _ _) (Nat.lt_succ_self _))
theorem OwnP.up {w : World} {B V : Nat} {v : Value} {l : List Qm.St} (h : OwnP w B v l) (hV : V < B) : OwnP w (V + 1) v l := own_base h (fun g hg => by have := (World.ownsRow.lt h g hg).1; omega)
theorem TkO.pa (h : TkO w0 B b R V PB p x q c s w) : Pa w x q c := by
  obtain ⟨p', c', e, h1, h2, -, h3, -⟩ := own_rd h.own
  cases e
  exact ⟨h1, h3, h2⟩
end

theorem txS_small (s : RS) : (txS s).1.size ≤ 1048576 := by
  unfold txS
  split
  · exact Nat.zero_le _
  · show (strB (textR s.1).1).size ≤ _
    rw [← str_len, strB_toList]
    unfold textR
    split
    · exact Nat.zero_le _
    · split
      · exact Nat.zero_le _
      · have := (numR_small s.1 1048576).2.1
        simp only [List.length_take]
        omega
theorem vlS_size (s : RS) : (vlS s).1.2.2.size ≤ 64 := by
  unfold vlS
  split
  · exact Nat.zero_le _
  · show (strB (takeV s.1).2.2.1).size ≤ 64
    rw [← str_len, strB_toList]
    unfold takeV
    split
    · exact Nat.zero_le _
    · split
      · next h =>
        rcases right_kind h with e | e | e | e | e
        all_goals first | (rw [right_empty h (by omega)]; exact Nat.zero_le _) | skip
        rw [e] at h
        exact (right_text h).2
      · exact Nat.zero_le _
theorem lpS_len : ∀ (n : Nat) (s : RS) (a : List Qm.St), (lpS n s a).1.length ≤ a.length + s.1.length
  | 0, s, a => by simp [lpS]
  | n + 1, s, a => by
    rw [lpS]
    split
    · simp
    · next h =>
      have h1 := lpS_len n (stS s).2 (a ++ [(stS s).1])
      have h2 := stS_len (s := s) (by simpa using h)
      simp only [List.length_append, List.length_singleton] at h1
      omega
theorem paS_len (s : RS) : (paS s).1.length ≤ s.1.length := by
  have h1 := lpS_len (numS s).1 (numS s).2 []
  have h2 := numS_len s
  unfold paS
  simp at h1
  omega
theorem lpS_le : ∀ (n : Nat) (s : RS) (a : List Qm.St), (lpS n s a).1.length ≤ a.length + n
  | 0, s, a => by simp [lpS]
  | n + 1, s, a => by
    rw [lpS]
    split
    · simp
    · have h1 := lpS_le n (stS s).2 (a ++ [(stS s).1])
      simp only [List.length_append, List.length_singleton] at h1
      omega
theorem paS_le (s : RS) : (paS s).1.length ≤ (numS s).1 := by
  have h1 := lpS_le (numS s).1 (numS s).2 []
  unfold paS
  simp at h1
  omega
/-- at most 10^12 bytes are left, or the op's Path is not longer -/
def Lim (s : RS) : Prop := s.1.length ≤ 1000000000000 ∨ (numS s).1 ≠ 6 ∨ (numS (stS (numS s).2).2).1 ≤ 1000000000000
theorem stS_le (s : RS) : (stS s).2.1.length ≤ s.1.length := by
  unfold stS
  split
  · exact Nat.le_refl _
  · show (takeR s.1).2.2.1.length ≤ _
    have h1 := uptoR_len s.1 1099511627776
    have h2 := uptoR_len (uptoR s.1 1099511627776).2.1 15
    unfold takeR
    split
    · exact h1
    · split
      · simp only; omega
      · simp only; omega

/-- what Take leaves -/
def TookO (w : World) (B b : Nat) (r : Opp × RS) (e : Ending) (w' : World) : Prop :=
  ∃ q c, e = .returned (.agg (opA r.1 q c)) ∧ Pa w' r.1 q c ∧ RdS w' B b r.2 ∧ Only b w w' ∧ (∀ a, q = some a → w.heap.size ≤ a.block)
theorem endO_ok {q : Opp × RS} (h : rightO q.1 = true) (he : q.2.2 = 0) : endO q = q := by unfold endO; rw [if_pos h, if_pos he]
theorem endO_err {q : Opp × RS} (h : rightO q.1 = true) (he : q.2.2 ≠ 0) : endO q = (Opp.zero, q.2) := by unfold endO; rw [if_pos h, if_neg he]
theorem endO_no {q : Opp × RS} (h : rightO q.1 = false) : endO q = (Opp.zero, failS 21 q.2) := by unfold endO; rw [if_neg (by simp [h])]
theorem failS_ne (s : RS) : (failS 21 s).2 ≠ 0 := by unfold failS; dsimp only; split <;> omega

section
variable {w0 w wz : World} {B b R V PB : Nat} {p : Prt} {x : Opp} {q : Option Addr} {c : Nat} {s : RS}
/-- the result is written: nothing else turned -/
theorem TkO.done (h : TkO w0 B b R V PB p x q c s w) (hbn : ∀ B w0, Below B w0 w → B ≤ R → Below B w0 wz) : RdS wz B b s :=
  h.rd.under (hbn _ w (Below.refl _ _) h.hR) h.hb
theorem TkO.doneO (h : TkO w0 B b R V PB p x q c s w) (hbn : ∀ B w0, Below B w0 w → B ≤ R → Below B w0 wz) : Only b w0 wz :=
  h.only.then_new (hbn _ w (Below.refl _ _) h.hR)
theorem TkO.doneN (h : TkO w0 B b R V PB p x q c s w) : ∀ a, q = some a → w0.heap.size ≤ a.block := by
  have hV := h.hV
  have hR := h.hR
  obtain ⟨p', c', e, -, -, -, -, h4⟩ := own_rd h.own
  cases e
  intro a ha
  have := (h4 a ha).1
  omega
theorem TkO.donePa (h : TkO w0 B b R V PB p x q c s w) (hko : ∀ k, k ≠ R → wz.heap[k]? = w.heap[k]?) : Pa wz x q c := by
  have hp := h.pa
  have hV := h.hV
  refine ⟨fun h0 => ?_, hp.nil, hp.cap⟩
  obtain ⟨p', c', e, h1, h2, -, h3, h4⟩ := own_rd h.own
  cases e
  obtain ⟨b', o', rfl, hc⟩ := hp.rd h0
  have := (h4 _ rfl).1
  exact ⟨b', o', rfl, fun i u hu => by rw [World.cell?_of_block (w := w) (hko b' (by simp only at this; omega))]; exact hc i u hu⟩
end

set_option maxRecDepth 100000 in
set_option maxHeartbeats 4000000 in
theorem take1_any (B b : Nat) (s : RS) (w : World) (h : RdS w B b s) (_ : Lim s) (hk : (numS s).1 = 1) : Calls Tryz.prog 50 #[.pointer (some ⟨b, 0, none⟩)] w (TookO w B b (takeO s)) := by
  have hb0 := (Below.refl w.heap.size w).alloc (Nat.le_refl _) (.cells #[.int .i64 0, .int .i64 0, .int .i64 0, .int .i64 0, .int .i64 0, .string ⟨#[]⟩, .slice none 0 0, .int .i64 0, .int .i64 0, .int .i64 0, .string ⟨#[]⟩, .bool false] 53)
  have HN := Lib.hid (nums_any B b s _ (h.kept hb0))
  have HTK : Hid (takeO s = endO (rawO (numS s).1 (numS s).2)) := Lib.hid rfl
  have hblt := h.lt
  rw [hk] at HN HTK
  generalize (numS s).2 = s1 at *
  have HO0 := Lib.hid (Only.of_below (b := b) hb0)
  have HR0 := Lib.hid (show OpAt _ w.heap.size Opp.zero none 0 from OpAt.new w Opp.zero none 0 53)
  clear h hb0 hk
  have HRW : Hid (rawO 1 s1 = ({ Opp.zero with k := 1, rt := (stS s1).1.1, rr := (stS s1).1.2, key := (txS (stS s1).2).1 }, (txS (stS s1).2).2)) := Lib.hid rfl
  have HU2 := Lib.hid (fun W h => sts_any B b s1 W h)
  generalize stS s1 = q2 at *
  obtain ⟨⟨rt, rr⟩, s2⟩ := q2
  dsimp only at *
  have HU3 := Lib.hid (fun W h => texts_any B b s2 W h)
  have hzk := txS_small s2
  generalize txS s2 = q3 at *
  obtain ⟨key, s3⟩ := q3
  dsimp only at *
  have HSZ := Lib.hid (show Sz ({ Opp.zero with k := 1, rt := rt, rr := rr, key := key } : Opp) from ⟨Nat.le_trans hzk (by decide), Nat.zero_le _, Nat.zero_le _⟩)
  have HNA := Lib.hid (show ∀ W, Calls Tryz.prog 72 #[.int .i64 (1 : Int)] W fun e w' => e = .returned (.agg #[.bool false, .bool true, .bool false, .bool false, .bool false, .bool false]) ∧ Below W.heap.size W w' from fun W => named_any (1 : Int) W)
  have HE : Hid (takeO s = endO (({ Opp.zero with k := 1, rt := rt, rr := rr, key := key } : Opp), s3)) := Lib.hid (HTK.out.trans (congrArg endO HRW.out))
  clear HTK HRW
  cases hrg : rightO ({ Opp.zero with k := 1, rt := rt, rr := rr, key := key } : Opp) with
  | false =>
    have HV := Lib.hid (HE.out.trans (endO_no hrg))
    have HRG := Lib.hid hrg
    clear hrg
    go_enter Tryz.func50, Tryz.ntmps50
    go_wp2_with fail
    refine HN.out.mono ?_
    rintro e w1 ⟨rfl, hr1, ho1⟩
    have hr := HR0.out.only ho1 (by omega)
    have hlt1 := hr.lt
    have hb1 := (Below.refl w1.heap.size w1).alloc (Nat.le_refl _) (.cells #[.int .i64 (1 : Int), .int .i64 0, .int .i64 0, .int .i64 0, .int .i64 0, .string ⟨#[]⟩, .slice none 0 0, .int .i64 0, .int .i64 0, .int .i64 0, .string ⟨#[]⟩, .bool false] 53)
    have HR1 := Lib.hid (hr.kept hb1)
    have HV1 := Lib.hid (show OpAt (w1.alloc (.cells #[.int .i64 (1 : Int), .int .i64 0, .int .i64 0, .int .i64 0, .int .i64 0, .string ⟨#[]⟩, .slice none 0 0, .int .i64 0, .int .i64 0, .int .i64 0, .string ⟨#[]⟩, .bool false] 53)) w1.heap.size { Opp.zero with k := 1 } none 0 from OpAt.new w1 { Opp.zero with k := 1 } none 0 53)
    have HD1 := Lib.hid (hr1.kept hb1)
    have HO1 := Lib.hid ((HO0.out.trans ho1).trans (Only.of_below (b := b) hb1))
    clear hr hr1 ho1 hb1
    go_wp2_with fail
    refine (HNA.out _).mono ?_
    rintro e w2 ⟨rfl, hb2⟩
    have hv2 := HV1.out.kept hb2
    have hlt2 := hv2.lt
    have hb3 := (Below.refl w2.heap.size w2).alloc (Nat.le_refl _) (.cells #[.bool false, .bool true, .bool false, .bool false, .bool false, .bool false] 109)
    have T := Lib.hid (show TkO w B b w.heap.size w1.heap.size w2.heap.size ⟨false, true, false, false, false, false⟩ { Opp.zero with k := 1 } none 0 s1 (w2.alloc (.cells #[.bool false, .bool true, .bool false, .bool false, .bool false, .bool false] 109)) from
      { hR := Nat.le_refl _, hV := hlt1, hP := hlt2, hb := hblt, res := (HR1.out.kept hb2).kept hb3, op := hv2.kept hb3, pr := PrAt.new w2 ⟨false, true, false, false, false, false⟩ 109, rd := (HD1.out.kept hb2).kept hb3, only := (HO1.out.trans (Only.of_below hb2)).trans (Only.of_below hb3), own := OwnP.nil _ _ })
    clear HR1 HV1 HD1 HO1 hb2 hb3 hv2
    obtain ⟨p0, p1, p2, p3, p4, p5⟩ := T.out.pr.cells
    dsimp only at p0 p1 p2 p3 p4 p5
    go_wp2_with fail
    refine (HU2.out _ T.out.rd).mono ?_
    rintro e w3 ⟨rfl, hr, ho⟩
    replace T := Lib.hid (T.out.read hr ho)
    have f3 := T.out.op.free 3
    have x3 := T.out.op.cell 3
    simp only [opL, List.getElem?_cons_zero, List.getElem?_cons_succ] at x3
    have f4 := T.out.op.free 4
    have x4 := T.out.op.cell 4
    simp only [opL, List.getElem?_cons_zero, List.getElem?_cons_succ] at x4
    clear hr ho p0 p1 p2 p3 p4 p5
    replace T := Lib.hid (T.out.setR rt rr)
    obtain ⟨p0, p1, p2, p3, p4, p5⟩ := T.out.pr.cells
    dsimp only at p0 p1 p2 p3 p4 p5
    go_wp2_with fail
    refine (HU3.out _ T.out.rd).mono ?_
    rintro e w4 ⟨rfl, hr, ho⟩
    replace T := Lib.hid (T.out.read hr ho)
    have f5 := T.out.op.free 5
    have x5 := T.out.op.cell 5
    simp only [opL, List.getElem?_cons_zero, List.getElem?_cons_succ] at x5
    clear hr ho p0 p1 p2 p3 p4 p5
    replace T := Lib.hid (T.out.setKey key)
    obtain ⟨p0, p1, p2, p3, p4, p5⟩ := T.out.pr.cells
    dsimp only at p0 p1 p2 p3 p4 p5
    have hop := T.out.op
    go_wp2_with (refine wpList_load_op otP rfl _ rfl _ rfl _ _ _ (by assumption) ?_)
    refine (oright_any _ _ _ _ HSZ.out T.out.pa).mono ?_
    rw [HRG.out]
    rintro e wa ⟨rfl, hba⟩
    replace T := Lib.hid (T.out.kept hba)
    clear hba p0 p1 p2 p3 p4 p5 hop
    go_wp2_with fail
    refine (fails_any B b s3 _ T.out.rd).mono ?_
    rintro e wb ⟨rfl, hr, ho⟩
    replace T := Lib.hid (T.out.read hr ho)
    clear hr ho
    have hne := failS_ne s3
    generalize failS 21 s3 = sf at *
    have te : ((sf.2 : Int) != 0) = true := by rw [bne_iff_ne]; omega
    go_wp2_with fail
    refine (errs_any B b sf _ T.out.rd).mono ?_
    rintro e wc ⟨rfl, rfl⟩
    obtain ⟨TT, hTT⟩ := T.out.res
    go_wp2_with (first | (refine wpList_load_op otP rfl _ rfl _ rfl _ _ _ (by assumption) ?_) | (refine wpList_store_op otP rfl _ _ rfl _ rfl TT _ hTT rfl Opp.zero none 0 rfl ?_; intro wz hvz hko _ hbn))
    refine bodyPost_ret (results_op otP _ rfl hvz rfl) rfl ?_
    rw [HV.out]
    exact ⟨none, 0, rfl, Pa.none _ _ rfl, T.out.done hbn, T.out.doneO hbn, fun a h => by cases h⟩
  | true =>
    have HRG := Lib.hid hrg
    by_cases hez : s3.2 = 0
    · have HV := Lib.hid (HE.out.trans (endO_ok hrg hez))
      have te : ((s3.2 : Int) != 0) = false := by rw [hez]; rfl
      clear hrg
      go_enter Tryz.func50, Tryz.ntmps50
      go_wp2_with fail
      refine HN.out.mono ?_
      rintro e w1 ⟨rfl, hr1, ho1⟩
      have hr := HR0.out.only ho1 (by omega)
      have hlt1 := hr.lt
      have hb1 := (Below.refl w1.heap.size w1).alloc (Nat.le_refl _) (.cells #[.int .i64 (1 : Int), .int .i64 0, .int .i64 0, .int .i64 0, .int .i64 0, .string ⟨#[]⟩, .slice none 0 0, .int .i64 0, .int .i64 0, .int .i64 0, .string ⟨#[]⟩, .bool false] 53)
      have HR1 := Lib.hid (hr.kept hb1)
      have HV1 := Lib.hid (show OpAt (w1.alloc (.cells #[.int .i64 (1 : Int), .int .i64 0, .int .i64 0, .int .i64 0, .int .i64 0, .string ⟨#[]⟩, .slice none 0 0, .int .i64 0, .int .i64 0, .int .i64 0, .string ⟨#[]⟩, .bool false] 53)) w1.heap.size { Opp.zero with k := 1 } none 0 from OpAt.new w1 { Opp.zero with k := 1 } none 0 53)
      have HD1 := Lib.hid (hr1.kept hb1)
      have HO1 := Lib.hid ((HO0.out.trans ho1).trans (Only.of_below (b := b) hb1))
      clear hr hr1 ho1 hb1
      go_wp2_with fail
      refine (HNA.out _).mono ?_
      rintro e w2 ⟨rfl, hb2⟩
      have hv2 := HV1.out.kept hb2
      have hlt2 := hv2.lt
      have hb3 := (Below.refl w2.heap.size w2).alloc (Nat.le_refl _) (.cells #[.bool false, .bool true, .bool false, .bool false, .bool false, .bool false] 109)
      have T := Lib.hid (show TkO w B b w.heap.size w1.heap.size w2.heap.size ⟨false, true, false, false, false, false⟩ { Opp.zero with k := 1 } none 0 s1 (w2.alloc (.cells #[.bool false, .bool true, .bool false, .bool false, .bool false, .bool false] 109)) from
        { hR := Nat.le_refl _, hV := hlt1, hP := hlt2, hb := hblt, res := (HR1.out.kept hb2).kept hb3, op := hv2.kept hb3, pr := PrAt.new w2 ⟨false, true, false, false, false, false⟩ 109, rd := (HD1.out.kept hb2).kept hb3, only := (HO1.out.trans (Only.of_below hb2)).trans (Only.of_below hb3), own := OwnP.nil _ _ })
      clear HR1 HV1 HD1 HO1 hb2 hb3 hv2
      obtain ⟨p0, p1, p2, p3, p4, p5⟩ := T.out.pr.cells
      dsimp only at p0 p1 p2 p3 p4 p5
      go_wp2_with fail
      refine (HU2.out _ T.out.rd).mono ?_
      rintro e w3 ⟨rfl, hr, ho⟩
      replace T := Lib.hid (T.out.read hr ho)
      have f3 := T.out.op.free 3
      have x3 := T.out.op.cell 3
      simp only [opL, List.getElem?_cons_zero, List.getElem?_cons_succ] at x3
      have f4 := T.out.op.free 4
      have x4 := T.out.op.cell 4
      simp only [opL, List.getElem?_cons_zero, List.getElem?_cons_succ] at x4
      clear hr ho p0 p1 p2 p3 p4 p5
      replace T := Lib.hid (T.out.setR rt rr)
      obtain ⟨p0, p1, p2, p3, p4, p5⟩ := T.out.pr.cells
      dsimp only at p0 p1 p2 p3 p4 p5
      go_wp2_with fail
      refine (HU3.out _ T.out.rd).mono ?_
      rintro e w4 ⟨rfl, hr, ho⟩
      replace T := Lib.hid (T.out.read hr ho)
      have f5 := T.out.op.free 5
      have x5 := T.out.op.cell 5
      simp only [opL, List.getElem?_cons_zero, List.getElem?_cons_succ] at x5
      clear hr ho p0 p1 p2 p3 p4 p5
      replace T := Lib.hid (T.out.setKey key)
      obtain ⟨p0, p1, p2, p3, p4, p5⟩ := T.out.pr.cells
      dsimp only at p0 p1 p2 p3 p4 p5
      have hop := T.out.op
      go_wp2_with (refine wpList_load_op otP rfl _ rfl _ rfl _ _ _ (by assumption) ?_)
      refine (oright_any _ _ _ _ HSZ.out T.out.pa).mono ?_
      rw [HRG.out]
      rintro e wa ⟨rfl, hba⟩
      replace T := Lib.hid (T.out.kept hba)
      clear hba p0 p1 p2 p3 p4 p5 hop
      go_wp2_with fail
      refine (errs_any B b s3 _ T.out.rd).mono ?_
      rintro e wc ⟨rfl, rfl⟩
      have hop := T.out.op
      obtain ⟨TT, hTT⟩ := T.out.res
      go_wp2_with (first | (refine wpList_load_op otP rfl _ rfl _ rfl _ _ _ (by assumption) ?_) | (refine wpList_store_op otP rfl _ _ rfl _ rfl TT _ hTT rfl _ _ _ rfl ?_; intro wz hvz hko _ hbn))
      refine bodyPost_ret (results_op otP _ rfl hvz rfl) rfl ?_
      rw [HV.out]
      exact ⟨_, _, rfl, T.out.donePa hko, T.out.done hbn, T.out.doneO hbn, T.out.doneN⟩
    · have HV := Lib.hid (HE.out.trans (endO_err hrg hez))
      have te : ((s3.2 : Int) != 0) = true := by rw [bne_iff_ne]; omega
      clear hrg
      go_enter Tryz.func50, Tryz.ntmps50
      go_wp2_with fail
      refine HN.out.mono ?_
      rintro e w1 ⟨rfl, hr1, ho1⟩
      have hr := HR0.out.only ho1 (by omega)
      have hlt1 := hr.lt
      have hb1 := (Below.refl w1.heap.size w1).alloc (Nat.le_refl _) (.cells #[.int .i64 (1 : Int), .int .i64 0, .int .i64 0, .int .i64 0, .int .i64 0, .string ⟨#[]⟩, .slice none 0 0, .int .i64 0, .int .i64 0, .int .i64 0, .string ⟨#[]⟩, .bool false] 53)
      have HR1 := Lib.hid (hr.kept hb1)
      have HV1 := Lib.hid (show OpAt (w1.alloc (.cells #[.int .i64 (1 : Int), .int .i64 0, .int .i64 0, .int .i64 0, .int .i64 0, .string ⟨#[]⟩, .slice none 0 0, .int .i64 0, .int .i64 0, .int .i64 0, .string ⟨#[]⟩, .bool false] 53)) w1.heap.size { Opp.zero with k := 1 } none 0 from OpAt.new w1 { Opp.zero with k := 1 } none 0 53)
      have HD1 := Lib.hid (hr1.kept hb1)
      have HO1 := Lib.hid ((HO0.out.trans ho1).trans (Only.of_below (b := b) hb1))
      clear hr hr1 ho1 hb1
      go_wp2_with fail
      refine (HNA.out _).mono ?_
      rintro e w2 ⟨rfl, hb2⟩
      have hv2 := HV1.out.kept hb2
      have hlt2 := hv2.lt
      have hb3 := (Below.refl w2.heap.size w2).alloc (Nat.le_refl _) (.cells #[.bool false, .bool true, .bool false, .bool false, .bool false, .bool false] 109)
      have T := Lib.hid (show TkO w B b w.heap.size w1.heap.size w2.heap.size ⟨false, true, false, false, false, false⟩ { Opp.zero with k := 1 } none 0 s1 (w2.alloc (.cells #[.bool false, .bool true, .bool false, .bool false, .bool false, .bool false] 109)) from
        { hR := Nat.le_refl _, hV := hlt1, hP := hlt2, hb := hblt, res := (HR1.out.kept hb2).kept hb3, op := hv2.kept hb3, pr := PrAt.new w2 ⟨false, true, false, false, false, false⟩ 109, rd := (HD1.out.kept hb2).kept hb3, only := (HO1.out.trans (Only.of_below hb2)).trans (Only.of_below hb3), own := OwnP.nil _ _ })
      clear HR1 HV1 HD1 HO1 hb2 hb3 hv2
      obtain ⟨p0, p1, p2, p3, p4, p5⟩ := T.out.pr.cells
      dsimp only at p0 p1 p2 p3 p4 p5
      go_wp2_with fail
      refine (HU2.out _ T.out.rd).mono ?_
      rintro e w3 ⟨rfl, hr, ho⟩
      replace T := Lib.hid (T.out.read hr ho)
      have f3 := T.out.op.free 3
      have x3 := T.out.op.cell 3
      simp only [opL, List.getElem?_cons_zero, List.getElem?_cons_succ] at x3
      have f4 := T.out.op.free 4
      have x4 := T.out.op.cell 4
      simp only [opL, List.getElem?_cons_zero, List.getElem?_cons_succ] at x4
      clear hr ho p0 p1 p2 p3 p4 p5
      replace T := Lib.hid (T.out.setR rt rr)
      obtain ⟨p0, p1, p2, p3, p4, p5⟩ := T.out.pr.cells
      dsimp only at p0 p1 p2 p3 p4 p5
      go_wp2_with fail
      refine (HU3.out _ T.out.rd).mono ?_
      rintro e w4 ⟨rfl, hr, ho⟩
      replace T := Lib.hid (T.out.read hr ho)
      have f5 := T.out.op.free 5
      have x5 := T.out.op.cell 5
      simp only [opL, List.getElem?_cons_zero, List.getElem?_cons_succ] at x5
      clear hr ho p0 p1 p2 p3 p4 p5
      replace T := Lib.hid (T.out.setKey key)
      obtain ⟨p0, p1, p2, p3, p4, p5⟩ := T.out.pr.cells
      dsimp only at p0 p1 p2 p3 p4 p5
      have hop := T.out.op
      go_wp2_with (refine wpList_load_op otP rfl _ rfl _ rfl _ _ _ (by assumption) ?_)
      refine (oright_any _ _ _ _ HSZ.out T.out.pa).mono ?_
      rw [HRG.out]
      rintro e wa ⟨rfl, hba⟩
      replace T := Lib.hid (T.out.kept hba)
      clear hba p0 p1 p2 p3 p4 p5 hop
      go_wp2_with fail
      refine (errs_any B b s3 _ T.out.rd).mono ?_
      rintro e wc ⟨rfl, rfl⟩
      obtain ⟨TT, hTT⟩ := T.out.res
      go_wp2_with (first | (refine wpList_load_op otP rfl _ rfl _ rfl _ _ _ (by assumption) ?_) | (refine wpList_store_op otP rfl _ _ rfl _ rfl TT _ hTT rfl Opp.zero none 0 rfl ?_; intro wz hvz hko _ hbn))
      refine bodyPost_ret (results_op otP _ rfl hvz rfl) rfl ?_
      rw [HV.out]
      exact ⟨none, 0, rfl, Pa.none _ _ rfl, T.out.done hbn, T.out.doneO hbn, fun a h => by cases h⟩

set_option maxRecDepth 100000 in
set_option maxHeartbeats 4000000 in
theorem take2_any (B b : Nat) (s : RS) (w : World) (h : RdS w B b s) (_ : Lim s) (hk : (numS s).1 = 2) : Calls Tryz.prog 50 #[.pointer (some ⟨b, 0, none⟩)] w (TookO w B b (takeO s)) := by
  have hb0 := (Below.refl w.heap.size w).alloc (Nat.le_refl _) (.cells #[.int .i64 0, .int .i64 0, .int .i64 0, .int .i64 0, .int .i64 0, .string ⟨#[]⟩, .slice none 0 0, .int .i64 0, .int .i64 0, .int .i64 0, .string ⟨#[]⟩, .bool false] 53)
  have HN := Lib.hid (nums_any B b s _ (h.kept hb0))
  have HTK : Hid (takeO s = endO (rawO (numS s).1 (numS s).2)) := Lib.hid rfl
  have hblt := h.lt
  rw [hk] at HN HTK
  generalize (numS s).2 = s1 at *
  have HO0 := Lib.hid (Only.of_below (b := b) hb0)
  have HR0 := Lib.hid (show OpAt _ w.heap.size Opp.zero none 0 from OpAt.new w Opp.zero none 0 53)
  clear h hb0 hk
  have HRW : Hid (rawO 2 s1 = ({ Opp.zero with k := 2, nt := (stS s1).1.1, nr := (stS s1).1.2, rt := (stS (stS s1).2).1.1, rr := (stS (stS s1).2).1.2, key := (txS (stS (stS s1).2).2).1 }, (txS (stS (stS s1).2).2).2)) := Lib.hid rfl
  have HU2 := Lib.hid (fun W h => sts_any B b s1 W h)
  generalize stS s1 = q2 at *
  obtain ⟨⟨nt, nr⟩, s2⟩ := q2
  dsimp only at *
  have HU3 := Lib.hid (fun W h => sts_any B b s2 W h)
  generalize stS s2 = q3 at *
  obtain ⟨⟨rt, rr⟩, s3⟩ := q3
  dsimp only at *
  have HU4 := Lib.hid (fun W h => texts_any B b s3 W h)
  have hzk := txS_small s3
  generalize txS s3 = q4 at *
  obtain ⟨key, s4⟩ := q4
  dsimp only at *
  have HSZ := Lib.hid (show Sz ({ Opp.zero with k := 2, nt := nt, nr := nr, rt := rt, rr := rr, key := key } : Opp) from ⟨Nat.le_trans hzk (by decide), Nat.zero_le _, Nat.zero_le _⟩)
  have HNA := Lib.hid (show ∀ W, Calls Tryz.prog 72 #[.int .i64 (2 : Int)] W fun e w' => e = .returned (.agg #[.bool true, .bool true, .bool false, .bool false, .bool false, .bool false]) ∧ Below W.heap.size W w' from fun W => named_any (2 : Int) W)
  have HE : Hid (takeO s = endO (({ Opp.zero with k := 2, nt := nt, nr := nr, rt := rt, rr := rr, key := key } : Opp), s4)) := Lib.hid (HTK.out.trans (congrArg endO HRW.out))
  clear HTK HRW
  cases hrg : rightO ({ Opp.zero with k := 2, nt := nt, nr := nr, rt := rt, rr := rr, key := key } : Opp) with
  | false =>
    have HV := Lib.hid (HE.out.trans (endO_no hrg))
    have HRG := Lib.hid hrg
    clear hrg
    go_enter Tryz.func50, Tryz.ntmps50
    go_wp2_with fail
    refine HN.out.mono ?_
    rintro e w1 ⟨rfl, hr1, ho1⟩
    have hr := HR0.out.only ho1 (by omega)
    have hlt1 := hr.lt
    have hb1 := (Below.refl w1.heap.size w1).alloc (Nat.le_refl _) (.cells #[.int .i64 (2 : Int), .int .i64 0, .int .i64 0, .int .i64 0, .int .i64 0, .string ⟨#[]⟩, .slice none 0 0, .int .i64 0, .int .i64 0, .int .i64 0, .string ⟨#[]⟩, .bool false] 53)
    have HR1 := Lib.hid (hr.kept hb1)
    have HV1 := Lib.hid (show OpAt (w1.alloc (.cells #[.int .i64 (2 : Int), .int .i64 0, .int .i64 0, .int .i64 0, .int .i64 0, .string ⟨#[]⟩, .slice none 0 0, .int .i64 0, .int .i64 0, .int .i64 0, .string ⟨#[]⟩, .bool false] 53)) w1.heap.size { Opp.zero with k := 2 } none 0 from OpAt.new w1 { Opp.zero with k := 2 } none 0 53)
    have HD1 := Lib.hid (hr1.kept hb1)
    have HO1 := Lib.hid ((HO0.out.trans ho1).trans (Only.of_below (b := b) hb1))
    clear hr hr1 ho1 hb1
    go_wp2_with fail
    refine (HNA.out _).mono ?_
    rintro e w2 ⟨rfl, hb2⟩
    have hv2 := HV1.out.kept hb2
    have hlt2 := hv2.lt
    have hb3 := (Below.refl w2.heap.size w2).alloc (Nat.le_refl _) (.cells #[.bool true, .bool true, .bool false, .bool false, .bool false, .bool false] 109)
    have T := Lib.hid (show TkO w B b w.heap.size w1.heap.size w2.heap.size ⟨true, true, false, false, false, false⟩ { Opp.zero with k := 2 } none 0 s1 (w2.alloc (.cells #[.bool true, .bool true, .bool false, .bool false, .bool false, .bool false] 109)) from
      { hR := Nat.le_refl _, hV := hlt1, hP := hlt2, hb := hblt, res := (HR1.out.kept hb2).kept hb3, op := hv2.kept hb3, pr := PrAt.new w2 ⟨true, true, false, false, false, false⟩ 109, rd := (HD1.out.kept hb2).kept hb3, only := (HO1.out.trans (Only.of_below hb2)).trans (Only.of_below hb3), own := OwnP.nil _ _ })
    clear HR1 HV1 HD1 HO1 hb2 hb3 hv2
    obtain ⟨p0, p1, p2, p3, p4, p5⟩ := T.out.pr.cells
    dsimp only at p0 p1 p2 p3 p4 p5
    go_wp2_with fail
    refine (HU2.out _ T.out.rd).mono ?_
    rintro e w3 ⟨rfl, hr, ho⟩
    replace T := Lib.hid (T.out.read hr ho)
    have f1 := T.out.op.free 1
    have x1 := T.out.op.cell 1
    simp only [opL, List.getElem?_cons_zero, List.getElem?_cons_succ] at x1
    have f2 := T.out.op.free 2
    have x2 := T.out.op.cell 2
    simp only [opL, List.getElem?_cons_zero, List.getElem?_cons_succ] at x2
    clear hr ho p0 p1 p2 p3 p4 p5
    replace T := Lib.hid (T.out.setN nt nr)
    obtain ⟨p0, p1, p2, p3, p4, p5⟩ := T.out.pr.cells
    dsimp only at p0 p1 p2 p3 p4 p5
    go_wp2_with fail
    refine (HU3.out _ T.out.rd).mono ?_
    rintro e w4 ⟨rfl, hr, ho⟩
    replace T := Lib.hid (T.out.read hr ho)
    have f3 := T.out.op.free 3
    have x3 := T.out.op.cell 3
    simp only [opL, List.getElem?_cons_zero, List.getElem?_cons_succ] at x3
    have f4 := T.out.op.free 4
    have x4 := T.out.op.cell 4
    simp only [opL, List.getElem?_cons_zero, List.getElem?_cons_succ] at x4
    clear hr ho p0 p1 p2 p3 p4 p5
    replace T := Lib.hid (T.out.setR rt rr)
    obtain ⟨p0, p1, p2, p3, p4, p5⟩ := T.out.pr.cells
    dsimp only at p0 p1 p2 p3 p4 p5
    go_wp2_with fail
    refine (HU4.out _ T.out.rd).mono ?_
    rintro e w5 ⟨rfl, hr, ho⟩
    replace T := Lib.hid (T.out.read hr ho)
    have f5 := T.out.op.free 5
    have x5 := T.out.op.cell 5
    simp only [opL, List.getElem?_cons_zero, List.getElem?_cons_succ] at x5
    clear hr ho p0 p1 p2 p3 p4 p5
    replace T := Lib.hid (T.out.setKey key)
    obtain ⟨p0, p1, p2, p3, p4, p5⟩ := T.out.pr.cells
    dsimp only at p0 p1 p2 p3 p4 p5
    have hop := T.out.op
    go_wp2_with (refine wpList_load_op otP rfl _ rfl _ rfl _ _ _ (by assumption) ?_)
    refine (oright_any _ _ _ _ HSZ.out T.out.pa).mono ?_
    rw [HRG.out]
    rintro e wa ⟨rfl, hba⟩
    replace T := Lib.hid (T.out.kept hba)
    clear hba p0 p1 p2 p3 p4 p5 hop
    go_wp2_with fail
    refine (fails_any B b s4 _ T.out.rd).mono ?_
    rintro e wb ⟨rfl, hr, ho⟩
    replace T := Lib.hid (T.out.read hr ho)
    clear hr ho
    have hne := failS_ne s4
    generalize failS 21 s4 = sf at *
    have te : ((sf.2 : Int) != 0) = true := by rw [bne_iff_ne]; omega
    go_wp2_with fail
    refine (errs_any B b sf _ T.out.rd).mono ?_
    rintro e wc ⟨rfl, rfl⟩
    obtain ⟨TT, hTT⟩ := T.out.res
    go_wp2_with (first | (refine wpList_load_op otP rfl _ rfl _ rfl _ _ _ (by assumption) ?_) | (refine wpList_store_op otP rfl _ _ rfl _ rfl TT _ hTT rfl Opp.zero none 0 rfl ?_; intro wz hvz hko _ hbn))
    refine bodyPost_ret (results_op otP _ rfl hvz rfl) rfl ?_
    rw [HV.out]
    exact ⟨none, 0, rfl, Pa.none _ _ rfl, T.out.done hbn, T.out.doneO hbn, fun a h => by cases h⟩
  | true =>
    have HRG := Lib.hid hrg
    by_cases hez : s4.2 = 0
    · have HV := Lib.hid (HE.out.trans (endO_ok hrg hez))
      have te : ((s4.2 : Int) != 0) = false := by rw [hez]; rfl
      clear hrg
      go_enter Tryz.func50, Tryz.ntmps50
      go_wp2_with fail
      refine HN.out.mono ?_
      rintro e w1 ⟨rfl, hr1, ho1⟩
      have hr := HR0.out.only ho1 (by omega)
      have hlt1 := hr.lt
      have hb1 := (Below.refl w1.heap.size w1).alloc (Nat.le_refl _) (.cells #[.int .i64 (2 : Int), .int .i64 0, .int .i64 0, .int .i64 0, .int .i64 0, .string ⟨#[]⟩, .slice none 0 0, .int .i64 0, .int .i64 0, .int .i64 0, .string ⟨#[]⟩, .bool false] 53)
      have HR1 := Lib.hid (hr.kept hb1)
      have HV1 := Lib.hid (show OpAt (w1.alloc (.cells #[.int .i64 (2 : Int), .int .i64 0, .int .i64 0, .int .i64 0, .int .i64 0, .string ⟨#[]⟩, .slice none 0 0, .int .i64 0, .int .i64 0, .int .i64 0, .string ⟨#[]⟩, .bool false] 53)) w1.heap.size { Opp.zero with k := 2 } none 0 from OpAt.new w1 { Opp.zero with k := 2 } none 0 53)
      have HD1 := Lib.hid (hr1.kept hb1)
      have HO1 := Lib.hid ((HO0.out.trans ho1).trans (Only.of_below (b := b) hb1))
      clear hr hr1 ho1 hb1
      go_wp2_with fail
      refine (HNA.out _).mono ?_
      rintro e w2 ⟨rfl, hb2⟩
      have hv2 := HV1.out.kept hb2
      have hlt2 := hv2.lt
      have hb3 := (Below.refl w2.heap.size w2).alloc (Nat.le_refl _) (.cells #[.bool true, .bool true, .bool false, .bool false, .bool false, .bool false] 109)
      have T := Lib.hid (show TkO w B b w.heap.size w1.heap.size w2.heap.size ⟨true, true, false, false, false, false⟩ { Opp.zero with k := 2 } none 0 s1 (w2.alloc (.cells #[.bool true, .bool true, .bool false, .bool false, .bool false, .bool false] 109)) from
        { hR := Nat.le_refl _, hV := hlt1, hP := hlt2, hb := hblt, res := (HR1.out.kept hb2).kept hb3, op := hv2.kept hb3, pr := PrAt.new w2 ⟨true, true, false, false, false, false⟩ 109, rd := (HD1.out.kept hb2).kept hb3, only := (HO1.out.trans (Only.of_below hb2)).trans (Only.of_below hb3), own := OwnP.nil _ _ })
      clear HR1 HV1 HD1 HO1 hb2 hb3 hv2
      obtain ⟨p0, p1, p2, p3, p4, p5⟩ := T.out.pr.cells
      dsimp only at p0 p1 p2 p3 p4 p5
      go_wp2_with fail
      refine (HU2.out _ T.out.rd).mono ?_
      rintro e w3 ⟨rfl, hr, ho⟩
      replace T := Lib.hid (T.out.read hr ho)
      have f1 := T.out.op.free 1
      have x1 := T.out.op.cell 1
      simp only [opL, List.getElem?_cons_zero, List.getElem?_cons_succ] at x1
      have f2 := T.out.op.free 2
      have x2 := T.out.op.cell 2
      simp only [opL, List.getElem?_cons_zero, List.getElem?_cons_succ] at x2
      clear hr ho p0 p1 p2 p3 p4 p5
      replace T := Lib.hid (T.out.setN nt nr)
      obtain ⟨p0, p1, p2, p3, p4, p5⟩ := T.out.pr.cells
      dsimp only at p0 p1 p2 p3 p4 p5
      go_wp2_with fail
      refine (HU3.out _ T.out.rd).mono ?_
      rintro e w4 ⟨rfl, hr, ho⟩
      replace T := Lib.hid (T.out.read hr ho)
      have f3 := T.out.op.free 3
      have x3 := T.out.op.cell 3
      simp only [opL, List.getElem?_cons_zero, List.getElem?_cons_succ] at x3
      have f4 := T.out.op.free 4
      have x4 := T.out.op.cell 4
      simp only [opL, List.getElem?_cons_zero, List.getElem?_cons_succ] at x4
      clear hr ho p0 p1 p2 p3 p4 p5
      replace T := Lib.hid (T.out.setR rt rr)
      obtain ⟨p0, p1, p2, p3, p4, p5⟩ := T.out.pr.cells
      dsimp only at p0 p1 p2 p3 p4 p5
      go_wp2_with fail
      refine (HU4.out _ T.out.rd).mono ?_
      rintro e w5 ⟨rfl, hr, ho⟩
      replace T := Lib.hid (T.out.read hr ho)
      have f5 := T.out.op.free 5
      have x5 := T.out.op.cell 5
      simp only [opL, List.getElem?_cons_zero, List.getElem?_cons_succ] at x5
      clear hr ho p0 p1 p2 p3 p4 p5
      replace T := Lib.hid (T.out.setKey key)
      obtain ⟨p0, p1, p2, p3, p4, p5⟩ := T.out.pr.cells
      dsimp only at p0 p1 p2 p3 p4 p5
      have hop := T.out.op
      go_wp2_with (refine wpList_load_op otP rfl _ rfl _ rfl _ _ _ (by assumption) ?_)
      refine (oright_any _ _ _ _ HSZ.out T.out.pa).mono ?_
      rw [HRG.out]
      rintro e wa ⟨rfl, hba⟩
      replace T := Lib.hid (T.out.kept hba)
      clear hba p0 p1 p2 p3 p4 p5 hop
      go_wp2_with fail
      refine (errs_any B b s4 _ T.out.rd).mono ?_
      rintro e wc ⟨rfl, rfl⟩
      have hop := T.out.op
      obtain ⟨TT, hTT⟩ := T.out.res
      go_wp2_with (first | (refine wpList_load_op otP rfl _ rfl _ rfl _ _ _ (by assumption) ?_) | (refine wpList_store_op otP rfl _ _ rfl _ rfl TT _ hTT rfl _ _ _ rfl ?_; intro wz hvz hko _ hbn))
      refine bodyPost_ret (results_op otP _ rfl hvz rfl) rfl ?_
      rw [HV.out]
      exact ⟨_, _, rfl, T.out.donePa hko, T.out.done hbn, T.out.doneO hbn, T.out.doneN⟩
    · have HV := Lib.hid (HE.out.trans (endO_err hrg hez))
      have te : ((s4.2 : Int) != 0) = true := by rw [bne_iff_ne]; omega
      clear hrg
      go_enter Tryz.func50, Tryz.ntmps50
      go_wp2_with fail
      refine HN.out.mono ?_
      rintro e w1 ⟨rfl, hr1, ho1⟩
      have hr := HR0.out.only ho1 (by omega)
      have hlt1 := hr.lt
      have hb1 := (Below.refl w1.heap.size w1).alloc (Nat.le_refl _) (.cells #[.int .i64 (2 : Int), .int .i64 0, .int .i64 0, .int .i64 0, .int .i64 0, .string ⟨#[]⟩, .slice none 0 0, .int .i64 0, .int .i64 0, .int .i64 0, .string ⟨#[]⟩, .bool false] 53)
      have HR1 := Lib.hid (hr.kept hb1)
      have HV1 := Lib.hid (show OpAt (w1.alloc (.cells #[.int .i64 (2 : Int), .int .i64 0, .int .i64 0, .int .i64 0, .int .i64 0, .string ⟨#[]⟩, .slice none 0 0, .int .i64 0, .int .i64 0, .int .i64 0, .string ⟨#[]⟩, .bool false] 53)) w1.heap.size { Opp.zero with k := 2 } none 0 from OpAt.new w1 { Opp.zero with k := 2 } none 0 53)
      have HD1 := Lib.hid (hr1.kept hb1)
      have HO1 := Lib.hid ((HO0.out.trans ho1).trans (Only.of_below (b := b) hb1))
      clear hr hr1 ho1 hb1
      go_wp2_with fail
      refine (HNA.out _).mono ?_
      rintro e w2 ⟨rfl, hb2⟩
      have hv2 := HV1.out.kept hb2
      have hlt2 := hv2.lt
      have hb3 := (Below.refl w2.heap.size w2).alloc (Nat.le_refl _) (.cells #[.bool true, .bool true, .bool false, .bool false, .bool false, .bool false] 109)
      have T := Lib.hid (show TkO w B b w.heap.size w1.heap.size w2.heap.size ⟨true, true, false, false, false, false⟩ { Opp.zero with k := 2 } none 0 s1 (w2.alloc (.cells #[.bool true, .bool true, .bool false, .bool false, .bool false, .bool false] 109)) from
        { hR := Nat.le_refl _, hV := hlt1, hP := hlt2, hb := hblt, res := (HR1.out.kept hb2).kept hb3, op := hv2.kept hb3, pr := PrAt.new w2 ⟨true, true, false, false, false, false⟩ 109, rd := (HD1.out.kept hb2).kept hb3, only := (HO1.out.trans (Only.of_below hb2)).trans (Only.of_below hb3), own := OwnP.nil _ _ })
      clear HR1 HV1 HD1 HO1 hb2 hb3 hv2
      obtain ⟨p0, p1, p2, p3, p4, p5⟩ := T.out.pr.cells
      dsimp only at p0 p1 p2 p3 p4 p5
      go_wp2_with fail
      refine (HU2.out _ T.out.rd).mono ?_
      rintro e w3 ⟨rfl, hr, ho⟩
      replace T := Lib.hid (T.out.read hr ho)
      have f1 := T.out.op.free 1
      have x1 := T.out.op.cell 1
      simp only [opL, List.getElem?_cons_zero, List.getElem?_cons_succ] at x1
      have f2 := T.out.op.free 2
      have x2 := T.out.op.cell 2
      simp only [opL, List.getElem?_cons_zero, List.getElem?_cons_succ] at x2
      clear hr ho p0 p1 p2 p3 p4 p5
      replace T := Lib.hid (T.out.setN nt nr)
      obtain ⟨p0, p1, p2, p3, p4, p5⟩ := T.out.pr.cells
      dsimp only at p0 p1 p2 p3 p4 p5
      go_wp2_with fail
      refine (HU3.out _ T.out.rd).mono ?_
      rintro e w4 ⟨rfl, hr, ho⟩
      replace T := Lib.hid (T.out.read hr ho)
      have f3 := T.out.op.free 3
      have x3 := T.out.op.cell 3
      simp only [opL, List.getElem?_cons_zero, List.getElem?_cons_succ] at x3
      have f4 := T.out.op.free 4
      have x4 := T.out.op.cell 4
      simp only [opL, List.getElem?_cons_zero, List.getElem?_cons_succ] at x4
      clear hr ho p0 p1 p2 p3 p4 p5
      replace T := Lib.hid (T.out.setR rt rr)
      obtain ⟨p0, p1, p2, p3, p4, p5⟩ := T.out.pr.cells
      dsimp only at p0 p1 p2 p3 p4 p5
      go_wp2_with fail
      refine (HU4.out _ T.out.rd).mono ?_
      rintro e w5 ⟨rfl, hr, ho⟩
      replace T := Lib.hid (T.out.read hr ho)
      have f5 := T.out.op.free 5
      have x5 := T.out.op.cell 5
      simp only [opL, List.getElem?_cons_zero, List.getElem?_cons_succ] at x5
      clear hr ho p0 p1 p2 p3 p4 p5
      replace T := Lib.hid (T.out.setKey key)
      obtain ⟨p0, p1, p2, p3, p4, p5⟩ := T.out.pr.cells
      dsimp only at p0 p1 p2 p3 p4 p5
      have hop := T.out.op
      go_wp2_with (refine wpList_load_op otP rfl _ rfl _ rfl _ _ _ (by assumption) ?_)
      refine (oright_any _ _ _ _ HSZ.out T.out.pa).mono ?_
      rw [HRG.out]
      rintro e wa ⟨rfl, hba⟩
      replace T := Lib.hid (T.out.kept hba)
      clear hba p0 p1 p2 p3 p4 p5 hop
      go_wp2_with fail
      refine (errs_any B b s4 _ T.out.rd).mono ?_
      rintro e wc ⟨rfl, rfl⟩
      obtain ⟨TT, hTT⟩ := T.out.res
      go_wp2_with (first | (refine wpList_load_op otP rfl _ rfl _ rfl _ _ _ (by assumption) ?_) | (refine wpList_store_op otP rfl _ _ rfl _ rfl TT _ hTT rfl Opp.zero none 0 rfl ?_; intro wz hvz hko _ hbn))
      refine bodyPost_ret (results_op otP _ rfl hvz rfl) rfl ?_
      rw [HV.out]
      exact ⟨none, 0, rfl, Pa.none _ _ rfl, T.out.done hbn, T.out.doneO hbn, fun a h => by cases h⟩

set_option maxRecDepth 100000 in
set_option maxHeartbeats 4000000 in
theorem take3_any (B b : Nat) (s : RS) (w : World) (h : RdS w B b s) (_ : Lim s) (hk : (numS s).1 = 3) : Calls Tryz.prog 50 #[.pointer (some ⟨b, 0, none⟩)] w (TookO w B b (takeO s)) := by
  have hb0 := (Below.refl w.heap.size w).alloc (Nat.le_refl _) (.cells #[.int .i64 0, .int .i64 0, .int .i64 0, .int .i64 0, .int .i64 0, .string ⟨#[]⟩, .slice none 0 0, .int .i64 0, .int .i64 0, .int .i64 0, .string ⟨#[]⟩, .bool false] 53)
  have HN := Lib.hid (nums_any B b s _ (h.kept hb0))
  have HTK : Hid (takeO s = endO (rawO (numS s).1 (numS s).2)) := Lib.hid rfl
  have hblt := h.lt
  rw [hk] at HN HTK
  generalize (numS s).2 = s1 at *
  have HO0 := Lib.hid (Only.of_below (b := b) hb0)
  have HR0 := Lib.hid (show OpAt _ w.heap.size Opp.zero none 0 from OpAt.new w Opp.zero none 0 53)
  clear h hb0 hk
  have HRW : Hid (rawO 3 s1 = ({ Opp.zero with k := 3, nt := (stS s1).1.1, nr := (stS s1).1.2, p := (numS (stS s1).2).1, vk := (vlS (numS (stS s1).2).2).1.1, vn := (vlS (numS (stS s1).2).2).1.2.1, vt := (vlS (numS (stS s1).2).2).1.2.2 }, (vlS (numS (stS s1).2).2).2)) := Lib.hid rfl
  have HU2 := Lib.hid (fun W h => sts_any B b s1 W h)
  generalize stS s1 = q2 at *
  obtain ⟨⟨nt, nr⟩, s2⟩ := q2
  dsimp only at *
  have HU3 := Lib.hid (fun W h => nums_any B b s2 W h)
  generalize numS s2 = q3 at *
  obtain ⟨pn, s3⟩ := q3
  dsimp only at *
  have HU4 := Lib.hid (fun W h => vls_any B b s3 W h)
  have hzv := vlS_size s3
  generalize vlS s3 = q4 at *
  obtain ⟨⟨vk, vn, vt⟩, s4⟩ := q4
  dsimp only at *
  have HSZ := Lib.hid (show Sz ({ Opp.zero with k := 3, nt := nt, nr := nr, p := pn, vk := vk, vn := vn, vt := vt } : Opp) from ⟨Nat.zero_le _, Nat.le_trans hzv (by decide), Nat.zero_le _⟩)
  have HNA := Lib.hid (show ∀ W, Calls Tryz.prog 72 #[.int .i64 (3 : Int)] W fun e w' => e = .returned (.agg #[.bool true, .bool false, .bool false, .bool false, .bool true, .bool false]) ∧ Below W.heap.size W w' from fun W => named_any (3 : Int) W)
  have HE : Hid (takeO s = endO (({ Opp.zero with k := 3, nt := nt, nr := nr, p := pn, vk := vk, vn := vn, vt := vt } : Opp), s4)) := Lib.hid (HTK.out.trans (congrArg endO HRW.out))
  clear HTK HRW
  cases hrg : rightO ({ Opp.zero with k := 3, nt := nt, nr := nr, p := pn, vk := vk, vn := vn, vt := vt } : Opp) with
  | false =>
    have HV := Lib.hid (HE.out.trans (endO_no hrg))
    have HRG := Lib.hid hrg
    clear hrg
    go_enter Tryz.func50, Tryz.ntmps50
    go_wp2_with fail
    refine HN.out.mono ?_
    rintro e w1 ⟨rfl, hr1, ho1⟩
    have hr := HR0.out.only ho1 (by omega)
    have hlt1 := hr.lt
    have hb1 := (Below.refl w1.heap.size w1).alloc (Nat.le_refl _) (.cells #[.int .i64 (3 : Int), .int .i64 0, .int .i64 0, .int .i64 0, .int .i64 0, .string ⟨#[]⟩, .slice none 0 0, .int .i64 0, .int .i64 0, .int .i64 0, .string ⟨#[]⟩, .bool false] 53)
    have HR1 := Lib.hid (hr.kept hb1)
    have HV1 := Lib.hid (show OpAt (w1.alloc (.cells #[.int .i64 (3 : Int), .int .i64 0, .int .i64 0, .int .i64 0, .int .i64 0, .string ⟨#[]⟩, .slice none 0 0, .int .i64 0, .int .i64 0, .int .i64 0, .string ⟨#[]⟩, .bool false] 53)) w1.heap.size { Opp.zero with k := 3 } none 0 from OpAt.new w1 { Opp.zero with k := 3 } none 0 53)
    have HD1 := Lib.hid (hr1.kept hb1)
    have HO1 := Lib.hid ((HO0.out.trans ho1).trans (Only.of_below (b := b) hb1))
    clear hr hr1 ho1 hb1
    go_wp2_with fail
    refine (HNA.out _).mono ?_
    rintro e w2 ⟨rfl, hb2⟩
    have hv2 := HV1.out.kept hb2
    have hlt2 := hv2.lt
    have hb3 := (Below.refl w2.heap.size w2).alloc (Nat.le_refl _) (.cells #[.bool true, .bool false, .bool false, .bool false, .bool true, .bool false] 109)
    have T := Lib.hid (show TkO w B b w.heap.size w1.heap.size w2.heap.size ⟨true, false, false, false, true, false⟩ { Opp.zero with k := 3 } none 0 s1 (w2.alloc (.cells #[.bool true, .bool false, .bool false, .bool false, .bool true, .bool false] 109)) from
      { hR := Nat.le_refl _, hV := hlt1, hP := hlt2, hb := hblt, res := (HR1.out.kept hb2).kept hb3, op := hv2.kept hb3, pr := PrAt.new w2 ⟨true, false, false, false, true, false⟩ 109, rd := (HD1.out.kept hb2).kept hb3, only := (HO1.out.trans (Only.of_below hb2)).trans (Only.of_below hb3), own := OwnP.nil _ _ })
    clear HR1 HV1 HD1 HO1 hb2 hb3 hv2
    obtain ⟨p0, p1, p2, p3, p4, p5⟩ := T.out.pr.cells
    dsimp only at p0 p1 p2 p3 p4 p5
    go_wp2_with fail
    refine (HU2.out _ T.out.rd).mono ?_
    rintro e w3 ⟨rfl, hr, ho⟩
    replace T := Lib.hid (T.out.read hr ho)
    have f1 := T.out.op.free 1
    have x1 := T.out.op.cell 1
    simp only [opL, List.getElem?_cons_zero, List.getElem?_cons_succ] at x1
    have f2 := T.out.op.free 2
    have x2 := T.out.op.cell 2
    simp only [opL, List.getElem?_cons_zero, List.getElem?_cons_succ] at x2
    clear hr ho p0 p1 p2 p3 p4 p5
    replace T := Lib.hid (T.out.setN nt nr)
    obtain ⟨p0, p1, p2, p3, p4, p5⟩ := T.out.pr.cells
    dsimp only at p0 p1 p2 p3 p4 p5
    go_wp2_with fail
    refine (HU3.out _ T.out.rd).mono ?_
    rintro e w4 ⟨rfl, hr, ho⟩
    replace T := Lib.hid (T.out.read hr ho)
    have f7 := T.out.op.free 7
    have x7 := T.out.op.cell 7
    simp only [opL, List.getElem?_cons_zero, List.getElem?_cons_succ] at x7
    clear hr ho p0 p1 p2 p3 p4 p5
    replace T := Lib.hid (T.out.setP (pn : Int))
    obtain ⟨p0, p1, p2, p3, p4, p5⟩ := T.out.pr.cells
    dsimp only at p0 p1 p2 p3 p4 p5
    go_wp2_with fail
    refine (HU4.out _ T.out.rd).mono ?_
    rintro e w5 ⟨rfl, hr, ho⟩
    replace T := Lib.hid (T.out.read hr ho)
    have f8 := T.out.op.free 8
    have x8 := T.out.op.cell 8
    simp only [opL, List.getElem?_cons_zero, List.getElem?_cons_succ] at x8
    have f9 := T.out.op.free 9
    have x9 := T.out.op.cell 9
    simp only [opL, List.getElem?_cons_zero, List.getElem?_cons_succ] at x9
    have f10 := T.out.op.free 10
    have x10 := T.out.op.cell 10
    simp only [opL, List.getElem?_cons_zero, List.getElem?_cons_succ] at x10
    clear hr ho p0 p1 p2 p3 p4 p5
    replace T := Lib.hid (T.out.setV vk vn vt)
    obtain ⟨p0, p1, p2, p3, p4, p5⟩ := T.out.pr.cells
    dsimp only at p0 p1 p2 p3 p4 p5
    have hop := T.out.op
    go_wp2_with (refine wpList_load_op otP rfl _ rfl _ rfl _ _ _ (by assumption) ?_)
    refine (oright_any _ _ _ _ HSZ.out T.out.pa).mono ?_
    rw [HRG.out]
    rintro e wa ⟨rfl, hba⟩
    replace T := Lib.hid (T.out.kept hba)
    clear hba p0 p1 p2 p3 p4 p5 hop
    go_wp2_with fail
    refine (fails_any B b s4 _ T.out.rd).mono ?_
    rintro e wb ⟨rfl, hr, ho⟩
    replace T := Lib.hid (T.out.read hr ho)
    clear hr ho
    have hne := failS_ne s4
    generalize failS 21 s4 = sf at *
    have te : ((sf.2 : Int) != 0) = true := by rw [bne_iff_ne]; omega
    go_wp2_with fail
    refine (errs_any B b sf _ T.out.rd).mono ?_
    rintro e wc ⟨rfl, rfl⟩
    obtain ⟨TT, hTT⟩ := T.out.res
    go_wp2_with (first | (refine wpList_load_op otP rfl _ rfl _ rfl _ _ _ (by assumption) ?_) | (refine wpList_store_op otP rfl _ _ rfl _ rfl TT _ hTT rfl Opp.zero none 0 rfl ?_; intro wz hvz hko _ hbn))
    refine bodyPost_ret (results_op otP _ rfl hvz rfl) rfl ?_
    rw [HV.out]
    exact ⟨none, 0, rfl, Pa.none _ _ rfl, T.out.done hbn, T.out.doneO hbn, fun a h => by cases h⟩
  | true =>
    have HRG := Lib.hid hrg
    by_cases hez : s4.2 = 0
    · have HV := Lib.hid (HE.out.trans (endO_ok hrg hez))
      have te : ((s4.2 : Int) != 0) = false := by rw [hez]; rfl
      clear hrg
      go_enter Tryz.func50, Tryz.ntmps50
      go_wp2_with fail
      refine HN.out.mono ?_
      rintro e w1 ⟨rfl, hr1, ho1⟩
      have hr := HR0.out.only ho1 (by omega)
      have hlt1 := hr.lt
      have hb1 := (Below.refl w1.heap.size w1).alloc (Nat.le_refl _) (.cells #[.int .i64 (3 : Int), .int .i64 0, .int .i64 0, .int .i64 0, .int .i64 0, .string ⟨#[]⟩, .slice none 0 0, .int .i64 0, .int .i64 0, .int .i64 0, .string ⟨#[]⟩, .bool false] 53)
      have HR1 := Lib.hid (hr.kept hb1)
      have HV1 := Lib.hid (show OpAt (w1.alloc (.cells #[.int .i64 (3 : Int), .int .i64 0, .int .i64 0, .int .i64 0, .int .i64 0, .string ⟨#[]⟩, .slice none 0 0, .int .i64 0, .int .i64 0, .int .i64 0, .string ⟨#[]⟩, .bool false] 53)) w1.heap.size { Opp.zero with k := 3 } none 0 from OpAt.new w1 { Opp.zero with k := 3 } none 0 53)
      have HD1 := Lib.hid (hr1.kept hb1)
      have HO1 := Lib.hid ((HO0.out.trans ho1).trans (Only.of_below (b := b) hb1))
      clear hr hr1 ho1 hb1
      go_wp2_with fail
      refine (HNA.out _).mono ?_
      rintro e w2 ⟨rfl, hb2⟩
      have hv2 := HV1.out.kept hb2
      have hlt2 := hv2.lt
      have hb3 := (Below.refl w2.heap.size w2).alloc (Nat.le_refl _) (.cells #[.bool true, .bool false, .bool false, .bool false, .bool true, .bool false] 109)
      have T := Lib.hid (show TkO w B b w.heap.size w1.heap.size w2.heap.size ⟨true, false, false, false, true, false⟩ { Opp.zero with k := 3 } none 0 s1 (w2.alloc (.cells #[.bool true, .bool false, .bool false, .bool false, .bool true, .bool false] 109)) from
        { hR := Nat.le_refl _, hV := hlt1, hP := hlt2, hb := hblt, res := (HR1.out.kept hb2).kept hb3, op := hv2.kept hb3, pr := PrAt.new w2 ⟨true, false, false, false, true, false⟩ 109, rd := (HD1.out.kept hb2).kept hb3, only := (HO1.out.trans (Only.of_below hb2)).trans (Only.of_below hb3), own := OwnP.nil _ _ })
      clear HR1 HV1 HD1 HO1 hb2 hb3 hv2
      obtain ⟨p0, p1, p2, p3, p4, p5⟩ := T.out.pr.cells
      dsimp only at p0 p1 p2 p3 p4 p5
      go_wp2_with fail
      refine (HU2.out _ T.out.rd).mono ?_
      rintro e w3 ⟨rfl, hr, ho⟩
      replace T := Lib.hid (T.out.read hr ho)
      have f1 := T.out.op.free 1
      have x1 := T.out.op.cell 1
      simp only [opL, List.getElem?_cons_zero, List.getElem?_cons_succ] at x1
      have f2 := T.out.op.free 2
      have x2 := T.out.op.cell 2
      simp only [opL, List.getElem?_cons_zero, List.getElem?_cons_succ] at x2
      clear hr ho p0 p1 p2 p3 p4 p5
      replace T := Lib.hid (T.out.setN nt nr)
      obtain ⟨p0, p1, p2, p3, p4, p5⟩ := T.out.pr.cells
      dsimp only at p0 p1 p2 p3 p4 p5
      go_wp2_with fail
      refine (HU3.out _ T.out.rd).mono ?_
      rintro e w4 ⟨rfl, hr, ho⟩
      replace T := Lib.hid (T.out.read hr ho)
      have f7 := T.out.op.free 7
      have x7 := T.out.op.cell 7
      simp only [opL, List.getElem?_cons_zero, List.getElem?_cons_succ] at x7
      clear hr ho p0 p1 p2 p3 p4 p5
      replace T := Lib.hid (T.out.setP (pn : Int))
      obtain ⟨p0, p1, p2, p3, p4, p5⟩ := T.out.pr.cells
      dsimp only at p0 p1 p2 p3 p4 p5
      go_wp2_with fail
      refine (HU4.out _ T.out.rd).mono ?_
      rintro e w5 ⟨rfl, hr, ho⟩
      replace T := Lib.hid (T.out.read hr ho)
      have f8 := T.out.op.free 8
      have x8 := T.out.op.cell 8
      simp only [opL, List.getElem?_cons_zero, List.getElem?_cons_succ] at x8
      have f9 := T.out.op.free 9
      have x9 := T.out.op.cell 9
      simp only [opL, List.getElem?_cons_zero, List.getElem?_cons_succ] at x9
      have f10 := T.out.op.free 10
      have x10 := T.out.op.cell 10
      simp only [opL, List.getElem?_cons_zero, List.getElem?_cons_succ] at x10
      clear hr ho p0 p1 p2 p3 p4 p5
      replace T := Lib.hid (T.out.setV vk vn vt)
      obtain ⟨p0, p1, p2, p3, p4, p5⟩ := T.out.pr.cells
      dsimp only at p0 p1 p2 p3 p4 p5
      have hop := T.out.op
      go_wp2_with (refine wpList_load_op otP rfl _ rfl _ rfl _ _ _ (by assumption) ?_)
      refine (oright_any _ _ _ _ HSZ.out T.out.pa).mono ?_
      rw [HRG.out]
      rintro e wa ⟨rfl, hba⟩
      replace T := Lib.hid (T.out.kept hba)
      clear hba p0 p1 p2 p3 p4 p5 hop
      go_wp2_with fail
      refine (errs_any B b s4 _ T.out.rd).mono ?_
      rintro e wc ⟨rfl, rfl⟩
      have hop := T.out.op
      obtain ⟨TT, hTT⟩ := T.out.res
      go_wp2_with (first | (refine wpList_load_op otP rfl _ rfl _ rfl _ _ _ (by assumption) ?_) | (refine wpList_store_op otP rfl _ _ rfl _ rfl TT _ hTT rfl _ _ _ rfl ?_; intro wz hvz hko _ hbn))
      refine bodyPost_ret (results_op otP _ rfl hvz rfl) rfl ?_
      rw [HV.out]
      exact ⟨_, _, rfl, T.out.donePa hko, T.out.done hbn, T.out.doneO hbn, T.out.doneN⟩
    · have HV := Lib.hid (HE.out.trans (endO_err hrg hez))
      have te : ((s4.2 : Int) != 0) = true := by rw [bne_iff_ne]; omega
      clear hrg
      go_enter Tryz.func50, Tryz.ntmps50
      go_wp2_with fail
      refine HN.out.mono ?_
      rintro e w1 ⟨rfl, hr1, ho1⟩
      have hr := HR0.out.only ho1 (by omega)
      have hlt1 := hr.lt
      have hb1 := (Below.refl w1.heap.size w1).alloc (Nat.le_refl _) (.cells #[.int .i64 (3 : Int), .int .i64 0, .int .i64 0, .int .i64 0, .int .i64 0, .string ⟨#[]⟩, .slice none 0 0, .int .i64 0, .int .i64 0, .int .i64 0, .string ⟨#[]⟩, .bool false] 53)
      have HR1 := Lib.hid (hr.kept hb1)
      have HV1 := Lib.hid (show OpAt (w1.alloc (.cells #[.int .i64 (3 : Int), .int .i64 0, .int .i64 0, .int .i64 0, .int .i64 0, .string ⟨#[]⟩, .slice none 0 0, .int .i64 0, .int .i64 0, .int .i64 0, .string ⟨#[]⟩, .bool false] 53)) w1.heap.size { Opp.zero with k := 3 } none 0 from OpAt.new w1 { Opp.zero with k := 3 } none 0 53)
      have HD1 := Lib.hid (hr1.kept hb1)
      have HO1 := Lib.hid ((HO0.out.trans ho1).trans (Only.of_below (b := b) hb1))
      clear hr hr1 ho1 hb1
      go_wp2_with fail
      refine (HNA.out _).mono ?_
      rintro e w2 ⟨rfl, hb2⟩
      have hv2 := HV1.out.kept hb2
      have hlt2 := hv2.lt
      have hb3 := (Below.refl w2.heap.size w2).alloc (Nat.le_refl _) (.cells #[.bool true, .bool false, .bool false, .bool false, .bool true, .bool false] 109)
      have T := Lib.hid (show TkO w B b w.heap.size w1.heap.size w2.heap.size ⟨true, false, false, false, true, false⟩ { Opp.zero with k := 3 } none 0 s1 (w2.alloc (.cells #[.bool true, .bool false, .bool false, .bool false, .bool true, .bool false] 109)) from
        { hR := Nat.le_refl _, hV := hlt1, hP := hlt2, hb := hblt, res := (HR1.out.kept hb2).kept hb3, op := hv2.kept hb3, pr := PrAt.new w2 ⟨true, false, false, false, true, false⟩ 109, rd := (HD1.out.kept hb2).kept hb3, only := (HO1.out.trans (Only.of_below hb2)).trans (Only.of_below hb3), own := OwnP.nil _ _ })
      clear HR1 HV1 HD1 HO1 hb2 hb3 hv2
      obtain ⟨p0, p1, p2, p3, p4, p5⟩ := T.out.pr.cells
      dsimp only at p0 p1 p2 p3 p4 p5
      go_wp2_with fail
      refine (HU2.out _ T.out.rd).mono ?_
      rintro e w3 ⟨rfl, hr, ho⟩
      replace T := Lib.hid (T.out.read hr ho)
      have f1 := T.out.op.free 1
      have x1 := T.out.op.cell 1
      simp only [opL, List.getElem?_cons_zero, List.getElem?_cons_succ] at x1
      have f2 := T.out.op.free 2
      have x2 := T.out.op.cell 2
      simp only [opL, List.getElem?_cons_zero, List.getElem?_cons_succ] at x2
      clear hr ho p0 p1 p2 p3 p4 p5
      replace T := Lib.hid (T.out.setN nt nr)
      obtain ⟨p0, p1, p2, p3, p4, p5⟩ := T.out.pr.cells
      dsimp only at p0 p1 p2 p3 p4 p5
      go_wp2_with fail
      refine (HU3.out _ T.out.rd).mono ?_
      rintro e w4 ⟨rfl, hr, ho⟩
      replace T := Lib.hid (T.out.read hr ho)
      have f7 := T.out.op.free 7
      have x7 := T.out.op.cell 7
      simp only [opL, List.getElem?_cons_zero, List.getElem?_cons_succ] at x7
      clear hr ho p0 p1 p2 p3 p4 p5
      replace T := Lib.hid (T.out.setP (pn : Int))
      obtain ⟨p0, p1, p2, p3, p4, p5⟩ := T.out.pr.cells
      dsimp only at p0 p1 p2 p3 p4 p5
      go_wp2_with fail
      refine (HU4.out _ T.out.rd).mono ?_
      rintro e w5 ⟨rfl, hr, ho⟩
      replace T := Lib.hid (T.out.read hr ho)
      have f8 := T.out.op.free 8
      have x8 := T.out.op.cell 8
      simp only [opL, List.getElem?_cons_zero, List.getElem?_cons_succ] at x8
      have f9 := T.out.op.free 9
      have x9 := T.out.op.cell 9
      simp only [opL, List.getElem?_cons_zero, List.getElem?_cons_succ] at x9
      have f10 := T.out.op.free 10
      have x10 := T.out.op.cell 10
      simp only [opL, List.getElem?_cons_zero, List.getElem?_cons_succ] at x10
      clear hr ho p0 p1 p2 p3 p4 p5
      replace T := Lib.hid (T.out.setV vk vn vt)
      obtain ⟨p0, p1, p2, p3, p4, p5⟩ := T.out.pr.cells
      dsimp only at p0 p1 p2 p3 p4 p5
      have hop := T.out.op
      go_wp2_with (refine wpList_load_op otP rfl _ rfl _ rfl _ _ _ (by assumption) ?_)
      refine (oright_any _ _ _ _ HSZ.out T.out.pa).mono ?_
      rw [HRG.out]
      rintro e wa ⟨rfl, hba⟩
      replace T := Lib.hid (T.out.kept hba)
      clear hba p0 p1 p2 p3 p4 p5 hop
      go_wp2_with fail
      refine (errs_any B b s4 _ T.out.rd).mono ?_
      rintro e wc ⟨rfl, rfl⟩
      obtain ⟨TT, hTT⟩ := T.out.res
      go_wp2_with (first | (refine wpList_load_op otP rfl _ rfl _ rfl _ _ _ (by assumption) ?_) | (refine wpList_store_op otP rfl _ _ rfl _ rfl TT _ hTT rfl Opp.zero none 0 rfl ?_; intro wz hvz hko _ hbn))
      refine bodyPost_ret (results_op otP _ rfl hvz rfl) rfl ?_
      rw [HV.out]
      exact ⟨none, 0, rfl, Pa.none _ _ rfl, T.out.done hbn, T.out.doneO hbn, fun a h => by cases h⟩

set_option maxRecDepth 100000 in
set_option maxHeartbeats 4000000 in
theorem take4_any (B b : Nat) (s : RS) (w : World) (h : RdS w B b s) (_ : Lim s) (hk : (numS s).1 = 4) : Calls Tryz.prog 50 #[.pointer (some ⟨b, 0, none⟩)] w (TookO w B b (takeO s)) := by
  have hb0 := (Below.refl w.heap.size w).alloc (Nat.le_refl _) (.cells #[.int .i64 0, .int .i64 0, .int .i64 0, .int .i64 0, .int .i64 0, .string ⟨#[]⟩, .slice none 0 0, .int .i64 0, .int .i64 0, .int .i64 0, .string ⟨#[]⟩, .bool false] 53)
  have HN := Lib.hid (nums_any B b s _ (h.kept hb0))
  have HTK : Hid (takeO s = endO (rawO (numS s).1 (numS s).2)) := Lib.hid rfl
  have hblt := h.lt
  rw [hk] at HN HTK
  generalize (numS s).2 = s1 at *
  have HO0 := Lib.hid (Only.of_below (b := b) hb0)
  have HR0 := Lib.hid (show OpAt _ w.heap.size Opp.zero none 0 from OpAt.new w Opp.zero none 0 53)
  clear h hb0 hk
  have HRW : Hid (rawO 4 s1 = ({ Opp.zero with k := 4, nt := (stS s1).1.1, nr := (stS s1).1.2, on := (onS (stS s1).2).1 }, (onS (stS s1).2).2)) := Lib.hid rfl
  have HU2 := Lib.hid (fun W h => sts_any B b s1 W h)
  generalize stS s1 = q2 at *
  obtain ⟨⟨nt, nr⟩, s2⟩ := q2
  dsimp only at *
  have HU3 := Lib.hid (fun W h => ons_any B b s2 W h)
  generalize onS s2 = q3 at *
  obtain ⟨on, s3⟩ := q3
  dsimp only at *
  have HSZ := Lib.hid (show Sz ({ Opp.zero with k := 4, nt := nt, nr := nr, on := on } : Opp) from ⟨Nat.zero_le _, Nat.zero_le _, Nat.zero_le _⟩)
  have HNA := Lib.hid (show ∀ W, Calls Tryz.prog 72 #[.int .i64 (4 : Int)] W fun e w' => e = .returned (.agg #[.bool true, .bool false, .bool false, .bool false, .bool false, .bool true]) ∧ Below W.heap.size W w' from fun W => named_any (4 : Int) W)
  have HE : Hid (takeO s = endO (({ Opp.zero with k := 4, nt := nt, nr := nr, on := on } : Opp), s3)) := Lib.hid (HTK.out.trans (congrArg endO HRW.out))
  clear HTK HRW
  cases hrg : rightO ({ Opp.zero with k := 4, nt := nt, nr := nr, on := on } : Opp) with
  | false =>
    have HV := Lib.hid (HE.out.trans (endO_no hrg))
    have HRG := Lib.hid hrg
    clear hrg
    go_enter Tryz.func50, Tryz.ntmps50
    go_wp2_with fail
    refine HN.out.mono ?_
    rintro e w1 ⟨rfl, hr1, ho1⟩
    have hr := HR0.out.only ho1 (by omega)
    have hlt1 := hr.lt
    have hb1 := (Below.refl w1.heap.size w1).alloc (Nat.le_refl _) (.cells #[.int .i64 (4 : Int), .int .i64 0, .int .i64 0, .int .i64 0, .int .i64 0, .string ⟨#[]⟩, .slice none 0 0, .int .i64 0, .int .i64 0, .int .i64 0, .string ⟨#[]⟩, .bool false] 53)
    have HR1 := Lib.hid (hr.kept hb1)
    have HV1 := Lib.hid (show OpAt (w1.alloc (.cells #[.int .i64 (4 : Int), .int .i64 0, .int .i64 0, .int .i64 0, .int .i64 0, .string ⟨#[]⟩, .slice none 0 0, .int .i64 0, .int .i64 0, .int .i64 0, .string ⟨#[]⟩, .bool false] 53)) w1.heap.size { Opp.zero with k := 4 } none 0 from OpAt.new w1 { Opp.zero with k := 4 } none 0 53)
    have HD1 := Lib.hid (hr1.kept hb1)
    have HO1 := Lib.hid ((HO0.out.trans ho1).trans (Only.of_below (b := b) hb1))
    clear hr hr1 ho1 hb1
    go_wp2_with fail
    refine (HNA.out _).mono ?_
    rintro e w2 ⟨rfl, hb2⟩
    have hv2 := HV1.out.kept hb2
    have hlt2 := hv2.lt
    have hb3 := (Below.refl w2.heap.size w2).alloc (Nat.le_refl _) (.cells #[.bool true, .bool false, .bool false, .bool false, .bool false, .bool true] 109)
    have T := Lib.hid (show TkO w B b w.heap.size w1.heap.size w2.heap.size ⟨true, false, false, false, false, true⟩ { Opp.zero with k := 4 } none 0 s1 (w2.alloc (.cells #[.bool true, .bool false, .bool false, .bool false, .bool false, .bool true] 109)) from
      { hR := Nat.le_refl _, hV := hlt1, hP := hlt2, hb := hblt, res := (HR1.out.kept hb2).kept hb3, op := hv2.kept hb3, pr := PrAt.new w2 ⟨true, false, false, false, false, true⟩ 109, rd := (HD1.out.kept hb2).kept hb3, only := (HO1.out.trans (Only.of_below hb2)).trans (Only.of_below hb3), own := OwnP.nil _ _ })
    clear HR1 HV1 HD1 HO1 hb2 hb3 hv2
    obtain ⟨p0, p1, p2, p3, p4, p5⟩ := T.out.pr.cells
    dsimp only at p0 p1 p2 p3 p4 p5
    go_wp2_with fail
    refine (HU2.out _ T.out.rd).mono ?_
    rintro e w3 ⟨rfl, hr, ho⟩
    replace T := Lib.hid (T.out.read hr ho)
    have f1 := T.out.op.free 1
    have x1 := T.out.op.cell 1
    simp only [opL, List.getElem?_cons_zero, List.getElem?_cons_succ] at x1
    have f2 := T.out.op.free 2
    have x2 := T.out.op.cell 2
    simp only [opL, List.getElem?_cons_zero, List.getElem?_cons_succ] at x2
    clear hr ho p0 p1 p2 p3 p4 p5
    replace T := Lib.hid (T.out.setN nt nr)
    obtain ⟨p0, p1, p2, p3, p4, p5⟩ := T.out.pr.cells
    dsimp only at p0 p1 p2 p3 p4 p5
    go_wp2_with fail
    refine (HU3.out _ T.out.rd).mono ?_
    rintro e w4 ⟨rfl, hr, ho⟩
    replace T := Lib.hid (T.out.read hr ho)
    have f11 := T.out.op.free 11
    have x11 := T.out.op.cell 11
    simp only [opL, List.getElem?_cons_zero, List.getElem?_cons_succ] at x11
    clear hr ho p0 p1 p2 p3 p4 p5
    replace T := Lib.hid (T.out.setOn on)
    obtain ⟨p0, p1, p2, p3, p4, p5⟩ := T.out.pr.cells
    dsimp only at p0 p1 p2 p3 p4 p5
    have hop := T.out.op
    go_wp2_with (refine wpList_load_op otP rfl _ rfl _ rfl _ _ _ (by assumption) ?_)
    refine (oright_any _ _ _ _ HSZ.out T.out.pa).mono ?_
    rw [HRG.out]
    rintro e wa ⟨rfl, hba⟩
    replace T := Lib.hid (T.out.kept hba)
    clear hba p0 p1 p2 p3 p4 p5 hop
    go_wp2_with fail
    refine (fails_any B b s3 _ T.out.rd).mono ?_
    rintro e wb ⟨rfl, hr, ho⟩
    replace T := Lib.hid (T.out.read hr ho)
    clear hr ho
    have hne := failS_ne s3
    generalize failS 21 s3 = sf at *
    have te : ((sf.2 : Int) != 0) = true := by rw [bne_iff_ne]; omega
    go_wp2_with fail
    refine (errs_any B b sf _ T.out.rd).mono ?_
    rintro e wc ⟨rfl, rfl⟩
    obtain ⟨TT, hTT⟩ := T.out.res
    go_wp2_with (first | (refine wpList_load_op otP rfl _ rfl _ rfl _ _ _ (by assumption) ?_) | (refine wpList_store_op otP rfl _ _ rfl _ rfl TT _ hTT rfl Opp.zero none 0 rfl ?_; intro wz hvz hko _ hbn))
    refine bodyPost_ret (results_op otP _ rfl hvz rfl) rfl ?_
    rw [HV.out]
    exact ⟨none, 0, rfl, Pa.none _ _ rfl, T.out.done hbn, T.out.doneO hbn, fun a h => by cases h⟩
  | true =>
    have HRG := Lib.hid hrg
    by_cases hez : s3.2 = 0
    · have HV := Lib.hid (HE.out.trans (endO_ok hrg hez))
      have te : ((s3.2 : Int) != 0) = false := by rw [hez]; rfl
      clear hrg
      go_enter Tryz.func50, Tryz.ntmps50
      go_wp2_with fail
      refine HN.out.mono ?_
      rintro e w1 ⟨rfl, hr1, ho1⟩
      have hr := HR0.out.only ho1 (by omega)
      have hlt1 := hr.lt
      have hb1 := (Below.refl w1.heap.size w1).alloc (Nat.le_refl _) (.cells #[.int .i64 (4 : Int), .int .i64 0, .int .i64 0, .int .i64 0, .int .i64 0, .string ⟨#[]⟩, .slice none 0 0, .int .i64 0, .int .i64 0, .int .i64 0, .string ⟨#[]⟩, .bool false] 53)
      have HR1 := Lib.hid (hr.kept hb1)
      have HV1 := Lib.hid (show OpAt (w1.alloc (.cells #[.int .i64 (4 : Int), .int .i64 0, .int .i64 0, .int .i64 0, .int .i64 0, .string ⟨#[]⟩, .slice none 0 0, .int .i64 0, .int .i64 0, .int .i64 0, .string ⟨#[]⟩, .bool false] 53)) w1.heap.size { Opp.zero with k := 4 } none 0 from OpAt.new w1 { Opp.zero with k := 4 } none 0 53)
      have HD1 := Lib.hid (hr1.kept hb1)
      have HO1 := Lib.hid ((HO0.out.trans ho1).trans (Only.of_below (b := b) hb1))
      clear hr hr1 ho1 hb1
      go_wp2_with fail
      refine (HNA.out _).mono ?_
      rintro e w2 ⟨rfl, hb2⟩
      have hv2 := HV1.out.kept hb2
      have hlt2 := hv2.lt
      have hb3 := (Below.refl w2.heap.size w2).alloc (Nat.le_refl _) (.cells #[.bool true, .bool false, .bool false, .bool false, .bool false, .bool true] 109)
      have T := Lib.hid (show TkO w B b w.heap.size w1.heap.size w2.heap.size ⟨true, false, false, false, false, true⟩ { Opp.zero with k := 4 } none 0 s1 (w2.alloc (.cells #[.bool true, .bool false, .bool false, .bool false, .bool false, .bool true] 109)) from
        { hR := Nat.le_refl _, hV := hlt1, hP := hlt2, hb := hblt, res := (HR1.out.kept hb2).kept hb3, op := hv2.kept hb3, pr := PrAt.new w2 ⟨true, false, false, false, false, true⟩ 109, rd := (HD1.out.kept hb2).kept hb3, only := (HO1.out.trans (Only.of_below hb2)).trans (Only.of_below hb3), own := OwnP.nil _ _ })
      clear HR1 HV1 HD1 HO1 hb2 hb3 hv2
      obtain ⟨p0, p1, p2, p3, p4, p5⟩ := T.out.pr.cells
      dsimp only at p0 p1 p2 p3 p4 p5
      go_wp2_with fail
      refine (HU2.out _ T.out.rd).mono ?_
      rintro e w3 ⟨rfl, hr, ho⟩
      replace T := Lib.hid (T.out.read hr ho)
      have f1 := T.out.op.free 1
      have x1 := T.out.op.cell 1
      simp only [opL, List.getElem?_cons_zero, List.getElem?_cons_succ] at x1
      have f2 := T.out.op.free 2
      have x2 := T.out.op.cell 2
      simp only [opL, List.getElem?_cons_zero, List.getElem?_cons_succ] at x2
      clear hr ho p0 p1 p2 p3 p4 p5
      replace T := Lib.hid (T.out.setN nt nr)
      obtain ⟨p0, p1, p2, p3, p4, p5⟩ := T.out.pr.cells
      dsimp only at p0 p1 p2 p3 p4 p5
      go_wp2_with fail
      refine (HU3.out _ T.out.rd).mono ?_
      rintro e w4 ⟨rfl, hr, ho⟩
      replace T := Lib.hid (T.out.read hr ho)
      have f11 := T.out.op.free 11
      have x11 := T.out.op.cell 11
      simp only [opL, List.getElem?_cons_zero, List.getElem?_cons_succ] at x11
      clear hr ho p0 p1 p2 p3 p4 p5
      replace T := Lib.hid (T.out.setOn on)
      obtain ⟨p0, p1, p2, p3, p4, p5⟩ := T.out.pr.cells
      dsimp only at p0 p1 p2 p3 p4 p5
      have hop := T.out.op
      go_wp2_with (refine wpList_load_op otP rfl _ rfl _ rfl _ _ _ (by assumption) ?_)
      refine (oright_any _ _ _ _ HSZ.out T.out.pa).mono ?_
      rw [HRG.out]
      rintro e wa ⟨rfl, hba⟩
      replace T := Lib.hid (T.out.kept hba)
      clear hba p0 p1 p2 p3 p4 p5 hop
      go_wp2_with fail
      refine (errs_any B b s3 _ T.out.rd).mono ?_
      rintro e wc ⟨rfl, rfl⟩
      have hop := T.out.op
      obtain ⟨TT, hTT⟩ := T.out.res
      go_wp2_with (first | (refine wpList_load_op otP rfl _ rfl _ rfl _ _ _ (by assumption) ?_) | (refine wpList_store_op otP rfl _ _ rfl _ rfl TT _ hTT rfl _ _ _ rfl ?_; intro wz hvz hko _ hbn))
      refine bodyPost_ret (results_op otP _ rfl hvz rfl) rfl ?_
      rw [HV.out]
      exact ⟨_, _, rfl, T.out.donePa hko, T.out.done hbn, T.out.doneO hbn, T.out.doneN⟩
    · have HV := Lib.hid (HE.out.trans (endO_err hrg hez))
      have te : ((s3.2 : Int) != 0) = true := by rw [bne_iff_ne]; omega
      clear hrg
      go_enter Tryz.func50, Tryz.ntmps50
      go_wp2_with fail
      refine HN.out.mono ?_
      rintro e w1 ⟨rfl, hr1, ho1⟩
      have hr := HR0.out.only ho1 (by omega)
      have hlt1 := hr.lt
      have hb1 := (Below.refl w1.heap.size w1).alloc (Nat.le_refl _) (.cells #[.int .i64 (4 : Int), .int .i64 0, .int .i64 0, .int .i64 0, .int .i64 0, .string ⟨#[]⟩, .slice none 0 0, .int .i64 0, .int .i64 0, .int .i64 0, .string ⟨#[]⟩, .bool false] 53)
      have HR1 := Lib.hid (hr.kept hb1)
      have HV1 := Lib.hid (show OpAt (w1.alloc (.cells #[.int .i64 (4 : Int), .int .i64 0, .int .i64 0, .int .i64 0, .int .i64 0, .string ⟨#[]⟩, .slice none 0 0, .int .i64 0, .int .i64 0, .int .i64 0, .string ⟨#[]⟩, .bool false] 53)) w1.heap.size { Opp.zero with k := 4 } none 0 from OpAt.new w1 { Opp.zero with k := 4 } none 0 53)
      have HD1 := Lib.hid (hr1.kept hb1)
      have HO1 := Lib.hid ((HO0.out.trans ho1).trans (Only.of_below (b := b) hb1))
      clear hr hr1 ho1 hb1
      go_wp2_with fail
      refine (HNA.out _).mono ?_
      rintro e w2 ⟨rfl, hb2⟩
      have hv2 := HV1.out.kept hb2
      have hlt2 := hv2.lt
      have hb3 := (Below.refl w2.heap.size w2).alloc (Nat.le_refl _) (.cells #[.bool true, .bool false, .bool false, .bool false, .bool false, .bool true] 109)
      have T := Lib.hid (show TkO w B b w.heap.size w1.heap.size w2.heap.size ⟨true, false, false, false, false, true⟩ { Opp.zero with k := 4 } none 0 s1 (w2.alloc (.cells #[.bool true, .bool false, .bool false, .bool false, .bool false, .bool true] 109)) from
        { hR := Nat.le_refl _, hV := hlt1, hP := hlt2, hb := hblt, res := (HR1.out.kept hb2).kept hb3, op := hv2.kept hb3, pr := PrAt.new w2 ⟨true, false, false, false, false, true⟩ 109, rd := (HD1.out.kept hb2).kept hb3, only := (HO1.out.trans (Only.of_below hb2)).trans (Only.of_below hb3), own := OwnP.nil _ _ })
      clear HR1 HV1 HD1 HO1 hb2 hb3 hv2
      obtain ⟨p0, p1, p2, p3, p4, p5⟩ := T.out.pr.cells
      dsimp only at p0 p1 p2 p3 p4 p5
      go_wp2_with fail
      refine (HU2.out _ T.out.rd).mono ?_
      rintro e w3 ⟨rfl, hr, ho⟩
      replace T := Lib.hid (T.out.read hr ho)
      have f1 := T.out.op.free 1
      have x1 := T.out.op.cell 1
      simp only [opL, List.getElem?_cons_zero, List.getElem?_cons_succ] at x1
      have f2 := T.out.op.free 2
      have x2 := T.out.op.cell 2
      simp only [opL, List.getElem?_cons_zero, List.getElem?_cons_succ] at x2
      clear hr ho p0 p1 p2 p3 p4 p5
      replace T := Lib.hid (T.out.setN nt nr)
      obtain ⟨p0, p1, p2, p3, p4, p5⟩ := T.out.pr.cells
      dsimp only at p0 p1 p2 p3 p4 p5
      go_wp2_with fail
      refine (HU3.out _ T.out.rd).mono ?_
      rintro e w4 ⟨rfl, hr, ho⟩
      replace T := Lib.hid (T.out.read hr ho)
      have f11 := T.out.op.free 11
      have x11 := T.out.op.cell 11
      simp only [opL, List.getElem?_cons_zero, List.getElem?_cons_succ] at x11
      clear hr ho p0 p1 p2 p3 p4 p5
      replace T := Lib.hid (T.out.setOn on)
      obtain ⟨p0, p1, p2, p3, p4, p5⟩ := T.out.pr.cells
      dsimp only at p0 p1 p2 p3 p4 p5
      have hop := T.out.op
      go_wp2_with (refine wpList_load_op otP rfl _ rfl _ rfl _ _ _ (by assumption) ?_)
      refine (oright_any _ _ _ _ HSZ.out T.out.pa).mono ?_
      rw [HRG.out]
      rintro e wa ⟨rfl, hba⟩
      replace T := Lib.hid (T.out.kept hba)
      clear hba p0 p1 p2 p3 p4 p5 hop
      go_wp2_with fail
      refine (errs_any B b s3 _ T.out.rd).mono ?_
      rintro e wc ⟨rfl, rfl⟩
      obtain ⟨TT, hTT⟩ := T.out.res
      go_wp2_with (first | (refine wpList_load_op otP rfl _ rfl _ rfl _ _ _ (by assumption) ?_) | (refine wpList_store_op otP rfl _ _ rfl _ rfl TT _ hTT rfl Opp.zero none 0 rfl ?_; intro wz hvz hko _ hbn))
      refine bodyPost_ret (results_op otP _ rfl hvz rfl) rfl ?_
      rw [HV.out]
      exact ⟨none, 0, rfl, Pa.none _ _ rfl, T.out.done hbn, T.out.doneO hbn, fun a h => by cases h⟩

set_option maxRecDepth 100000 in
set_option maxHeartbeats 4000000 in
theorem take5_any (B b : Nat) (s : RS) (w : World) (h : RdS w B b s) (_ : Lim s) (hk : (numS s).1 = 5) : Calls Tryz.prog 50 #[.pointer (some ⟨b, 0, none⟩)] w (TookO w B b (takeO s)) := by
  have hb0 := (Below.refl w.heap.size w).alloc (Nat.le_refl _) (.cells #[.int .i64 0, .int .i64 0, .int .i64 0, .int .i64 0, .int .i64 0, .string ⟨#[]⟩, .slice none 0 0, .int .i64 0, .int .i64 0, .int .i64 0, .string ⟨#[]⟩, .bool false] 53)
  have HN := Lib.hid (nums_any B b s _ (h.kept hb0))
  have HTK : Hid (takeO s = endO (rawO (numS s).1 (numS s).2)) := Lib.hid rfl
  have hblt := h.lt
  rw [hk] at HN HTK
  generalize (numS s).2 = s1 at *
  have HO0 := Lib.hid (Only.of_below (b := b) hb0)
  have HR0 := Lib.hid (show OpAt _ w.heap.size Opp.zero none 0 from OpAt.new w Opp.zero none 0 53)
  clear h hb0 hk
  have HRW : Hid (rawO 5 s1 = ({ Opp.zero with k := 5, nt := (stS s1).1.1, nr := (stS s1).1.2, rt := (stS (stS s1).2).1.1, rr := (stS (stS s1).2).1.2 }, (stS (stS s1).2).2)) := Lib.hid rfl
  have HU2 := Lib.hid (fun W h => sts_any B b s1 W h)
  generalize stS s1 = q2 at *
  obtain ⟨⟨nt, nr⟩, s2⟩ := q2
  dsimp only at *
  have HU3 := Lib.hid (fun W h => sts_any B b s2 W h)
  generalize stS s2 = q3 at *
  obtain ⟨⟨rt, rr⟩, s3⟩ := q3
  dsimp only at *
  have HSZ := Lib.hid (show Sz ({ Opp.zero with k := 5, nt := nt, nr := nr, rt := rt, rr := rr } : Opp) from ⟨Nat.zero_le _, Nat.zero_le _, Nat.zero_le _⟩)
  have HNA := Lib.hid (show ∀ W, Calls Tryz.prog 72 #[.int .i64 (5 : Int)] W fun e w' => e = .returned (.agg #[.bool true, .bool false, .bool true, .bool false, .bool false, .bool false]) ∧ Below W.heap.size W w' from fun W => named_any (5 : Int) W)
  have HE : Hid (takeO s = endO (({ Opp.zero with k := 5, nt := nt, nr := nr, rt := rt, rr := rr } : Opp), s3)) := Lib.hid (HTK.out.trans (congrArg endO HRW.out))
  clear HTK HRW
  cases hrg : rightO ({ Opp.zero with k := 5, nt := nt, nr := nr, rt := rt, rr := rr } : Opp) with
  | false =>
    have HV := Lib.hid (HE.out.trans (endO_no hrg))
    have HRG := Lib.hid hrg
    clear hrg
    go_enter Tryz.func50, Tryz.ntmps50
    go_wp2_with fail
    refine HN.out.mono ?_
    rintro e w1 ⟨rfl, hr1, ho1⟩
    have hr := HR0.out.only ho1 (by omega)
    have hlt1 := hr.lt
    have hb1 := (Below.refl w1.heap.size w1).alloc (Nat.le_refl _) (.cells #[.int .i64 (5 : Int), .int .i64 0, .int .i64 0, .int .i64 0, .int .i64 0, .string ⟨#[]⟩, .slice none 0 0, .int .i64 0, .int .i64 0, .int .i64 0, .string ⟨#[]⟩, .bool false] 53)
    have HR1 := Lib.hid (hr.kept hb1)
    have HV1 := Lib.hid (show OpAt (w1.alloc (.cells #[.int .i64 (5 : Int), .int .i64 0, .int .i64 0, .int .i64 0, .int .i64 0, .string ⟨#[]⟩, .slice none 0 0, .int .i64 0, .int .i64 0, .int .i64 0, .string ⟨#[]⟩, .bool false] 53)) w1.heap.size { Opp.zero with k := 5 } none 0 from OpAt.new w1 { Opp.zero with k := 5 } none 0 53)
    have HD1 := Lib.hid (hr1.kept hb1)
    have HO1 := Lib.hid ((HO0.out.trans ho1).trans (Only.of_below (b := b) hb1))
    clear hr hr1 ho1 hb1
    go_wp2_with fail
    refine (HNA.out _).mono ?_
    rintro e w2 ⟨rfl, hb2⟩
    have hv2 := HV1.out.kept hb2
    have hlt2 := hv2.lt
    have hb3 := (Below.refl w2.heap.size w2).alloc (Nat.le_refl _) (.cells #[.bool true, .bool false, .bool true, .bool false, .bool false, .bool false] 109)
    have T := Lib.hid (show TkO w B b w.heap.size w1.heap.size w2.heap.size ⟨true, false, true, false, false, false⟩ { Opp.zero with k := 5 } none 0 s1 (w2.alloc (.cells #[.bool true, .bool false, .bool true, .bool false, .bool false, .bool false] 109)) from
      { hR := Nat.le_refl _, hV := hlt1, hP := hlt2, hb := hblt, res := (HR1.out.kept hb2).kept hb3, op := hv2.kept hb3, pr := PrAt.new w2 ⟨true, false, true, false, false, false⟩ 109, rd := (HD1.out.kept hb2).kept hb3, only := (HO1.out.trans (Only.of_below hb2)).trans (Only.of_below hb3), own := OwnP.nil _ _ })
    clear HR1 HV1 HD1 HO1 hb2 hb3 hv2
    obtain ⟨p0, p1, p2, p3, p4, p5⟩ := T.out.pr.cells
    dsimp only at p0 p1 p2 p3 p4 p5
    go_wp2_with fail
    refine (HU2.out _ T.out.rd).mono ?_
    rintro e w3 ⟨rfl, hr, ho⟩
    replace T := Lib.hid (T.out.read hr ho)
    have f1 := T.out.op.free 1
    have x1 := T.out.op.cell 1
    simp only [opL, List.getElem?_cons_zero, List.getElem?_cons_succ] at x1
    have f2 := T.out.op.free 2
    have x2 := T.out.op.cell 2
    simp only [opL, List.getElem?_cons_zero, List.getElem?_cons_succ] at x2
    clear hr ho p0 p1 p2 p3 p4 p5
    replace T := Lib.hid (T.out.setN nt nr)
    obtain ⟨p0, p1, p2, p3, p4, p5⟩ := T.out.pr.cells
    dsimp only at p0 p1 p2 p3 p4 p5
    go_wp2_with fail
    refine (HU3.out _ T.out.rd).mono ?_
    rintro e w4 ⟨rfl, hr, ho⟩
    replace T := Lib.hid (T.out.read hr ho)
    have f3 := T.out.op.free 3
    have x3 := T.out.op.cell 3
    simp only [opL, List.getElem?_cons_zero, List.getElem?_cons_succ] at x3
    have f4 := T.out.op.free 4
    have x4 := T.out.op.cell 4
    simp only [opL, List.getElem?_cons_zero, List.getElem?_cons_succ] at x4
    clear hr ho p0 p1 p2 p3 p4 p5
    replace T := Lib.hid (T.out.setR rt rr)
    obtain ⟨p0, p1, p2, p3, p4, p5⟩ := T.out.pr.cells
    dsimp only at p0 p1 p2 p3 p4 p5
    have hop := T.out.op
    go_wp2_with (refine wpList_load_op otP rfl _ rfl _ rfl _ _ _ (by assumption) ?_)
    refine (oright_any _ _ _ _ HSZ.out T.out.pa).mono ?_
    rw [HRG.out]
    rintro e wa ⟨rfl, hba⟩
    replace T := Lib.hid (T.out.kept hba)
    clear hba p0 p1 p2 p3 p4 p5 hop
    go_wp2_with fail
    refine (fails_any B b s3 _ T.out.rd).mono ?_
    rintro e wb ⟨rfl, hr, ho⟩
    replace T := Lib.hid (T.out.read hr ho)
    clear hr ho
    have hne := failS_ne s3
    generalize failS 21 s3 = sf at *
    have te : ((sf.2 : Int) != 0) = true := by rw [bne_iff_ne]; omega
    go_wp2_with fail
    refine (errs_any B b sf _ T.out.rd).mono ?_
    rintro e wc ⟨rfl, rfl⟩
    obtain ⟨TT, hTT⟩ := T.out.res
    go_wp2_with (first | (refine wpList_load_op otP rfl _ rfl _ rfl _ _ _ (by assumption) ?_) | (refine wpList_store_op otP rfl _ _ rfl _ rfl TT _ hTT rfl Opp.zero none 0 rfl ?_; intro wz hvz hko _ hbn))
    refine bodyPost_ret (results_op otP _ rfl hvz rfl) rfl ?_
    rw [HV.out]
    exact ⟨none, 0, rfl, Pa.none _ _ rfl, T.out.done hbn, T.out.doneO hbn, fun a h => by cases h⟩
  | true =>
    have HRG := Lib.hid hrg
    by_cases hez : s3.2 = 0
    · have HV := Lib.hid (HE.out.trans (endO_ok hrg hez))
      have te : ((s3.2 : Int) != 0) = false := by rw [hez]; rfl
      clear hrg
      go_enter Tryz.func50, Tryz.ntmps50
      go_wp2_with fail
      refine HN.out.mono ?_
      rintro e w1 ⟨rfl, hr1, ho1⟩
      have hr := HR0.out.only ho1 (by omega)
      have hlt1 := hr.lt
      have hb1 := (Below.refl w1.heap.size w1).alloc (Nat.le_refl _) (.cells #[.int .i64 (5 : Int), .int .i64 0, .int .i64 0, .int .i64 0, .int .i64 0, .string ⟨#[]⟩, .slice none 0 0, .int .i64 0, .int .i64 0, .int .i64 0, .string ⟨#[]⟩, .bool false] 53)
      have HR1 := Lib.hid (hr.kept hb1)
      have HV1 := Lib.hid (show OpAt (w1.alloc (.cells #[.int .i64 (5 : Int), .int .i64 0, .int .i64 0, .int .i64 0, .int .i64 0, .string ⟨#[]⟩, .slice none 0 0, .int .i64 0, .int .i64 0, .int .i64 0, .string ⟨#[]⟩, .bool false] 53)) w1.heap.size { Opp.zero with k := 5 } none 0 from OpAt.new w1 { Opp.zero with k := 5 } none 0 53)
      have HD1 := Lib.hid (hr1.kept hb1)
      have HO1 := Lib.hid ((HO0.out.trans ho1).trans (Only.of_below (b := b) hb1))
      clear hr hr1 ho1 hb1
      go_wp2_with fail
      refine (HNA.out _).mono ?_
      rintro e w2 ⟨rfl, hb2⟩
      have hv2 := HV1.out.kept hb2
      have hlt2 := hv2.lt
      have hb3 := (Below.refl w2.heap.size w2).alloc (Nat.le_refl _) (.cells #[.bool true, .bool false, .bool true, .bool false, .bool false, .bool false] 109)
      have T := Lib.hid (show TkO w B b w.heap.size w1.heap.size w2.heap.size ⟨true, false, true, false, false, false⟩ { Opp.zero with k := 5 } none 0 s1 (w2.alloc (.cells #[.bool true, .bool false, .bool true, .bool false, .bool false, .bool false] 109)) from
        { hR := Nat.le_refl _, hV := hlt1, hP := hlt2, hb := hblt, res := (HR1.out.kept hb2).kept hb3, op := hv2.kept hb3, pr := PrAt.new w2 ⟨true, false, true, false, false, false⟩ 109, rd := (HD1.out.kept hb2).kept hb3, only := (HO1.out.trans (Only.of_below hb2)).trans (Only.of_below hb3), own := OwnP.nil _ _ })
      clear HR1 HV1 HD1 HO1 hb2 hb3 hv2
      obtain ⟨p0, p1, p2, p3, p4, p5⟩ := T.out.pr.cells
      dsimp only at p0 p1 p2 p3 p4 p5
      go_wp2_with fail
      refine (HU2.out _ T.out.rd).mono ?_
      rintro e w3 ⟨rfl, hr, ho⟩
      replace T := Lib.hid (T.out.read hr ho)
      have f1 := T.out.op.free 1
      have x1 := T.out.op.cell 1
      simp only [opL, List.getElem?_cons_zero, List.getElem?_cons_succ] at x1
      have f2 := T.out.op.free 2
      have x2 := T.out.op.cell 2
      simp only [opL, List.getElem?_cons_zero, List.getElem?_cons_succ] at x2
      clear hr ho p0 p1 p2 p3 p4 p5
      replace T := Lib.hid (T.out.setN nt nr)
      obtain ⟨p0, p1, p2, p3, p4, p5⟩ := T.out.pr.cells
      dsimp only at p0 p1 p2 p3 p4 p5
      go_wp2_with fail
      refine (HU3.out _ T.out.rd).mono ?_
      rintro e w4 ⟨rfl, hr, ho⟩
      replace T := Lib.hid (T.out.read hr ho)
      have f3 := T.out.op.free 3
      have x3 := T.out.op.cell 3
      simp only [opL, List.getElem?_cons_zero, List.getElem?_cons_succ] at x3
      have f4 := T.out.op.free 4
      have x4 := T.out.op.cell 4
      simp only [opL, List.getElem?_cons_zero, List.getElem?_cons_succ] at x4
      clear hr ho p0 p1 p2 p3 p4 p5
      replace T := Lib.hid (T.out.setR rt rr)
      obtain ⟨p0, p1, p2, p3, p4, p5⟩ := T.out.pr.cells
      dsimp only at p0 p1 p2 p3 p4 p5
      have hop := T.out.op
      go_wp2_with (refine wpList_load_op otP rfl _ rfl _ rfl _ _ _ (by assumption) ?_)
      refine (oright_any _ _ _ _ HSZ.out T.out.pa).mono ?_
      rw [HRG.out]
      rintro e wa ⟨rfl, hba⟩
      replace T := Lib.hid (T.out.kept hba)
      clear hba p0 p1 p2 p3 p4 p5 hop
      go_wp2_with fail
      refine (errs_any B b s3 _ T.out.rd).mono ?_
      rintro e wc ⟨rfl, rfl⟩
      have hop := T.out.op
      obtain ⟨TT, hTT⟩ := T.out.res
      go_wp2_with (first | (refine wpList_load_op otP rfl _ rfl _ rfl _ _ _ (by assumption) ?_) | (refine wpList_store_op otP rfl _ _ rfl _ rfl TT _ hTT rfl _ _ _ rfl ?_; intro wz hvz hko _ hbn))
      refine bodyPost_ret (results_op otP _ rfl hvz rfl) rfl ?_
      rw [HV.out]
      exact ⟨_, _, rfl, T.out.donePa hko, T.out.done hbn, T.out.doneO hbn, T.out.doneN⟩
    · have HV := Lib.hid (HE.out.trans (endO_err hrg hez))
      have te : ((s3.2 : Int) != 0) = true := by rw [bne_iff_ne]; omega
      clear hrg
      go_enter Tryz.func50, Tryz.ntmps50
      go_wp2_with fail
      refine HN.out.mono ?_
      rintro e w1 ⟨rfl, hr1, ho1⟩
      have hr := HR0.out.only ho1 (by omega)
      have hlt1 := hr.lt
      have hb1 := (Below.refl w1.heap.size w1).alloc (Nat.le_refl _) (.cells #[.int .i64 (5 : Int), .int .i64 0, .int .i64 0, .int .i64 0, .int .i64 0, .string ⟨#[]⟩, .slice none 0 0, .int .i64 0, .int .i64 0, .int .i64 0, .string ⟨#[]⟩, .bool false] 53)
      have HR1 := Lib.hid (hr.kept hb1)
      have HV1 := Lib.hid (show OpAt (w1.alloc (.cells #[.int .i64 (5 : Int), .int .i64 0, .int .i64 0, .int .i64 0, .int .i64 0, .string ⟨#[]⟩, .slice none 0 0, .int .i64 0, .int .i64 0, .int .i64 0, .string ⟨#[]⟩, .bool false] 53)) w1.heap.size { Opp.zero with k := 5 } none 0 from OpAt.new w1 { Opp.zero with k := 5 } none 0 53)
      have HD1 := Lib.hid (hr1.kept hb1)
      have HO1 := Lib.hid ((HO0.out.trans ho1).trans (Only.of_below (b := b) hb1))
      clear hr hr1 ho1 hb1
      go_wp2_with fail
      refine (HNA.out _).mono ?_
      rintro e w2 ⟨rfl, hb2⟩
      have hv2 := HV1.out.kept hb2
      have hlt2 := hv2.lt
      have hb3 := (Below.refl w2.heap.size w2).alloc (Nat.le_refl _) (.cells #[.bool true, .bool false, .bool true, .bool false, .bool false, .bool false] 109)
      have T := Lib.hid (show TkO w B b w.heap.size w1.heap.size w2.heap.size ⟨true, false, true, false, false, false⟩ { Opp.zero with k := 5 } none 0 s1 (w2.alloc (.cells #[.bool true, .bool false, .bool true, .bool false, .bool false, .bool false] 109)) from
        { hR := Nat.le_refl _, hV := hlt1, hP := hlt2, hb := hblt, res := (HR1.out.kept hb2).kept hb3, op := hv2.kept hb3, pr := PrAt.new w2 ⟨true, false, true, false, false, false⟩ 109, rd := (HD1.out.kept hb2).kept hb3, only := (HO1.out.trans (Only.of_below hb2)).trans (Only.of_below hb3), own := OwnP.nil _ _ })
      clear HR1 HV1 HD1 HO1 hb2 hb3 hv2
      obtain ⟨p0, p1, p2, p3, p4, p5⟩ := T.out.pr.cells
      dsimp only at p0 p1 p2 p3 p4 p5
      go_wp2_with fail
      refine (HU2.out _ T.out.rd).mono ?_
      rintro e w3 ⟨rfl, hr, ho⟩
      replace T := Lib.hid (T.out.read hr ho)
      have f1 := T.out.op.free 1
      have x1 := T.out.op.cell 1
      simp only [opL, List.getElem?_cons_zero, List.getElem?_cons_succ] at x1
      have f2 := T.out.op.free 2
      have x2 := T.out.op.cell 2
      simp only [opL, List.getElem?_cons_zero, List.getElem?_cons_succ] at x2
      clear hr ho p0 p1 p2 p3 p4 p5
      replace T := Lib.hid (T.out.setN nt nr)
      obtain ⟨p0, p1, p2, p3, p4, p5⟩ := T.out.pr.cells
      dsimp only at p0 p1 p2 p3 p4 p5
      go_wp2_with fail
      refine (HU3.out _ T.out.rd).mono ?_
      rintro e w4 ⟨rfl, hr, ho⟩
      replace T := Lib.hid (T.out.read hr ho)
      have f3 := T.out.op.free 3
      have x3 := T.out.op.cell 3
      simp only [opL, List.getElem?_cons_zero, List.getElem?_cons_succ] at x3
      have f4 := T.out.op.free 4
      have x4 := T.out.op.cell 4
      simp only [opL, List.getElem?_cons_zero, List.getElem?_cons_succ] at x4
      clear hr ho p0 p1 p2 p3 p4 p5
      replace T := Lib.hid (T.out.setR rt rr)
      obtain ⟨p0, p1, p2, p3, p4, p5⟩ := T.out.pr.cells
      dsimp only at p0 p1 p2 p3 p4 p5
      have hop := T.out.op
      go_wp2_with (refine wpList_load_op otP rfl _ rfl _ rfl _ _ _ (by assumption) ?_)
      refine (oright_any _ _ _ _ HSZ.out T.out.pa).mono ?_
      rw [HRG.out]
      rintro e wa ⟨rfl, hba⟩
      replace T := Lib.hid (T.out.kept hba)
      clear hba p0 p1 p2 p3 p4 p5 hop
      go_wp2_with fail
      refine (errs_any B b s3 _ T.out.rd).mono ?_
      rintro e wc ⟨rfl, rfl⟩
      obtain ⟨TT, hTT⟩ := T.out.res
      go_wp2_with (first | (refine wpList_load_op otP rfl _ rfl _ rfl _ _ _ (by assumption) ?_) | (refine wpList_store_op otP rfl _ _ rfl _ rfl TT _ hTT rfl Opp.zero none 0 rfl ?_; intro wz hvz hko _ hbn))
      refine bodyPost_ret (results_op otP _ rfl hvz rfl) rfl ?_
      rw [HV.out]
      exact ⟨none, 0, rfl, Pa.none _ _ rfl, T.out.done hbn, T.out.doneO hbn, fun a h => by cases h⟩

set_option maxRecDepth 100000 in
set_option maxHeartbeats 4000000 in
theorem take6_any (B b : Nat) (s : RS) (w : World) (h : RdS w B b s) (hL : Lim s) (hk : (numS s).1 = 6) : Calls Tryz.prog 50 #[.pointer (some ⟨b, 0, none⟩)] w (TookO w B b (takeO s)) := by
  have hb0 := (Below.refl w.heap.size w).alloc (Nat.le_refl _) (.cells #[.int .i64 0, .int .i64 0, .int .i64 0, .int .i64 0, .int .i64 0, .string ⟨#[]⟩, .slice none 0 0, .int .i64 0, .int .i64 0, .int .i64 0, .string ⟨#[]⟩, .bool false] 53)
  have HN := Lib.hid (nums_any B b s _ (h.kept hb0))
  have HTK : Hid (takeO s = endO (rawO (numS s).1 (numS s).2)) := Lib.hid rfl
  have hblt := h.lt
  have hl1 : (numS s).2.1.length ≤ 1000000000000 ∨ (numS (stS (numS s).2).2).1 ≤ 1000000000000 := hL.elim (fun h => Or.inl (Nat.le_trans (numS_len s) h)) (fun h => h.elim (fun h => absurd hk h) Or.inr)
  rw [hk] at HN HTK
  generalize (numS s).2 = s1 at *
  have HO0 := Lib.hid (Only.of_below (b := b) hb0)
  have HR0 := Lib.hid (show OpAt _ w.heap.size Opp.zero none 0 from OpAt.new w Opp.zero none 0 53)
  clear h hb0 hL hk
  have HRW : Hid (rawO 6 s1 = ({ Opp.zero with k := 6, nt := (stS s1).1.1, nr := (stS s1).1.2, path := (paS (stS s1).2).1, p := (numS (paS (stS s1).2).2).1, vk := (vlS (numS (paS (stS s1).2).2).2).1.1, vn := (vlS (numS (paS (stS s1).2).2).2).1.2.1, vt := (vlS (numS (paS (stS s1).2).2).2).1.2.2 }, (vlS (numS (paS (stS s1).2).2).2).2)) := Lib.hid rfl
  have HU2 := Lib.hid (fun W h => sts_any B b s1 W h)
  have hl2 : (stS s1).2.1.length ≤ 1000000000000 ∨ (numS (stS s1).2).1 ≤ 1000000000000 := hl1.imp (Nat.le_trans (stS_le s1)) id
  clear hl1
  generalize stS s1 = q2 at *
  obtain ⟨⟨nt, nr⟩, s2⟩ := q2
  dsimp only at *
  have HU3 := Lib.hid (fun W h => paths_any B b s2 W h hl2)
  have hzp : (paS s2).1.length ≤ 1000000000000 := hl2.elim (Nat.le_trans (paS_len s2)) (Nat.le_trans (paS_le s2))
  clear hl2
  generalize paS s2 = q3 at *
  obtain ⟨path, s3⟩ := q3
  dsimp only at *
  have HU4 := Lib.hid (fun W h => nums_any B b s3 W h)
  generalize numS s3 = q4 at *
  obtain ⟨pn, s4⟩ := q4
  dsimp only at *
  have HU5 := Lib.hid (fun W h => vls_any B b s4 W h)
  have hzv := vlS_size s4
  generalize vlS s4 = q5 at *
  obtain ⟨⟨vk, vn, vt⟩, s5⟩ := q5
  dsimp only at *
  have HSZ := Lib.hid (show Sz ({ Opp.zero with k := 6, nt := nt, nr := nr, path := path, p := pn, vk := vk, vn := vn, vt := vt } : Opp) from ⟨Nat.zero_le _, Nat.le_trans hzv (by decide), Nat.le_trans hzp (by decide)⟩)
  have HNA := Lib.hid (show ∀ W, Calls Tryz.prog 72 #[.int .i64 (6 : Int)] W fun e w' => e = .returned (.agg #[.bool true, .bool false, .bool false, .bool true, .bool true, .bool false]) ∧ Below W.heap.size W w' from fun W => named_any (6 : Int) W)
  have HE : Hid (takeO s = endO (({ Opp.zero with k := 6, nt := nt, nr := nr, path := path, p := pn, vk := vk, vn := vn, vt := vt } : Opp), s5)) := Lib.hid (HTK.out.trans (congrArg endO HRW.out))
  clear HTK HRW
  cases hrg : rightO ({ Opp.zero with k := 6, nt := nt, nr := nr, path := path, p := pn, vk := vk, vn := vn, vt := vt } : Opp) with
  | false =>
    have HV := Lib.hid (HE.out.trans (endO_no hrg))
    have HRG := Lib.hid hrg
    clear hrg
    go_enter Tryz.func50, Tryz.ntmps50
    go_wp2_with fail
    refine HN.out.mono ?_
    rintro e w1 ⟨rfl, hr1, ho1⟩
    have hr := HR0.out.only ho1 (by omega)
    have hlt1 := hr.lt
    have hb1 := (Below.refl w1.heap.size w1).alloc (Nat.le_refl _) (.cells #[.int .i64 (6 : Int), .int .i64 0, .int .i64 0, .int .i64 0, .int .i64 0, .string ⟨#[]⟩, .slice none 0 0, .int .i64 0, .int .i64 0, .int .i64 0, .string ⟨#[]⟩, .bool false] 53)
    have HR1 := Lib.hid (hr.kept hb1)
    have HV1 := Lib.hid (show OpAt (w1.alloc (.cells #[.int .i64 (6 : Int), .int .i64 0, .int .i64 0, .int .i64 0, .int .i64 0, .string ⟨#[]⟩, .slice none 0 0, .int .i64 0, .int .i64 0, .int .i64 0, .string ⟨#[]⟩, .bool false] 53)) w1.heap.size { Opp.zero with k := 6 } none 0 from OpAt.new w1 { Opp.zero with k := 6 } none 0 53)
    have HD1 := Lib.hid (hr1.kept hb1)
    have HO1 := Lib.hid ((HO0.out.trans ho1).trans (Only.of_below (b := b) hb1))
    clear hr hr1 ho1 hb1
    go_wp2_with fail
    refine (HNA.out _).mono ?_
    rintro e w2 ⟨rfl, hb2⟩
    have hv2 := HV1.out.kept hb2
    have hlt2 := hv2.lt
    have hb3 := (Below.refl w2.heap.size w2).alloc (Nat.le_refl _) (.cells #[.bool true, .bool false, .bool false, .bool true, .bool true, .bool false] 109)
    have T := Lib.hid (show TkO w B b w.heap.size w1.heap.size w2.heap.size ⟨true, false, false, true, true, false⟩ { Opp.zero with k := 6 } none 0 s1 (w2.alloc (.cells #[.bool true, .bool false, .bool false, .bool true, .bool true, .bool false] 109)) from
      { hR := Nat.le_refl _, hV := hlt1, hP := hlt2, hb := hblt, res := (HR1.out.kept hb2).kept hb3, op := hv2.kept hb3, pr := PrAt.new w2 ⟨true, false, false, true, true, false⟩ 109, rd := (HD1.out.kept hb2).kept hb3, only := (HO1.out.trans (Only.of_below hb2)).trans (Only.of_below hb3), own := OwnP.nil _ _ })
    clear HR1 HV1 HD1 HO1 hb2 hb3 hv2
    obtain ⟨p0, p1, p2, p3, p4, p5⟩ := T.out.pr.cells
    dsimp only at p0 p1 p2 p3 p4 p5
    go_wp2_with fail
    refine (HU2.out _ T.out.rd).mono ?_
    rintro e w3 ⟨rfl, hr, ho⟩
    replace T := Lib.hid (T.out.read hr ho)
    have f1 := T.out.op.free 1
    have x1 := T.out.op.cell 1
    simp only [opL, List.getElem?_cons_zero, List.getElem?_cons_succ] at x1
    have f2 := T.out.op.free 2
    have x2 := T.out.op.cell 2
    simp only [opL, List.getElem?_cons_zero, List.getElem?_cons_succ] at x2
    clear hr ho p0 p1 p2 p3 p4 p5
    replace T := Lib.hid (T.out.setN nt nr)
    obtain ⟨p0, p1, p2, p3, p4, p5⟩ := T.out.pr.cells
    dsimp only at p0 p1 p2 p3 p4 p5
    go_wp2_with fail
    refine (HU3.out _ T.out.rd).mono ?_
    have hvl := T.out.op.lt
    rintro e w4 ⟨q1, c1, rfl, hown0, hr, ho⟩
    have hown := hown0.up hvl
    clear hown0 hvl
    replace T := Lib.hid (T.out.read hr ho)
    have f6 := T.out.op.free 6
    have x6 := T.out.op.cell 6
    simp only [opL, List.getElem?_cons_zero, List.getElem?_cons_succ] at x6
    clear hr ho p0 p1 p2 p3 p4 p5
    replace T := Lib.hid (T.out.setPath path q1 c1 hown)
    clear hown
    obtain ⟨p0, p1, p2, p3, p4, p5⟩ := T.out.pr.cells
    dsimp only at p0 p1 p2 p3 p4 p5
    go_wp2_with fail
    refine (HU4.out _ T.out.rd).mono ?_
    rintro e w5 ⟨rfl, hr, ho⟩
    replace T := Lib.hid (T.out.read hr ho)
    have f7 := T.out.op.free 7
    have x7 := T.out.op.cell 7
    simp only [opL, List.getElem?_cons_zero, List.getElem?_cons_succ] at x7
    clear hr ho p0 p1 p2 p3 p4 p5
    replace T := Lib.hid (T.out.setP (pn : Int))
    obtain ⟨p0, p1, p2, p3, p4, p5⟩ := T.out.pr.cells
    dsimp only at p0 p1 p2 p3 p4 p5
    go_wp2_with fail
    refine (HU5.out _ T.out.rd).mono ?_
    rintro e w6 ⟨rfl, hr, ho⟩
    replace T := Lib.hid (T.out.read hr ho)
    have f8 := T.out.op.free 8
    have x8 := T.out.op.cell 8
    simp only [opL, List.getElem?_cons_zero, List.getElem?_cons_succ] at x8
    have f9 := T.out.op.free 9
    have x9 := T.out.op.cell 9
    simp only [opL, List.getElem?_cons_zero, List.getElem?_cons_succ] at x9
    have f10 := T.out.op.free 10
    have x10 := T.out.op.cell 10
    simp only [opL, List.getElem?_cons_zero, List.getElem?_cons_succ] at x10
    clear hr ho p0 p1 p2 p3 p4 p5
    replace T := Lib.hid (T.out.setV vk vn vt)
    obtain ⟨p0, p1, p2, p3, p4, p5⟩ := T.out.pr.cells
    dsimp only at p0 p1 p2 p3 p4 p5
    have hop := T.out.op
    go_wp2_with (refine wpList_load_op otP rfl _ rfl _ rfl _ _ _ (by assumption) ?_)
    refine (oright_any _ _ _ _ HSZ.out T.out.pa).mono ?_
    rw [HRG.out]
    rintro e wa ⟨rfl, hba⟩
    replace T := Lib.hid (T.out.kept hba)
    clear hba p0 p1 p2 p3 p4 p5 hop
    go_wp2_with fail
    refine (fails_any B b s5 _ T.out.rd).mono ?_
    rintro e wb ⟨rfl, hr, ho⟩
    replace T := Lib.hid (T.out.read hr ho)
    clear hr ho
    have hne := failS_ne s5
    generalize failS 21 s5 = sf at *
    have te : ((sf.2 : Int) != 0) = true := by rw [bne_iff_ne]; omega
    go_wp2_with fail
    refine (errs_any B b sf _ T.out.rd).mono ?_
    rintro e wc ⟨rfl, rfl⟩
    obtain ⟨TT, hTT⟩ := T.out.res
    go_wp2_with (first | (refine wpList_load_op otP rfl _ rfl _ rfl _ _ _ (by assumption) ?_) | (refine wpList_store_op otP rfl _ _ rfl _ rfl TT _ hTT rfl Opp.zero none 0 rfl ?_; intro wz hvz hko _ hbn))
    refine bodyPost_ret (results_op otP _ rfl hvz rfl) rfl ?_
    rw [HV.out]
    exact ⟨none, 0, rfl, Pa.none _ _ rfl, T.out.done hbn, T.out.doneO hbn, fun a h => by cases h⟩
  | true =>
    have HRG := Lib.hid hrg
    by_cases hez : s5.2 = 0
    · have HV := Lib.hid (HE.out.trans (endO_ok hrg hez))
      have te : ((s5.2 : Int) != 0) = false := by rw [hez]; rfl
      clear hrg
      go_enter Tryz.func50, Tryz.ntmps50
      go_wp2_with fail
      refine HN.out.mono ?_
      rintro e w1 ⟨rfl, hr1, ho1⟩
      have hr := HR0.out.only ho1 (by omega)
      have hlt1 := hr.lt
      have hb1 := (Below.refl w1.heap.size w1).alloc (Nat.le_refl _) (.cells #[.int .i64 (6 : Int), .int .i64 0, .int .i64 0, .int .i64 0, .int .i64 0, .string ⟨#[]⟩, .slice none 0 0, .int .i64 0, .int .i64 0, .int .i64 0, .string ⟨#[]⟩, .bool false] 53)
      have HR1 := Lib.hid (hr.kept hb1)
      have HV1 := Lib.hid (show OpAt (w1.alloc (.cells #[.int .i64 (6 : Int), .int .i64 0, .int .i64 0, .int .i64 0, .int .i64 0, .string ⟨#[]⟩, .slice none 0 0, .int .i64 0, .int .i64 0, .int .i64 0, .string ⟨#[]⟩, .bool false] 53)) w1.heap.size { Opp.zero with k := 6 } none 0 from OpAt.new w1 { Opp.zero with k := 6 } none 0 53)
      have HD1 := Lib.hid (hr1.kept hb1)
      have HO1 := Lib.hid ((HO0.out.trans ho1).trans (Only.of_below (b := b) hb1))
      clear hr hr1 ho1 hb1
      go_wp2_with fail
      refine (HNA.out _).mono ?_
      rintro e w2 ⟨rfl, hb2⟩
      have hv2 := HV1.out.kept hb2
      have hlt2 := hv2.lt
      have hb3 := (Below.refl w2.heap.size w2).alloc (Nat.le_refl _) (.cells #[.bool true, .bool false, .bool false, .bool true, .bool true, .bool false] 109)
      have T := Lib.hid (show TkO w B b w.heap.size w1.heap.size w2.heap.size ⟨true, false, false, true, true, false⟩ { Opp.zero with k := 6 } none 0 s1 (w2.alloc (.cells #[.bool true, .bool false, .bool false, .bool true, .bool true, .bool false] 109)) from
        { hR := Nat.le_refl _, hV := hlt1, hP := hlt2, hb := hblt, res := (HR1.out.kept hb2).kept hb3, op := hv2.kept hb3, pr := PrAt.new w2 ⟨true, false, false, true, true, false⟩ 109, rd := (HD1.out.kept hb2).kept hb3, only := (HO1.out.trans (Only.of_below hb2)).trans (Only.of_below hb3), own := OwnP.nil _ _ })
      clear HR1 HV1 HD1 HO1 hb2 hb3 hv2
      obtain ⟨p0, p1, p2, p3, p4, p5⟩ := T.out.pr.cells
      dsimp only at p0 p1 p2 p3 p4 p5
      go_wp2_with fail
      refine (HU2.out _ T.out.rd).mono ?_
      rintro e w3 ⟨rfl, hr, ho⟩
      replace T := Lib.hid (T.out.read hr ho)
      have f1 := T.out.op.free 1
      have x1 := T.out.op.cell 1
      simp only [opL, List.getElem?_cons_zero, List.getElem?_cons_succ] at x1
      have f2 := T.out.op.free 2
      have x2 := T.out.op.cell 2
      simp only [opL, List.getElem?_cons_zero, List.getElem?_cons_succ] at x2
      clear hr ho p0 p1 p2 p3 p4 p5
      replace T := Lib.hid (T.out.setN nt nr)
      obtain ⟨p0, p1, p2, p3, p4, p5⟩ := T.out.pr.cells
      dsimp only at p0 p1 p2 p3 p4 p5
      go_wp2_with fail
      refine (HU3.out _ T.out.rd).mono ?_
      have hvl := T.out.op.lt
      rintro e w4 ⟨q1, c1, rfl, hown0, hr, ho⟩
      have hown := hown0.up hvl
      clear hown0 hvl
      replace T := Lib.hid (T.out.read hr ho)
      have f6 := T.out.op.free 6
      have x6 := T.out.op.cell 6
      simp only [opL, List.getElem?_cons_zero, List.getElem?_cons_succ] at x6
      clear hr ho p0 p1 p2 p3 p4 p5
      replace T := Lib.hid (T.out.setPath path q1 c1 hown)
      clear hown
      obtain ⟨p0, p1, p2, p3, p4, p5⟩ := T.out.pr.cells
      dsimp only at p0 p1 p2 p3 p4 p5
      go_wp2_with fail
      refine (HU4.out _ T.out.rd).mono ?_
      rintro e w5 ⟨rfl, hr, ho⟩
      replace T := Lib.hid (T.out.read hr ho)
      have f7 := T.out.op.free 7
      have x7 := T.out.op.cell 7
      simp only [opL, List.getElem?_cons_zero, List.getElem?_cons_succ] at x7
      clear hr ho p0 p1 p2 p3 p4 p5
      replace T := Lib.hid (T.out.setP (pn : Int))
      obtain ⟨p0, p1, p2, p3, p4, p5⟩ := T.out.pr.cells
      dsimp only at p0 p1 p2 p3 p4 p5
      go_wp2_with fail
      refine (HU5.out _ T.out.rd).mono ?_
      rintro e w6 ⟨rfl, hr, ho⟩
      replace T := Lib.hid (T.out.read hr ho)
      have f8 := T.out.op.free 8
      have x8 := T.out.op.cell 8
      simp only [opL, List.getElem?_cons_zero, List.getElem?_cons_succ] at x8
      have f9 := T.out.op.free 9
      have x9 := T.out.op.cell 9
      simp only [opL, List.getElem?_cons_zero, List.getElem?_cons_succ] at x9
      have f10 := T.out.op.free 10
      have x10 := T.out.op.cell 10
      simp only [opL, List.getElem?_cons_zero, List.getElem?_cons_succ] at x10
      clear hr ho p0 p1 p2 p3 p4 p5
      replace T := Lib.hid (T.out.setV vk vn vt)
      obtain ⟨p0, p1, p2, p3, p4, p5⟩ := T.out.pr.cells
      dsimp only at p0 p1 p2 p3 p4 p5
      have hop := T.out.op
      go_wp2_with (refine wpList_load_op otP rfl _ rfl _ rfl _ _ _ (by assumption) ?_)
      refine (oright_any _ _ _ _ HSZ.out T.out.pa).mono ?_
      rw [HRG.out]
      rintro e wa ⟨rfl, hba⟩
      replace T := Lib.hid (T.out.kept hba)
      clear hba p0 p1 p2 p3 p4 p5 hop
      go_wp2_with fail
      refine (errs_any B b s5 _ T.out.rd).mono ?_
      rintro e wc ⟨rfl, rfl⟩
      have hop := T.out.op
      obtain ⟨TT, hTT⟩ := T.out.res
      go_wp2_with (first | (refine wpList_load_op otP rfl _ rfl _ rfl _ _ _ (by assumption) ?_) | (refine wpList_store_op otP rfl _ _ rfl _ rfl TT _ hTT rfl _ _ _ rfl ?_; intro wz hvz hko _ hbn))
      refine bodyPost_ret (results_op otP _ rfl hvz rfl) rfl ?_
      rw [HV.out]
      exact ⟨_, _, rfl, T.out.donePa hko, T.out.done hbn, T.out.doneO hbn, T.out.doneN⟩
    · have HV := Lib.hid (HE.out.trans (endO_err hrg hez))
      have te : ((s5.2 : Int) != 0) = true := by rw [bne_iff_ne]; omega
      clear hrg
      go_enter Tryz.func50, Tryz.ntmps50
      go_wp2_with fail
      refine HN.out.mono ?_
      rintro e w1 ⟨rfl, hr1, ho1⟩
      have hr := HR0.out.only ho1 (by omega)
      have hlt1 := hr.lt
      have hb1 := (Below.refl w1.heap.size w1).alloc (Nat.le_refl _) (.cells #[.int .i64 (6 : Int), .int .i64 0, .int .i64 0, .int .i64 0, .int .i64 0, .string ⟨#[]⟩, .slice none 0 0, .int .i64 0, .int .i64 0, .int .i64 0, .string ⟨#[]⟩, .bool false] 53)
      have HR1 := Lib.hid (hr.kept hb1)
      have HV1 := Lib.hid (show OpAt (w1.alloc (.cells #[.int .i64 (6 : Int), .int .i64 0, .int .i64 0, .int .i64 0, .int .i64 0, .string ⟨#[]⟩, .slice none 0 0, .int .i64 0, .int .i64 0, .int .i64 0, .string ⟨#[]⟩, .bool false] 53)) w1.heap.size { Opp.zero with k := 6 } none 0 from OpAt.new w1 { Opp.zero with k := 6 } none 0 53)
      have HD1 := Lib.hid (hr1.kept hb1)
      have HO1 := Lib.hid ((HO0.out.trans ho1).trans (Only.of_below (b := b) hb1))
      clear hr hr1 ho1 hb1
      go_wp2_with fail
      refine (HNA.out _).mono ?_
      rintro e w2 ⟨rfl, hb2⟩
      have hv2 := HV1.out.kept hb2
      have hlt2 := hv2.lt
      have hb3 := (Below.refl w2.heap.size w2).alloc (Nat.le_refl _) (.cells #[.bool true, .bool false, .bool false, .bool true, .bool true, .bool false] 109)
      have T := Lib.hid (show TkO w B b w.heap.size w1.heap.size w2.heap.size ⟨true, false, false, true, true, false⟩ { Opp.zero with k := 6 } none 0 s1 (w2.alloc (.cells #[.bool true, .bool false, .bool false, .bool true, .bool true, .bool false] 109)) from
        { hR := Nat.le_refl _, hV := hlt1, hP := hlt2, hb := hblt, res := (HR1.out.kept hb2).kept hb3, op := hv2.kept hb3, pr := PrAt.new w2 ⟨true, false, false, true, true, false⟩ 109, rd := (HD1.out.kept hb2).kept hb3, only := (HO1.out.trans (Only.of_below hb2)).trans (Only.of_below hb3), own := OwnP.nil _ _ })
      clear HR1 HV1 HD1 HO1 hb2 hb3 hv2
      obtain ⟨p0, p1, p2, p3, p4, p5⟩ := T.out.pr.cells
      dsimp only at p0 p1 p2 p3 p4 p5
      go_wp2_with fail
      refine (HU2.out _ T.out.rd).mono ?_
      rintro e w3 ⟨rfl, hr, ho⟩
      replace T := Lib.hid (T.out.read hr ho)
      have f1 := T.out.op.free 1
      have x1 := T.out.op.cell 1
      simp only [opL, List.getElem?_cons_zero, List.getElem?_cons_succ] at x1
      have f2 := T.out.op.free 2
      have x2 := T.out.op.cell 2
      simp only [opL, List.getElem?_cons_zero, List.getElem?_cons_succ] at x2
      clear hr ho p0 p1 p2 p3 p4 p5
      replace T := Lib.hid (T.out.setN nt nr)
      obtain ⟨p0, p1, p2, p3, p4, p5⟩ := T.out.pr.cells
      dsimp only at p0 p1 p2 p3 p4 p5
      go_wp2_with fail
      refine (HU3.out _ T.out.rd).mono ?_
      have hvl := T.out.op.lt
      rintro e w4 ⟨q1, c1, rfl, hown0, hr, ho⟩
      have hown := hown0.up hvl
      clear hown0 hvl
      replace T := Lib.hid (T.out.read hr ho)
      have f6 := T.out.op.free 6
      have x6 := T.out.op.cell 6
      simp only [opL, List.getElem?_cons_zero, List.getElem?_cons_succ] at x6
      clear hr ho p0 p1 p2 p3 p4 p5
      replace T := Lib.hid (T.out.setPath path q1 c1 hown)
      clear hown
      obtain ⟨p0, p1, p2, p3, p4, p5⟩ := T.out.pr.cells
      dsimp only at p0 p1 p2 p3 p4 p5
      go_wp2_with fail
      refine (HU4.out _ T.out.rd).mono ?_
      rintro e w5 ⟨rfl, hr, ho⟩
      replace T := Lib.hid (T.out.read hr ho)
      have f7 := T.out.op.free 7
      have x7 := T.out.op.cell 7
      simp only [opL, List.getElem?_cons_zero, List.getElem?_cons_succ] at x7
      clear hr ho p0 p1 p2 p3 p4 p5
      replace T := Lib.hid (T.out.setP (pn : Int))
      obtain ⟨p0, p1, p2, p3, p4, p5⟩ := T.out.pr.cells
      dsimp only at p0 p1 p2 p3 p4 p5
      go_wp2_with fail
      refine (HU5.out _ T.out.rd).mono ?_
      rintro e w6 ⟨rfl, hr, ho⟩
      replace T := Lib.hid (T.out.read hr ho)
      have f8 := T.out.op.free 8
      have x8 := T.out.op.cell 8
      simp only [opL, List.getElem?_cons_zero, List.getElem?_cons_succ] at x8
      have f9 := T.out.op.free 9
      have x9 := T.out.op.cell 9
      simp only [opL, List.getElem?_cons_zero, List.getElem?_cons_succ] at x9
      have f10 := T.out.op.free 10
      have x10 := T.out.op.cell 10
      simp only [opL, List.getElem?_cons_zero, List.getElem?_cons_succ] at x10
      clear hr ho p0 p1 p2 p3 p4 p5
      replace T := Lib.hid (T.out.setV vk vn vt)
      obtain ⟨p0, p1, p2, p3, p4, p5⟩ := T.out.pr.cells
      dsimp only at p0 p1 p2 p3 p4 p5
      have hop := T.out.op
      go_wp2_with (refine wpList_load_op otP rfl _ rfl _ rfl _ _ _ (by assumption) ?_)
      refine (oright_any _ _ _ _ HSZ.out T.out.pa).mono ?_
      rw [HRG.out]
      rintro e wa ⟨rfl, hba⟩
      replace T := Lib.hid (T.out.kept hba)
      clear hba p0 p1 p2 p3 p4 p5 hop
      go_wp2_with fail
      refine (errs_any B b s5 _ T.out.rd).mono ?_
      rintro e wc ⟨rfl, rfl⟩
      obtain ⟨TT, hTT⟩ := T.out.res
      go_wp2_with (first | (refine wpList_load_op otP rfl _ rfl _ rfl _ _ _ (by assumption) ?_) | (refine wpList_store_op otP rfl _ _ rfl _ rfl TT _ hTT rfl Opp.zero none 0 rfl ?_; intro wz hvz hko _ hbn))
      refine bodyPost_ret (results_op otP _ rfl hvz rfl) rfl ?_
      rw [HV.out]
      exact ⟨none, 0, rfl, Pa.none _ _ rfl, T.out.done hbn, T.out.doneO hbn, fun a h => by cases h⟩

set_option maxRecDepth 100000 in
set_option maxHeartbeats 4000000 in
theorem takeN_any (B b : Nat) (s : RS) (w : World) (h : RdS w B b s) (_ : Lim s) (kk : Nat) (hk : (numS s).1 = kk) (h1 : kk ≠ 1) (h2 : kk ≠ 2) (h3 : kk ≠ 3) (h4 : kk ≠ 4) (h5 : kk ≠ 5) (h6 : kk ≠ 6) : Calls Tryz.prog 50 #[.pointer (some ⟨b, 0, none⟩)] w (TookO w B b (takeO s)) := by
  have hb0 := (Below.refl w.heap.size w).alloc (Nat.le_refl _) (.cells #[.int .i64 0, .int .i64 0, .int .i64 0, .int .i64 0, .int .i64 0, .string ⟨#[]⟩, .slice none 0 0, .int .i64 0, .int .i64 0, .int .i64 0, .string ⟨#[]⟩, .bool false] 53)
  have HN := Lib.hid (nums_any B b s _ (h.kept hb0))
  have HTK : Hid (takeO s = endO (rawO (numS s).1 (numS s).2)) := Lib.hid rfl
  have hblt := h.lt
  rw [hk] at HN HTK
  generalize (numS s).2 = s1 at *
  have HO0 := Lib.hid (Only.of_below (b := b) hb0)
  have HR0 := Lib.hid (show OpAt _ w.heap.size Opp.zero none 0 from OpAt.new w Opp.zero none 0 53)
  clear h hb0 hk
  have HRW : Hid (rawO kk s1 = _) := Lib.hid (show rawO kk s1 = ({ Opp.zero with k := kk }, s1) by unfold rawO; rw [if_neg h1, if_neg h2, if_neg h3, if_neg h4, if_neg h5, if_neg h6])
  have HSZ := Lib.hid (show Sz ({ Opp.zero with k := kk } : Opp) from ⟨Nat.zero_le _, Nat.zero_le _, Nat.zero_le _⟩)
  have HNA := Lib.hid (show ∀ W, Calls Tryz.prog 72 #[.int .i64 ((kk : Nat) : Int)] W fun e w' => e = .returned (.agg #[.bool false, .bool false, .bool false, .bool false, .bool false, .bool false]) ∧ Below W.heap.size W w' from fun W => by have h := named_any (kk : Int) W; rw [prt_none (by omega) (by omega) (by omega) (by omega) (by omega) (by omega)] at h; exact h)
  clear h1 h2 h3 h4 h5 h6
  have HE : Hid (takeO s = endO (({ Opp.zero with k := kk } : Opp), s1)) := Lib.hid (HTK.out.trans (congrArg endO HRW.out))
  clear HTK HRW
  cases hrg : rightO ({ Opp.zero with k := kk } : Opp) with
  | false =>
    have HV := Lib.hid (HE.out.trans (endO_no hrg))
    have HRG := Lib.hid hrg
    clear hrg
    go_enter Tryz.func50, Tryz.ntmps50
    go_wp2_with fail
    refine HN.out.mono ?_
    rintro e w1 ⟨rfl, hr1, ho1⟩
    have hr := HR0.out.only ho1 (by omega)
    have hlt1 := hr.lt
    have hb1 := (Below.refl w1.heap.size w1).alloc (Nat.le_refl _) (.cells #[.int .i64 ((kk : Nat) : Int), .int .i64 0, .int .i64 0, .int .i64 0, .int .i64 0, .string ⟨#[]⟩, .slice none 0 0, .int .i64 0, .int .i64 0, .int .i64 0, .string ⟨#[]⟩, .bool false] 53)
    have HR1 := Lib.hid (hr.kept hb1)
    have HV1 := Lib.hid (show OpAt (w1.alloc (.cells #[.int .i64 ((kk : Nat) : Int), .int .i64 0, .int .i64 0, .int .i64 0, .int .i64 0, .string ⟨#[]⟩, .slice none 0 0, .int .i64 0, .int .i64 0, .int .i64 0, .string ⟨#[]⟩, .bool false] 53)) w1.heap.size { Opp.zero with k := kk } none 0 from OpAt.new w1 { Opp.zero with k := kk } none 0 53)
    have HD1 := Lib.hid (hr1.kept hb1)
    have HO1 := Lib.hid ((HO0.out.trans ho1).trans (Only.of_below (b := b) hb1))
    clear hr hr1 ho1 hb1
    go_wp2_with fail
    refine (HNA.out _).mono ?_
    rintro e w2 ⟨rfl, hb2⟩
    have hv2 := HV1.out.kept hb2
    have hlt2 := hv2.lt
    have hb3 := (Below.refl w2.heap.size w2).alloc (Nat.le_refl _) (.cells #[.bool false, .bool false, .bool false, .bool false, .bool false, .bool false] 109)
    have T := Lib.hid (show TkO w B b w.heap.size w1.heap.size w2.heap.size ⟨false, false, false, false, false, false⟩ { Opp.zero with k := kk } none 0 s1 (w2.alloc (.cells #[.bool false, .bool false, .bool false, .bool false, .bool false, .bool false] 109)) from
      { hR := Nat.le_refl _, hV := hlt1, hP := hlt2, hb := hblt, res := (HR1.out.kept hb2).kept hb3, op := hv2.kept hb3, pr := PrAt.new w2 ⟨false, false, false, false, false, false⟩ 109, rd := (HD1.out.kept hb2).kept hb3, only := (HO1.out.trans (Only.of_below hb2)).trans (Only.of_below hb3), own := OwnP.nil _ _ })
    clear HR1 HV1 HD1 HO1 hb2 hb3 hv2
    obtain ⟨p0, p1, p2, p3, p4, p5⟩ := T.out.pr.cells
    dsimp only at p0 p1 p2 p3 p4 p5
    have hop := T.out.op
    go_wp2_with (refine wpList_load_op otP rfl _ rfl _ rfl _ _ _ (by assumption) ?_)
    refine (oright_any _ _ _ _ HSZ.out T.out.pa).mono ?_
    rw [HRG.out]
    rintro e wa ⟨rfl, hba⟩
    replace T := Lib.hid (T.out.kept hba)
    clear hba p0 p1 p2 p3 p4 p5 hop
    go_wp2_with fail
    refine (fails_any B b s1 _ T.out.rd).mono ?_
    rintro e wb ⟨rfl, hr, ho⟩
    replace T := Lib.hid (T.out.read hr ho)
    clear hr ho
    have hne := failS_ne s1
    generalize failS 21 s1 = sf at *
    have te : ((sf.2 : Int) != 0) = true := by rw [bne_iff_ne]; omega
    go_wp2_with fail
    refine (errs_any B b sf _ T.out.rd).mono ?_
    rintro e wc ⟨rfl, rfl⟩
    obtain ⟨TT, hTT⟩ := T.out.res
    go_wp2_with (first | (refine wpList_load_op otP rfl _ rfl _ rfl _ _ _ (by assumption) ?_) | (refine wpList_store_op otP rfl _ _ rfl _ rfl TT _ hTT rfl Opp.zero none 0 rfl ?_; intro wz hvz hko _ hbn))
    refine bodyPost_ret (results_op otP _ rfl hvz rfl) rfl ?_
    rw [HV.out]
    exact ⟨none, 0, rfl, Pa.none _ _ rfl, T.out.done hbn, T.out.doneO hbn, fun a h => by cases h⟩
  | true =>
    have HRG := Lib.hid hrg
    by_cases hez : s1.2 = 0
    · have HV := Lib.hid (HE.out.trans (endO_ok hrg hez))
      have te : ((s1.2 : Int) != 0) = false := by rw [hez]; rfl
      clear hrg
      go_enter Tryz.func50, Tryz.ntmps50
      go_wp2_with fail
      refine HN.out.mono ?_
      rintro e w1 ⟨rfl, hr1, ho1⟩
      have hr := HR0.out.only ho1 (by omega)
      have hlt1 := hr.lt
      have hb1 := (Below.refl w1.heap.size w1).alloc (Nat.le_refl _) (.cells #[.int .i64 ((kk : Nat) : Int), .int .i64 0, .int .i64 0, .int .i64 0, .int .i64 0, .string ⟨#[]⟩, .slice none 0 0, .int .i64 0, .int .i64 0, .int .i64 0, .string ⟨#[]⟩, .bool false] 53)
      have HR1 := Lib.hid (hr.kept hb1)
      have HV1 := Lib.hid (show OpAt (w1.alloc (.cells #[.int .i64 ((kk : Nat) : Int), .int .i64 0, .int .i64 0, .int .i64 0, .int .i64 0, .string ⟨#[]⟩, .slice none 0 0, .int .i64 0, .int .i64 0, .int .i64 0, .string ⟨#[]⟩, .bool false] 53)) w1.heap.size { Opp.zero with k := kk } none 0 from OpAt.new w1 { Opp.zero with k := kk } none 0 53)
      have HD1 := Lib.hid (hr1.kept hb1)
      have HO1 := Lib.hid ((HO0.out.trans ho1).trans (Only.of_below (b := b) hb1))
      clear hr hr1 ho1 hb1
      go_wp2_with fail
      refine (HNA.out _).mono ?_
      rintro e w2 ⟨rfl, hb2⟩
      have hv2 := HV1.out.kept hb2
      have hlt2 := hv2.lt
      have hb3 := (Below.refl w2.heap.size w2).alloc (Nat.le_refl _) (.cells #[.bool false, .bool false, .bool false, .bool false, .bool false, .bool false] 109)
      have T := Lib.hid (show TkO w B b w.heap.size w1.heap.size w2.heap.size ⟨false, false, false, false, false, false⟩ { Opp.zero with k := kk } none 0 s1 (w2.alloc (.cells #[.bool false, .bool false, .bool false, .bool false, .bool false, .bool false] 109)) from
        { hR := Nat.le_refl _, hV := hlt1, hP := hlt2, hb := hblt, res := (HR1.out.kept hb2).kept hb3, op := hv2.kept hb3, pr := PrAt.new w2 ⟨false, false, false, false, false, false⟩ 109, rd := (HD1.out.kept hb2).kept hb3, only := (HO1.out.trans (Only.of_below hb2)).trans (Only.of_below hb3), own := OwnP.nil _ _ })
      clear HR1 HV1 HD1 HO1 hb2 hb3 hv2
      obtain ⟨p0, p1, p2, p3, p4, p5⟩ := T.out.pr.cells
      dsimp only at p0 p1 p2 p3 p4 p5
      have hop := T.out.op
      go_wp2_with (refine wpList_load_op otP rfl _ rfl _ rfl _ _ _ (by assumption) ?_)
      refine (oright_any _ _ _ _ HSZ.out T.out.pa).mono ?_
      rw [HRG.out]
      rintro e wa ⟨rfl, hba⟩
      replace T := Lib.hid (T.out.kept hba)
      clear hba p0 p1 p2 p3 p4 p5 hop
      go_wp2_with fail
      refine (errs_any B b s1 _ T.out.rd).mono ?_
      rintro e wc ⟨rfl, rfl⟩
      have hop := T.out.op
      obtain ⟨TT, hTT⟩ := T.out.res
      go_wp2_with (first | (refine wpList_load_op otP rfl _ rfl _ rfl _ _ _ (by assumption) ?_) | (refine wpList_store_op otP rfl _ _ rfl _ rfl TT _ hTT rfl _ _ _ rfl ?_; intro wz hvz hko _ hbn))
      refine bodyPost_ret (results_op otP _ rfl hvz rfl) rfl ?_
      rw [HV.out]
      exact ⟨_, _, rfl, T.out.donePa hko, T.out.done hbn, T.out.doneO hbn, T.out.doneN⟩
    · have HV := Lib.hid (HE.out.trans (endO_err hrg hez))
      have te : ((s1.2 : Int) != 0) = true := by rw [bne_iff_ne]; omega
      clear hrg
      go_enter Tryz.func50, Tryz.ntmps50
      go_wp2_with fail
      refine HN.out.mono ?_
      rintro e w1 ⟨rfl, hr1, ho1⟩
      have hr := HR0.out.only ho1 (by omega)
      have hlt1 := hr.lt
      have hb1 := (Below.refl w1.heap.size w1).alloc (Nat.le_refl _) (.cells #[.int .i64 ((kk : Nat) : Int), .int .i64 0, .int .i64 0, .int .i64 0, .int .i64 0, .string ⟨#[]⟩, .slice none 0 0, .int .i64 0, .int .i64 0, .int .i64 0, .string ⟨#[]⟩, .bool false] 53)
      have HR1 := Lib.hid (hr.kept hb1)
      have HV1 := Lib.hid (show OpAt (w1.alloc (.cells #[.int .i64 ((kk : Nat) : Int), .int .i64 0, .int .i64 0, .int .i64 0, .int .i64 0, .string ⟨#[]⟩, .slice none 0 0, .int .i64 0, .int .i64 0, .int .i64 0, .string ⟨#[]⟩, .bool false] 53)) w1.heap.size { Opp.zero with k := kk } none 0 from OpAt.new w1 { Opp.zero with k := kk } none 0 53)
      have HD1 := Lib.hid (hr1.kept hb1)
      have HO1 := Lib.hid ((HO0.out.trans ho1).trans (Only.of_below (b := b) hb1))
      clear hr hr1 ho1 hb1
      go_wp2_with fail
      refine (HNA.out _).mono ?_
      rintro e w2 ⟨rfl, hb2⟩
      have hv2 := HV1.out.kept hb2
      have hlt2 := hv2.lt
      have hb3 := (Below.refl w2.heap.size w2).alloc (Nat.le_refl _) (.cells #[.bool false, .bool false, .bool false, .bool false, .bool false, .bool false] 109)
      have T := Lib.hid (show TkO w B b w.heap.size w1.heap.size w2.heap.size ⟨false, false, false, false, false, false⟩ { Opp.zero with k := kk } none 0 s1 (w2.alloc (.cells #[.bool false, .bool false, .bool false, .bool false, .bool false, .bool false] 109)) from
        { hR := Nat.le_refl _, hV := hlt1, hP := hlt2, hb := hblt, res := (HR1.out.kept hb2).kept hb3, op := hv2.kept hb3, pr := PrAt.new w2 ⟨false, false, false, false, false, false⟩ 109, rd := (HD1.out.kept hb2).kept hb3, only := (HO1.out.trans (Only.of_below hb2)).trans (Only.of_below hb3), own := OwnP.nil _ _ })
      clear HR1 HV1 HD1 HO1 hb2 hb3 hv2
      obtain ⟨p0, p1, p2, p3, p4, p5⟩ := T.out.pr.cells
      dsimp only at p0 p1 p2 p3 p4 p5
      have hop := T.out.op
      go_wp2_with (refine wpList_load_op otP rfl _ rfl _ rfl _ _ _ (by assumption) ?_)
      refine (oright_any _ _ _ _ HSZ.out T.out.pa).mono ?_
      rw [HRG.out]
      rintro e wa ⟨rfl, hba⟩
      replace T := Lib.hid (T.out.kept hba)
      clear hba p0 p1 p2 p3 p4 p5 hop
      go_wp2_with fail
      refine (errs_any B b s1 _ T.out.rd).mono ?_
      rintro e wc ⟨rfl, rfl⟩
      obtain ⟨TT, hTT⟩ := T.out.res
      go_wp2_with (first | (refine wpList_load_op otP rfl _ rfl _ rfl _ _ _ (by assumption) ?_) | (refine wpList_store_op otP rfl _ _ rfl _ rfl TT _ hTT rfl Opp.zero none 0 rfl ?_; intro wz hvz hko _ hbn))
      refine bodyPost_ret (results_op otP _ rfl hvz rfl) rfl ?_
      rw [HV.out]
      exact ⟨none, 0, rfl, Pa.none _ _ rfl, T.out.done hbn, T.out.doneO hbn, fun a h => by cases h⟩

/-- TAKE, of any bytes -/
theorem otakeL_any (B b : Nat) (s : RS) (w : World) (h : RdS w B b s) (hL : Lim s) : Calls Tryz.prog 50 #[.pointer (some ⟨b, 0, none⟩)] w (TookO w B b (takeO s)) := by
  by_cases h1 : (numS s).1 = 1
  · exact take1_any B b s w h hL h1
  by_cases h2 : (numS s).1 = 2
  · exact take2_any B b s w h hL h2
  by_cases h3 : (numS s).1 = 3
  · exact take3_any B b s w h hL h3
  by_cases h4 : (numS s).1 = 4
  · exact take4_any B b s w h hL h4
  by_cases h5 : (numS s).1 = 5
  · exact take5_any B b s w h hL h5
  by_cases h6 : (numS s).1 = 6
  · exact take6_any B b s w h hL h6
  exact takeN_any B b s w h hL _ rfl h1 h2 h3 h4 h5 h6
end Go.Proofs.YthpdphlkmleldaaGreat
