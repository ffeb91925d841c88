/-
  THE DOCUMENT's TAKE and UNFRAME of batches.
  No conditions but sizes.
  THE DOCUMENT's UNFRAME of batches: the program's answer.
  No conditions but sizes.
-/
import Derived.Test.YthpdphlkmleldaaGreatRoTake
import Derived.Test.YthpdphlkmleldaaGreatGN
import Derived.Test.YthpdphlkmleldaaGreatR8Right
import Derived.Test.YthpdphlkmleldaaGreatGI
import Derived.Test.YthpdphlkmleldaaGreatRefUnframe
namespace Go.Proofs.YthpdphlkmleldaaGreat
open Go.RowKit

/-- a slice of one op of the document's -/
theorem wpList_build_rop {w : World} {ops : Array Oper} {rest : List Oper} {o : Oper} {a : Act} {Q : Exit → Act → World → Prop} (hgd : o.guard = none) (x : Operand) (ho : o.op = .buildSlice 22 1 #[(0, x)]) (y : Opp) (q : Option Addr) (c : Nat) (hx : a.eval x = .agg (opA y q c))
    (h : wpList Tryz.prog ops Q rest (a.put o.dst (.slice (some ⟨w.heap.size, 0, none⟩) 1 1)) (w.alloc (.cells (opA y q c) 52))) : wpList Tryz.prog ops Q (o :: rest) a w := by
  refine wpList_plain hgd fun K hK => ?_
  unfold Oper.wp execOp
  simp only [ho, Sem.run_bind, Sem.run_pure, Result.andThen_ok, List.map_toArray, List.map_cons, List.map_nil, hx, run_build_rop]
  exact hK _ _ h

/-- what Take carries, ahead of its ops -/
structure RpT (w0 : World) (B b R0 R1 : Nat) (A : Array Value) (s : RS) (w : World) : Prop where
  hR0 : w0.heap.size ≤ R0
  hR1 : R0 < R1
  hb : b < w0.heap.size
  res : AgAt w R0 (btA Bat.zero none 0)
  at_ : AgAt w R1 A
  rd : RrS w B b s
  only : Only b w0 w
theorem RpT.read {w0 w w' : World} {B b R0 R1 : Nat} {A : Array Value} {s s' : RS} (h : RpT w0 B b R0 R1 A s w) (hr : RrS w' B b s') (ho : Only b w w') : RpT w0 B b R0 R1 A s' w' := by
  have h1 := h.hR0; have h2 := h.hR1; have h3 := h.hb
  exact { h with res := h.res.only ho (by omega), at_ := h.at_.only ho (by omega), rd := hr, only := h.only.trans ho }
theorem RpT.put {w0 w : World} {B b R0 R1 : Nat} {A : Array Value} {s : RS} (h : RpT w0 B b R0 R1 A s w) (i : Nat) (v : Value) : RpT w0 B b R0 R1 (A.setIfInBounds i v) s (w.setCell ⟨R1, i, none⟩ v) := by
  have h1 := h.hR0; have h2 := h.hR1; have h3 := h.hb
  have hb : Below R1 w (w.setCell ⟨R1, i, none⟩ v) := (Below.refl _ _).setCell (by simp) _
  exact { h with res := h.res.below hb h2, at_ := h.at_.put i v, rd := h.rd.under hb (by omega), only := h.only.then_new (hb.mono (by have := h.only.size; have := h.at_.lt; omega) |>.mono (Nat.le_refl _)) }
/-- what Take carries: the result's block R0, the batch's R1; the reader -/
structure RkB (w0 : World) (B b R0 R1 : Nat) (x : Bat) (l : List En) (p : Option Addr) (c : Nat) (s : RS) (w : World) : Prop where
  hR0 : w0.heap.size ≤ R0
  hR1 : R0 < R1
  hb : b < w0.heap.size
  res : AgAt w R0 (btA Bat.zero none 0)
  row : GrowR R1 x l p c w
  rd : RrS w B b s
  only : Only b w0 w
theorem RkB.kept {w0 w w' : World} {B b R0 R1 : Nat} {x : Bat} {l : List En} {p : Option Addr} {c : Nat} {s : RS} (h : RkB w0 B b R0 R1 x l p c s w) (hb : Below w.heap.size w w') : RkB w0 B b R0 R1 x l p c s w' :=
  { h with res := h.res.kept hb, row := h.row.kept hb, rd := h.rd.kept hb, only := h.only.trans (Only.of_below hb) }
theorem RkB.read {w0 w w' : World} {B b R0 R1 : Nat} {x : Bat} {l : List En} {p : Option Addr} {c : Nat} {s s' : RS} (h : RkB w0 B b R0 R1 x l p c s w) (hr : RrS w' B b s') (ho : Only b w w') : RkB w0 B b R0 R1 x l p c s' w' := by
  have h1 := h.hR0; have h2 := h.hR1; have h3 := h.hb
  exact { h with res := h.res.only ho (by omega), row := h.row.only ho (by omega), rd := hr, only := h.only.trans ho }
theorem RkB.put {w0 w w' : World} {B b R0 R1 : Nat} {x y : Bat} {l l' : List En} {p p' : Option Addr} {c c' : Nat} {s : RS} (h : RkB w0 B b R0 R1 x l p c s w) (hg : GrowR R1 y l' p' c' w') (hb : Below R1 w w') : RkB w0 B b R0 R1 y l' p' c' s w' := by
  have h1 := h.hR0; have h2 := h.hR1; have h3 := h.hb
  have hs := h.only.size
  have hl := AgAt.lt h.res
  exact { h with res := h.res.below hb (by omega), row := hg, rd := h.rd.under hb (by omega), only := h.only.then_new (hb.mono (by omega)) }
/-- what Take leaves -/
def TookRt (w : World) (B b : Nat) (r : Bat × RS) (e : Ending) (w' : World) : Prop :=
  ∃ p c, e = .returned (.agg (btA r.1 p c)) ∧ BopsN w.heap.size w' r.1 p c ∧ RrS w' B b r.2 ∧ Only b w w'
theorem endB_err2 {q : Bat × RS} (h : q.2.2 ≠ 0) : endB q = (Bat.zero, q.2) := by unfold endB; rw [if_pos h]
theorem opsR_bad {n : Nat} {s : RS} {a : List Opp} (h : (takeRo s).2.2 ≠ 0) : opsR (n + 1) s a = ([], (takeRo s).2) := by rw [opsR, if_pos h]
theorem opsR_ok {n : Nat} {s : RS} {a : List Opp} (h : (takeRo s).2.2 = 0) : opsR (n + 1) s a = opsR n (takeRo s).2 (a ++ [(takeRo s).1]) := by rw [opsR, if_neg (by simp [h])]
theorem takeRo_right {s : RS} (h : (takeRo s).2.2 = 0) : rightO (takeRo s).1 = true := by
  unfold takeRo at h ⊢
  split
  · next h1 => rw [if_pos h1] at h; exact absurd h (failS_ne _)
  · next h1 =>
    rw [if_neg h1] at h
    obtain ⟨h2, h3⟩ := endR_zero.1 h
    rw [endR_ok h2 h3]; exact h2

set_option maxRecDepth 100000 in
set_option maxHeartbeats 8000000 in
theorem r8take_any (B b : Nat) (s : RS) (w : World) (h : RrS w B b s) : Calls Tryz.prog 30 #[.pointer (some ⟨b, 0, none⟩)] w (TookRt w B b (takeRt s)) := by
  obtain ⟨i0, hi, hz0, hz1, hz2⟩ := info_parts oinfo_rop
  have HT0 := Lib.hid (show takeRt s = endB (⟨(uptoS 15 s).1, (uptoS 512 (uptoS 15 s).2).1, (numS (uptoS 512 (uptoS 15 s).2).2).1, (opsR (uptoS 64 (numS (uptoS 512 (uptoS 15 s).2).2).2).1 (uptoS 64 (numS (uptoS 512 (uptoS 15 s).2).2).2).2 []).1⟩, (opsR (uptoS 64 (numS (uptoS 512 (uptoS 15 s).2).2).2).1 (uptoS 64 (numS (uptoS 512 (uptoS 15 s).2).2).2).2 []).2) from rfl)
  have HU1 := Lib.hid (fun W (hr : RrS W B b s) => ruptos_any B b 15 s W hr)
  generalize uptoS 15 s = u1 at *
  obtain ⟨n1, s1⟩ := u1
  dsimp only at *
  have HU2 := Lib.hid (fun W (hr : RrS W B b s1) => ruptos_any B b 512 s1 W hr)
  generalize uptoS 512 s1 = u2 at *
  obtain ⟨n2, s2⟩ := u2
  dsimp only at *
  have HU3 := Lib.hid (fun W (hr : RrS W B b s2) => rnums_any B b s2 W hr)
  generalize numS s2 = u3 at *
  obtain ⟨n3, s3⟩ := u3
  dsimp only at *
  have n64 : (uptoS 64 s3).1 ≤ 64 := uptoS_le 64 s3
  have HU4 := Lib.hid (fun W (hr : RrS W B b s3) => ruptos_any B b 64 s3 W hr)
  generalize uptoS 64 s3 = u4 at *
  obtain ⟨n, s4⟩ := u4
  dsimp only at *
  have hlt := h.lt
  have hb0 := (Below.refl w.heap.size w).alloc (Nat.le_refl _) (.cells #[.int .i64 0, .int .i64 0, .int .i64 0, .slice none 0 0] 24)
  have HRES := Lib.hid (show AgAt (w.alloc (.cells #[.int .i64 0, .int .i64 0, .int .i64 0, .slice none 0 0] 24)) w.heap.size (btA Bat.zero none 0) from AgAt.new w (btA Bat.zero none 0) 24)
  have HR0 := Lib.hid (h.kept hb0)
  have HO0 := Lib.hid (Only.of_below (b := b) hb0)
  clear h hb0
  go_enter Tryz.func30, Tryz.ntmps30
  go_wp2_with fail
  refine (HU1.out _ HR0.out).mono ?_
  rintro e wa ⟨rfl, hra, hoa⟩
  have hra0 := HRES.out.only hoa (by omega)
  have hba := (Below.refl wa.heap.size wa).alloc (Nat.le_refl _) (.cells #[.int .i64 (n1 : Int), .int .i64 0, .int .i64 0, .slice none 0 0] 24)
  have P := Lib.hid (show RpT w B b w.heap.size wa.heap.size #[.int .i64 (n1 : Int), .int .i64 0, .int .i64 0, .slice none 0 0] s1 (wa.alloc (.cells #[.int .i64 (n1 : Int), .int .i64 0, .int .i64 0, .slice none 0 0] 24)) from
    ⟨Nat.le_refl _, hra0.lt, hlt, hra0.kept hba, AgAt.new wa _ _, hra.kept hba, (HO0.out.trans hoa).trans (Only.of_below hba)⟩)
  clear hra hoa hra0 hba HRES HR0 HO0 HU1
  go_wp2_with fail
  refine (HU2.out _ P.out.rd).mono ?_
  rintro e wb ⟨rfl, hrb, hob⟩
  replace P := Lib.hid (P.out.read hrb hob)
  clear hrb hob HU2
  have y1 : wb.cell? ⟨wa.heap.size, 1, none⟩ = some (.int .i64 0) := by rw [AgAt.cell P.out.at_ 1]; rfl
  have f1 := AgAt.free P.out.at_ 1
  replace P := Lib.hid (P.out.put 1 (.int .i64 (n2 : Int)))
  go_wp2_with fail
  clear y1 f1
  generalize wb.setCell ⟨wa.heap.size, 1, none⟩ (.int .i64 (n2 : Int)) = wb2 at *
  refine (HU3.out _ P.out.rd).mono ?_
  rintro e wc ⟨rfl, hrc, hoc⟩
  replace P := Lib.hid (P.out.read hrc hoc)
  clear hrc hoc HU3
  have y2 : wc.cell? ⟨wa.heap.size, 2, none⟩ = some (.int .i64 0) := by rw [AgAt.cell P.out.at_ 2]; rfl
  have f2 := AgAt.free P.out.at_ 2
  replace P := Lib.hid (P.out.put 2 (.int .i64 (n3 : Int)))
  go_wp2_with fail
  clear y2 f2
  generalize wc.setCell ⟨wa.heap.size, 2, none⟩ (.int .i64 (n3 : Int)) = wc2 at *
  refine (HU4.out _ P.out.rd).mono ?_
  rintro e wd ⟨rfl, hrd, hod⟩
  replace P := Lib.hid (P.out.read hrd hod)
  clear hrd hod HU4
  have T := Lib.hid (show RkB w B b w.heap.size wa.heap.size ⟨n1, n2, n3, []⟩ [] none 0 s4 wd from ⟨P.out.hR0, P.out.hR1, P.out.hb, P.out.res, GrowR.start P.out.at_, P.out.rd, P.out.only⟩)
  clear P
  go_wp2
  go_loopw [5] (fun i wr => ∃ (k : Nat) (acc : List Opp) (l : List En) (t : RS) (p : Option Addr) (c : Nat), k ≤ n ∧ i = .int .i64 (k : Int) ∧ RkB w B b w.heap.size wa.heap.size ⟨n1, n2, n3, acc⟩ l p c t wr ∧ opsR n s4 [] = opsR (n - k) t acc ∧ acc.length = k ∧ (∀ y, y ∈ acc → rightO y = true)) (fun i _ => n - (intOf i).toNat)
  case atStart => exact ⟨0, [], [], s4, none, 0, Nat.zero_le _, rfl, T.out, rfl, rfl, fun _ h => (by cases h)⟩
  case round =>
    clear T
    obtain ⟨k, acc, l, t, p, c, hk, rfl, ht, hq, hal, har⟩ := hrel
    have T := Lib.hid ht
    have HQ := Lib.hid hq
    have HAL := Lib.hid hal
    have HAR := Lib.hid har
    clear ht hq hal har
    by_cases hlt2 : k < n
    · have d0 : decide ((k : Int) < (n : Int)) = true := decide_eq_true (by omega)
      have HT := Lib.hid (fun W hr => rtake_any B b t W hr)
      have HTO := Lib.hid (fun h => takeRo_right (s := t) h)
      have HBAD := Lib.hid (fun (h : (takeRo t).2.2 ≠ 0) => HQ.out.trans ((congrArg (fun m => opsR m t acc) (show n - k = (n - (k + 1)) + 1 by omega)).trans (opsR_bad h)))
      have HOK := Lib.hid (fun (h : (takeRo t).2.2 = 0) => HQ.out.trans ((congrArg (fun m => opsR m t acc) (show n - k = (n - (k + 1)) + 1 by omega)).trans (opsR_ok h)))
      clear HQ
      generalize takeRo t = q at *
      obtain ⟨y, t2⟩ := q
      dsimp only at *
      go_wp2_with fail
      refine (HT.out _ T.out.rd).mono ?_
      rintro e w2 ⟨q2, c2, rfl, hp2, hr2, ho2, hn2⟩
      have HN2 := Lib.hid (show Far wa.heap.size (Value.slice p acc.length c) y q2 from fun _ a ha => by
        have h1 := hn2 a ha
        have h2 := AgAt.lt T.out.row.at_
        refine ⟨by omega, fun hh => ?_⟩
        have := (World.ownsRow.lt T.out.row.own a.block hh).2
        omega)
      replace T := Lib.hid (T.out.read hr2 ho2)
      have HP2 := Lib.hid hp2
      clear hr2 ho2 hn2 hp2
      by_cases he : t2.2 = 0
      · have HF := Lib.hid (HOK.out he)
        have HAR2 := Lib.hid (show ∀ z, z ∈ acc ++ [y] → rightO z = true from fun z hz => (List.mem_append.1 hz).elim (fun h => HAR.out z h) (fun h => by rw [List.mem_singleton.1 h]; exact HTO.out he))
        have te : ((t2.2 : Int) != 0) = false := by rw [he]; rfl
        clear HBAD HOK
        go_wp2_with (first | (refine wpList_store_newop' otR rfl _ _ rfl rfl _ rfl _ _ _ rfl ?_; intro w3 hv3 hb3; have he3 := (T.out.kept hb3).rd.err; have hrow3 := (BtAt.cells (T.out.kept hb3).row.at_).2.2.2; dsimp only at hrow3) | (refine wpList_load_op otR rfl _ rfl _ rfl _ _ _ (by assumption) ?_) | (refine wpList_build_rop rfl _ rfl y q2 c2 rfl ?_; have hb4 := (Below.refl w3.heap.size w3).alloc (Nat.le_refl _) (.cells (opA y q2 c2) 52); have T4 := Lib.hid ((T.out.kept hb3).kept hb4); have HP4 := Lib.hid ((HP2.out.kept hb3).kept hb4); have HRW := Lib.hid (rd_op_one w3 y q2 c2 52)) | (at_builtin; refine wpList_append_kL rfl _ _ 22 rfl (wa.heap.size + 1) 52 i0 _ 12 128 Tryz.underlying22 hi hz0 hz1 (by decide) hz2 (by decide) rfl _ acc.length (enCells l) rfl T4.out.row.own _ 1 1 (opL y q2 c2) rfl rfl HRW.out (fun h => by cases h) (opL_one y q2 c2) ?c0 ?c1 ?c2 ?_))
        case c0 => have := HAL.out; omega
        case c1 => have := HAL.out; omega
        case c2 => have := AgAt.lt T4.out.row.at_; omega
        intro p5 c5 w5 ho5 hg5 hw5
        have HG := Lib.hid (T4.out.row.grown HP4.out HN2.out ho5 hg5 (fun g hg => (hw5 g hg).imp id (fun h => by simpa using h)))
        have y3 := (BtAt.cells HG.out.2.2).2.2.2
        have yf := AgAt.free HG.out.2.2 3
        dsimp only at y3
        have T5 := Lib.hid (T4.out.put HG.out.1 HG.out.2.1)
        clear T T4 HP4 HP2 HRW HG ho5 hg5 hw5 hv3 hb3 hb4 he3 hrow3
        go_wp2
        go_roundw
        case rel => exact ⟨k + 1, acc ++ [y], _, t2, _, _, by omega, by go_num, T5.out, HF.out, by rw [List.length_append, HAL.out]; rfl, HAR2.out⟩
        case measure => simp [intOf]; omega
      · have HF := Lib.hid (HBAD.out he)
        have te : ((t2.2 : Int) != 0) = true := by rw [bne_iff_ne]; omega
        rw [HF.out] at HT0
        have HE := Lib.hid (HT0.out.trans (endB_err2 (q := (⟨n1, n2, n3, []⟩, t2)) he))
        clear HBAD HOK
        go_wp2_with (first | (refine wpList_store_newop' otR rfl _ _ rfl rfl _ rfl _ _ _ rfl ?_; intro w3 hv3 hb3; have he3 := (T.out.kept hb3).rd.err) | (refine wpList_store_ag btR rfl _ _ rfl _ rfl _ (T.out.kept hb3).res (A := btA Bat.zero none 0) rfl rfl rfl (btA_one _ _ _) ?_; intro wy hvy hko hsz hbn))
        refine bodyPost_ret (results_ag btR _ rfl rfl hvy rfl) rfl ?_
        rw [HE.out]
        have T3 := T.out.kept hb3
        have h3 := T3.hb
        have hbl := hbn _ _ (Below.refl w.heap.size w3) (Nat.le_refl _)
        exact ⟨none, 0, rfl, BopsN.zero _ _, T3.rd.under hbl h3, T3.only.then_new hbl⟩
    · obtain rfl : k = n := by omega
      have d0 : decide ((k : Int) < (k : Int)) = false := decide_eq_false (by omega)
      have HF := Lib.hid (HQ.out.trans (show opsR (k - k) t acc = (acc, t) by rw [Nat.sub_self]; rfl))
      rw [HF.out] at HT0
      dsimp only at HT0
      have he0 := T.out.rd.err
      by_cases he : t.2 = 0
      · have te : ((t.2 : Int) != 0) = false := by rw [he]; rfl
        have te0 : ((t.2 : Int) == 0) = true := by rw [he]; rfl
        have HSZ := Lib.hid (show Szs acc from ⟨fun y hy => right_szB (HAR.out y hy), by have := HAL.out; omega⟩)
        have HRI := Lib.hid (fun W hb => r8right_any ⟨n1, n2, n3, acc⟩ p c W HSZ.out hb)
        have hx := T.out.row.at_
        cases hr : rightT ⟨n1, n2, n3, acc⟩ with
        | true =>
          have HE := Lib.hid (HT0.out.trans (endB_ok (q := (⟨n1, n2, n3, acc⟩, t)) he hr))
          rw [hr] at HRI
          clear hr
          go_wp2_with (refine wpList_load_ag btR (by kernel_rfl) _ rfl _ rfl (A := btA _ p c) rfl (by assumption) ?_)
          refine (HRI.out _ T.out.row.bops).mono ?_
          rintro e wz ⟨rfl, hbz⟩
          replace T := Lib.hid (T.out.kept hbz)
          clear hbz hx he0
          have hx := T.out.row.at_
          have he0 := T.out.rd.err
          go_wp2_with (first | (refine wpList_load_ag btR (by kernel_rfl) _ rfl _ rfl (A := btA _ p c) rfl (by assumption) ?_) | (refine wpList_store_ag btR rfl _ _ rfl _ rfl _ T.out.res rfl rfl rfl (btA_one _ _ _) ?_; intro wy hvy hko hsz hbn))
          refine bodyPost_ret (results_ag btR _ rfl rfl hvy rfl) rfl ?_
          rw [HE.out]
          have h1 := T.out.hR0
          have h2 := T.out.hR1
          have h3 := T.out.hb
          have hbl := hbn _ _ (Below.refl w.heap.size wz) (Nat.le_refl _)
          refine ⟨p, c, rfl, ?_, T.out.rd.under hbl h3, T.out.only.then_new hbl⟩
          exact (T.out.row.only (only_of hko hsz hbn) h2).bopsN (by omega)
        | false =>
          have HE := Lib.hid (HT0.out.trans (endB_no (q := (⟨n1, n2, n3, acc⟩, t)) he hr))
          rw [hr] at HRI
          clear hr
          go_wp2_with (refine wpList_load_ag btR (by kernel_rfl) _ rfl _ rfl (A := btA _ p c) rfl (by assumption) ?_)
          refine (HRI.out _ T.out.row.bops).mono ?_
          rintro e wz ⟨rfl, hbz⟩
          replace T := Lib.hid (T.out.kept hbz)
          clear hbz hx he0
          go_wp2_with fail
          refine (rfails_any B b t _ T.out.rd).mono ?_
          rintro e wx ⟨rfl, hrx, hox⟩
          replace T := Lib.hid (T.out.read hrx hox)
          clear hrx hox
          have hne := failS_ne t
          generalize failS 21 t = sf at *
          have te2 : ((sf.2 : Int) != 0) = true := by rw [bne_iff_ne]; omega
          have he0 := T.out.rd.err
          go_wp2_with (refine wpList_store_ag btR rfl _ _ rfl _ rfl _ T.out.res (A := btA Bat.zero none 0) rfl rfl rfl (btA_one _ _ _) ?_; intro wy hvy hko hsz hbn)
          refine bodyPost_ret (results_ag btR _ rfl rfl hvy rfl) rfl ?_
          rw [HE.out]
          have h3 := T.out.hb
          have hbl := hbn _ _ (Below.refl w.heap.size wx) (Nat.le_refl _)
          exact ⟨none, 0, rfl, BopsN.zero _ _, T.out.rd.under hbl h3, T.out.only.then_new hbl⟩
      · have te : ((t.2 : Int) != 0) = true := by rw [bne_iff_ne]; omega
        have te0 : ((t.2 : Int) == 0) = false := by rw [beq_eq_false_iff_ne]; omega
        have HE := Lib.hid (HT0.out.trans (endB_err2 (q := (⟨n1, n2, n3, acc⟩, t)) he))
        go_wp2_with (refine wpList_store_ag btR rfl _ _ rfl _ rfl _ T.out.res (A := btA Bat.zero none 0) rfl rfl rfl (btA_one _ _ _) ?_; intro wy hvy hko hsz hbn)
        refine bodyPost_ret (results_ag btR _ rfl rfl hvy rfl) rfl ?_
        rw [HE.out]
        have h3 := T.out.hb
        have hbl := hbn _ _ (Below.refl w.heap.size wr) (Nat.le_refl _)
        exact ⟨none, 0, rfl, BopsN.zero _ _, T.out.rd.under hbl h3, T.out.only.then_new hbl⟩
end Go.Proofs.YthpdphlkmleldaaGreat

namespace Go.Proofs.YthpdphlkmleldaaGreat
open Go.RowKit

/-- what Unframe answers -/
def UnfRt (w : World) (r : Bat × Nat × Nat) (e : Ending) (w' : World) : Prop :=
  ∃ p c, e = .returned (.tuple #[.agg (btA r.1 p c), .int .i64 (r.2.1 : Int), .int .i64 (r.2.2 : Int)]) ∧ Bops w' r.1 p c ∧ Below w.heap.size w w'

set_option maxRecDepth 100000 in
set_option maxHeartbeats 4000000 in
theorem r8unframe_any (p : Option Addr) (n c : Nat) (l : List UInt8) (w : World) (hn : l.length = n) (h : Bs w p l) (hl : l.length ≤ 4611686018427387904) (hc : l.length ≤ c) :
    Calls Tryz.prog 10 #[.slice p n c] w (UnfRt w (unframeT l)) := by
  have hb0 := (Below.refl w.heap.size w).alloc (Nat.le_refl _) (.cells #[.int .i64 0, .int .i64 0, .int .i64 0, .slice none 0 0] 24)
  have HRES := Lib.hid (show AgAt (w.alloc (.cells #[.int .i64 0, .int .i64 0, .int .i64 0, .slice none 0 0] 24)) w.heap.size (btA Bat.zero none 0) from AgAt.new w (btA Bat.zero none 0) 24)
  have HB := Lib.hid hb0
  have HU := Lib.hid (refUnframe_any p n c l _ hn (h.kept hb0) (by omega) hc)
  have HER := Lib.hid (fun hh => unframeT_err (l := l) hh)
  have HRT := Lib.hid (fun hh => unframeRt l hh)
  have ul := unfR_small l
  clear h hb0
  generalize unfR l = u at *
  obtain ⟨c1, sz, er⟩ := u
  dsimp only at *
  go_enter Tryz.func10, Tryz.ntmps10
  go_wp2_with fail
  refine HU.out.mono ?_
  rintro e w1 ⟨v1, rfl, hown, hb1⟩
  dsimp only at hown
  obtain ⟨p1, k1, rfl, hbs, -, -, hpn, -⟩ := hown.bs
  have HRE := Lib.hid (HRES.out.kept hb1)
  have HB1 := Lib.hid (HB.out.trans (hb1.mono HB.out.size))
  have HBS := Lib.hid hbs
  clear hown hbs hb1 HRES HU
  by_cases he : er = 0
  · subst he
    have HRT2 := Lib.hid (HRT.out rfl)
    go_wp2_with fail
    refine (refOpen_any p1 k1 c1 _ HBS.out (by omega) hpn).mono ?_
    rintro e w2 ⟨b, rfl, hr, hb2⟩
    have HR := Lib.hid (show RrS w2 _ b (c1, 0) from hr)
    have hbw : w1.heap.size ≤ b := hr.1
    have HRE2 := Lib.hid (HRE.out.kept hb2)
    have HB2 := Lib.hid (HB1.out.trans (hb2.mono HB1.out.size))
    have hrb := HRE.out.lt
    clear hr hb2
    have HOK := Lib.hid (fun hh => takeRt_ok (s := (c1, 0)) hh)
    go_wp2_with fail
    refine (r8take_any _ b (c1, 0) _ HR.out).mono ?_
    generalize takeRt (c1, 0) = q at *
    obtain ⟨x, t⟩ := q
    rintro e w3 ⟨p3, k3, rfl, hbo, hr3, ho3⟩
    have HRE3 := Lib.hid (HRE2.out.only ho3 (by omega))
    have hb3 := ho3.below HB2.out (by have := HB1.out.size; omega) HB2.out.size
    have HB3 := Lib.hid hb3
    have HBO := Lib.hid hbo
    have hw2 : w.heap.size < w2.heap.size := HRE2.out.lt
    have HR3 := Lib.hid hr3
    clear hbo hr3 ho3 hb3
    go_wp2_with (refine wpList_store_newag btR rfl _ _ rfl rfl _ rfl rfl rfl (btA_one _ _ _) ?_; intro w4 hv4 hb4)
    replace HRE3 := Lib.hid (HRE3.out.kept hb4)
    replace HB3 := Lib.hid (HB3.out.trans (hb4.mono HB3.out.size))
    replace HBO := Lib.hid (HBO.out.kept hb4)
    replace HR3 := Lib.hid (HR3.out.kept hb4)
    have HV4 := Lib.hid hv4
    clear hv4 hb4
    refine (refDone_any _ b t.1 t.2 _ HR3.out).mono ?_
    by_cases hd : doneR t.1 t.2 = 0
    · have HE := Lib.hid (HRT2.out.trans (if_neg (by simp [hd])))
      have ht : t.2 = 0 := by
        unfold doneR at hd
        split at hd
        · next h1 => exact absurd hd h1
        · next h1 => simpa using h1
      obtain ⟨e1, e2⟩ := HOK.out ht
      have hrt : rightT x = true := by rw [← e1] at e2; exact e2
      have HSZ := Lib.hid (show Szs x.ops from ⟨fun y hy => right_szB ((rightT_iff.1 hrt).2.2.2.2 y hy), by have := (rightT_iff.1 hrt).2.2.1.2; omega⟩)
      have HRI := Lib.hid (fun W hb => r8right_any x p3 k3 W HSZ.out hb)
      rw [hrt] at HRI
      rw [hd]
      clear e1 e2 hrt ht HOK
      rintro e w5 ⟨rfl, hb5⟩
      replace HRE3 := Lib.hid (HRE3.out.kept hb5)
      replace HB3 := Lib.hid (HB3.out.trans (hb5.mono HB3.out.size))
      replace HBO := Lib.hid (HBO.out.kept hb5)
      replace HV4 := Lib.hid (AgAt.kept HV4.out hb5)
      clear hb5
      have hv := HV4.out
      go_wp2_with (refine wpList_load_ag btR (by kernel_rfl) _ rfl _ rfl (A := btA _ p3 k3) rfl (by assumption) ?_)
      refine (HRI.out _ HBO.out.bops).mono ?_
      rintro e w6 ⟨rfl, hb6⟩
      replace HRE3 := Lib.hid (HRE3.out.kept hb6)
      replace HB3 := Lib.hid (HB3.out.trans (hb6.mono HB3.out.size))
      replace HBO := Lib.hid (HBO.out.kept hb6)
      replace HV4 := Lib.hid (AgAt.kept HV4.out hb6)
      clear hb6 hv
      have hv := HV4.out
      go_wp2_with (first | (refine wpList_load_ag btR (by kernel_rfl) _ rfl _ rfl (A := btA _ p3 k3) rfl (by assumption) ?_) | (refine wpList_store_ag btR rfl _ _ rfl _ rfl _ HRE3.out rfl rfl rfl (btA_one _ _ _) ?_; intro w7 hv7 hko hsz hbn))
      obtain ⟨y0, y1, y2, y3⟩ := BtAt.cells hv7
      refine bodyPost_ret (v := .tuple #[.agg (btA x p3 k3), .int .i64 (sz : Int), .int .i64 0]) (by simp [results, Tryz.results10, go_sem, y0, y1, y2, y3, btA]) rfl ?_
      rw [HE.out]
      exact ⟨p3, k3, rfl, (HBO.out.only (only_of hko hsz hbn) hw2).bops, hbn _ _ HB3.out (Nat.le_refl _)⟩
    · have hd2 : ((doneR t.1 t.2 : Int) != 0) = true := by rw [bne_iff_ne]; omega
      have HE := Lib.hid (HRT2.out.trans (if_pos hd))
      rintro e w5 ⟨rfl, hb5⟩
      replace HRE3 := Lib.hid (HRE3.out.kept hb5)
      replace HB3 := Lib.hid (HB3.out.trans (hb5.mono HB3.out.size))
      clear hb5 HBO
      go_wp2_with (refine wpList_store_ag btR rfl _ _ rfl _ rfl _ HRE3.out (A := btA Bat.zero none 0) rfl rfl rfl (btA_one _ _ _) ?_; intro w6 hv6 hko hsz hbn)
      obtain ⟨y0, y1, y2, y3⟩ := BtAt.cells hv6
      dsimp only [Bat.zero] at y0 y1 y2 y3
      refine bodyPost_ret (v := .tuple #[.agg (btA Bat.zero none 0), .int .i64 0, .int .i64 21]) (by simp [results, Tryz.results10, go_sem, y0, y1, y2, y3, btA, Bat.zero]) rfl ?_
      rw [HE.out]
      exact ⟨none, 0, rfl, Bops.zero _, hbn _ _ HB3.out (Nat.le_refl _)⟩
  · have he2 : ((er : Int) != 0) = true := by rw [bne_iff_ne]; omega
    have HE := Lib.hid (HER.out he)
    go_wp2_with (refine wpList_store_ag btR rfl _ _ rfl _ rfl _ HRE.out (A := btA Bat.zero none 0) rfl rfl rfl (btA_one _ _ _) ?_; intro w4 hv4 hko hsz hbn)
    obtain ⟨y0, y1, y2, y3⟩ := BtAt.cells hv4
    dsimp only [Bat.zero] at y0 y1 y2 y3
    refine bodyPost_ret (v := .tuple #[.agg (btA Bat.zero none 0), .int .i64 0, .int .i64 (er : Int)]) (by simp [results, Tryz.results10, go_sem, y0, y1, y2, y3, btA, Bat.zero]) rfl ?_
    rw [HE.out]
    exact ⟨none, 0, rfl, Bops.zero _, hbn _ _ HB1.out (Nat.le_refl _)⟩
end Go.Proofs.YthpdphlkmleldaaGreat
