/-
  READING, whatever the reader's error is: values, On, the Path.
  No conditions but sizes.
-/
import Derived.Test.YtjaojhhcpggcpaaOReadS
namespace Go.Proofs.Ytjaojhhcpggcpaa
open Go.RowKit

theorem errs_any (B b : Nat) (s : RS) (w : World) (h : RdS w B b s) : Calls Try.prog 16 #[.pointer (some ⟨b, 0, none⟩)] w fun e w' => e = .returned (.int .i64 (s.2 : Int)) ∧ w = w' := err_any B b s.1 s.2 w h
theorem fails_any (B b : Nat) (s : RS) (w : World) (h : RdS w B b s) : Calls Try.prog 36 #[.pointer (some ⟨b, 0, none⟩), .int .i64 21] w fun e w' => e = .returned (.tuple #[]) ∧ RdS w' B b (failS 21 s) ∧ Only b w w' := fail_any B b s.1 s.2 21 w h
/-- what turns above the reader leaves it -/
theorem Rdr.under {w w' : World} {B b M : Nat} {l : List UInt8} {err : Nat} (h : Rdr w B b l err) (hb : Below M w w') (hM : b < M) : Rdr w' B b l err := by
  obtain ⟨h0, h1, h2, h3, h4, h5, p, c, h6, h7, h8, h9, h10⟩ := h
  exact ⟨h0, by rw [hb.cell (by simpa using hM)]; exact h1, by rw [hb.cell (by simpa using hM)]; exact h2, by rw [hb.frozen (by simpa using hM)]; exact h3, by rw [hb.frozen (by simpa using hM)]; exact h4, h5, p, c, by rw [hb.cell (by simpa using hM)]; exact h6,
    h7.below hb (fun a ha => Nat.lt_trans (h10 a ha).1 hM), h8, h9, h10⟩
theorem RdS.under {w w' : World} {B b M : Nat} {s : RS} (h : RdS w B b s) (hb : Below M w w') (hM : b < M) : RdS w' B b s := Rdr.under h hb hM

set_option maxRecDepth 100000 in
set_option maxHeartbeats 1000000 in
theorem vls_any (B b : Nat) (s : RS) (w : World) (h : RdS w B b s) : Calls Try.prog 34 #[.pointer (some ⟨b, 0, none⟩)] w fun e w' => e = .returned (.agg #[.int .i64 (vlS s).1.1, .int .i64 (vlS s).1.2.1, .string (vlS s).1.2.2]) ∧ RdS w' B b (vlS s).2 ∧ Only b w w' := by
  obtain ⟨l, e⟩ := s
  by_cases he : e = 0
  · subst he
    have : vlS (l, 0) = (((takeV l).1, (takeV l).2.1, strB (takeV l).2.2.1), (takeV l).2.2.2) := by unfold vlS; rw [if_neg (by simp)]
    rw [this]
    exact vtake_any B b l w h
  · have HN := Lib.hid (show vlS (l, e) = ((0, 0, ⟨#[]⟩), (l, e)) by unfold vlS; rw [if_pos he])
    have hb := (Below.refl w.heap.size w).alloc (Nat.le_refl _) (.cells #[.int .i64 0, .int .i64 0, .string ⟨#[]⟩] 26)
    have HO0 := Lib.hid (Only.of_below (b := b) hb)
    have HT0 := Lib.hid (ThreeAt.start w 0 0 ⟨#[]⟩)
    have HR := Lib.hid (show RdS _ B b (l, e) from h.kept hb)
    have HE := Lib.hid he
    have HNU := Lib.hid (show numS (l, e) = (0, (l, e)) by unfold numS; rw [if_pos he])
    have te : ((e : Int) != 0) = true := by rw [bne_iff_ne]; omega
    have hlt := h.lt
    clear h he hb
    go_enter Try.func34, Try.ntmps34
    go_wp2_with fail
    refine (nums_any B b (l, e) _ HR.out).mono ?_
    rw [HNU.out]
    rintro e1 w1 ⟨rfl, hr1, ho1⟩
    have hT := HT0.out.only ho1 (by omega)
    have hVs : w.heap.size < w1.heap.size := hT.size
    have hb1 := (Below.refl w1.heap.size w1).alloc (Nat.le_refl _) (.cells #[.int .i64 0, .int .i64 0, .string ⟨#[]⟩] 26)
    have K1 := Lib.hid (show Tk w B b w.heap.size w1.heap.size 0 0 ⟨#[]⟩ l e _ from ⟨⟨Nat.le_refl _, by omega, by omega, hlt⟩, hT.kept hb1, ThreeAt.start w1 0 0 ⟨#[]⟩, Rdr.kept hr1 hb1, (HO0.out.trans ho1).trans (Only.ofBelow (b := b) hb1)⟩)
    clear hr1 ho1 hT hb1
    have x0 := K1.out.2.2.1.cell0
    have x1 := K1.out.2.2.1.cell1
    have x2 := K1.out.2.2.1.cell2
    go_wp2_with fail
    refine (vright_any 0 0 ⟨#[]⟩ _ (by decide)).mono ?_
    rintro e2 w7 ⟨rfl, hb7⟩
    have K7 := Lib.hid (K1.out.kept hb7)
    have hrv : Vm.rightV 0 0 (⟨#[]⟩ : ByteArray).data.toList = true := rfl
    clear hb7 x0 x1 x2
    go_wp2_with fail
    refine (err_any B b l e _ K7.out.2.2.2.1).mono ?_
    rintro e3 w' ⟨rfl, rfl⟩
    obtain ⟨q0, q1, q2⟩ := K7.out.2.1.read (0) (0) ⟨#[]⟩
    have HF := Lib.hid (K7.out.answer (0) (0) ⟨#[]⟩)
    have y0 := K7.out.2.1.free 0
    have y1 := K7.out.2.1.free 1
    have y2 := K7.out.2.1.free 2
    have z0 := K7.out.2.1.cell0
    have z1 := K7.out.2.1.cell1
    have z2 := K7.out.2.1.cell2
    clear hrv
    go_wp2
    refine bodyPost_ret (v := .agg #[.int .i64 (0), .int .i64 (0), .string ⟨#[]⟩]) (by simp [results, Try.results34, go_sem, q0, q1, q2]) rfl ?_
    rw [HN.out]
    exact ⟨rfl, HF.out.1, HF.out.2⟩

set_option maxRecDepth 100000 in
theorem ons_any (B b : Nat) (s : RS) (w : World) (h : RdS w B b s) : Calls Try.prog 35 #[.pointer (some ⟨b, 0, none⟩)] w fun e w' => e = .returned (.bool (onS s).1) ∧ RdS w' B b (onS s).2 ∧ Only b w w' := by
  have HN := Lib.hid (nums_any B b s w h)
  have HO : Hid (onS s = if 1 < (numS s).1 then (false, failS 21 (numS s).2) else ((numS s).1 == 1, (numS s).2)) := Lib.hid rfl
  generalize numS s = q at *
  obtain ⟨n, s1⟩ := q
  dsimp only at *
  clear h
  by_cases hn : 1 < n
  · have HV := Lib.hid (HO.out.trans (if_pos hn))
    have d1 : decide ((1 : Int) < (n : Int)) = true := decide_eq_true (by omega)
    have d2 : ((n : Int) == 1) = false := by rw [beq_eq_false_iff_ne]; omega
    clear HO
    go_enter Try.func35, Try.ntmps35
    go_wp2_with fail
    refine HN.out.mono ?_
    rintro e w1 ⟨rfl, hr1, ho1⟩
    have HR1 := Lib.hid hr1
    have HO1 := Lib.hid ho1
    clear hr1 ho1
    go_wp2_with fail
    refine (fails_any B b s1 _ HR1.out).mono ?_
    rintro e w2 ⟨rfl, hr2, ho2⟩
    have HR2 := Lib.hid hr2
    have HO2 := Lib.hid (HO1.out.trans ho2)
    clear hr2 ho2
    go_wp2
    go_ret
    rw [HV.out]
    exact ⟨rfl, HR2.out, HO2.out⟩
  · have HV := Lib.hid (HO.out.trans (if_neg hn))
    have d1 : decide ((1 : Int) < (n : Int)) = false := decide_eq_false (by omega)
    have HEQ := Lib.hid (show ((n : Int) == 1) = (n == 1) by
      by_cases e : n = 1
      · subst e; rfl
      · rw [show (n == 1) = false from by rw [beq_eq_false_iff_ne]; exact e, beq_eq_false_iff_ne]; omega)
    clear HO
    go_enter Try.func35, Try.ntmps35
    go_wp2_with fail
    refine HN.out.mono ?_
    rintro e w1 ⟨rfl, hr1, ho1⟩
    have HR1 := Lib.hid hr1
    have HO1 := Lib.hid ho1
    clear hr1 ho1
    go_wp2
    go_ret
    rw [HV.out]
    exact ⟨ret_b HEQ.out, HR1.out, HO1.out⟩
end Go.Proofs.Ytjaojhhcpggcpaa
