/-
  WHICH SIBLING STANDS AHEAD: the program's Before, and the function that Sort hands on.
  No conditions.
-/
import Derived.Test.YtilkokhapcgolaaGreatSbMem
import Derived.Test.YtilkokhapcgolaaGreatKRight
namespace Go.Proofs.YtilkokhapcgolaaGreat
open Go.RowKit

set_option maxRecDepth 100000 in
set_option maxHeartbeats 1000000 in
theorem qcompare_gr (t r t' r' : Int) (w : World) :
    Calls Tryz.prog 56 #[.agg #[.int .i64 t, .int .i64 r], .agg #[.int .i64 t', .int .i64 r']] w fun e w' => e = .returned (.int .i64 (qcmpS t r t' r')) ∧ Gr w w' := by
  have HB := Lib.hid (((Gr.refl w).alloc (.cells #[.int .i64 t, .int .i64 r] 24)).alloc (.cells #[.int .i64 t', .int .i64 r'] 24))
  by_cases h0 : t = t'
  · subst h0
    by_cases h1 : r = r'
    · subst h1
      have HR := Lib.hid (show qcmpS t r t r = 0 from by simp [qcmpS])
      go_enter Tryz.func56, Tryz.ntmps56
      go_wp2
      go_ret
      rw [HR.out]
      exact ⟨rfl, HB.out⟩
    · have e1 : ((r == r') : Bool) = false := by simpa using h1
      by_cases h2 : r < r'
      · have HR := Lib.hid (show qcmpS t r t r' = -1 from by simp [qcmpS, h1, h2])
        go_enter Tryz.func56, Tryz.ntmps56
        go_wp2
        go_ret
        rw [HR.out]
        exact ⟨rfl, HB.out⟩
      · have d2 : decide (r < r') = false := decide_eq_false h2
        have HR := Lib.hid (show qcmpS t r t r' = 1 from by simp [qcmpS, h1, h2])
        go_enter Tryz.func56, Tryz.ntmps56
        go_wp2
        go_ret
        rw [HR.out]
        exact ⟨rfl, HB.out⟩
  · have e1 : ((t == t') : Bool) = false := by simpa using h0
    by_cases h2 : t < t'
    · have HR := Lib.hid (show qcmpS t r t' r' = -1 from by simp [qcmpS, h0, h2])
      go_enter Tryz.func56, Tryz.ntmps56
      go_wp2
      go_ret
      rw [HR.out]
      exact ⟨rfl, HB.out⟩
    · have d2 : decide (t < t') = false := decide_eq_false h2
      have HR := Lib.hid (show qcmpS t r t' r' = 1 from by simp [qcmpS, h0, h2])
      go_enter Tryz.func56, Tryz.ntmps56
      go_wp2
      go_ret
      rw [HR.out]
      exact ⟨rfl, HB.out⟩

theorem qcmpS_lt (a b : Qm.St) : decide (qcmpS a.1 a.2 b.1 b.2 < 0) = decide (Qm.ltS a b) := by
  rcases Qm.ltS_tri a b with h | h | h
  · rw [show qcmpS a.1 a.2 b.1 b.2 = -1 from cmpV_lt h, decide_eq_true h]; rfl
  · subst h
    rw [show qcmpS a.1 a.2 a.1 a.2 = 0 from cmpV_eq a, decide_eq_false (Qm.ltS_irrefl a)]; rfl
  · rw [show qcmpS a.1 a.2 b.1 b.2 = 1 from cmpV_gt h, decide_eq_false (Qm.ltS_asymm h)]; rfl

/-- how two keys stand, in Compare's answer -/
theorem key_cases (a b : ByteArray) : (Lib.compareBytes a.data.toList b.data.toList = -1 ∧ Op.bytesLess a.data.toList b.data.toList = true ∧ (a.toList == b.toList) = false) ∨ a = b ∨
    (Lib.compareBytes a.data.toList b.data.toList = 1 ∧ Op.bytesLess b.data.toList a.data.toList = true ∧ (a.toList == b.toList) = false) := by
  rw [ByteArray.toList_eq, ByteArray.toList_eq]
  rcases Sbm.key_tri a b with h | h | h
  · refine Or.inl ⟨?_, h, beq_eq_false_iff_ne.2 fun e => ?_⟩
    · rw [Km.compare_less, if_neg (fun e => ?_), if_pos h]
      rw [e] at h
      rw [Km.less_irrefl] at h
      cases h
    · rw [e] at h
      rw [Km.less_irrefl] at h
      cases h
  · exact Or.inr (Or.inl h)
  · refine Or.inr (Or.inr ⟨?_, h, beq_eq_false_iff_ne.2 fun e => ?_⟩)
    · rw [Km.compare_less, if_neg (fun e => ?_), if_neg (fun e => ?_)]
      · exact absurd e (Sbm.key_asymm h)
      · rw [e] at h
        rw [Km.less_irrefl] at h
        cases h
    · rw [e] at h
      rw [Km.less_irrefl] at h
      cases h

set_option maxRecDepth 100000 in
set_option maxHeartbeats 2000000 in
theorem before_gr (a b : Sbm.Sib) (w : World) :
    Calls Tryz.prog 37 #[sbV a, sbV b] w fun e w' => e = .returned (.bool (decide (Sbm.ltB a b))) ∧ Gr w w' := by
  obtain ⟨k, t, r⟩ := a
  obtain ⟨k', t', r'⟩ := b
  have HB := Lib.hid (((Gr.refl w).alloc (.cells #[.string k, .int .i64 t, .int .i64 r] 54)).alloc (.cells #[.string k', .int .i64 t', .int .i64 r'] 54))
  have HC := Lib.hid (compare_any k k')
  unfold sbV
  dsimp only
  rcases key_cases k k' with ⟨h1, h2, h3⟩ | rfl | ⟨h1, h2, h3⟩
  · have HR := Lib.hid (show decide (Sbm.ltB (k, t, r) (k', t', r')) = true from decide_eq_true (Or.inl h2))
    rw [h1] at HC
    clear h1 h2
    go_enter Tryz.func37, Tryz.ntmps37
    go_wp2_with fail
    refine (HC.out _).mono ?_
    rintro e w' ⟨rfl, rfl⟩
    go_wp2
    go_ret
    rw [HR.out]
    exact ⟨rfl, HB.out⟩
  · by_cases h0 : t = t' ∧ r = r'
    · obtain ⟨rfl, rfl⟩ := h0
      have HR := Lib.hid (show decide (Sbm.ltB (k, t, r) (k, t, r)) = false from decide_eq_false (Sbm.ltB_irrefl _))
      go_enter Tryz.func37, Tryz.ntmps37
      go_wp2
      go_ret
      rw [HR.out]
      exact ⟨rfl, HB.out⟩
    · have e1 : ((t == t') : Bool) = false ∨ (t = t' ∧ ((r == r') : Bool) = false) := by
        by_cases e : t = t'
        · exact Or.inr ⟨e, by simpa using fun h => h0 ⟨e, h⟩⟩
        · exact Or.inl (by simpa using e)
      have hz : Lib.compareBytes k.data.toList k.data.toList = 0 := (Km.cmp_zero _ _).2 rfl
      rw [hz] at HC
      have HR := Lib.hid (show decide (Sbm.ltB (k, t, r) (k, t', r')) = decide (qcmpS t r t' r' < 0) from by
        rw [qcmpS_lt (t, r) (t', r')]
        refine decide_eq_decide.2 ⟨fun h => ?_, fun h => Or.inr ⟨rfl, h⟩⟩
        rcases h with h | ⟨-, h⟩
        · exact absurd h (Sbm.key_irrefl _)
        · exact h)
      have HS := Lib.hid (qcompare_gr t r t' r')
      clear hz h0
      rcases e1 with e1 | ⟨rfl, e1⟩
      · go_enter Tryz.func37, Tryz.ntmps37
        go_wp2_with fail
        refine (HC.out _).mono ?_
        rintro e w' ⟨rfl, rfl⟩
        go_wp2_with fail
        refine (HS.out _).mono ?_
        rintro e w' ⟨rfl, hg⟩
        generalize qcmpS t r t' r' = c at *
        have HG := Lib.hid (HB.out.trans hg)
        clear hg
        go_wp2
        go_ret
        rw [HR.out]
        exact ⟨rfl, HG.out⟩
      · go_enter Tryz.func37, Tryz.ntmps37
        go_wp2_with fail
        refine (HC.out _).mono ?_
        rintro e w' ⟨rfl, rfl⟩
        go_wp2_with fail
        refine (HS.out _).mono ?_
        rintro e w' ⟨rfl, hg⟩
        generalize qcmpS t r t r' = c at *
        have HG := Lib.hid (HB.out.trans hg)
        clear hg
        go_wp2
        go_ret
        rw [HR.out]
        exact ⟨rfl, HG.out⟩
  · have HR := Lib.hid (show decide (Sbm.ltB (k, t, r) (k', t', r')) = false from decide_eq_false fun h => by
      rcases h with h | ⟨h, -⟩
      · exact Sbm.key_asymm h h2
      · dsimp only at h
        subst h
        exact Sbm.key_irrefl _ h2)
    rw [h1] at HC
    clear h1 h2
    go_enter Tryz.func37, Tryz.ntmps37
    go_wp2_with fail
    refine (HC.out _).mono ?_
    rintro e w' ⟨rfl, rfl⟩
    go_wp2
    go_ret
    rw [HR.out]
    exact ⟨rfl, HB.out⟩

theorem before_sib (a b : Sbm.Sib) (w : World) :
    Calls Tryz.prog 37 #[sbV a, sbV b] w fun e w' => e = .returned (.bool (decide (Sbm.ltB a b))) ∧ Below w.heap.size w w' :=
  (before_gr a b w).mono fun _ _ ⟨h, k⟩ => ⟨h, k.below⟩

set_option maxRecDepth 100000 in
set_option maxHeartbeats 2000000 in
theorem sortFn_gr (a b : Sbm.Sib) (w : World) :
    Calls Tryz.prog 36 #[sbV a, sbV b] w fun e w' => e = .returned (.int .i64 (Sbm.cmpB a b)) ∧ Gr w w' := by
  have HB := Lib.hid (((Gr.refl w).alloc (.cells #[.string a.1, .int .i64 a.2.1, .int .i64 a.2.2] 54)).alloc (.cells #[.string b.1, .int .i64 b.2.1, .int .i64 b.2.2] 54))
  have HX := Lib.hid ((SbAt.start w a 54).alloc (.cells #[.string b.1, .int .i64 b.2.1, .int .i64 b.2.2] 54))
  have HY := Lib.hid (by have h := SbAt.start (w.alloc (.cells #[.string a.1, .int .i64 a.2.1, .int .i64 a.2.2] 54)) b 54; rwa [show (w.alloc (.cells #[.string a.1, .int .i64 a.2.1, .int .i64 a.2.2] 54)).heap.size = w.heap.size + 1 from by simp] at h)
  have H1 := Lib.hid (before_gr a b)
  have H2 := Lib.hid (before_gr b a)
  by_cases h1 : Sbm.ltB a b
  · have HR := Lib.hid (show Sbm.cmpB a b = -1 from if_pos h1)
    rw [decide_eq_true h1] at H1
    clear h1 H2
    unfold sbV at *
    go_enter Tryz.func36, Tryz.ntmps36
    go_wp2_with fail
    refine (H1.out _).mono ?_
    rintro e w' ⟨rfl, hg⟩
    have HG := Lib.hid (HB.out.trans hg)
    clear hg
    go_wp2
    go_ret
    rw [HR.out]
    exact ⟨rfl, HG.out⟩
  · rw [decide_eq_false h1] at H1
    by_cases h2 : Sbm.ltB b a
    all_goals
      first
      | have HR := Lib.hid (show Sbm.cmpB a b = 1 from by unfold Sbm.cmpB; rw [if_neg h1, if_pos h2])
        rw [decide_eq_true h2] at H2
      | have HR := Lib.hid (show Sbm.cmpB a b = 0 from by unfold Sbm.cmpB; rw [if_neg h1, if_neg h2])
        rw [decide_eq_false h2] at H2
      clear h1 h2
      unfold sbV at *
      go_enter Tryz.func36, Tryz.ntmps36
      go_wp2_with fail
      refine (H1.out _).mono ?_
      rintro e w' ⟨rfl, hg⟩
      have HG := Lib.hid (HB.out.trans hg)
      have ya := (HX.out.kept hg.below)
      have yb := (HY.out.kept hg.below)
      have a0 := ya.cell0
      have a1 := ya.cell1
      have a2 := ya.cell2
      have b0 := yb.cell0
      have b1 := yb.cell1
      have b2 := yb.cell2
      clear hg ya yb
      go_wp2_with fail
      refine (H2.out _).mono ?_
      rintro e w2 ⟨rfl, hg⟩
      have HG2 := Lib.hid (HG.out.trans hg)
      clear hg
      go_wp2
      go_ret
      rw [HR.out]
      exact ⟨rfl, HG2.out⟩

end Go.Proofs.YtilkokhapcgolaaGreat
