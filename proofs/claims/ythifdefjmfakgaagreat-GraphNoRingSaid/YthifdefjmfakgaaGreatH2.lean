/-
  MAY A KEY BE (the program's Right and the document's); the number of an error; the program's Compare.
  No conditions but sizes.
  WHICH SIBLING STANDS AHEAD: the program's Before, and the function that Sort hands on.
  No conditions.
  THE PROGRAM's Sort of siblings: Clone, slices.SortFunc by the shelf's contract.
  No conditions but sizes.
-/
import Derived.Test.YthifdefjmfakgaaGreatGG
import Derived.Test.YthifdefjmfakgaaGreatShelf
import Derived.Test.YthifdefjmfakgaaGreatGK
import Derived.Test.YthifdefjmfakgaaGreatShelfS
namespace Go.Proofs.YthifdefjmfakgaaGreat
open Go.RowKit

theorem kcompare_any (a b : ByteArray) (w : World) : Calls Tryz.prog 152 #[.string a, .string b] w fun e w' => e = .returned (.int .i64 (Lib.compareBytes a.data.toList b.data.toList)) ∧ w = w' := by
  have H := Lib.hid (Tryz.strings_Compare a b)
  go_enter Tryz.func152, Tryz.ntmps152
  go_wp2_with fail
  refine (H.out _).mono ?_
  rintro e w' ⟨rfl, rfl⟩
  go_wp2
  go_ret
  exact ⟨rfl, rfl⟩

end Go.Proofs.YthifdefjmfakgaaGreat

namespace Go.Proofs.YthifdefjmfakgaaGreat
open Go.RowKit

set_option maxRecDepth 100000 in
set_option maxHeartbeats 1000000 in
theorem qcompare_gr (t r t' r' : Int) (w : World) :
    Calls Tryz.prog 76 #[.agg #[.int .i64 t, .int .i64 r], .agg #[.int .i64 t', .int .i64 r']] w fun e w' => e = .returned (.int .i64 (qcmpS t r t' r')) ∧ Gr w w' := by
  have HB := Lib.hid (((Gr.refl w).alloc (.cells #[.int .i64 t, .int .i64 r] 35)).alloc (.cells #[.int .i64 t', .int .i64 r'] 35))
  by_cases h0 : t = t'
  · subst h0
    by_cases h1 : r = r'
    · subst h1
      have HR := Lib.hid (show qcmpS t r t r = 0 from by simp [qcmpS])
      go_enter Tryz.func76, Tryz.ntmps76
      go_wp2
      go_ret
      rw [HR.out]
      exact ⟨rfl, HB.out⟩
    · have e1 : ((r == r') : Bool) = false := by simpa using h1
      by_cases h2 : r < r'
      · have HR := Lib.hid (show qcmpS t r t r' = -1 from by simp [qcmpS, h1, h2])
        go_enter Tryz.func76, Tryz.ntmps76
        go_wp2
        go_ret
        rw [HR.out]
        exact ⟨rfl, HB.out⟩
      · have d2 : decide (r < r') = false := decide_eq_false h2
        have HR := Lib.hid (show qcmpS t r t r' = 1 from by simp [qcmpS, h1, h2])
        go_enter Tryz.func76, Tryz.ntmps76
        go_wp2
        go_ret
        rw [HR.out]
        exact ⟨rfl, HB.out⟩
  · have e1 : ((t == t') : Bool) = false := by simpa using h0
    by_cases h2 : t < t'
    · have HR := Lib.hid (show qcmpS t r t' r' = -1 from by simp [qcmpS, h0, h2])
      go_enter Tryz.func76, Tryz.ntmps76
      go_wp2
      go_ret
      rw [HR.out]
      exact ⟨rfl, HB.out⟩
    · have d2 : decide (t < t') = false := decide_eq_false h2
      have HR := Lib.hid (show qcmpS t r t' r' = 1 from by simp [qcmpS, h0, h2])
      go_enter Tryz.func76, Tryz.ntmps76
      go_wp2
      go_ret
      rw [HR.out]
      exact ⟨rfl, HB.out⟩

theorem qcmpS_lt (a b : Qm.St) : decide (qcmpS a.1 a.2 b.1 b.2 < 0) = decide (Qm.ltS a b) := by
  rcases Qm.ltS_tri a b with h | h | h
  · rw [show qcmpS a.1 a.2 b.1 b.2 = -1 from cmpV_lt h, decide_eq_true h]; rfl
  · subst h
    rw [show qcmpS a.1 a.2 a.1 a.2 = 0 from cmpV_eq a, decide_eq_false (Qm.ltS_irrefl a)]; rfl
  · rw [show qcmpS a.1 a.2 b.1 b.2 = 1 from cmpV_gt h, decide_eq_false (Qm.ltS_asymm h)]; rfl

/-- how two keys stand, in Compare's answer -/
theorem key_cases (a b : ByteArray) : (Lib.compareBytes a.data.toList b.data.toList = -1 ∧ Op.bytesLess a.data.toList b.data.toList = true ∧ (a.toList == b.toList) = false) ∨ a = b ∨
    (Lib.compareBytes a.data.toList b.data.toList = 1 ∧ Op.bytesLess b.data.toList a.data.toList = true ∧ (a.toList == b.toList) = false) := by
  rw [ByteArray.toList_eq, ByteArray.toList_eq]
  rcases Sbm.key_tri a b with h | h | h
  · refine Or.inl ⟨?_, h, beq_eq_false_iff_ne.2 fun e => ?_⟩
    · rw [Km.compare_less, if_neg (fun e => ?_), if_pos h]
      rw [e] at h
      rw [Km.less_irrefl] at h
      cases h
    · rw [e] at h
      rw [Km.less_irrefl] at h
      cases h
  · exact Or.inr (Or.inl h)
  · refine Or.inr (Or.inr ⟨?_, h, beq_eq_false_iff_ne.2 fun e => ?_⟩)
    · rw [Km.compare_less, if_neg (fun e => ?_), if_neg (fun e => ?_)]
      · exact absurd e (Sbm.key_asymm h)
      · rw [e] at h
        rw [Km.less_irrefl] at h
        cases h
    · rw [e] at h
      rw [Km.less_irrefl] at h
      cases h

set_option maxRecDepth 100000 in
set_option maxHeartbeats 2000000 in
theorem before_gr (a b : Sbm.Sib) (w : World) :
    Calls Tryz.prog 129 #[sbV a, sbV b] w fun e w' => e = .returned (.bool (decide (Sbm.ltB a b))) ∧ Gr w w' := by
  obtain ⟨k, t, r⟩ := a
  obtain ⟨k', t', r'⟩ := b
  have HB := Lib.hid (((Gr.refl w).alloc (.cells #[.string k, .int .i64 t, .int .i64 r] 86)).alloc (.cells #[.string k', .int .i64 t', .int .i64 r'] 86))
  have HC := Lib.hid (kcompare_any k k')
  unfold sbV
  dsimp only
  rcases key_cases k k' with ⟨h1, h2, h3⟩ | rfl | ⟨h1, h2, h3⟩
  · have HR := Lib.hid (show decide (Sbm.ltB (k, t, r) (k', t', r')) = true from decide_eq_true (Or.inl h2))
    rw [h1] at HC
    clear h1 h2
    go_enter Tryz.func129, Tryz.ntmps129
    go_wp2_with fail
    refine (HC.out _).mono ?_
    rintro e w' ⟨rfl, rfl⟩
    go_wp2
    go_ret
    rw [HR.out]
    exact ⟨rfl, HB.out⟩
  · by_cases h0 : t = t' ∧ r = r'
    · obtain ⟨rfl, rfl⟩ := h0
      have HR := Lib.hid (show decide (Sbm.ltB (k, t, r) (k, t, r)) = false from decide_eq_false (Sbm.ltB_irrefl _))
      go_enter Tryz.func129, Tryz.ntmps129
      go_wp2
      go_ret
      rw [HR.out]
      exact ⟨rfl, HB.out⟩
    · have e1 : ((t == t') : Bool) = false ∨ (t = t' ∧ ((r == r') : Bool) = false) := by
        by_cases e : t = t'
        · exact Or.inr ⟨e, by simpa using fun h => h0 ⟨e, h⟩⟩
        · exact Or.inl (by simpa using e)
      have hz : Lib.compareBytes k.data.toList k.data.toList = 0 := (Km.cmp_zero _ _).2 rfl
      rw [hz] at HC
      have HR := Lib.hid (show decide (Sbm.ltB (k, t, r) (k, t', r')) = decide (qcmpS t r t' r' < 0) from by
        rw [qcmpS_lt (t, r) (t', r')]
        refine decide_eq_decide.2 ⟨fun h => ?_, fun h => Or.inr ⟨rfl, h⟩⟩
        rcases h with h | ⟨-, h⟩
        · exact absurd h (Sbm.key_irrefl _)
        · exact h)
      have HS := Lib.hid (qcompare_gr t r t' r')
      clear hz h0
      rcases e1 with e1 | ⟨rfl, e1⟩
      · go_enter Tryz.func129, Tryz.ntmps129
        go_wp2_with fail
        refine (HC.out _).mono ?_
        rintro e w' ⟨rfl, rfl⟩
        go_wp2_with fail
        refine (HS.out _).mono ?_
        rintro e w' ⟨rfl, hg⟩
        generalize qcmpS t r t' r' = c at *
        have HG := Lib.hid (HB.out.trans hg)
        clear hg
        go_wp2
        go_ret
        rw [HR.out]
        exact ⟨rfl, HG.out⟩
      · go_enter Tryz.func129, Tryz.ntmps129
        go_wp2_with fail
        refine (HC.out _).mono ?_
        rintro e w' ⟨rfl, rfl⟩
        go_wp2_with fail
        refine (HS.out _).mono ?_
        rintro e w' ⟨rfl, hg⟩
        generalize qcmpS t r t r' = c at *
        have HG := Lib.hid (HB.out.trans hg)
        clear hg
        go_wp2
        go_ret
        rw [HR.out]
        exact ⟨rfl, HG.out⟩
  · have HR := Lib.hid (show decide (Sbm.ltB (k, t, r) (k', t', r')) = false from decide_eq_false fun h => by
      rcases h with h | ⟨h, -⟩
      · exact Sbm.key_asymm h h2
      · dsimp only at h
        subst h
        exact Sbm.key_irrefl _ h2)
    rw [h1] at HC
    clear h1 h2
    go_enter Tryz.func129, Tryz.ntmps129
    go_wp2_with fail
    refine (HC.out _).mono ?_
    rintro e w' ⟨rfl, rfl⟩
    go_wp2
    go_ret
    rw [HR.out]
    exact ⟨rfl, HB.out⟩

set_option maxRecDepth 100000 in
set_option maxHeartbeats 2000000 in
theorem sortFn_gr (a b : Sbm.Sib) (w : World) :
    Calls Tryz.prog 128 #[sbV a, sbV b] w fun e w' => e = .returned (.int .i64 (Sbm.cmpB a b)) ∧ Gr w w' := by
  have HB := Lib.hid (((Gr.refl w).alloc (.cells #[.string a.1, .int .i64 a.2.1, .int .i64 a.2.2] 86)).alloc (.cells #[.string b.1, .int .i64 b.2.1, .int .i64 b.2.2] 86))
  have HX := Lib.hid ((SbAt.start w a 86).alloc (.cells #[.string b.1, .int .i64 b.2.1, .int .i64 b.2.2] 86))
  have HY := Lib.hid (by have h := SbAt.start (w.alloc (.cells #[.string a.1, .int .i64 a.2.1, .int .i64 a.2.2] 86)) b 86; rwa [show (w.alloc (.cells #[.string a.1, .int .i64 a.2.1, .int .i64 a.2.2] 86)).heap.size = w.heap.size + 1 from by simp] at h)
  have H1 := Lib.hid (before_gr a b)
  have H2 := Lib.hid (before_gr b a)
  by_cases h1 : Sbm.ltB a b
  · have HR := Lib.hid (show Sbm.cmpB a b = -1 from if_pos h1)
    rw [decide_eq_true h1] at H1
    clear h1 H2
    unfold sbV at *
    go_enter Tryz.func128, Tryz.ntmps128
    go_wp2_with fail
    refine (H1.out _).mono ?_
    rintro e w' ⟨rfl, hg⟩
    have HG := Lib.hid (HB.out.trans hg)
    clear hg
    go_wp2
    go_ret
    rw [HR.out]
    exact ⟨rfl, HG.out⟩
  · rw [decide_eq_false h1] at H1
    by_cases h2 : Sbm.ltB b a
    all_goals
      first
      | have HR := Lib.hid (show Sbm.cmpB a b = 1 from by unfold Sbm.cmpB; rw [if_neg h1, if_pos h2])
        rw [decide_eq_true h2] at H2
      | have HR := Lib.hid (show Sbm.cmpB a b = 0 from by unfold Sbm.cmpB; rw [if_neg h1, if_neg h2])
        rw [decide_eq_false h2] at H2
      clear h1 h2
      unfold sbV at *
      go_enter Tryz.func128, Tryz.ntmps128
      go_wp2_with fail
      refine (H1.out _).mono ?_
      rintro e w' ⟨rfl, hg⟩
      have HG := Lib.hid (HB.out.trans hg)
      have ya := (HX.out.kept hg.below)
      have yb := (HY.out.kept hg.below)
      have a0 := ya.cell0
      have a1 := ya.cell1
      have a2 := ya.cell2
      have b0 := yb.cell0
      have b1 := yb.cell1
      have b2 := yb.cell2
      clear hg ya yb
      go_wp2_with fail
      refine (H2.out _).mono ?_
      rintro e w2 ⟨rfl, hg⟩
      have HG2 := Lib.hid (HG.out.trans hg)
      clear hg
      go_wp2
      go_ret
      rw [HR.out]
      exact ⟨rfl, HG2.out⟩

end Go.Proofs.YthifdefjmfakgaaGreat

namespace Go.Proofs.YthifdefjmfakgaaGreat
open Go.RowKit

set_option maxRecDepth 100000 in
set_option maxHeartbeats 2000000 in
theorem sbclone_any (p : Option Addr) (cap : Nat) (l : List Sbm.Sib) (w : World) (h : Rd w p (sbCells l)) (hpn : p = none → cap = 0) (hl : l.length ≤ 5000) :
    Calls Tryz.prog 126 #[.slice p l.length cap] w (SbOut (fun m => m = l) w) := by
  obtain ⟨i0, hi, hz0, hz1, hz2⟩ := info_split info_sib
  have qT : ∀ (w : World) (a : Option Addr) (n c n' c' : Nat), (binOp .eql 78 (.slice a n c) (.slice none n' c')).run Tryz.prog w = .ok (.bool a.isNone) w := fun w a n c n' c' => Lib.run_eql_slice_nil w _ _ a n c n' c' Tryz.underlying78
  cases p with
  | none =>
    obtain rfl := rd_empty h rfl
    have HE := Lib.hid (show SbOut (fun m => m = []) w (.returned (.slice none 0 0)) w from ⟨none, 0, [], rfl, rfl, World.ownsRow_nil _ _ _ _, Below.refl _ _⟩)
    clear h hpn
    go_enter Tryz.func126, Tryz.ntmps126
    go_wp2
    go_ret
    exact HE.out
  | some a =>
    have hb : Below w.heap.size w (w.alloc (.cells #[] 86)) := (Below.refl _ _).alloc (Nat.le_refl _) _
    have HR := Lib.hid (h.below hb)
    have HB := Lib.hid hb
    have HO := Lib.hid (World.ownsRow_lit (base := w.heap.size) (e := 86) (size := 3) w #[] 0 (Nat.le_refl _) (by simp [maxLen]) (by simp))
    clear h hb hpn
    go_enter Tryz.func126, Tryz.ntmps126
    go_wp2_with (at_builtin; refine wpList_append_k rfl _ _ 78 rfl w.heap.size 86 i0 _ 3 32 Tryz.underlying78 hi hz0 hz1 (by decide) hz2 (by decide) rfl _ 0 [] rfl HO.out _ l.length cap (sbCells l) rfl (sbCells_length l) HR.out (fun e => by cases e) sbCells_one (by omega) (by simp) ?_)
    intro p' c' w1 ho1 hg1 _
    have hbw := HB.out.grown hg1 (by simp) (fun k hk => by cases hk; exact Nat.le_refl _)
    have HE := Lib.hid (show SbOut (fun m => m = l) w (.returned (.slice p' l.length c')) w1 from ⟨p', c', l, rfl, rfl, by simpa using ho1, hbw⟩)
    clear ho1 hg1 hbw
    go_wp2
    go_ret
    exact HE.out

theorem sbLtOf (x y : Sbm.Sib) : ltOf Sbm.cmpB x y = decide (Sbm.ltB x y) := by
  unfold ltOf
  exact decide_eq_decide.2 (Sbm.cmpB_lt x y)
theorem sb_swo : Go.Sort.SWO (ltOf Sbm.cmpB) where
  irrefl x := by rw [sbLtOf]; exact decide_eq_false (Sbm.ltB_irrefl x)
  trans x y z h k := by rw [sbLtOf] at *; exact decide_eq_true (Sbm.ltB_trans (of_decide_eq_true h) (of_decide_eq_true k))
  ntrans x y z h k := by rw [sbLtOf] at *; exact decide_eq_false (Sbm.ltB_le (of_decide_eq_false k) (of_decide_eq_false h))
theorem sb_lays (blk off size : Nat) (w : World) : CmpLays Tryz.prog 128 #[] sbC 3 Sbm.cmpB blk off size w := fun _ _ _ _ x y =>
  (sortFn_gr x y _).mono fun _ _ ⟨he, hw⟩ => ⟨he, hw⟩
theorem sb_flat (l : List Sbm.Sib) (j : Nat) (h : j < l.length * 3) : (sbCells l)[j]? = some (Go.Sort.flatK sbC 3 l.toArray)[j]! := by
  rw [Go.Sort.get_flatK _ _ _ _ (by simpa using h)]
  obtain ⟨h0, h1, h2⟩ := sbCells_get l (j / 3) (by omega)
  have hd : l.toArray[j / 3]! = Sbm.sbOf l (j / 3) := by
    have : j / 3 < l.length := by omega
    rw [Sbm.sbOf_lt this]
    simp [this]
  rw [hd]
  have h3 : j % 3 = 0 ∨ j % 3 = 1 ∨ j % 3 = 2 := by omega
  rcases h3 with he | he | he
  · rw [he, show (sbC (Sbm.sbOf l (j / 3)))[0]! = .string (Sbm.sbOf l (j / 3)).1 from rfl, ← h0, show j / 3 * 3 = j from by omega]
  · rw [he, show (sbC (Sbm.sbOf l (j / 3)))[1]! = .int .i64 (Sbm.sbOf l (j / 3)).2.1 from rfl, ← h1, show j / 3 * 3 + 1 = j from by omega]
  · rw [he, show (sbC (Sbm.sbOf l (j / 3)))[2]! = .int .i64 (Sbm.sbOf l (j / 3)).2.2 from rfl, ← h2, show j / 3 * 3 + 2 = j from by omega]
theorem sb_holds {w : World} {B g cap : Nat} {l : List Sbm.Sib} (h : w.ownsRow B 86 3 (.slice (some ⟨g, 0, none⟩) l.length cap) l.length (sbCells l)) : Go.Sort.HoldsK sbC 3 w g 0 l.toArray := fun j hj => by
  have hj2 : j < l.length * 3 := by simpa using hj
  refine ⟨?_, h.frozenAt _⟩
  rw [Nat.zero_add, h.cellAt j hj2, sb_flat l j hj2]
  rfl
theorem holds_rd {w : World} {g : Nat} {d : Array Sbm.Sib} (h : Go.Sort.HoldsK sbC 3 w g 0 d) : Rd w (some ⟨g, 0, none⟩) (sbCells d.toList) := fun _ =>
  ⟨g, 0, rfl, fun i u hu => by
    have hi : i < d.toList.length * 3 := by have := (List.getElem?_eq_some_iff.1 hu).1; rw [sbCells_length] at this; exact this
    have h2 := sb_flat d.toList i hi
    rw [hu] at h2
    rw [(h i (by simpa using hi)).1]
    simpa using h2.symm⟩
theorem sbsort_turns (w : World) (g n : Nat) (d : Array Sbm.Sib) (os : Array Obj) : Turns (fun k => k = g) w (sortWorldK sbC 3 w g 0 n d os) := by
  refine ⟨rfl, rfl, rfl, ?_, fun k hk hg => ?_⟩
  · show w.heap.size ≤ (_ ++ os).size
    simp [Go.Sort.putRowK, Go.Sort.putRow, Go.Sort.mapBlock, Go.Sort.ahead]
  · show (_ ++ os)[k]? = _
    rw [Array.getElem?_append_left (by simpa [Go.Sort.putRowK, Go.Sort.putRow, Go.Sort.mapBlock, Go.Sort.ahead] using hk)]
    simp only [Go.Sort.putRowK, Go.Sort.putRow, Go.Sort.mapBlock, Go.Sort.ahead, Array.getElem?_modify]
    rw [if_neg (fun e => hg e.symm)]

theorem sbsortFunc_any (B g cap : Nat) (l : List Sbm.Sib) (w : World) (h : w.ownsRow B 86 3 (.slice (some ⟨g, 0, none⟩) l.length cap) l.length (sbCells l)) (hl : l.length ≤ 5000) :
    Calls Tryz.prog 127 #[.slice (some ⟨g, 0, none⟩) l.length cap, .func (.func 128) #[] #[]] w fun e w' =>
      e = .returned (.tuple #[]) ∧ ∃ m : List Sbm.Sib, m.Perm l ∧ Sbm.Srt m ∧ Rd w' (some ⟨g, 0, none⟩) (sbCells m) ∧ Turns (fun k => k = g) w w' := by
  have eg : ∀ args w, (callFunc 128 args).run Tryz.prog w = .ok (.enter 128 args) w := enters_of Tryz.func128 (by kernel_rfl) rfl
  have hg : g < w.heap.size := (World.ownsRow.lt h g rfl).2
  have hH := sb_holds h
  have hcon := AnyQ.slices_SortFunc Tryz.sortSb 3 Tryz.isAgg86 Tryz.sizeOf86 sbC (fun _ => rfl) (fun x v hv => by simp [sbC] at hv; rcases hv with rfl | rfl | rfl <;> rfl) Sbm.cmpB sb_swo 128 #[] g 0 cap l.toArray w eg (sb_lays g 0 _ w) hH hg (by simp; omega)
  change Calls Tryz.prog 127 _ _ _ at hcon
  rw [List.size_toArray] at hcon
  refine hcon.mono ?_
  rintro e w' ⟨rfl, d', n, os, ⟨hs, -, hp⟩, hsort, rfl⟩
  have hsz : d'.size = l.length := by simpa using hs
  refine ⟨rfl, d'.toList, ?_, Sbm.srt_of fun i j hij hj => ?_, ?_, sbsort_turns w g n d' os⟩
  · have h3 : (d'.toList.take l.length).Perm l := by rw [← hsz] at hp; simpa [hsz] using hp
    rwa [List.take_of_length_le (by simp [hsz])] at h3
  · have hj2 : j < d'.size := by simpa using hj
    have := hsort i j (Nat.zero_le _) hij (by omega)
    rw [sbLtOf] at this
    have hi2 : i < d'.size := by omega
    have e1 : d'[j]! = Sbm.sbOf d'.toList j := by rw [Sbm.sbOf_lt hj]; simp [hj2]
    have e2 : d'[i]! = Sbm.sbOf d'.toList i := by rw [Sbm.sbOf_lt (by simpa using hi2)]; simp [hi2]
    rw [e1, e2] at this
    exact of_decide_eq_false this
  · exact holds_rd (holdsK_sortWorldK_c sbC 3 w g 0 l.toArray d' n os hH hg (by simpa using hs))

/-- what Sort leaves -/
def SortedOut (l : List Sbm.Sib) (w : World) (e : Ending) (w' : World) : Prop :=
  ∃ p c m, m.Perm l ∧ Sbm.Srt m ∧ e = .returned (.slice p m.length c) ∧ Rd w' p (sbCells m) ∧ (∀ a, p = some a → w.heap.size ≤ a.block) ∧ (p = none → c = 0) ∧ Below w.heap.size w w'

set_option maxRecDepth 100000 in
set_option maxHeartbeats 2000000 in
theorem sort_sib (p : Option Addr) (cap : Nat) (l : List Sbm.Sib) (w : World) (h : Rd w p (sbCells l)) (hpn : p = none → cap = 0) (hl : l.length ≤ 5000) :
    Calls Tryz.prog 106 #[.slice p l.length cap] w (SortedOut l w) := by
  have HC := Lib.hid (sbclone_any p cap l w h hpn hl)
  clear h hpn
  go_enter Tryz.func106, Tryz.ntmps106
  go_wp2_with fail
  refine HC.out.mono ?_
  rintro e w1 ⟨p1, c1, l', rfl, rfl, ho, hb⟩
  obtain ⟨p2, c2, hv, hrd, -, -, hnil, hown⟩ := own_rd ho
  obtain ⟨rfl, rfl⟩ : p1 = p2 ∧ c1 = c2 := by cases hv; exact ⟨rfl, rfl⟩
  clear hv
  rcases Nat.eq_zero_or_pos l'.length with h0 | h0
  · have hx : l' = [] := List.eq_nil_of_length_eq_zero h0
    have HE := Lib.hid (show SortedOut l' w (.returned (.slice p1 0 c1)) w1 from ⟨p1, c1, [], by rw [hx], List.Pairwise.nil, rfl, Rd.nil _ _, fun a ha => (hown a ha).1, hnil, hb⟩)
    rw [h0]
    have HN := Lib.hid (fun W => AnyF.slices_SortFunc_none (P := Tryz.prog) (ρ := Tryz.sortSb_ren) Tryz.sortSb p1 c1 (.func (.func 128) #[] #[]) W)
    change Hid (∀ W, Calls Tryz.prog 127 _ _ _) at HN
    clear ho hb h0 hx hrd hnil hown HC
    go_wp2_with fail
    refine (HN.out _).mono ?_
    rintro e w2 ⟨rfl, rfl⟩
    go_wp2
    go_ret
    exact HE.out
  · obtain ⟨b, o, rfl, -⟩ := hrd.addr (by rw [sbCells_length]; omega)
    obtain ⟨hB, -, -, hz⟩ := hown _ rfl
    obtain rfl : o = 0 := by simpa using hz
    have HS := Lib.hid (sbsortFunc_any w.heap.size b c1 l' w1 ho hl)
    have HB := Lib.hid hb
    have HGB := Lib.hid (show w.heap.size ≤ b from hB)
    clear ho hb h0 hrd hnil hown hz HC hB
    go_wp2_with fail
    refine HS.out.mono ?_
    rintro e w2 ⟨rfl, m, hp, hs, hr, ht⟩
    have hml : m.length = l'.length := hp.length_eq
    have HE := Lib.hid (show SortedOut l' w (.returned (.slice (some ⟨b, 0, none⟩) l'.length c1)) w2 from
      ⟨some ⟨b, 0, none⟩, c1, m, hp, hs, by rw [hml], hr, fun a ha => (by cases ha; exact HGB.out), fun h => (by cases h), HB.out.trans (ht.below (fun k _ hk => by rw [hk]; exact HGB.out) HB.out.size)⟩)
    clear hp hs hr ht hml
    go_wp2
    go_ret
    exact HE.out

end Go.Proofs.YthifdefjmfakgaaGreat
