/-
  THE PROGRAM's Sort of siblings: Clone, slices.SortFunc by the shelf's contract.
  No conditions but sizes.
-/
import Derived.Test.YtilkokhapcgolaaGreatSbCmp
import Derived.Test.YtilkokhapcgolaaGreatShelfS
namespace Go.Proofs.YtilkokhapcgolaaGreat
open Go.RowKit

set_option maxRecDepth 100000 in
set_option maxHeartbeats 2000000 in
theorem sbclone_any (p : Option Addr) (cap : Nat) (l : List Sbm.Sib) (w : World) (h : Rd w p (sbCells l)) (hpn : p = none → cap = 0) (hl : l.length ≤ 5000) :
    Calls Tryz.prog 34 #[.slice p l.length cap] w (SbOut (fun m => m = l) w) := by
  obtain ⟨i0, hi, hz0, hz1, hz2⟩ := info_split info_sib
  have qT : ∀ (w : World) (a : Option Addr) (n c n' c' : Nat), (binOp .eql 47 (.slice a n c) (.slice none n' c')).run Tryz.prog w = .ok (.bool a.isNone) w := fun w a n c n' c' => Lib.run_eql_slice_nil w _ _ a n c n' c' Tryz.underlying47
  cases p with
  | none =>
    obtain rfl := rd_empty h rfl
    have HE := Lib.hid (show SbOut (fun m => m = []) w (.returned (.slice none 0 0)) w from ⟨none, 0, [], rfl, rfl, World.ownsRow_nil _ _ _ _, Below.refl _ _⟩)
    clear h hpn
    go_enter Tryz.func34, Tryz.ntmps34
    go_wp2
    go_ret
    exact HE.out
  | some a =>
    have hb : Below w.heap.size w (w.alloc (.cells #[] 54)) := (Below.refl _ _).alloc (Nat.le_refl _) _
    have HR := Lib.hid (h.below hb)
    have HB := Lib.hid hb
    have HO := Lib.hid (World.ownsRow_lit (base := w.heap.size) (e := 54) (size := 3) w #[] 0 (Nat.le_refl _) (by simp [maxLen]) (by simp))
    clear h hb hpn
    go_enter Tryz.func34, Tryz.ntmps34
    go_wp2_with (at_builtin; refine wpList_append_k rfl _ _ 47 rfl w.heap.size 54 i0 _ 3 32 Tryz.underlying47 hi hz0 hz1 (by decide) hz2 (by decide) rfl _ 0 [] rfl HO.out _ l.length cap (sbCells l) rfl (sbCells_length l) HR.out (fun e => by cases e) sbCells_one (by omega) (by simp) ?_)
    intro p' c' w1 ho1 hg1 _
    have hbw := HB.out.grown hg1 (by simp) (fun k hk => by cases hk; exact Nat.le_refl _)
    have HE := Lib.hid (show SbOut (fun m => m = l) w (.returned (.slice p' l.length c')) w1 from ⟨p', c', l, rfl, rfl, by simpa using ho1, hbw⟩)
    clear ho1 hg1 hbw
    go_wp2
    go_ret
    exact HE.out

theorem sbLtOf (x y : Sbm.Sib) : ltOf Sbm.cmpB x y = decide (Sbm.ltB x y) := by
  unfold ltOf
  exact decide_eq_decide.2 (Sbm.cmpB_lt x y)
theorem sb_swo : Go.Sort.SWO (ltOf Sbm.cmpB) where
  irrefl x := by rw [sbLtOf]; exact decide_eq_false (Sbm.ltB_irrefl x)
  trans x y z h k := by rw [sbLtOf] at *; exact decide_eq_true (Sbm.ltB_trans (of_decide_eq_true h) (of_decide_eq_true k))
  ntrans x y z h k := by rw [sbLtOf] at *; exact decide_eq_false (Sbm.ltB_le (of_decide_eq_false k) (of_decide_eq_false h))
theorem sb_lays (blk off size : Nat) (w : World) : CmpLays Tryz.prog 36 #[] sbC 3 Sbm.cmpB blk off size w := fun _ _ _ _ x y =>
  (sortFn_gr x y _).mono fun _ _ ⟨he, hw⟩ => ⟨he, hw⟩
theorem sb_flat (l : List Sbm.Sib) (j : Nat) (h : j < l.length * 3) : (sbCells l)[j]? = some (Go.Sort.flatK sbC 3 l.toArray)[j]! := by
  rw [Go.Sort.get_flatK _ _ _ _ (by simpa using h)]
  obtain ⟨h0, h1, h2⟩ := sbCells_get l (j / 3) (by omega)
  have hd : l.toArray[j / 3]! = Sbm.sbOf l (j / 3) := by
    have : j / 3 < l.length := by omega
    rw [Sbm.sbOf_lt this]
    simp [this]
  rw [hd]
  have h3 : j % 3 = 0 ∨ j % 3 = 1 ∨ j % 3 = 2 := by omega
  rcases h3 with he | he | he
  · rw [he, show (sbC (Sbm.sbOf l (j / 3)))[0]! = .string (Sbm.sbOf l (j / 3)).1 from rfl, ← h0, show j / 3 * 3 = j from by omega]
  · rw [he, show (sbC (Sbm.sbOf l (j / 3)))[1]! = .int .i64 (Sbm.sbOf l (j / 3)).2.1 from rfl, ← h1, show j / 3 * 3 + 1 = j from by omega]
  · rw [he, show (sbC (Sbm.sbOf l (j / 3)))[2]! = .int .i64 (Sbm.sbOf l (j / 3)).2.2 from rfl, ← h2, show j / 3 * 3 + 2 = j from by omega]
theorem sb_holds {w : World} {B g cap : Nat} {l : List Sbm.Sib} (h : w.ownsRow B 54 3 (.slice (some ⟨g, 0, none⟩) l.length cap) l.length (sbCells l)) : Go.Sort.HoldsK sbC 3 w g 0 l.toArray := fun j hj => by
  have hj2 : j < l.length * 3 := by simpa using hj
  refine ⟨?_, h.frozenAt _⟩
  rw [Nat.zero_add, h.cellAt j hj2, sb_flat l j hj2]
  rfl
theorem holds_rd {w : World} {g : Nat} {d : Array Sbm.Sib} (h : Go.Sort.HoldsK sbC 3 w g 0 d) : Rd w (some ⟨g, 0, none⟩) (sbCells d.toList) := fun _ =>
  ⟨g, 0, rfl, fun i u hu => by
    have hi : i < d.toList.length * 3 := by have := (List.getElem?_eq_some_iff.1 hu).1; rw [sbCells_length] at this; exact this
    have h2 := sb_flat d.toList i hi
    rw [hu] at h2
    rw [(h i (by simpa using hi)).1]
    simpa using h2.symm⟩
theorem sbsort_turns (w : World) (g n : Nat) (d : Array Sbm.Sib) (os : Array Obj) : Turns (fun k => k = g) w (sortWorldK sbC 3 w g 0 n d os) := by
  refine ⟨rfl, rfl, rfl, ?_, fun k hk hg => ?_⟩
  · show w.heap.size ≤ (_ ++ os).size
    simp [Go.Sort.putRowK, Go.Sort.putRow, Go.Sort.mapBlock, Go.Sort.ahead]
  · show (_ ++ os)[k]? = _
    rw [Array.getElem?_append_left (by simpa [Go.Sort.putRowK, Go.Sort.putRow, Go.Sort.mapBlock, Go.Sort.ahead] using hk)]
    simp only [Go.Sort.putRowK, Go.Sort.putRow, Go.Sort.mapBlock, Go.Sort.ahead, Array.getElem?_modify]
    rw [if_neg (fun e => hg e.symm)]

theorem sbsortFunc_any (B g cap : Nat) (l : List Sbm.Sib) (w : World) (h : w.ownsRow B 54 3 (.slice (some ⟨g, 0, none⟩) l.length cap) l.length (sbCells l)) (hl : l.length ≤ 5000) :
    Calls Tryz.prog 35 #[.slice (some ⟨g, 0, none⟩) l.length cap, .func (.func 36) #[] #[]] w fun e w' =>
      e = .returned (.tuple #[]) ∧ ∃ m : List Sbm.Sib, m.Perm l ∧ Sbm.Srt m ∧ Rd w' (some ⟨g, 0, none⟩) (sbCells m) ∧ Turns (fun k => k = g) w w' := by
  have eg : ∀ args w, (callFunc 36 args).run Tryz.prog w = .ok (.enter 36 args) w := enters_of Tryz.func36 (by kernel_rfl) rfl
  have hg : g < w.heap.size := (World.ownsRow.lt h g rfl).2
  have hH := sb_holds h
  have hcon := AnyQ.slices_SortFunc Tryz.sortSb 3 Tryz.isAgg54 Tryz.sizeOf54 sbC (fun _ => rfl) (fun x v hv => by simp [sbC] at hv; rcases hv with rfl | rfl | rfl <;> rfl) Sbm.cmpB sb_swo 36 #[] g 0 cap l.toArray w eg (sb_lays g 0 _ w) hH hg (by simp; omega)
  change Calls Tryz.prog 35 _ _ _ at hcon
  rw [List.size_toArray] at hcon
  refine hcon.mono ?_
  rintro e w' ⟨rfl, d', n, os, ⟨hs, -, hp⟩, hsort, rfl⟩
  have hsz : d'.size = l.length := by simpa using hs
  refine ⟨rfl, d'.toList, ?_, Sbm.srt_of fun i j hij hj => ?_, ?_, sbsort_turns w g n d' os⟩
  · have h3 : (d'.toList.take l.length).Perm l := by rw [← hsz] at hp; simpa [hsz] using hp
    rwa [List.take_of_length_le (by simp [hsz])] at h3
  · have hj2 : j < d'.size := by simpa using hj
    have := hsort i j (Nat.zero_le _) hij (by omega)
    rw [sbLtOf] at this
    have hi2 : i < d'.size := by omega
    have e1 : d'[j]! = Sbm.sbOf d'.toList j := by rw [Sbm.sbOf_lt hj]; simp [hj2]
    have e2 : d'[i]! = Sbm.sbOf d'.toList i := by rw [Sbm.sbOf_lt (by simpa using hi2)]; simp [hi2]
    rw [e1, e2] at this
    exact of_decide_eq_false this
  · exact holds_rd (holdsK_sortWorldK_c sbC 3 w g 0 l.toArray d' n os hH hg (by simpa using hs))

/-- what Sort leaves -/
def SortedOut (l : List Sbm.Sib) (w : World) (e : Ending) (w' : World) : Prop :=
  ∃ p c m, m.Perm l ∧ Sbm.Srt m ∧ e = .returned (.slice p m.length c) ∧ Rd w' p (sbCells m) ∧ (∀ a, p = some a → w.heap.size ≤ a.block) ∧ (p = none → c = 0) ∧ Below w.heap.size w w'

set_option maxRecDepth 100000 in
set_option maxHeartbeats 2000000 in
theorem sort_sib (p : Option Addr) (cap : Nat) (l : List Sbm.Sib) (w : World) (h : Rd w p (sbCells l)) (hpn : p = none → cap = 0) (hl : l.length ≤ 5000) :
    Calls Tryz.prog 15 #[.slice p l.length cap] w (SortedOut l w) := by
  have HC := Lib.hid (sbclone_any p cap l w h hpn hl)
  clear h hpn
  go_enter Tryz.func15, Tryz.ntmps15
  go_wp2_with fail
  refine HC.out.mono ?_
  rintro e w1 ⟨p1, c1, l', rfl, rfl, ho, hb⟩
  obtain ⟨p2, c2, hv, hrd, -, -, hnil, hown⟩ := own_rd ho
  obtain ⟨rfl, rfl⟩ : p1 = p2 ∧ c1 = c2 := by cases hv; exact ⟨rfl, rfl⟩
  clear hv
  rcases Nat.eq_zero_or_pos l'.length with h0 | h0
  · have hx : l' = [] := List.eq_nil_of_length_eq_zero h0
    have HE := Lib.hid (show SortedOut l' w (.returned (.slice p1 0 c1)) w1 from ⟨p1, c1, [], by rw [hx], List.Pairwise.nil, rfl, Rd.nil _ _, fun a ha => (hown a ha).1, hnil, hb⟩)
    rw [h0]
    have HN := Lib.hid (fun W => AnyF.slices_SortFunc_none (P := Tryz.prog) (ρ := Tryz.sortSb_ren) Tryz.sortSb p1 c1 (.func (.func 36) #[] #[]) W)
    change Hid (∀ W, Calls Tryz.prog 35 _ _ _) at HN
    clear ho hb h0 hx hrd hnil hown HC
    go_wp2_with fail
    refine (HN.out _).mono ?_
    rintro e w2 ⟨rfl, rfl⟩
    go_wp2
    go_ret
    exact HE.out
  · obtain ⟨b, o, rfl, -⟩ := hrd.addr (by rw [sbCells_length]; omega)
    obtain ⟨hB, -, -, hz⟩ := hown _ rfl
    obtain rfl : o = 0 := by simpa using hz
    have HS := Lib.hid (sbsortFunc_any w.heap.size b c1 l' w1 ho hl)
    have HB := Lib.hid hb
    have HGB := Lib.hid (show w.heap.size ≤ b from hB)
    clear ho hb h0 hrd hnil hown hz HC hB
    go_wp2_with fail
    refine HS.out.mono ?_
    rintro e w2 ⟨rfl, m, hp, hs, hr, ht⟩
    have hml : m.length = l'.length := hp.length_eq
    have HE := Lib.hid (show SortedOut l' w (.returned (.slice (some ⟨b, 0, none⟩) l'.length c1)) w2 from
      ⟨some ⟨b, 0, none⟩, c1, m, hp, hs, by rw [hml], hr, fun a ha => (by cases ha; exact HGB.out), fun h => (by cases h), HB.out.trans (ht.below (fun k _ hk => by rw [hk]; exact HGB.out) HB.out.size)⟩)
    clear hp hs hr ht hml
    go_wp2
    go_ret
    exact HE.out

end Go.Proofs.YtilkokhapcgolaaGreat
