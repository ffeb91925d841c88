/-
  slices.SortFunc at stamps and stamp.Compare, over a row of the call's own (the shelf's contract, met); rows of rows; slices.Grow, slices.Concat.
  No conditions but sizes.
-/
import Derived.Test.YtilkokhapcgolaaGreatQCompact
import Derived.Test.YtilkokhapcgolaaGreatShelfS
namespace Go.Proofs.YtilkokhapcgolaaGreat
open Go.RowKit

set_option maxRecDepth 100000 in
set_option maxHeartbeats 1000000 in
theorem compare_exact (t r t' r' : Int) (w : World) :
    Calls Tryz.prog 56 #[.agg #[.int .i64 t, .int .i64 r], .agg #[.int .i64 t', .int .i64 r']] w fun e w' => e = .returned (.int .i64 (qcmpS t r t' r')) ∧ w' = (w.alloc (.cells #[.int .i64 t, .int .i64 r] 24)).alloc (.cells #[.int .i64 t', .int .i64 r'] 24) := by
  by_cases h0 : t = t'
  · subst h0
    by_cases h1 : r = r'
    · subst h1
      have HR := Lib.hid (show qcmpS t r t r = 0 from by simp [qcmpS])
      go_enter Tryz.func56, Tryz.ntmps56
      go_wp2
      go_ret
      rw [HR.out]
      exact ⟨rfl, rfl⟩
    · have e1 : ((r == r') : Bool) = false := by simpa using h1
      by_cases h2 : r < r'
      · have HR := Lib.hid (show qcmpS t r t r' = -1 from by simp [qcmpS, h1, h2])
        go_enter Tryz.func56, Tryz.ntmps56
        go_wp2
        go_ret
        rw [HR.out]
        exact ⟨rfl, rfl⟩
      · have d2 : decide (r < r') = false := decide_eq_false h2
        have HR := Lib.hid (show qcmpS t r t r' = 1 from by simp [qcmpS, h1, h2])
        go_enter Tryz.func56, Tryz.ntmps56
        go_wp2
        go_ret
        rw [HR.out]
        exact ⟨rfl, rfl⟩
  · have e1 : ((t == t') : Bool) = false := by simpa using h0
    by_cases h2 : t < t'
    · have HR := Lib.hid (show qcmpS t r t' r' = -1 from by simp [qcmpS, h0, h2])
      go_enter Tryz.func56, Tryz.ntmps56
      go_wp2
      go_ret
      rw [HR.out]
      exact ⟨rfl, rfl⟩
    · have d2 : decide (t < t') = false := decide_eq_false h2
      have HR := Lib.hid (show qcmpS t r t' r' = 1 from by simp [qcmpS, h0, h2])
      go_enter Tryz.func56, Tryz.ntmps56
      go_wp2
      go_ret
      rw [HR.out]
      exact ⟨rfl, rfl⟩

def encS (x : Qm.St) : List Value := [.int .i64 x.1, .int .i64 x.2]
theorem ltOf_cmp (x y : Qm.St) : ltOf cmpV x y = decide (Qm.ltS x y) := by
  unfold ltOf
  rcases Qm.ltS_tri x y with h | h | h
  · rw [cmpV_lt h, decide_eq_true h]; rfl
  · subst h
    rw [cmpV_eq, decide_eq_false (Qm.ltS_irrefl x)]; rfl
  · rw [cmpV_gt h, decide_eq_false (Qm.ltS_asymm h)]; rfl
theorem swo_cmp : Go.Sort.SWO (ltOf cmpV) where
  irrefl x := by rw [ltOf_cmp]; exact decide_eq_false (Qm.ltS_irrefl x)
  trans x y z h k := by rw [ltOf_cmp] at *; exact decide_eq_true (Qm.ltS_trans (of_decide_eq_true h) (of_decide_eq_true k))
  ntrans x y z h k := by rw [ltOf_cmp] at *; exact decide_eq_false (Qm.ltS_le (of_decide_eq_false k) (of_decide_eq_false h))
theorem cmp_lays (blk off size : Nat) (w : World) : CmpLays Tryz.prog 56 #[] encS 2 cmpV blk off size w := fun _ _ _ _ x y =>
  (compare_exact x.1 x.2 y.1 y.2 _).mono fun e w' ⟨he, hw⟩ => ⟨he, 0, #[.cells #[.int .i64 x.1, .int .i64 x.2] 24, .cells #[.int .i64 y.1, .int .i64 y.2] 24], by rw [hw, Go.Sort.alloc_eq_grow, Go.Sort.alloc_eq_grow, Go.Sort.grow_grow]; rfl⟩

theorem flat_cells (l : List Qm.St) (j : Nat) (h : j < l.length * 2) : (stCells l)[j]? = some (Go.Sort.flatK encS 2 l.toArray)[j]! := by
  rw [Go.Sort.get_flatK _ _ _ _ (by simpa using h)]
  obtain ⟨h0, h1⟩ := stCells_get l (j / 2) (by omega)
  have hd : l.toArray[j / 2]! = Qm.stOf l (j / 2) := by
    have : j / 2 < l.length := by omega
    simp [Qm.stOf, List.getD, this]
  rw [hd]
  rcases Nat.mod_two_eq_zero_or_one j with he | he
  · rw [he, show (encS (Qm.stOf l (j / 2)))[0]! = .int .i64 (Qm.stOf l (j / 2)).1 from rfl, ← h0, show j / 2 * 2 = j from by omega]
  · rw [he, show (encS (Qm.stOf l (j / 2)))[1]! = .int .i64 (Qm.stOf l (j / 2)).2 from rfl, ← h1, show j / 2 * 2 + 1 = j from by omega]
theorem own_holds {w : World} {B g cap : Nat} {l : List Qm.St} (h : w.ownsRow B 24 2 (.slice (some ⟨g, 0, none⟩) l.length cap) l.length (stCells l)) : Go.Sort.HoldsK encS 2 w g 0 l.toArray := fun j hj => by
  have hj2 : j < l.length * 2 := by simpa using hj
  refine ⟨?_, h.frozenAt _⟩
  rw [Nat.zero_add, h.cellAt j hj2, flat_cells l j hj2]
  rfl
theorem holds_cs {w : World} {g : Nat} {d : Array Qm.St} (h : Go.Sort.HoldsK encS 2 w g 0 d) : CS w g d.size (Qm.stOf d.toList) := fun i hi => by
  obtain ⟨a0, b0⟩ := h.cell (c := 0) hi (by decide)
  obtain ⟨a1, b1⟩ := h.cell (c := 1) hi (by decide)
  have hd : d[i]! = Qm.stOf d.toList i := by simp [Qm.stOf, List.getD, hi]
  rw [hd] at a0 a1
  simp only [Nat.zero_add, Nat.add_zero] at a0 a1 b0 b1
  exact ⟨a0, a1, b0, b1⟩
theorem sort_turns (w : World) (g n : Nat) (d : Array Qm.St) (os : Array Obj) : Turns (fun k => k = g) w (sortWorldK encS 2 w g 0 n d os) := by
  refine ⟨rfl, rfl, rfl, ?_, fun k hk hg => ?_⟩
  · show w.heap.size ≤ (_ ++ os).size
    simp [Go.Sort.putRowK, Go.Sort.putRow, Go.Sort.mapBlock, Go.Sort.ahead]
  · show (_ ++ os)[k]? = _
    rw [Array.getElem?_append_left (by simpa [Go.Sort.putRowK, Go.Sort.putRow, Go.Sort.mapBlock, Go.Sort.ahead] using hk)]
    simp only [Go.Sort.putRowK, Go.Sort.putRow, Go.Sort.mapBlock, Go.Sort.ahead, Array.getElem?_modify]
    rw [if_neg (fun e => hg e.symm)]

/-- what SortFunc leaves -/
def Sorted (g : Nat) (l : List Qm.St) (w : World) (e : Ending) (w' : World) : Prop :=
  e = .returned (.tuple #[]) ∧ ∃ m : List Qm.St, m.Perm l ∧ (∀ k, 0 < k → k < m.length → ¬ Qm.ltS (Qm.stOf m k) (Qm.stOf m (k - 1))) ∧ CS w' g m.length (Qm.stOf m) ∧ Turns (fun k => k = g) w w'

theorem sort_any (B g cap : Nat) (l : List Qm.St) (w : World) (h : w.ownsRow B 24 2 (.slice (some ⟨g, 0, none⟩) l.length cap) l.length (stCells l)) (hl : l.length ≤ 5000) :
    Calls Tryz.prog 67 #[.slice (some ⟨g, 0, none⟩) l.length cap, .func (.func 56) #[] #[]] w (Sorted g l w) := by
  have eg : ∀ args w, (callFunc 56 args).run Tryz.prog w = .ok (.enter 56 args) w := enters_of Tryz.func56 (by kernel_rfl) rfl
  have hg : g < w.heap.size := (World.ownsRow.lt h g rfl).2
  have hH := own_holds h
  have hcon := AnyQ.slices_SortFunc Tryz.sortSt 2 Tryz.isAgg24 Tryz.sizeOf24 encS (fun _ => rfl) (fun x v hv => by simp [encS] at hv; rcases hv with rfl | rfl <;> rfl) cmpV swo_cmp 56 #[] g 0 cap l.toArray w eg (cmp_lays g 0 _ w) hH hg (by simp; omega)
  change Calls Tryz.prog 67 _ _ _ at hcon
  rw [List.size_toArray] at hcon
  refine hcon.mono ?_
  rintro e w' ⟨rfl, d', n, os, ⟨hs, -, hp⟩, hsort, rfl⟩
  have hsz : d'.size = l.length := by simpa using hs
  refine ⟨rfl, d'.toList, ?_, fun k h0 hk => ?_, ?_, sort_turns w g n d' os⟩
  · have h3 : (d'.toList.take l.length).Perm l := by rw [← hsz] at hp; simpa [hsz] using hp
    rwa [List.take_of_length_le (by simp [hsz])] at h3
  · have hk2 : k < d'.size := by simpa using hk
    have := hsort (k - 1) k (Nat.zero_le _) (by omega) (by omega)
    rw [ltOf_cmp] at this
    have e1 : d'[k]! = Qm.stOf d'.toList k := by simp [Qm.stOf, List.getD, hk2]
    have e2 : d'[k - 1]! = Qm.stOf d'.toList (k - 1) := by
      have : k - 1 < d'.size := by omega
      simp [Qm.stOf, List.getD, this]
    rw [e1, e2] at this
    exact of_decide_eq_false this
  · have := holdsK_sortWorldK_c encS 2 w g 0 l.toArray d' n os hH hg (by simpa using hs)
    have h2 := holds_cs this
    simpa using h2

end Go.Proofs.YtilkokhapcgolaaGreat
