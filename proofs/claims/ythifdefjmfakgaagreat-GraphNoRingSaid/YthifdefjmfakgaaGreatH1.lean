/-
  slices.Compact at stamps, over a row of the call's own.
  No conditions but sizes.
  slices.SortFunc at stamps and stamp.Compare, over a row of the call's own (the shelf's contract, met); rows of rows; slices.Grow, slices.Concat.
  No conditions but sizes.
  slices.SortedFunc over a function; the program's Nodes and Below.
  No conditions but sizes.
-/
import Derived.Test.YthifdefjmfakgaaGreatGQ
import Derived.Lib.SliceRun
import Derived.Deep.LoopGhost
import Derived.BigRegion
import Derived.Outline
import Derived.Test.YthifdefjmfakgaaGreatShelfS
import Derived.Test.YthifdefjmfakgaaGreatG2
namespace Go.Proofs.YthifdefjmfakgaaGreat
open Go.RowKit

/-- the block's first cells are these stamps, and may be written -/
def CS (w : World) (b N : Nat) (f : Nat → Qm.St) : Prop :=
  ∀ i, i < N → w.cell? ⟨b, i * 2, none⟩ = some (.int .i64 (f i).1) ∧ w.cell? ⟨b, i * 2 + 1, none⟩ = some (.int .i64 (f i).2) ∧ w.frozen? ⟨b, i * 2, none⟩ = false ∧ w.frozen? ⟨b, i * 2 + 1, none⟩ = false
theorem CS.below {w w' : World} {b N : Nat} {f : Nat → Qm.St} (h : CS w b N f) (hb : Below w.heap.size w w') : CS w' b N f := fun i hi => by
  obtain ⟨h0, h1, h2, h3⟩ := h i hi
  have hl : b < w.heap.size := cell_lt h0
  exact ⟨by rw [hb.cell (by simpa using hl)]; exact h0, by rw [hb.cell (by simpa using hl)]; exact h1, by rw [hb.frozen (by simpa using hl)]; exact h2, by rw [hb.frozen (by simpa using hl)]; exact h3⟩
theorem CS.set {w : World} {b N : Nat} {f : Nat → Qm.St} (h : CS w b N f) (k : Nat) (x : Qm.St) :
    CS ((w.setCell ⟨b, k * 2, none⟩ (.int .i64 x.1)).setCell ⟨b, k * 2 + 1, none⟩ (.int .i64 x.2)) b N (fun i => if i = k then x else f i) := fun i hi => by
  obtain ⟨h0, h1, h2, h3⟩ := h i hi
  refine ⟨?_, ?_, by simpa using h2, by simpa using h3⟩
  · rw [qcell_other (by intro e; have := (Addr.mk.inj e).2.1; omega)]
    by_cases e : i = k
    · subst e; simp only [if_true]; exact qcell_same h0
    · show _ = some (Value.int .i64 (if i = k then x else f i).1)
      rw [if_neg e, qcell_other (by intro e; have := (Addr.mk.inj e).2.1; omega)]; exact h0
  · by_cases e : i = k
    · subst e; simp only [if_true]; exact qcell_same (u := .int .i64 (f i).2) (by rw [qcell_other (by simp)]; exact h1)
    · show _ = some (Value.int .i64 (if i = k then x else f i).2)
      rw [if_neg e, qcell_other (by intro e; have := (Addr.mk.inj e).2.1; omega), qcell_other (by intro e; have := (Addr.mk.inj e).2.1; omega)]; exact h1
/-- what the second loop keeps -/
structure CInv (l : List Qm.St) (m kk : Nat) (f : Nat → Qm.St) : Prop where
  len : kk = (Qm.cp l m).length
  low : ∀ i, i < kk → f i = Qm.stOf (Qm.cp l m) i
  high : ∀ i, m ≤ i + 1 → f i = Qm.stOf l i
  lt : kk < m
  pos : 0 < m
theorem CInv.start {l : List Qm.St} {k : Nat} (h0 : 0 < k) (hk : k < l.length) (hall : ∀ j, 0 < j → j < k → Qm.stOf l j ≠ Qm.stOf l (j - 1)) (he : Qm.stOf l k = Qm.stOf l (k - 1)) : CInv l (k + 1) k (Qm.stOf l) := by
  have e : Qm.cp l (k + 1) = l.take k := by rw [Qm.cp_succ l h0, if_pos he, Qm.cp_take l k (by omega) hall]
  refine ⟨by rw [e, List.length_take]; omega, fun i hi => ?_, fun _ _ => rfl, by omega, by omega⟩
  rw [e]
  simp [Qm.stOf, List.getD, hi]
theorem CInv.skip {l : List Qm.St} {m kk : Nat} {f : Nat → Qm.St} (h : CInv l m kk f) (he : Qm.stOf l m = Qm.stOf l (m - 1)) : CInv l (m + 1) kk f := by
  have e : Qm.cp l (m + 1) = Qm.cp l m := by rw [Qm.cp_succ l h.pos, if_pos he]
  exact ⟨by rw [e]; exact h.len, fun i hi => by rw [e]; exact h.low i hi, fun i hi => h.high i (by omega), by have := h.lt; omega, by omega⟩
theorem CInv.keep {l : List Qm.St} {m kk : Nat} {f : Nat → Qm.St} (h : CInv l m kk f) (he : Qm.stOf l m ≠ Qm.stOf l (m - 1)) : CInv l (m + 1) (kk + 1) (fun i => if i = kk then Qm.stOf l m else f i) := by
  have e : Qm.cp l (m + 1) = Qm.cp l m ++ [Qm.stOf l m] := by rw [Qm.cp_succ l h.pos, if_neg he]
  have hl := h.len
  have hlt := h.lt
  refine ⟨by rw [e, List.length_append, ← hl]; rfl, fun i hi => ?_, fun i hi => ?_, by omega, by omega⟩
  · rw [e]
    by_cases hik : i = kk
    · rw [if_pos hik, hik]
      simp [Qm.stOf, List.getD, hl]
    · have hi2 : i < (Qm.cp l m).length := by omega
      rw [if_neg hik, h.low i (by omega)]
      simp [Qm.stOf, List.getD, List.getElem?_append_left hi2]
  · rw [if_neg (by omega)]; exact h.high i (by omega)

end Go.Proofs.YthifdefjmfakgaaGreat

namespace Go.Proofs.YthifdefjmfakgaaGreat
open Go.RowKit

set_option maxRecDepth 100000 in
set_option maxHeartbeats 1000000 in
theorem compare_exact (t r t' r' : Int) (w : World) :
    Calls Tryz.prog 76 #[.agg #[.int .i64 t, .int .i64 r], .agg #[.int .i64 t', .int .i64 r']] w fun e w' => e = .returned (.int .i64 (qcmpS t r t' r')) ∧ w' = (w.alloc (.cells #[.int .i64 t, .int .i64 r] 35)).alloc (.cells #[.int .i64 t', .int .i64 r'] 35) := by
  by_cases h0 : t = t'
  · subst h0
    by_cases h1 : r = r'
    · subst h1
      have HR := Lib.hid (show qcmpS t r t r = 0 from by simp [qcmpS])
      go_enter Tryz.func76, Tryz.ntmps76
      go_wp2
      go_ret
      rw [HR.out]
      exact ⟨rfl, rfl⟩
    · have e1 : ((r == r') : Bool) = false := by simpa using h1
      by_cases h2 : r < r'
      · have HR := Lib.hid (show qcmpS t r t r' = -1 from by simp [qcmpS, h1, h2])
        go_enter Tryz.func76, Tryz.ntmps76
        go_wp2
        go_ret
        rw [HR.out]
        exact ⟨rfl, rfl⟩
      · have d2 : decide (r < r') = false := decide_eq_false h2
        have HR := Lib.hid (show qcmpS t r t r' = 1 from by simp [qcmpS, h1, h2])
        go_enter Tryz.func76, Tryz.ntmps76
        go_wp2
        go_ret
        rw [HR.out]
        exact ⟨rfl, rfl⟩
  · have e1 : ((t == t') : Bool) = false := by simpa using h0
    by_cases h2 : t < t'
    · have HR := Lib.hid (show qcmpS t r t' r' = -1 from by simp [qcmpS, h0, h2])
      go_enter Tryz.func76, Tryz.ntmps76
      go_wp2
      go_ret
      rw [HR.out]
      exact ⟨rfl, rfl⟩
    · have d2 : decide (t < t') = false := decide_eq_false h2
      have HR := Lib.hid (show qcmpS t r t' r' = 1 from by simp [qcmpS, h0, h2])
      go_enter Tryz.func76, Tryz.ntmps76
      go_wp2
      go_ret
      rw [HR.out]
      exact ⟨rfl, rfl⟩

def encS (x : Qm.St) : List Value := [.int .i64 x.1, .int .i64 x.2]
theorem ltOf_cmp (x y : Qm.St) : ltOf cmpV x y = decide (Qm.ltS x y) := by
  unfold ltOf
  rcases Qm.ltS_tri x y with h | h | h
  · rw [cmpV_lt h, decide_eq_true h]; rfl
  · subst h
    rw [cmpV_eq, decide_eq_false (Qm.ltS_irrefl x)]; rfl
  · rw [cmpV_gt h, decide_eq_false (Qm.ltS_asymm h)]; rfl
theorem swo_cmp : Go.Sort.SWO (ltOf cmpV) where
  irrefl x := by rw [ltOf_cmp]; exact decide_eq_false (Qm.ltS_irrefl x)
  trans x y z h k := by rw [ltOf_cmp] at *; exact decide_eq_true (Qm.ltS_trans (of_decide_eq_true h) (of_decide_eq_true k))
  ntrans x y z h k := by rw [ltOf_cmp] at *; exact decide_eq_false (Qm.ltS_le (of_decide_eq_false k) (of_decide_eq_false h))
theorem cmp_lays (blk off size : Nat) (w : World) : CmpLays Tryz.prog 76 #[] encS 2 cmpV blk off size w := fun _ _ _ _ x y =>
  (compare_exact x.1 x.2 y.1 y.2 _).mono fun e w' ⟨he, hw⟩ => ⟨he, 0, #[.cells #[.int .i64 x.1, .int .i64 x.2] 35, .cells #[.int .i64 y.1, .int .i64 y.2] 35], by rw [hw, Go.Sort.alloc_eq_grow, Go.Sort.alloc_eq_grow, Go.Sort.grow_grow]; rfl⟩

theorem flat_cells (l : List Qm.St) (j : Nat) (h : j < l.length * 2) : (stCells l)[j]? = some (Go.Sort.flatK encS 2 l.toArray)[j]! := by
  rw [Go.Sort.get_flatK _ _ _ _ (by simpa using h)]
  obtain ⟨h0, h1⟩ := stCells_get l (j / 2) (by omega)
  have hd : l.toArray[j / 2]! = Qm.stOf l (j / 2) := by
    have : j / 2 < l.length := by omega
    simp [Qm.stOf, List.getD, this]
  rw [hd]
  rcases Nat.mod_two_eq_zero_or_one j with he | he
  · rw [he, show (encS (Qm.stOf l (j / 2)))[0]! = .int .i64 (Qm.stOf l (j / 2)).1 from rfl, ← h0, show j / 2 * 2 = j from by omega]
  · rw [he, show (encS (Qm.stOf l (j / 2)))[1]! = .int .i64 (Qm.stOf l (j / 2)).2 from rfl, ← h1, show j / 2 * 2 + 1 = j from by omega]
theorem own_holds {w : World} {B g cap : Nat} {l : List Qm.St} (h : w.ownsRow B 35 2 (.slice (some ⟨g, 0, none⟩) l.length cap) l.length (stCells l)) : Go.Sort.HoldsK encS 2 w g 0 l.toArray := fun j hj => by
  have hj2 : j < l.length * 2 := by simpa using hj
  refine ⟨?_, h.frozenAt _⟩
  rw [Nat.zero_add, h.cellAt j hj2, flat_cells l j hj2]
  rfl
theorem holds_cs {w : World} {g : Nat} {d : Array Qm.St} (h : Go.Sort.HoldsK encS 2 w g 0 d) : CS w g d.size (Qm.stOf d.toList) := fun i hi => by
  obtain ⟨a0, b0⟩ := h.cell (c := 0) hi (by decide)
  obtain ⟨a1, b1⟩ := h.cell (c := 1) hi (by decide)
  have hd : d[i]! = Qm.stOf d.toList i := by simp [Qm.stOf, List.getD, hi]
  rw [hd] at a0 a1
  simp only [Nat.zero_add, Nat.add_zero] at a0 a1 b0 b1
  exact ⟨a0, a1, b0, b1⟩
theorem sort_turns (w : World) (g n : Nat) (d : Array Qm.St) (os : Array Obj) : Turns (fun k => k = g) w (sortWorldK encS 2 w g 0 n d os) := by
  refine ⟨rfl, rfl, rfl, ?_, fun k hk hg => ?_⟩
  · show w.heap.size ≤ (_ ++ os).size
    simp [Go.Sort.putRowK, Go.Sort.putRow, Go.Sort.mapBlock, Go.Sort.ahead]
  · show (_ ++ os)[k]? = _
    rw [Array.getElem?_append_left (by simpa [Go.Sort.putRowK, Go.Sort.putRow, Go.Sort.mapBlock, Go.Sort.ahead] using hk)]
    simp only [Go.Sort.putRowK, Go.Sort.putRow, Go.Sort.mapBlock, Go.Sort.ahead, Array.getElem?_modify]
    rw [if_neg (fun e => hg e.symm)]

/-- what SortFunc leaves -/
def Sorted (g : Nat) (l : List Qm.St) (w : World) (e : Ending) (w' : World) : Prop :=
  e = .returned (.tuple #[]) ∧ ∃ m : List Qm.St, m.Perm l ∧ (∀ k, 0 < k → k < m.length → ¬ Qm.ltS (Qm.stOf m k) (Qm.stOf m (k - 1))) ∧ CS w' g m.length (Qm.stOf m) ∧ Turns (fun k => k = g) w w'

theorem sort_any (B g cap : Nat) (l : List Qm.St) (w : World) (h : w.ownsRow B 35 2 (.slice (some ⟨g, 0, none⟩) l.length cap) l.length (stCells l)) (hl : l.length ≤ 5000) :
    Calls Tryz.prog 120 #[.slice (some ⟨g, 0, none⟩) l.length cap, .func (.func 76) #[] #[]] w (Sorted g l w) := by
  have eg : ∀ args w, (callFunc 76 args).run Tryz.prog w = .ok (.enter 76 args) w := enters_of Tryz.func76 (by kernel_rfl) rfl
  have hg : g < w.heap.size := (World.ownsRow.lt h g rfl).2
  have hH := own_holds h
  have hcon := AnyQ.slices_SortFunc Tryz.sortSt 2 Tryz.isAgg35 Tryz.sizeOf35 encS (fun _ => rfl) (fun x v hv => by simp [encS] at hv; rcases hv with rfl | rfl <;> rfl) cmpV swo_cmp 76 #[] g 0 cap l.toArray w eg (cmp_lays g 0 _ w) hH hg (by simp; omega)
  change Calls Tryz.prog 120 _ _ _ at hcon
  rw [List.size_toArray] at hcon
  refine hcon.mono ?_
  rintro e w' ⟨rfl, d', n, os, ⟨hs, -, hp⟩, hsort, rfl⟩
  have hsz : d'.size = l.length := by simpa using hs
  refine ⟨rfl, d'.toList, ?_, fun k h0 hk => ?_, ?_, sort_turns w g n d' os⟩
  · have h3 : (d'.toList.take l.length).Perm l := by rw [← hsz] at hp; simpa [hsz] using hp
    rwa [List.take_of_length_le (by simp [hsz])] at h3
  · have hk2 : k < d'.size := by simpa using hk
    have := hsort (k - 1) k (Nat.zero_le _) (by omega) (by omega)
    rw [ltOf_cmp] at this
    have e1 : d'[k]! = Qm.stOf d'.toList k := by simp [Qm.stOf, List.getD, hk2]
    have e2 : d'[k - 1]! = Qm.stOf d'.toList (k - 1) := by
      have : k - 1 < d'.size := by omega
      simp [Qm.stOf, List.getD, this]
    rw [e1, e2] at this
    exact of_decide_eq_false this
  · have := holdsK_sortWorldK_c encS 2 w g 0 l.toArray d' n os hH hg (by simpa using hs)
    have h2 := holds_cs this
    simpa using h2

end Go.Proofs.YthifdefjmfakgaaGreat

namespace Go.Proofs.YthifdefjmfakgaaGreat
open Go.RowKit
open Tm (Sp Tr has put cut kids)

theorem SeqFp.imp {α : Type} {P : Program} {gf : Nat} {lb : Array Value} {enc : α → Value} {S S' Sp Sp' : List α → Prop} {F0 : Nat → Prop} {w : World} (h : SeqFp P gf lb enc S Sp F0 w) (hS : ∀ xs, S xs → S' xs) (hP : ∀ xs, Sp xs → Sp' xs) : SeqFp P gf lb enc S' Sp' F0 w :=
  fun l J Jx W Fp hW hF hJ hlt hY h0 => (h l J Jx W Fp hW hF hJ hlt (fun pre x F1 W1 hj hs => hY pre x F1 W1 hj (hP _ hs)) h0).mono fun _ _ ⟨hv, F2, ht, hg, hr⟩ =>
    ⟨hv, F2, ht, hg, hr.imp (fun ⟨xs, h1, h2⟩ => ⟨xs, hS _ h1, h2⟩) fun ⟨pre, h1, h2⟩ => ⟨pre, hP _ h1, h2⟩⟩
theorem own_addr2 {w : World} {B : Nat} {E : TypeId} {k : Nat} {p : Option Addr} {n c : Nat} {xs : List Value} (h : w.ownsRow B E k (.slice p n c) n xs) : p = none ∨ ∃ g, p = some ⟨g, 0, none⟩ := by
  rcases h.2 with ⟨h2, -⟩ | ⟨g, cap, cur, hv, -⟩
  · cases h2; exact Or.inl rfl
  · cases hv; exact Or.inr ⟨g, rfl⟩
theorem cs_rd {w : World} {g : Nat} {m : List Qm.St} (h : CS w g m.length (Qm.stOf m)) : Rd w (some ⟨g, 0, none⟩) (stCells m) := fun _ =>
  ⟨g, 0, rfl, fun i u hu => by
    have hi : i < m.length * 2 := by have := (List.getElem?_eq_some_iff.1 hu).1; rw [stCells_length] at this; exact this
    obtain ⟨h0, h1, -, -⟩ := h (i / 2) (by omega)
    obtain ⟨g0, g1⟩ := stCells_get m (i / 2) (by omega)
    rw [Nat.zero_add]
    rcases Nat.mod_two_eq_zero_or_one i with he | he
    · rw [show i / 2 * 2 = i from by omega] at h0 g0
      rw [hu] at g0
      rw [h0]; exact g0.symm
    · rw [show i / 2 * 2 + 1 = i from by omega] at h1 g1
      rw [hu] at g1
      rw [h1]; exact g1.symm⟩
/-- a row of stamps, in new memory -/
def NodesOut (S : List Qm.St → Prop) (w : World) (e : Ending) (w' : World) : Prop :=
  ∃ p c m, S m ∧ e = .returned (.slice p m.length c) ∧ Rd w' p (stCells m) ∧ ((∀ a, p = some a → w.heap.size ≤ a.block) ∧ (p = none → c = 0)) ∧ Below w.heap.size w w'

set_option maxRecDepth 100000 in
set_option maxHeartbeats 2000000 in
theorem sortedFunc_any {gf : Nat} {lb : Array Value} {K : List Qm.St} {Sp : List Qm.St → Prop} (w : World) (eg : ∀ args w, (callFunc gf args).run Tryz.prog w = .ok (.enter gf args) w) (hseq : SeqFp Tryz.prog gf lb snV (fun xs => xs.Perm K) Sp (fun k => w.heap.size ≤ k) w) (hlen : ∀ pre, Sp pre → pre.length ≤ 1000000) (hK : K.length ≤ 5000) :
    Calls Tryz.prog 94 #[.func (.func gf) #[] lb, .func (.func 76) #[] #[]] w (NodesOut (fun m => m.Perm K) w) := by
  have HC := Lib.hid (collect_any w eg hseq hlen)
  clear eg hseq hlen
  go_enter Tryz.func94, Tryz.ntmps94
  go_wp2_with fail
  refine HC.out.mono ?_
  rintro e w1 ⟨v, xs, hp, rfl, ho, hb⟩
  have hxl : xs.length = K.length := hp.length_eq
  obtain ⟨p1, c1, rfl, hrd, hcap, -, hnil, -⟩ := own_rd ho
  by_cases h0 : xs.length = 0
  · have hx : xs = [] := List.eq_nil_of_length_eq_zero h0
    have HE := Lib.hid (show NodesOut (fun m => m.Perm K) w (.returned (.slice p1 0 c1)) w1 from ⟨p1, c1, [], by rw [← hx]; exact hp, rfl, Rd.nil _ _, ⟨fun a ha => (World.ownsRow.lt ho a.block (by rw [ha]; rfl)).1, hnil⟩, hb⟩)
    rw [h0]
    have HN := Lib.hid (fun W => AnyF.slices_SortFunc_none (P := Tryz.prog) (ρ := Tryz.sortSt_ren) Tryz.sortSt p1 c1 (.func (.func 76) #[] #[]) W)
    change Hid (∀ W, Calls Tryz.prog 120 _ _ _) at HN
    clear ho hb h0 hp hrd hcap HC hxl hnil
    go_wp2_with fail
    refine (HN.out _).mono ?_
    rintro e w2 ⟨rfl, rfl⟩
    go_wp2
    go_ret
    exact HE.out
  · obtain ⟨g, rfl⟩ : ∃ g, p1 = some ⟨g, 0, none⟩ := by
      rcases own_addr2 ho with rfl | h
      · rcases ho.2 with ⟨-, h⟩ | ⟨g, cap, cur, hv, -⟩
        · exact absurd h h0
        · cases hv
      · exact h
    have HS := Lib.hid (sort_any w.heap.size g c1 xs w1 ho (by omega))
    have HGB := Lib.hid (show w.heap.size ≤ g from (World.ownsRow.lt ho g rfl).1)
    have HB := Lib.hid hb
    have HP := Lib.hid hp
    clear ho hb h0 hp hrd hcap HC hxl hnil
    go_wp2_with fail
    refine HS.out.mono ?_
    rintro e w2 ⟨rfl, m, hp, hs, hcs, ht⟩
    have hml : m.length = xs.length := hp.length_eq
    have HE := Lib.hid (show NodesOut (fun m => m.Perm K) w (.returned (.slice (some ⟨g, 0, none⟩) xs.length c1)) w2 from
      ⟨some ⟨g, 0, none⟩, c1, m, hp.trans HP.out, by rw [hml], cs_rd hcs, ⟨fun a ha => (by cases ha; exact HGB.out), fun h => (by cases h)⟩, HB.out.trans (ht.below (fun k _ hk => by rw [hk]; exact HGB.out) HB.out.size)⟩)
    clear hp hs hcs ht hml
    go_wp2
    go_ret
    exact HE.out

set_option maxRecDepth 100000 in
set_option maxHeartbeats 2000000 in
theorem nodes_any {P M1 M2 : Nat} {T : Tr} {C : List Kid} {F : Nat → Prop} (w : World) (h : Lay w P M1 M2 T C F) (hT : T.length ≤ 5000) :
    Calls Tryz.prog 51 #[.pointer (some ⟨P, 0, none⟩)] w (NodesOut (fun m => m.Perm (T.map Prod.fst)) w) := by
  have HL := Lib.hid h
  have hk : (spots T).map Prod.fst = T.map Prod.fst := by unfold spots; rw [List.map_map]; rfl
  have HSO := Lib.hid (fun W (hL : Lay W P M1 M2 T C F) (w1 : World) (hu : AgAt w1 W.heap.size #[.map (some M1)]) (hb : Below W.heap.size W w1) => sortedFunc_any (gf := 121) (lb := #[.pointer (some ⟨W.heap.size, 0, none⟩)]) (K := T.map Prod.fst) w1
    (enters_of Tryz.func121 (by kernel_rfl) rfl) ((keysA1_seq (F0 := fun k => w1.heap.size ≤ k) w1 hu (hL.spots.below hb) (fun h => by have h1 := hL.spots.lt; have h2 := hb.size; have : w1.heap.size ≤ M1 := h; omega)).imp (fun xs hx => by rw [hk] at hx; exact hx) (fun _ h => h))
    (fun pre ⟨rest, hr⟩ => by have := hr.length_eq; rw [List.length_append, hk, List.length_map] at this; omega) (by rw [List.length_map]; exact hT))
  clear h hk hT
  go_enter Tryz.func51, Tryz.ntmps51
  go_wp2_with fail
  refine (ours_any _ HL.out).mono ?_
  rintro e w1 ⟨rfl, rfl⟩
  have y0 := HL.out.cell0
  go_wp2_with fail
  refine (keysA_any (some M1) w).mono ?_
  rintro e w1 ⟨rfl, hu, hb⟩
  have HS := Lib.hid (HSO.out w HL.out w1 hu hb)
  have HB := Lib.hid hb
  clear hu hb HSO HL y0
  go_wp2_with fail
  refine HS.out.mono ?_
  rintro e w2 ⟨p, c, m, h1, rfl, h2, h3, h4⟩
  have HE := Lib.hid (show NodesOut (fun m => m.Perm (T.map Prod.fst)) w (.returned (.slice p m.length c)) w2 from ⟨p, c, m, h1, rfl, h2, ⟨fun a ha => Nat.le_trans HB.out.size (h3.1 a ha), h3.2⟩, HB.out.trans (h4.mono HB.out.size)⟩)
  clear h1 h2 h3 h4
  go_wp2
  go_ret
  exact HE.out

set_option maxRecDepth 100000 in
set_option maxHeartbeats 4000000 in
theorem below_any {P M1 M2 : Nat} {T : Tr} {C : List Kid} {F : Nat → Prop} (p : Qm.St) (w : World) (h : Lay w P M1 M2 T C F) (hp : StWf p) (hT : T.length ≤ 5000) :
    Calls Tryz.prog 105 #[.pointer (some ⟨P, 0, none⟩), snV p] w (NodesOut (fun m => m.Perm (kids T p)) w) := by
  have hb := (Below.refl w.heap.size w).alloc (Nat.le_refl _) (.cells #[.int .i64 p.1, .int .i64 p.2] 35)
  have HN := Lib.hid (AgAt.new w #[.int .i64 p.1, .int .i64 p.2] 35)
  have HL := Lib.hid (h.kept hb)
  have HB := Lib.hid hb
  have HWN := Lib.hid hp
  obtain ⟨ko, hko⟩ : ∃ k, k = kidOf C p := ⟨_, rfl⟩
  have HKO := Lib.hid hko
  have hkl : (kids T p).length ≤ 5000 := by
    unfold kids
    rw [List.length_map]
    exact Nat.le_trans (List.length_filter_le _ _) hT
  have HLT := Lib.hid (fun k hk => h.lt k hk)
  have HSO := Lib.hid (fun (w1 : World) (hL : Lay w1 P M1 M2 T C F) {b0 : Nat} (hu : AgAt w1 b0 #[.map ko]) => show Calls Tryz.prog 94 #[.func (.func 125) #[] #[.pointer (some ⟨b0, 0, none⟩)], .func (.func 76) #[] #[]] w1 (NodesOut (fun m => m.Perm (kids T p)) w1) from by
    refine sortedFunc_any (gf := 125) (lb := #[.pointer (some ⟨b0, 0, none⟩)]) (K := kids T p) (Sp := fun pre => ∃ rest, (pre ++ rest).Perm (kids T p)) w1 (enters_of Tryz.func125 (by kernel_rfl) rfl) ?_ (fun pre ⟨rest, hr⟩ => by have := hr.length_eq; rw [List.length_append] at this; omega) hkl
    cases ko with
    | none =>
      have hk := hL.kidNone hko.symm
      exact (keysB1_nil w1 hu).imp (fun xs hx => by rw [hx, hk]) (fun _ h => h.elim)
    | some kb =>
      obtain ⟨c, -, -, -, hm, -, hperm⟩ := hL.kidSome hko.symm
      have hn : (nodesOf c.l).map Prod.fst = c.l := by unfold nodesOf; rw [List.map_map, show (Prod.fst ∘ fun n : Qm.St => (n, Value.agg #[])) = id from rfl, List.map_id]
      refine (keysB1_seq (F0 := fun k => w1.heap.size ≤ k) w1 hu hm (fun h => by have := hm.lt; have : w1.heap.size ≤ kb := h; omega)).imp (fun xs hx => ?_) (fun pre ⟨rest, hr⟩ => ⟨rest, ?_⟩)
      · rw [hn] at hx; exact hx.trans hperm
      · rw [hn] at hr; exact hr.trans hperm)
  clear h hb hp hko hT hkl
  go_enter Tryz.func105, Tryz.ntmps105
  go_wp2_with fail
  refine (ours_any _ HL.out).mono ?_
  rintro e w1 ⟨rfl, rfl⟩
  go_upto_region 3 with fail
  generalize w.alloc (.cells #[.int .i64 p.1, .int .i64 p.2] 35) = w1 at *
  have hbd := Below.drew (Below.refl w1.heap.size w1)
  replace HL := Lib.hid (HL.out.kept hbd)
  replace HN := Lib.hid (AgAt.kept HN.out hbd)
  replace HB := Lib.hid (HB.out.trans (hbd.mono HB.out.size))
  refine wp_region_held_drew (S := fun W => Below w1.drew.heap.size w1.drew W) (by kernel_rfl) (Below.refl _ _) (fun hS => ?_)
  clear hbd
  generalize w1.drew = wd at *
  refine wpAnyH_take (i := 0) (v := ?_) rfl (by kernel_rfl) (by kernel_rfl) (by kernel_rfl) (fun _ _ _ h => h) (Or.inl ⟨by kernel_rfl, ?_⟩) hS ?_
  rotate_left
  · intro W hSW
    go_simp
    all_goals with_reducible rfl
  refine wpAnyH_take (i := 1) (v := ?_) rfl (by kernel_rfl) (by kernel_rfl) (by kernel_rfl) (fun _ _ _ h => h) (Or.inl ⟨by kernel_rfl, ?_⟩) hS ?_
  rotate_left
  · intro W hSW
    go_simp
    all_goals with_reducible rfl
  refine wpAnyH_take (i := 2) (v := ?_) rfl (by kernel_rfl) (by kernel_rfl) (by kernel_rfl) (fun _ _ _ h => h) (Or.inl ⟨by kernel_rfl, ?_⟩) hS ?_
  rotate_left
  · intro W hSW
    go_simp
    all_goals with_reducible rfl
  refine wpAnyH_take (i := 3) (v := ?_) rfl (by kernel_rfl) (by kernel_rfl) (by kernel_rfl) (fun _ _ _ h => h) (Or.inl ⟨by kernel_rfl, ?_⟩) hS ?_
  rotate_left
  · intro W hSW
    have y1 := (HL.out.kept hSW).cell1
    go_simp
    all_goals with_reducible rfl
  go_simp
  refine wpAnyH_take (i := 4) (v := snV p) rfl (by kernel_rfl) (by kernel_rfl) (by kernel_rfl) (fun _ _ _ h => h) (Or.inl ⟨by kernel_rfl, fun W hSW => exec_load_ag stT rfl rfl rfl (AgAt.kept HN.out hSW)⟩) hS ?_
  go_simp
  refine wpAnyH_take (i := 5) (v := .map ko) rfl (by kernel_rfl) (by kernel_rfl) (by kernel_rfl) (fun _ _ _ h => h) (Or.inl ⟨by kernel_rfl, fun W hSW => exec_lookup rfl rfl rfl (by rw [HKO.out]; exact (HL.out.kept hSW).lookB _ HWN.out)⟩) hS ?_
  go_simp
  refine wpAnyH_ready (rs := [6]) (by kernel_rfl) (by simp) ?_
  refine AllReadyH.cons rfl (fun K hK => ?_) AllReadyH.nil
  go_simp
  go_wp2_with ((go_at_call 104; refine (keysB_any ko _).mono ?_; rintro e wn ⟨rfl, hun, hbn⟩))
  have HU := Lib.hid hun
  have HBN := Lib.hid hbn
  replace HL := Lib.hid (HL.out.kept hbn)
  replace HB := Lib.hid (HB.out.trans (hbn.mono HB.out.size))
  have HWN2 := Lib.hid (show wd.heap.size < wn.heap.size from AgAt.lt hun)
  refine hK.out _ _ (hS.trans (hbn.mono hS.size)) (fun hS => ?_)
  clear hK K hbn hun
  refine wpAnyH_ready (rs := [7]) (by kernel_rfl) (by simp) ?_
  refine AllReadyH.cons rfl (fun K hK => ?_) AllReadyH.nil
  go_simp
  go_wp2_with ((go_at_call 94; refine (HSO.out wn HL.out HU.out).mono ?_; rintro e w5 ⟨p5, c5, m5, h5, rfl, h6, h7, h8⟩))
  have HO := Lib.hid (show NodesOut (fun xs => xs.Perm (kids T p)) w (.returned (.slice p5 m5.length c5)) w5 from ⟨p5, c5, m5, h5, rfl, h6, ⟨fun a ha => Nat.le_trans HB.out.size (h7.1 a ha), h7.2⟩, HB.out.trans (h8.mono HB.out.size)⟩)
  have HB8 := Lib.hid h8
  refine hK.out _ _ (hS.trans (h8.mono hS.size)) (fun hS => ?_)
  clear hK K h5 h6 h7 h8
  refine wpAnyH_take (i := 8) (v := ?_) rfl (by kernel_rfl) (by kernel_rfl) (by kernel_rfl) (fun _ _ _ h => h) (Or.inl ⟨by kernel_rfl, ?_⟩) hS ?_
  rotate_left
  · intro W hSW
    go_simp
    all_goals with_reducible rfl
  go_simp
  refine wpAnyH_done (by kernel_rfl) ?_ _
  go_simp
  clear hS
  go_wp2
  go_ret
  exact HO.out
end Go.Proofs.YthifdefjmfakgaaGreat
