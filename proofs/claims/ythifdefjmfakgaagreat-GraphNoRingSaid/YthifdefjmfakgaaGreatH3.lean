/-
  THE DOCUMENT's TREE, PLAINLY: rows by rising nodes, which tell what the program's tree tells.
  No conditions.
  THE PROGRAM's Row: of a tree, of none.
  No conditions but sizes.
  A GRAPH's LOOKS that answer rows: Nodes, Above, Row.
  No conditions but sizes.
-/
import Derived.Test.YthifdefjmfakgaaGreatGT
import Derived.Test.YthifdefjmfakgaaGreatGK
import Derived.Test.YthifdefjmfakgaaGreatH2
import Derived.Test.YthifdefjmfakgaaGreatH1
import Derived.Test.YthifdefjmfakgaaGreatTMove
import Derived.Test.YthifdefjmfakgaaGreatGrAsk
namespace Go.Proofs.YthifdefjmfakgaaGreat.Rtm
open Tm

/-- by rising nodes -/
def Ris (R : Tr) : Prop := R.Pairwise fun a b => Qm.ltS a.1 b.1
theorem Ris.nd {R : Tr} (h : Ris R) : (R.map Prod.fst).Nodup := by
  unfold List.Nodup
  rw [List.pairwise_map]
  exact List.Pairwise.imp (fun {a b} hlt e => by rw [e] at hlt; exact Qm.ltS_irrefl _ hlt) h
/-- what find tells -/
structure Found (R : Tr) (n : Qm.St) (i : Nat) (b : Bool) : Prop where
  le : i ≤ R.length
  low : ∀ j e, j < i → R[j]? = some e → Qm.ltS e.1 n
  yes : b = true → ∃ s, R[i]? = some (n, s)
  no : b = false → ∀ e, R[i]? = some e → Qm.ltS n e.1
theorem Found.high {R : Tr} {n : Qm.St} {i : Nat} (h : Found R n i false) (hr : Ris R) : ∀ j e, i ≤ j → R[j]? = some e → Qm.ltS n e.1 := fun j e hj he => by
  have hjl : j < R.length := (List.getElem?_eq_some_iff.1 he).1
  have hil : i < R.length := by omega
  have h1 := h.no rfl R[i] (List.getElem?_eq_getElem hil)
  by_cases e2 : i = j
  · subst e2; exact h.no rfl e he
  · have h2 := List.pairwise_iff_getElem.1 hr i j hil hjl (by omega)
    rw [(List.getElem?_eq_some_iff.1 he).2] at h2
    exact Qm.ltS_trans h1 h2
theorem Found.look {R : Tr} {n : Qm.St} {i : Nat} {b : Bool} (h : Found R n i b) (hr : Ris R) : (Tm.look R n).isSome = b ∧ (b = true → ∃ s, R[i]? = some (n, s) ∧ Tm.look R n = some s) := by
  cases b with
  | true =>
    obtain ⟨s, hs⟩ := h.yes rfl
    have := look_some hr.nd (List.mem_of_getElem? hs)
    exact ⟨by rw [this]; rfl, fun _ => ⟨s, hs, this⟩⟩
  | false =>
    have : Tm.look R n = none := look_none.2 fun e he heq => by
      obtain ⟨j, hj, rfl⟩ := List.getElem_of_mem he
      by_cases hji : j < i
      · have := h.low j _ hji (List.getElem?_eq_getElem hj)
        rw [heq] at this
        exact Qm.ltS_irrefl _ this
      · have := h.high hr j _ (by omega) (List.getElem?_eq_getElem hj)
        rw [heq] at this
        exact Qm.ltS_irrefl _ this
    exact ⟨by rw [this]; rfl, fun h => by cases h⟩

/-- a row more; a row set -/
def ins (R : Tr) (i : Nat) (n : Qm.St) (s : Sp) : Tr := (R.take i ++ [(n, s)]) ++ R.drop i
theorem ins_eq (R : Tr) (i : Nat) (n : Qm.St) (s : Sp) : ins R i n s = R.take i ++ (n, s) :: R.drop i := by
  unfold ins
  rw [List.append_assoc]
  rfl
theorem ins_ris {R : Tr} {n : Qm.St} {i : Nat} (h : Found R n i false) (hr : Ris R) (s : Sp) : Ris (ins R i n s) := by
  unfold Ris
  rw [ins_eq]
  refine List.pairwise_append.2 ⟨List.Pairwise.sublist (List.take_sublist i R) hr, ?_, fun x hx y hy => ?_⟩
  · refine List.pairwise_cons.2 ⟨fun y hy => ?_, List.Pairwise.sublist (List.drop_sublist i R) hr⟩
    obtain ⟨j, hj, rfl⟩ := List.getElem_of_mem hy
    rw [List.getElem_drop]
    exact h.high hr (i + j) _ (by omega) (List.getElem?_eq_getElem _)
  · have hx2 : Qm.ltS x.1 n := by
      obtain ⟨j, hj, rfl⟩ := List.getElem_of_mem hx
      rw [List.getElem_take]
      rw [List.length_take] at hj
      exact h.low j _ (by omega) (List.getElem?_eq_getElem _)
    rcases List.mem_cons.1 hy with rfl | hy
    · exact hx2
    · obtain ⟨j, hj, rfl⟩ := List.getElem_of_mem hy
      rw [List.getElem_drop]
      exact Qm.ltS_trans hx2 (h.high hr (i + j) _ (by omega) (List.getElem?_eq_getElem _))
theorem ins_perm (R : Tr) (i : Nat) (n : Qm.St) (s : Sp) : (ins R i n s).Perm (put R n s) := by
  unfold put
  rw [ins_eq]
  refine (List.perm_middle (l₁ := R.take i)).trans ?_
  refine List.Perm.trans ?_ (List.perm_append_comm (l₁ := [(n, s)]) (l₂ := R))
  rw [List.take_append_drop]
  exact List.Perm.refl _
theorem set_split {R : Tr} {i : Nat} {n : Qm.St} {was s : Sp} (h : R[i]? = some (n, was)) : R = R.take i ++ (n, was) :: R.drop (i + 1) ∧ R.set i (n, s) = R.take i ++ (n, s) :: R.drop (i + 1) := by
  obtain ⟨hi, he⟩ := List.getElem?_eq_some_iff.1 h
  constructor
  · conv => lhs; rw [← List.take_append_drop i R]
    rw [List.drop_eq_getElem_cons hi, he]
  · rw [List.set_eq_take_append_cons_drop, if_pos hi]
theorem set_ris {R : Tr} {i : Nat} {n : Qm.St} {was s : Sp} (h : R[i]? = some (n, was)) (hr : Ris R) : Ris (R.set i (n, s)) := by
  obtain ⟨h1, h2⟩ := set_split (s := s) h
  unfold Ris at *
  rw [h2]
  rw [h1] at hr
  obtain ⟨a, b, c⟩ := List.pairwise_append.1 hr
  obtain ⟨b1, b2⟩ := List.pairwise_cons.1 b
  refine List.pairwise_append.2 ⟨a, List.pairwise_cons.2 ⟨fun y hy => b1 y hy, b2⟩, fun x hx y hy => ?_⟩
  rcases List.mem_cons.1 hy with rfl | hy
  · exact c x hx (n, was) (List.mem_cons_self ..)
  · exact c x hx y (List.mem_cons_of_mem _ hy)
theorem set_perm {R : Tr} {i : Nat} {n : Qm.St} {was s : Sp} (h : R[i]? = some (n, was)) (hr : Ris R) : (R.set i (n, s)).Perm (put (cut R n) n s) := by
  obtain ⟨h1, h2⟩ := set_split (s := s) h
  have hc : cut R n = R.take i ++ R.drop (i + 1) := by
    have hne : ∀ e ∈ R.take i ++ R.drop (i + 1), e.1 ≠ n := by
      unfold Ris at hr
      rw [h1] at hr
      obtain ⟨-, b, c⟩ := List.pairwise_append.1 hr
      obtain ⟨b1, -⟩ := List.pairwise_cons.1 b
      intro e he heq
      rcases List.mem_append.1 he with he | he
      · have := c e he _ (List.mem_cons_self ..)
        rw [heq] at this
        exact Qm.ltS_irrefl _ this
      · have := b1 e he
        rw [heq] at this
        exact Qm.ltS_irrefl _ this
    conv => lhs; rw [h1]
    rw [show R.take i ++ (n, was) :: R.drop (i + 1) = R.take i ++ ([(n, was)] ++ R.drop (i + 1)) from rfl, cut_append, cut_append]
    have e1 : cut [(n, was)] n = [] := by simp [cut]
    have e2 : cut (R.take i) n = R.take i := cut_none (look_none.2 fun e he => hne e (List.mem_append_left _ he))
    have e3 : cut (R.drop (i + 1)) n = R.drop (i + 1) := cut_none (look_none.2 fun e he => hne e (List.mem_append_right _ he))
    rw [e1, e2, e3, List.nil_append]
  rw [h2, hc]
  unfold put
  refine (List.perm_middle (l₁ := R.take i)).trans ?_
  exact List.perm_append_comm (l₁ := [(n, s)])

/-- the two trees tell the same -/
structure Twin (R T : Tr) : Prop where
  perm : R.Perm T
  ris : Ris R
theorem Twin.nil : Twin [] [] := ⟨List.Perm.nil, List.Pairwise.nil⟩
theorem Twin.nd {R T : Tr} (h : Twin R T) : (T.map Prod.fst).Nodup := (h.perm.map Prod.fst).nodup_iff.1 h.ris.nd
theorem Twin.look {R T : Tr} (h : Twin R T) (n : Qm.St) : Tm.look R n = Tm.look T n := by
  cases hl : Tm.look T n with
  | none => exact look_none.2 fun e he => look_none.1 hl e (h.perm.mem_iff.1 he)
  | some s => exact look_some h.ris.nd (h.perm.mem_iff.2 (look_mem hl))
theorem Twin.len {R T : Tr} (h : Twin R T) : R.length = T.length := h.perm.length_eq
theorem Twin.has {R T : Tr} (h : Twin R T) (p : Qm.St) : Tm.has R p = Tm.has T p := by unfold Tm.has; rw [h.look]
theorem Twin.climb {R T : Tr} (h : Twin R T) : ∀ (g : Nat) (n : Qm.St), Tm.climb g R n = Tm.climb g T n
  | 0, _ => rfl
  | g + 1, n => by
    rw [Tm.climb, Tm.climb, h.look]
    cases Tm.look T n with
    | none => rfl
    | some s => simp only; rw [h.climb g]
theorem Twin.chain {R T : Tr} (h : Twin R T) (n : Qm.St) : Tm.chain R n = Tm.chain T n := by unfold Tm.chain; rw [h.len, h.climb]
theorem Twin.within {R T : Tr} (h : Twin R T) (p n : Qm.St) : Tm.within R p n = Tm.within T p n := by unfold Tm.within; rw [h.look, h.chain]
theorem Twin.up {R T : Tr} (h : Twin R T) {n : Qm.St} {l : List Qm.St} (hu : Up T n l) : Up R n l := up_same hu fun x _ => h.look x
theorem cut_perm {R T : Tr} (h : R.Perm T) (n : Qm.St) : (cut R n).Perm (cut T n) := h.filter _
theorem put_perm {R T : Tr} (h : R.Perm T) (n : Qm.St) (s : Sp) : (put R n s).Perm (put T n s) := List.Perm.append_right _ h

/-- what the document's Add and Move make of the rows -/
def addR (R : Tr) (i : Nat) (n : Qm.St) (s : Sp) : Tr := if (addT R n s).2 = 0 then ins R i n s else R
def movR (R : Tr) (i : Nat) (n : Qm.St) (s : Sp) : Tr := if (moveT R n s).2.2 = 0 then R.set i (n, s) else R
theorem Twin.addT {R T : Tr} (h : Twin R T) (n : Qm.St) (s : Sp) : (Tm.addT R n s).2 = (Tm.addT T n s).2 := by
  unfold Tm.addT
  rw [h.look, h.has, h.len]
  repeat' split
  all_goals rfl
theorem Twin.moveT {R T : Tr} (h : Twin R T) (n : Qm.St) (s : Sp) : (Tm.moveT R n s).2.2 = (Tm.moveT T n s).2.2 := by
  unfold Tm.moveT
  rw [h.look, h.has, h.within]
  split
  · rfl
  · cases Tm.look T n with
    | none => rfl
    | some was =>
      dsimp only
      repeat' split
      all_goals rfl
theorem addT_zero {T : Tr} {n : Qm.St} {s : Sp} : ((Tm.addT T n s).2 = 0 → (Tm.addT T n s).1 = put T n s) ∧ ((Tm.addT T n s).2 ≠ 0 → (Tm.addT T n s).1 = T) := by
  unfold Tm.addT
  repeat' split
  all_goals simp
theorem moveT_zero {T : Tr} {n : Qm.St} {s : Sp} : ((Tm.moveT T n s).2.2 = 0 → (Tm.moveT T n s).1 = put (cut T n) n s ∧ (Tm.look T n).isSome = true) ∧ ((Tm.moveT T n s).2.2 ≠ 0 → (Tm.moveT T n s).1 = T) := by
  unfold Tm.moveT
  split
  · simp
  · cases hl : Tm.look T n with
    | none => simp
    | some was =>
      dsimp only
      repeat' split
      all_goals simp
theorem Twin.add {R T : Tr} (h : Twin R T) {n : Qm.St} {i : Nat} {b : Bool} (hf : Found R n i b) (s : Sp) : Twin (addR R i n s) (Tm.addT T n s).1 := by
  unfold addR
  by_cases h0 : (Tm.addT R n s).2 = 0
  · rw [if_pos h0]
    have h1 : (Tm.addT T n s).2 = 0 := by rw [← h.addT]; exact h0
    rw [addT_zero.1 h1]
    have hb : b = false := by
      cases b with
      | false => rfl
      | true =>
        have hl := (hf.look h.ris).1
        unfold Tm.addT at h0
        by_cases hk : (okN n && rightSp s) = false
        · rw [if_pos hk] at h0; simp at h0
        · rw [if_neg hk, if_pos hl] at h0; simp at h0
    subst hb
    exact ⟨(ins_perm R i n s).trans (put_perm h.perm n s), ins_ris hf h.ris s⟩
  · rw [if_neg h0]
    have h1 : (Tm.addT T n s).2 ≠ 0 := by rw [← h.addT]; exact h0
    rw [addT_zero.2 h1]
    exact h
theorem Twin.move {R T : Tr} (h : Twin R T) {n : Qm.St} {i : Nat} {b : Bool} (hf : Found R n i b) (s : Sp) : Twin (movR R i n s) (Tm.moveT T n s).1 := by
  unfold movR
  by_cases h0 : (Tm.moveT R n s).2.2 = 0
  · rw [if_pos h0]
    have h1 : (Tm.moveT T n s).2.2 = 0 := by rw [← h.moveT]; exact h0
    obtain ⟨-, h3⟩ := moveT_zero.1 h0
    rw [(moveT_zero.1 h1).1]
    obtain ⟨h4, h5⟩ := hf.look h.ris
    obtain ⟨was, hw, -⟩ := h5 (by rw [← h4]; exact h3)
    exact ⟨(set_perm hw h.ris).trans (put_perm (cut_perm h.perm n) n s), set_ris hw h.ris⟩
  · rw [if_neg h0]
    have h1 : (Tm.moveT T n s).2.2 ≠ 0 := by rw [← h.moveT]; exact h0
    rw [moveT_zero.2 h1]
    exact h

/-- the siblings below a place, in the rows' order -/
def sibs (R : Tr) (p : Qm.St) : List Sbm.Sib := (R.filter fun e => e.2.1 == p).map fun e => (e.2.2, e.1)
theorem sibs_len (R : Tr) (p : Qm.St) : (sibs R p).length ≤ R.length := by
  unfold sibs
  rw [List.length_map]
  exact List.length_filter_le _ _
/-- out of the nodes below, each at its spot -/
theorem sibs_kids {T : Tr} (nd : (T.map Prod.fst).Nodup) (p : Qm.St) {m : List Qm.St} (hp : m.Perm (kids T p)) (key : Qm.St → ByteArray) (hk : ∀ n s, Tm.look T n = some s → key n = s.2) : (m.map fun n => (key n, n)).Perm (sibs T p) := by
  refine (hp.map _).trans (List.Perm.of_eq ?_)
  unfold kids sibs
  rw [List.map_map]
  refine List.map_congr_left fun e he => ?_
  have he2 := (List.mem_filter.1 he).1
  show (key e.1, e.1) = (e.2.2, e.1)
  rw [hk e.1 e.2 (look_some nd he2)]
end Go.Proofs.YthifdefjmfakgaaGreat.Rtm

namespace Go.Proofs.YthifdefjmfakgaaGreat
open Go.RowKit
open Tm (Sp Tr kids)

/-- the siblings of a row of nodes -/
theorem Rd.stW {w : World} {b o : Nat} {l : List Qm.St} (h : Rd w (some ⟨b, o, none⟩) (stCells l)) (i : Nat) (hi : i < l.length) : w.rangeAt b (o + i * 2) [.int .i64 (Qm.stOf l i).1, .int .i64 (Qm.stOf l i).2] := by
  intro j v hv
  obtain ⟨h0, h1⟩ := stCells_get l i hi
  rw [Nat.add_assoc]
  match j, hv with
  | 0, hv => exact h.cell (by rw [Nat.add_zero, h0]; exact hv)
  | 1, hv => exact h.cell (by rw [h1]; exact hv)
theorem exec_load_stW {c : Act} {o : Oper} {x : Operand} {w : World} (ho : o.op = .load 35 x) {b s i : Nat} (hx : c.eval x = .pointer (some ⟨b, s + i * 2, none⟩)) {l : List Qm.St} (hrd : Rd w (some ⟨b, s, none⟩) (stCells l)) (hi : i < l.length) :
    (execOp c.eval o).run Tryz.prog w = .ok (.value (snV (Qm.stOf l i))) w := by
  obtain ⟨d, hu⟩ := stT.und
  unfold execOp
  simp only [ho, hx, Sem.run_bind, run_loadAt_mid w b (s + i * 2) _ [.int .i64 (Qm.stOf l i).1, .int .i64 (Qm.stOf l i).2] _ (hrd.stW i hi) hu rfl stT.size, Result.andThen_ok, Sem.run_pure]

def ksOf (T : Tr) (l : List Qm.St) : List Sbm.Sib := l.map fun n => (((Tm.look T n).getD zS).2, n)
theorem ksOf_len (T : Tr) (l : List Qm.St) : (ksOf T l).length = l.length := List.length_map ..
theorem ksOf_get {T : Tr} {l : List Qm.St} {k : Nat} (h : k < l.length) : (ksOf T l).take (k + 1) = (ksOf T l).take k ++ [(((Tm.look T (Qm.stOf l k)).getD zS).2, Qm.stOf l k)] := by
  rw [List.take_succ_eq_append_getElem (by rw [ksOf_len]; exact h)]
  simp [ksOf, Qm.stOf_lt h]
theorem ksOf_perm {T : Tr} (nd : (T.map Prod.fst).Nodup) {p : Qm.St} {l : List Qm.St} (hp : l.Perm (kids T p)) : (ksOf T l).Perm (Rtm.sibs T p) :=
  Rtm.sibs_kids nd p hp (fun n => ((Tm.look T n).getD zS).2) (fun n s h => by rw [h]; rfl)

set_option maxRecDepth 100000 in
set_option maxHeartbeats 8000000 in
theorem orowF_any {P M1 M2 : Nat} {T : Tr} {C : List Kid} {F : Nat → Prop} (pt : Qm.St) (w : World) (h : Lay w P M1 M2 T C F) (hp : StWf pt) (hT : T.length ≤ 200) (nd : (T.map Prod.fst).Nodup) :
    Calls Tryz.prog 63 #[.pointer (some ⟨P, 0, none⟩), snV pt] w fun e w' => ∃ p' c' m, m.Perm (Rtm.sibs T pt) ∧ Sbm.Srt m ∧ e = .returned (.slice p' m.length c') ∧ Rd w' p' (sbCells m) ∧ (∀ a, p' = some a → w.heap.size ≤ a.block) ∧ Below w.heap.size w w' := by
  have hb0 : Below w.heap.size w (w.alloc (.cells #[.int .i64 pt.1, .int .i64 pt.2] 35)) := (Below.refl _ _).alloc (Nat.le_refl _) _
  have HX := Lib.hid (AgAt.new w #[.int .i64 pt.1, .int .i64 pt.2] 35)
  have HBL := Lib.hid (below_any pt _ (h.kept hb0) hp (Nat.le_trans hT (by decide)))
  have HL0 := Lib.hid (h.kept hb0)
  have HB0 := Lib.hid hb0
  have HWF := Lib.hid h.wf
  have HT5 := Lib.hid hT
  have HND := Lib.hid nd
  obtain ⟨i0, hi, hz0, hz1, hz2⟩ := info_split info_sib
  clear h hb0 hp hT nd
  go_enter Tryz.func63, Tryz.ntmps63
  go_wp2_with (refine wpList_load_ag stT rfl _ rfl _ rfl rfl HX.out ?_)
  refine HBL.out.mono ?_
  rintro e w1 ⟨p1, c1, l, hpk, rfl, hr1, -, hb1⟩
  have HL1 := Lib.hid (HL0.out.kept hb1)
  have HR1 := Lib.hid hr1
  have HB1 := Lib.hid (HB0.out.trans (hb1.mono HB0.out.size))
  have HPK := Lib.hid hpk
  have hll : l.length ≤ 200 := by
    rw [hpk.length_eq]
    unfold kids
    rw [List.length_map]
    exact Nat.le_trans (List.length_filter_le _ _) HT5.out
  have HLL := Lib.hid hll
  have HWK := Lib.hid (show ∀ n ∈ l, StWf n from fun n hn => by
    obtain ⟨s, hs, -⟩ := Tm.kids_mem.1 (hpk.mem_iff.1 hn)
    exact HWF.out (n, s) hs)
  have HKL := Lib.hid (ksOf_len T l)
  clear hr1 hb1 hpk hll HBL HL0 HX
  go_wp2
  go_loopw [5, 14] (fun v i wr => ∃ (k : Nat) (pr : Option Addr) (cr : Nat), i = .int .i64 (k : Int) ∧ k ≤ l.length ∧ v = .slice pr k cr ∧ wr.ownsRow w1.heap.size 86 3 (.slice pr k cr) k (sbCells ((ksOf T l).take k)) ∧ Below w1.heap.size w1 wr) (fun _ i _ => l.length - (intOf i).toNat)
  case atStart => exact ⟨0, none, 0, rfl, Nat.zero_le _, rfl, World.ownsRow_nil _ _ _ _, Below.refl _ _⟩
  case round =>
    obtain ⟨k, pr, cr, rfl, hk, rfl, ho, hb⟩ := hrel
    have HO := Lib.hid ho
    have HB := Lib.hid hb
    clear ho hb
    by_cases hlt : k < l.length
    · have HLT := Lib.hid hlt
      have hk5 : k < 200 := by have := HLL.out; omega
      obtain ⟨b, o, rfl, -⟩ := HR1.out.addr (by rw [stCells_length]; omega)
      have HWN := Lib.hid (HWK.out (Qm.stOf l k) (by rw [Qm.stOf_lt hlt]; exact List.getElem_mem hlt))
      have HKT := Lib.hid (ksOf_get (T := T) hlt)
      have HRW := Lib.hid (HR1.out.below HB.out)
      have HLW := Lib.hid (HL1.out.kept HB.out)
      obtain ⟨n, hn⟩ : ∃ n, Qm.stOf l k = n := ⟨_, rfl⟩
      rw [hn] at HWN HKT
      have HN := Lib.hid hn
      clear hn
      go_wp2_with (first
        | (refine wpList_value (v := snV n) (by simp [Region.wanted]) (by rw [← HN.out]; exact exec_load_stW rfl rfl HRW.out HLT.out) ?_)
        | (refine wpList_store_newag stT rfl _ _ rfl rfl _ (A := #[.int .i64 n.1, .int .i64 n.2]) rfl rfl rfl (stA_one _ _) ?_
           intro wA hvA hbA
           have HVA := Lib.hid hvA
           have HBA := Lib.hid (HB.out.trans (hbA.mono HB.out.size))
           have HOA := Lib.hid ((Turns.of_below (F := fun _ => False) hbA).own HO.out (fun _ _ h => h))
           have HSP := Lib.hid (spot_any n wA (HLW.out.kept hbA) HWN.out)
           clear hvA hbA)
        | (refine wpList_load_ag stT rfl _ rfl _ rfl rfl HVA.out ?_))
      refine HSP.out.mono ?_
      rintro e wB ⟨rfl, hbB⟩
      have HVB := Lib.hid (AgAt.kept HVA.out hbB)
      have HBB := Lib.hid (HBA.out.trans (hbB.mono HBA.out.size))
      have HOB := Lib.hid ((Turns.of_below (F := fun _ => False) hbB).own HOA.out (fun _ _ h => h))
      clear hbB HSP HVA HOA HO HBA HRW HLW
      generalize (Tm.look T n).getD zS = s at *
      generalize (Tm.look T n).isSome = ib at *
      go_wp2_with (first
        | (refine wpList_store_newag spT rfl _ _ rfl rfl _ (A := spA s) rfl rfl rfl (spA_one _) ?_
           intro wC hvC hbC
           have y2 : wC.cell? ⟨wB.heap.size, 2, none⟩ = some (.string s.2) := by rw [AgAt.cell hvC 2]; rfl
           have HVC := Lib.hid (AgAt.kept HVB.out hbC)
           have HBC := Lib.hid (HBB.out.trans (hbC.mono HBB.out.size))
           have HOC := Lib.hid ((Turns.of_below (F := fun _ => False) hbC).own HOB.out (fun _ _ h => h))
           clear hvC hbC)
        | (refine wpList_load_ag stT rfl _ rfl _ rfl rfl HVC.out ?_)
        | (refine wpList_append_k rfl _ _ 78 rfl w1.heap.size 86 i0 _ 3 32 Tryz.underlying78 hi hz0 hz1 (by decide) hz2 (by decide) rfl _ k (sbCells ((ksOf T l).take k)) rfl (World.ownsRow.alloc HOC.out _) _ 1 1 (sbCells [(s.2, n)]) rfl rfl (rd_sb1 wC (s.2, n) 86) (fun e => by cases e) sbCells_one (by omega) (by have := HBC.out.size; simp; omega) ?_
           intro pD cD wD hoD hgD _
           have HOD := Lib.hid hoD
           have HBD := Lib.hid (Below.grown (HBC.out.alloc HBC.out.size _) hgD (by have := HBC.out.size; simp; omega) (fun j hj => (World.ownsRow.lt HOC.out j hj).1))
           clear hoD hgD))
      go_roundw
      case rel => exact ⟨k + 1, pD, cD, by go_num, by have := HLT.out; omega, rfl, by rw [HKT.out, sbCells_append]; exact HOD.out, HBD.out⟩
      case measure => simp [intOf] <;> have := HLT.out <;> omega
    · obtain rfl : k = l.length := by omega
      have htk : (ksOf T l).take l.length = ksOf T l := by rw [← HKL.out, List.take_length]
      rw [htk] at HO
      rw [← HKL.out] at HO
      obtain ⟨hrd, hnm, -, -⟩ := own_rdK (ce := sbC) HO.out
      have HSO := Lib.hid (sort_sib pr cr (ksOf T l) wr hrd hnm (by rw [HKL.out]; have := HLL.out; omega))
      rw [HKL.out] at HSO
      clear hrd hnm htk
      go_wp2_with fail
      refine HSO.out.mono ?_
      rintro e w9 ⟨p', c', m, hp, hs, rfl, hr, hfr, -, hb9⟩
      have HE := Lib.hid (show ∃ p2 c2 m2, m2.Perm (Rtm.sibs T pt) ∧ Sbm.Srt m2 ∧ Ending.returned (.slice p' m.length c') = .returned (.slice p2 m2.length c2) ∧ Rd w9 p2 (sbCells m2) ∧ (∀ a, p2 = some a → w.heap.size ≤ a.block) ∧ Below w.heap.size w w9 from ⟨p', c', m, hp.trans (ksOf_perm HND.out HPK.out), hs, rfl, hr, fun a ha => Nat.le_trans (HB1.out.trans (HB.out.mono HB1.out.size)).size (hfr a ha), HB1.out.trans ((HB.out.trans (hb9.mono HB.out.size)).mono HB1.out.size)⟩)
      clear hp hs hr hfr hb9
      go_wp2
      go_ret
      exact HE.out

end Go.Proofs.YthifdefjmfakgaaGreat

namespace Go.Proofs.YthifdefjmfakgaaGreat
open Go.RowKit
open Tm (Sp Tr has put cut kids)

/-- a look leaves the graph, and a row in new memory -/
def LeftR (gg : Nat) (ops : List Pm.Wr) (χ : Nat → Nat) (p : Option Addr) (cs : List Value) (w w' : World) : Prop := ∃ χ', Gra w' gg ops χ' ∧ Goes w χ w' χ' ∧ Rd w' p cs ∧ ∀ a, p = some a → w.heap.size ≤ a.block ∧ χ' a.block = 0
/-- the tree of what there is -/
structure TreeG (ops : List Pm.Wr) (T : Tr) : Prop where
  ok : Tm.Ok T
  lk : ∀ n, Tm.look T n = (Gm.run ops).s n
  few : T.length ≤ 60
theorem Core.small {w : World} {X : Gx} {χ : Nat → Nat} {g : Gm.G} (h : Core w X χ g) : X.T.length ≤ 60 := Nat.le_trans h.len h.few
theorem Core.treeG {w : World} {X : Gx} {χ : Nat → Nat} {ops : List Pm.Wr} (h : Core w X χ (Gm.run ops)) : TreeG ops X.T := ⟨h.tk, h.hs, h.small⟩
theorem leftR_of {gg : Nat} {ops : List Pm.Wr} {χ χ1 : Nat → Nat} {w w5 w6 : World} {X : Gx} {p : Option Addr} {cs : List Value} (h : Nowd gg ops χ w w5 X χ1) (hb : Below w5.heap.size w5 w6) (hr : Rd w6 p cs) (hp : ∀ a, p = some a → w5.heap.size ≤ a.block) : LeftR gg ops χ p cs w w6 :=
  ⟨χ1, h.gra.kept hb, h.goes.trans (Goes.of_below hb), hr, fun a ha => ⟨Nat.le_trans h.goes.turns.size (hp a ha), by
    cases e : χ1 a.block with
    | zero => rfl
    | succ n => exact absurd (h.core.lt a.block (by rw [e]; omega)) (by have := hp a ha; omega)⟩⟩

set_option maxRecDepth 100000 in
set_option maxHeartbeats 2000000 in
theorem gnodes_any {gg : Nat} {ops : List Pm.Wr} {χ : Nat → Nat} (w : World) (h : Gra w gg ops χ) : Calls Tryz.prog 18 #[ptV gg] w fun e w' => ∃ p c m T, e = .returned (.slice p m.length c) ∧ TreeG ops T ∧ m.Perm (T.map Prod.fst) ∧ LeftR gg ops χ p (stCells m) w w' := by
  have HC := Lib.hid h
  obtain ⟨b0, hgb⟩ : ∃ b, AgAt w gg #[ptV b] := by
    obtain ⟨⟨X, h1, -⟩, -⟩ := h
    exact ⟨_, h1⟩
  clear h
  go_enter Tryz.func18, Tryz.ntmps18
  go_wp2_with fail
  refine (gours_any _ hgb).mono ?_
  rintro e w1 ⟨rfl, rfl⟩
  clear hgb
  go_wp2_with fail
  refine (gnow_any w HC.out).mono ?_
  rintro e w5 ⟨X, χ1, rfl, hg, hf, hl, ho, ha, hgg, hgo⟩
  have HND := Lib.hid (nowd_of (Below.refl w.heap.size w) HC.out.gz hg hf hl ho ha hgg hgo)
  clear hg hf hl ho ha hgg hgo HC
  have y5 : w5.cell? ⟨X.b, 4, none⟩ = some (ptV X.P) := HND.out.core.cP
  have HNO := Lib.hid (nodes_any w5 HND.out.core.tree (Nat.le_trans HND.out.core.small (by decide)))
  go_wp2_with fail
  refine HNO.out.mono ?_
  rintro e w6 ⟨p, c, m, hm, rfl, hr, ⟨hp, -⟩, hb⟩
  have HE := Lib.hid (show ∃ p' c' m' T, Ending.returned (.slice p m.length c) = .returned (.slice p' m'.length c') ∧ TreeG ops T ∧ m'.Perm (T.map Prod.fst) ∧ LeftR gg ops χ p' (stCells m') w w6 from ⟨p, c, m, X.T, rfl, HND.out.core.treeG, hm, leftR_of HND.out hb hr hp⟩)
  clear hm hr hp hb HND HNO y5
  go_wp2
  go_ret
  exact HE.out

set_option maxRecDepth 100000 in
set_option maxHeartbeats 4000000 in
theorem gabove_any {gg : Nat} {ops : List Pm.Wr} {χ : Nat → Nat} (s : Qm.St) (w : World) (h : Gra w gg ops χ) (hn : StWf s) : Calls Tryz.prog 27 #[ptV gg, snV s] w fun e w' => ∃ p c m T, e = .returned (.slice p (List.length m) c) ∧ TreeG ops T ∧ m = Tm.chain T s ∧ LeftR gg ops χ p (stCells m) w w' := by
  have hb := (Below.refl w.heap.size w).alloc (Nat.le_refl _) (.cells (stA s) 35)
  have HC := Lib.hid (h.kept hb)
  have HN := Lib.hid (AgAt.new w (stA s) 35)
  have HB := Lib.hid hb
  have HZ := Lib.hid (show χ w.heap.size = 0 from by obtain ⟨⟨X, h1, h2, h3, h4⟩, -⟩ := h; exact h2.toCore.zero (Nat.le_refl _))
  have HGZ := Lib.hid h.gz
  have HWN := Lib.hid hn
  have hgb : ∃ b, AgAt (w.alloc (.cells (stA s) 35)) gg #[ptV b] := by
    obtain ⟨⟨X, h1, -⟩, -⟩ := h
    exact ⟨_, h1.kept hb⟩
  obtain ⟨b0, hgb⟩ := hgb
  have HGB := Lib.hid hgb
  clear h hb hgb hn
  go_enter Tryz.func27, Tryz.ntmps27
  go_upto_region 3 with (go_at_call 30; refine (gours_any _ HGB.out).mono ?_; rintro e w1 ⟨rfl, rfl⟩)
  generalize w.alloc (.cells (stA s) 35) = w1 at *
  have hbd := Below.drew (Below.refl w1.heap.size w1)
  replace HC := Lib.hid (HC.out.kept hbd)
  replace HN := Lib.hid (AgAt.kept HN.out hbd)
  replace HB := Lib.hid (HB.out.trans (hbd.mono HB.out.size))
  refine wp_region_held_drew (S := fun W => AgAt W w.heap.size (stA s)) (by kernel_rfl) HN.out (fun hS => ?_)
  clear hbd HN HGB
  generalize w1.drew = wd at *
  refine wpAnyH_take (i := 0) (v := ?_) rfl (by kernel_rfl) (by kernel_rfl) (by kernel_rfl) (fun _ _ _ h => h) (Or.inl ⟨by kernel_rfl, ?_⟩) hS ?_
  rotate_left
  · intro W hSW
    go_simp
    all_goals with_reducible rfl
  go_simp
  refine wpAnyH_take (i := 5) (v := snV s) rfl (by kernel_rfl) (by kernel_rfl) (by kernel_rfl) (fun _ _ _ h => h) (Or.inl ⟨by kernel_rfl, fun W hSW => exec_load_ag stT rfl rfl rfl hSW⟩) hS ?_
  go_simp
  refine wpAnyH_ready (rs := [1]) (by kernel_rfl) (by simp) ?_
  refine AllReadyH.cons rfl (fun K hK => ?_) AllReadyH.nil
  go_simp
  go_wp2_with (go_at_call 31; refine (gnow_any _ HC.out).mono ?_; rintro e w5 ⟨X, χ1, rfl, hg, hf, hl, ho, ha, hgg, hgo⟩)
  have HND := Lib.hid (nowd_of HB.out HGZ.out hg hf hl ho ha hgg hgo)
  have y5 : w5.cell? ⟨X.b, 4, none⟩ = some (ptV X.P) := HND.out.core.cP
  have hs5 := hS.block (hgo.turns.block _ (AgAt.lt hS) (by rw [HZ.out]; decide))
  refine hK.out _ _ hs5 (fun hS => ?_)
  clear hK K hg hf hl ho ha hgg hgo hs5 HC HB HGZ HZ
  refine wpAnyH_take (i := 2) (v := ?_) rfl (by kernel_rfl) (by kernel_rfl) (by kernel_rfl) (fun _ _ _ h => h) (Or.inl ⟨by kernel_rfl, ?_⟩) hS ?_
  rotate_left
  · intro W hSW
    go_simp
    all_goals with_reducible rfl
  refine wpAnyH_take (i := 3) (v := ?_) rfl (by kernel_rfl) (by kernel_rfl) (by kernel_rfl) (fun _ _ _ h => h) (Or.inl ⟨by kernel_rfl, ?_⟩) hS ?_
  rotate_left
  · intro W hSW
    go_simp
    all_goals with_reducible rfl
  go_simp
  refine wpAnyH_ready (rs := [4]) (by kernel_rfl) (by simp) ?_
  refine AllReadyH.cons rfl (fun K hK => ?_) AllReadyH.nil
  go_simp
  refine hK.out _ _ hS (fun hS => ?_)
  clear hK K
  refine wpAnyH_ready (rs := [6]) (by kernel_rfl) (by simp) ?_
  refine AllReadyH.cons rfl (fun K hK => ?_) AllReadyH.nil
  have HLK := Lib.hid (above_any s w5 HND.out.core.tree HWN.out HND.out.core.tk HND.out.core.par (Nat.le_trans HND.out.core.small (by decide)))
  go_simp
  go_wp2_with (go_at_call 64; refine HLK.out.mono ?_; rintro e w6 ⟨v, m, hm, rfl, ho6, hb6⟩)
  obtain ⟨p, c, hv, hr, -, -, -, hp0⟩ := own_rd ho6
  subst hv
  have hp : ∀ a, p = some a → w5.heap.size ≤ a.block := fun a ha => (hp0 a ha).1
  have HM := Lib.hid hm
  clear ho6 hp0 hm
  have HE := Lib.hid (show ∃ p' c' m' T, Ending.returned (.slice p (List.length m) c) = .returned (.slice p' (List.length m') c') ∧ TreeG ops T ∧ m' = Tm.chain T s ∧ LeftR gg ops χ p' (stCells m') w w6 from ⟨p, c, m, X.T, rfl, HND.out.core.treeG, HM.out, leftR_of HND.out hb6 hr hp⟩)
  refine hK.out _ _ (AgAt.kept hS hb6) (fun hS => ?_)
  clear hK K hb6 y5 HND HLK hr hp
  refine wpAnyH_take (i := 7) (v := ?_) rfl (by kernel_rfl) (by kernel_rfl) (by kernel_rfl) (fun _ _ _ h => h) (Or.inl ⟨by kernel_rfl, ?_⟩) hS ?_
  rotate_left
  · intro W hSW
    go_simp
    all_goals with_reducible rfl
  go_simp
  refine wpAnyH_done (by kernel_rfl) ?_ _
  go_simp
  clear hS
  go_wp2
  go_ret
  exact HE.out

set_option maxRecDepth 100000 in
set_option maxHeartbeats 4000000 in
theorem grow_any {gg : Nat} {ops : List Pm.Wr} {χ : Nat → Nat} (s : Qm.St) (w : World) (h : Gra w gg ops χ) (hn : StWf s) : Calls Tryz.prog 26 #[ptV gg, snV s] w fun e w' => ∃ p c m T, e = .returned (.slice p (List.length m) c) ∧ TreeG ops T ∧ (m.Perm (Rtm.sibs T s) ∧ Sbm.Srt m) ∧ LeftR gg ops χ p (sbCells m) w w' := by
  have hb := (Below.refl w.heap.size w).alloc (Nat.le_refl _) (.cells (stA s) 35)
  have HC := Lib.hid (h.kept hb)
  have HN := Lib.hid (AgAt.new w (stA s) 35)
  have HB := Lib.hid hb
  have HZ := Lib.hid (show χ w.heap.size = 0 from by obtain ⟨⟨X, h1, h2, h3, h4⟩, -⟩ := h; exact h2.toCore.zero (Nat.le_refl _))
  have HGZ := Lib.hid h.gz
  have HWN := Lib.hid hn
  have hgb : ∃ b, AgAt (w.alloc (.cells (stA s) 35)) gg #[ptV b] := by
    obtain ⟨⟨X, h1, -⟩, -⟩ := h
    exact ⟨_, h1.kept hb⟩
  obtain ⟨b0, hgb⟩ := hgb
  have HGB := Lib.hid hgb
  clear h hb hgb hn
  go_enter Tryz.func26, Tryz.ntmps26
  go_upto_region 3 with (go_at_call 30; refine (gours_any _ HGB.out).mono ?_; rintro e w1 ⟨rfl, rfl⟩)
  generalize w.alloc (.cells (stA s) 35) = w1 at *
  have hbd := Below.drew (Below.refl w1.heap.size w1)
  replace HC := Lib.hid (HC.out.kept hbd)
  replace HN := Lib.hid (AgAt.kept HN.out hbd)
  replace HB := Lib.hid (HB.out.trans (hbd.mono HB.out.size))
  refine wp_region_held_drew (S := fun W => AgAt W w.heap.size (stA s)) (by kernel_rfl) HN.out (fun hS => ?_)
  clear hbd HN HGB
  generalize w1.drew = wd at *
  refine wpAnyH_take (i := 0) (v := ?_) rfl (by kernel_rfl) (by kernel_rfl) (by kernel_rfl) (fun _ _ _ h => h) (Or.inl ⟨by kernel_rfl, ?_⟩) hS ?_
  rotate_left
  · intro W hSW
    go_simp
    all_goals with_reducible rfl
  go_simp
  refine wpAnyH_take (i := 5) (v := snV s) rfl (by kernel_rfl) (by kernel_rfl) (by kernel_rfl) (fun _ _ _ h => h) (Or.inl ⟨by kernel_rfl, fun W hSW => exec_load_ag stT rfl rfl rfl hSW⟩) hS ?_
  go_simp
  refine wpAnyH_ready (rs := [1]) (by kernel_rfl) (by simp) ?_
  refine AllReadyH.cons rfl (fun K hK => ?_) AllReadyH.nil
  go_simp
  go_wp2_with (go_at_call 31; refine (gnow_any _ HC.out).mono ?_; rintro e w5 ⟨X, χ1, rfl, hg, hf, hl, ho, ha, hgg, hgo⟩)
  have HND := Lib.hid (nowd_of HB.out HGZ.out hg hf hl ho ha hgg hgo)
  have y5 : w5.cell? ⟨X.b, 4, none⟩ = some (ptV X.P) := HND.out.core.cP
  have hs5 := hS.block (hgo.turns.block _ (AgAt.lt hS) (by rw [HZ.out]; decide))
  refine hK.out _ _ hs5 (fun hS => ?_)
  clear hK K hg hf hl ho ha hgg hgo hs5 HC HB HGZ HZ
  refine wpAnyH_take (i := 2) (v := ?_) rfl (by kernel_rfl) (by kernel_rfl) (by kernel_rfl) (fun _ _ _ h => h) (Or.inl ⟨by kernel_rfl, ?_⟩) hS ?_
  rotate_left
  · intro W hSW
    go_simp
    all_goals with_reducible rfl
  refine wpAnyH_take (i := 3) (v := ?_) rfl (by kernel_rfl) (by kernel_rfl) (by kernel_rfl) (fun _ _ _ h => h) (Or.inl ⟨by kernel_rfl, ?_⟩) hS ?_
  rotate_left
  · intro W hSW
    go_simp
    all_goals with_reducible rfl
  go_simp
  refine wpAnyH_ready (rs := [4]) (by kernel_rfl) (by simp) ?_
  refine AllReadyH.cons rfl (fun K hK => ?_) AllReadyH.nil
  go_simp
  refine hK.out _ _ hS (fun hS => ?_)
  clear hK K
  refine wpAnyH_ready (rs := [6]) (by kernel_rfl) (by simp) ?_
  refine AllReadyH.cons rfl (fun K hK => ?_) AllReadyH.nil
  have HLK := Lib.hid (orowF_any s w5 HND.out.core.tree HWN.out (Nat.le_trans HND.out.core.small (by decide)) HND.out.core.tk.nd)
  go_simp
  go_wp2_with (go_at_call 63; refine HLK.out.mono ?_; rintro e w6 ⟨p, c, m, hm, hs6, rfl, hr, hp, hb6⟩)
  skip
  have HE := Lib.hid (show ∃ p' c' m' T, Ending.returned (.slice p (List.length m) c) = .returned (.slice p' (List.length m') c') ∧ TreeG ops T ∧ (m'.Perm (Rtm.sibs T s) ∧ Sbm.Srt m') ∧ LeftR gg ops χ p' (sbCells m') w w6 from ⟨p, c, m, X.T, rfl, HND.out.core.treeG, ⟨hm, hs6⟩, leftR_of HND.out hb6 hr hp⟩)
  refine hK.out _ _ (AgAt.kept hS hb6) (fun hS => ?_)
  clear hK K hb6 y5 HND HLK hr hp
  refine wpAnyH_take (i := 7) (v := ?_) rfl (by kernel_rfl) (by kernel_rfl) (by kernel_rfl) (fun _ _ _ h => h) (Or.inl ⟨by kernel_rfl, ?_⟩) hS ?_
  rotate_left
  · intro W hSW
    go_simp
    all_goals with_reducible rfl
  go_simp
  refine wpAnyH_done (by kernel_rfl) ?_ _
  go_simp
  clear hS
  go_wp2
  go_ret
  exact HE.out
end Go.Proofs.YthifdefjmfakgaaGreat
