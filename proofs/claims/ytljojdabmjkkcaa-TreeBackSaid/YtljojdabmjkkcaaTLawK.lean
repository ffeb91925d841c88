/-
  THE LAWS' HELPERS: num, Own, Long, do, knows.
  No conditions but sizes.
-/
import Derived.Test.YtljojdabmjkkcaaTMove
import Derived.Test.YtljojdabmjkkcaaTNodes
namespace Go.Proofs.Ytljojdabmjkkcaa
open Go.RowKit
open Tm (Sp Tr has put cut kids)

theorem num_any (n : Int) (w : World) : Calls Try.prog 15 #[.int .i64 n] w fun e w' => e = .returned (.int .i64 n) ∧ w = w' := by
  go_enter Try.func15, Try.ntmps15
  go_wp2
  go_ret
  exact ⟨rfl, rfl⟩
theorem spR : AgT 31 3 := ⟨⟨_, Try.underlying31⟩, by kernel_rfl⟩
theorem acT : AgT 33 6 := ⟨⟨_, Try.underlying33⟩, by kernel_rfl⟩
/-- an act -/
structure TAct where
  k : Int
  n : Qm.St
  s : Sp
def TAct.zero : TAct := ⟨0, (0, 0), ((0, 0), ⟨#[]⟩)⟩
def acL (a : TAct) : List Value := [.int .i64 a.k, .int .i64 a.n.1, .int .i64 a.n.2, .int .i64 a.s.1.1, .int .i64 a.s.1.2, .string a.s.2]
def acA (a : TAct) : Array Value := (acL a).toArray
def acOf (l : List TAct) (i : Nat) : TAct := l.getD i TAct.zero
def acCells (l : List TAct) : List Value := l.flatMap acL
theorem acCells_length (l : List TAct) : (acCells l).length = l.length * 6 := by
  induction l with
  | nil => rfl
  | cons a l ih => simp only [acCells, List.flatMap_cons, List.length_append, List.length_cons, acL, List.length_nil] at ih ⊢; omega
theorem acCells_get (l : List TAct) (i j : Nat) (h : i < l.length) (hj : j < 6) : (acCells l)[i * 6 + j]? = (acL (acOf l i))[j]? := by
  induction l generalizing i with
  | nil => simp at h
  | cons a l ih =>
    have e0 : acCells (a :: l) = acL a ++ acCells l := by simp [acCells]
    rw [e0]
    cases i with
    | zero =>
      rw [Nat.zero_mul, Nat.zero_add, List.getElem?_append_left (by exact hj)]
      rfl
    | succ i =>
      have hl : (acL a).length = 6 := rfl
      rw [List.getElem?_append_right (by rw [hl]; omega), hl, show (i + 1) * 6 + j - 6 = i * 6 + j from by omega, ih i (by simpa using h)]
      rfl
theorem acOf_mem {l : List TAct} {i : Nat} (h : i < l.length) : acOf l i ∈ l := by
  have : acOf l i = l[i] := by simp [acOf, h]
  rw [this]; exact List.getElem_mem h
theorem Rd.ac {w : World} {b o : Nat} {l : List TAct} (h : Rd w (some ⟨b, o, none⟩) (acCells l)) (i : Nat) (hi : i < l.length) : w.rangeAt b (o + i * 6) (acL (acOf l i)) := by
  intro j v hv
  have hj : j < 6 := (List.getElem?_eq_some_iff.1 hv).1
  rw [Nat.add_assoc]
  exact h.cell (by rw [acCells_get l i j hi hj]; exact hv)
theorem wpList_load_ac {w : World} {ops : Array Oper} {rest : List Oper} {o : Oper} {a : Act} {Q : Exit → Act → World → Prop} (hgd : o.guard = none) (y : Operand) (ho : o.op = .load 33 y)
    (b s i : Nat) (hx : a.eval y = .pointer (some ⟨b, s + i * 6, none⟩)) (l : List TAct) (hrd : Rd w (some ⟨b, s, none⟩) (acCells l)) (hi : i < l.length)
    (h : wpList Try.prog ops Q rest (a.put o.dst (.agg (acA (acOf l i)))) w) : wpList Try.prog ops Q (o :: rest) a w := by
  obtain ⟨d, hu⟩ := acT.und
  exact wpList_load_mid hgd _ y ho b (s + i * 6) hx (acL (acOf l i)) _ (hrd.ac i hi) hu rfl acT.size h
theorem acN (a : TAct) : ∀ j v, [Value.int .i64 a.n.1, .int .i64 a.n.2][j]? = some v → (acA a)[1 + j]? = some v := fun j v h => by
  match j, h with
  | 0, h => exact h
  | 1, h => exact h
theorem acS (a : TAct) : ∀ j v, [Value.int .i64 a.s.1.1, .int .i64 a.s.1.2, .string a.s.2][j]? = some v → (acA a)[3 + j]? = some v := fun j v h => by
  match j, h with
  | 0, h => exact h
  | 1, h => exact h
  | 2, h => exact h

set_option maxRecDepth 100000 in
set_option maxHeartbeats 1000000 in
theorem own_any (s : Sp) (w : World) : Calls Try.prog 14 #[.agg (spA s)] w fun e w' => e = .returned (spV s) ∧ Below w.heap.size w w' := by
  have h1 : ∀ (w : World) (o : Obj), Below w.heap.size w (w.alloc o) := fun w o => (Below.refl _ _).alloc (Nat.le_refl _) _
  have HT := Lib.hid (show Below w.heap.size w ((w.alloc (.cells (spA s) 31)).alloc (.cells #[.int .i64 0, .int .i64 0, .string ⟨#[]⟩] 38)) from (h1 _ _).trans ((h1 _ _).mono (by simp)))
  have HB0 := Lib.hid ((AgAt.new w (spA s) 31).kept (h1 _ (.cells #[.int .i64 0, .int .i64 0, .string ⟨#[]⟩] 38)))
  have HB1 := Lib.hid (show AgAt ((w.alloc (.cells (spA s) 31)).alloc (.cells #[.int .i64 0, .int .i64 0, .string ⟨#[]⟩] 38)) (w.heap.size + 1) #[.int .i64 0, .int .i64 0, .string ⟨#[]⟩] from by
    have := AgAt.new (w.alloc (.cells (spA s) 31)) #[.int .i64 0, .int .i64 0, .string ⟨#[]⟩] 38
    rw [show (w.alloc (.cells (spA s) 31)).heap.size = w.heap.size + 1 from by simp] at this
    exact this)
  have y2 := AgAt.cell HB0.out 2
  rw [show (spA s)[2]? = some (.string s.2) from rfl] at y2
  clear h1
  go_enter Try.func14, Try.ntmps14
  go_wp2_with (first | (refine wpList_load_part stT rfl _ rfl _ 0 rfl [.int .i64 s.1.1, .int .i64 s.1.2] rfl HB0.out spPar ?_) | (refine wpList_store_ag spT rfl _ _ rfl _ rfl _ HB1.out (A := spA s) rfl rfl rfl (spA_one _) ?_; intro w6 hv6 hko6 hsz6 hbn6))
  refine bodyPost_ret (results_ag spT _ rfl rfl hv6 rfl) rfl ?_
  exact ⟨rfl, hbn6 _ _ HT.out (by omega)⟩

theorem Below.mono2 {n m : Nat} {w w' : World} (h : Below n w w') (hm : m ≤ n) : Below m w w' := ⟨h.os, h.tape, h.output, h.size, fun k hk => h.block k (Nat.lt_of_lt_of_le hk hm)⟩
/-- a tree in memory from B on -/
def TreeAt (w : World) (B P : Nat) (T : Tr) : Prop := ∃ M1 M2 C, Lay w P M1 M2 T C (fun k => B ≤ k ∧ k < w.heap.size)
theorem TreeAt.kept {w w' : World} {B P : Nat} {T : Tr} (h : TreeAt w B P T) (hb : Below w.heap.size w w') : TreeAt w' B P T := by
  obtain ⟨M1, M2, C, hL⟩ := h
  exact ⟨M1, M2, C, (hL.kept hb).more (fun k hk => ⟨hk.1, Nat.lt_of_lt_of_le hk.2 hb.size⟩) fun k hk => hk.2⟩
theorem TreeAt.lt {w : World} {B P : Nat} {T : Tr} (h : TreeAt w B P T) : B ≤ P ∧ P < w.heap.size := by
  obtain ⟨M1, M2, C, hL⟩ := h
  exact hL.fP
/-- acts made it, of numbers that words hold -/
def GoodT (T : Tr) : Prop := Tm.Ok T ∧ ∀ e ∈ T, StWf e.2.1
def doT (T : Tr) (a : TAct) : Tr := if a.k = 0 then (Tm.addT T a.n a.s).1 else if a.k = 1 then (Tm.moveT T a.n a.s).1 else if a.k = 2 then (Tm.dropT T a.n).1 else T
/-- an act of numbers that words hold, and a text that memory holds -/
def AcOk (a : TAct) : Prop := StWf a.n ∧ StWf a.s.1 ∧ a.s.2.size ≤ 140737488355328
theorem GoodT.nil : GoodT [] := ⟨Tm.Ok.nil, fun _ h => (by cases h)⟩
theorem GoodT.doT {T : Tr} (h : GoodT T) {a : TAct} (ha : StWf a.s.1) : GoodT (doT T a) := by
  have hput : ∀ U : Tr, (∀ e ∈ U, StWf e.2.1) → ∀ e ∈ put U a.n a.s, StWf e.2.1 := fun U hU e he => by
    rcases List.mem_append.1 he with he | he
    · exact hU e he
    · obtain rfl := List.mem_singleton.1 he
      exact ha
  have hcut : ∀ e ∈ cut T a.n, StWf e.2.1 := fun e he => h.2 e (Tm.mem_cut.1 he).1
  unfold Go.Proofs.Ytljojdabmjkkcaa.doT
  split
  · refine ⟨h.1.addT _ _, ?_⟩
    unfold Tm.addT
    repeat' split
    all_goals first | exact h.2 | exact hput _ h.2
  · split
    · refine ⟨h.1.moveT _ _, ?_⟩
      unfold Tm.moveT
      repeat' split
      all_goals first | exact h.2 | exact hput _ hcut
    · split
      · refine ⟨h.1.dropT _, ?_⟩
        unfold Tm.dropT
        repeat' split
        all_goals first | exact h.2 | exact hcut
      · exact h
theorem doT_len (T : Tr) (a : TAct) : (doT T a).length ≤ T.length + 1 := by
  have h1 := Tm.addT_len T a.n a.s
  have h2 := Tm.moveT_len T a.n a.s
  have h3 := Tm.dropT_len T a.n
  unfold doT
  repeat' split
  all_goals omega
/-- what do leaves -/
def DidT (B P : Nat) (T' : Tr) (w : World) (e : Ending) (w' : World) : Prop := e = .returned (.tuple #[]) ∧ TreeAt w' B P T' ∧ Below B w w'
theorem Did.of {B P M1 M2 : Nat} {T' : Tr} {w w1 w' : World} {C' : List Kid} (hB : B ≤ w.heap.size) (hb : Below w.heap.size w w1)
    (hl : Lay w' P M1 M2 T' C' (fun k => (B ≤ k ∧ k < w.heap.size) ∨ (w1.heap.size ≤ k ∧ k < w'.heap.size))) (ht : Turns (fun k => B ≤ k ∧ k < w.heap.size) w1 w') : DidT B P T' w (.returned (.tuple #[])) w' :=
  ⟨rfl, ⟨M1, M2, C', hl.more (fun k hk => ⟨hk.elim (fun h => h.1) fun h => by have := hb.size; omega, hl.lt k hk⟩) fun k hk => hk.2⟩, (Below.mono2 hb hB).trans (ht.below (fun k _ hk => hk.1) (Nat.le_trans hB hb.size))⟩

set_option maxRecDepth 100000 in
set_option maxHeartbeats 8000000 in
theorem do_any {B P : Nat} {T : Tr} (a : TAct) (w : World) (h : TreeAt w B P T) (hB : B ≤ w.heap.size) (hg : GoodT T) (ha : AcOk a) :
    Calls Try.prog 9 #[.pointer (some ⟨P, 0, none⟩), .agg (acA a)] w (DidT B P (doT T a) w) := by
  obtain ⟨M1, M2, C, hL⟩ := h
  have hb := (Below.refl w.heap.size w).alloc (Nat.le_refl _) (.cells (acA a) 33)
  have HL := Lib.hid (hL.kept hb)
  have HB := Lib.hid (AgAt.new w (acA a) 33)
  have HT := Lib.hid hb
  have HA := Lib.hid ha
  have HG := Lib.hid hg
  have HKD := Lib.hid hB
  have HLT := Lib.hid hL.lt
  have y0 : (w.alloc (.cells (acA a) 33)).cell? ⟨w.heap.size, 0, none⟩ = some (.int .i64 a.k) := by rw [AgAt.cell HB.out 0]; rfl
  have HNO := Lib.hid (fun W (hW : Below w.heap.size w W) (h : doT T a = T) => show DidT B P (doT T a) w (.returned (.tuple #[])) W from by
    rw [h]
    exact ⟨rfl, ⟨M1, M2, C, (hL.kept hW).more (fun k hk => ⟨hk.1, Nat.lt_of_lt_of_le hk.2 hW.size⟩) fun k hk => hk.2⟩, Below.mono2 hW hB⟩)
  clear hL hb ha hg hB
  by_cases k0 : a.k = 0
  · have hd : doT T a = (Tm.addT T a.n a.s).1 := by unfold doT; rw [if_pos k0]
    rw [hd]
    clear hd HNO
    have e0 : (a.k == 0) = true := by rw [k0]; rfl
    go_enter Try.func9, Try.ntmps9
    go_upto_region 3 with fail
    generalize w.alloc (.cells (acA a) 33) = w1 at *
    have hbd := Below.drew (Below.refl w1.heap.size w1)
    replace HL := Lib.hid (HL.out.kept hbd)
    replace HB := Lib.hid (AgAt.kept HB.out hbd)
    replace HT := Lib.hid (HT.out.trans (hbd.mono HT.out.size))
    refine wp_region_held_drew (S := fun W => AgAt W w.heap.size (acA a)) (by kernel_rfl) HB.out (fun hS => ?_)
    clear hbd
    generalize w1.drew = w1 at *
    refine wpAnyH_take (i := 0) (v := ?_) rfl (by kernel_rfl) (by kernel_rfl) (by kernel_rfl) (fun _ _ _ h => h) (Or.inl ⟨by kernel_rfl, ?_⟩) hS ?_
    rotate_left
    · intro W hSW
      go_simp
      all_goals with_reducible rfl
    refine wpAnyH_take (i := 1) (v := ?_) rfl (by kernel_rfl) (by kernel_rfl) (by kernel_rfl) (fun _ _ _ h => h) (Or.inl ⟨by kernel_rfl, ?_⟩) hS ?_
    rotate_left
    · intro W hSW
      go_simp
      all_goals with_reducible rfl
    go_simp
    refine wpAnyH_take (i := 2) (v := snV a.n) rfl (by kernel_rfl) (by kernel_rfl) (by kernel_rfl) (fun _ _ _ h => h) (Or.inl ⟨by kernel_rfl, fun W hSW => exec_load_part stT rfl rfl [.int .i64 a.n.1, .int .i64 a.n.2] rfl hSW (acN a)⟩) hS ?_
    refine wpAnyH_take (i := 3) (v := ?_) rfl (by kernel_rfl) (by kernel_rfl) (by kernel_rfl) (fun _ _ _ h => h) (Or.inl ⟨by kernel_rfl, ?_⟩) hS ?_
    rotate_left
    · intro W hSW
      go_simp
      all_goals with_reducible rfl
    go_simp
    refine wpAnyH_take (i := 4) (v := .agg (spA a.s)) rfl (by kernel_rfl) (by kernel_rfl) (by kernel_rfl) (fun _ _ _ h => h) (Or.inl ⟨by kernel_rfl, fun W hSW => exec_load_part spR rfl rfl [.int .i64 a.s.1.1, .int .i64 a.s.1.2, .string a.s.2] rfl hSW (acS a)⟩) hS ?_
    go_simp
    refine wpAnyH_ready (rs := [5]) (by kernel_rfl) (by simp) ?_
    refine AllReadyH.cons rfl (fun K hK => ?_) AllReadyH.nil
    go_simp
    go_wp2_with ((go_at_call 14; refine (own_any a.s _).mono ?_; rintro e wn ⟨rfl, hbn⟩))
    replace HL := Lib.hid (HL.out.kept hbn)
    replace HT := Lib.hid (HT.out.trans (hbn.mono HT.out.size))
    refine hK.out _ _ (AgAt.kept hS hbn) (fun hS => ?_)
    clear hK K hbn
    refine wpAnyH_ready (rs := [6]) (by kernel_rfl) (by simp) ?_
    refine AllReadyH.cons rfl (fun K hK => ?_) AllReadyH.nil
    go_simp
    go_wp2_with ((go_at_call 17; refine (add_any a.n a.s _ HL.out HA.out.1 HA.out.2.1 HA.out.2.2).mono ?_; rintro e w5 ⟨rfl, C5, h5, h6⟩))
    have HR := Lib.hid (show DidT B P ((Tm.addT T a.n a.s).1) w (.returned (.tuple #[])) w5 from Did.of HKD.out HT.out h5 h6)
    refine hK.out _ _ (AgAt.block hS (h6.block _ (AgAt.lt hS) (fun h => by have := HLT.out _ h; omega))) (fun hS => ?_)
    clear hK K h5 h6
    refine wpAnyH_done (by kernel_rfl) ?_ _
    go_simp
    clear hS
    go_wp2
    go_end0
    exact HR.out
  · have e0 : (a.k == 0) = false := by rw [beq_eq_false_iff_ne]; exact k0
    by_cases k1 : a.k = 1
    · have hd : doT T a = (Tm.moveT T a.n a.s).1 := by unfold doT; rw [if_neg k0, if_pos k1]
      rw [hd]
      clear hd HNO
      have e1 : (a.k == 1) = true := by rw [k1]; rfl
      go_enter Try.func9, Try.ntmps9
      go_upto_region 5 with fail
      generalize w.alloc (.cells (acA a) 33) = w1 at *
      have hbd := Below.drew (Below.refl w1.heap.size w1)
      replace HL := Lib.hid (HL.out.kept hbd)
      replace HB := Lib.hid (AgAt.kept HB.out hbd)
      replace HT := Lib.hid (HT.out.trans (hbd.mono HT.out.size))
      refine wp_region_held_drew (S := fun W => AgAt W w.heap.size (acA a)) (by kernel_rfl) HB.out (fun hS => ?_)
      clear hbd
      generalize w1.drew = w1 at *
      refine wpAnyH_take (i := 0) (v := ?_) rfl (by kernel_rfl) (by kernel_rfl) (by kernel_rfl) (fun _ _ _ h => h) (Or.inl ⟨by kernel_rfl, ?_⟩) hS ?_
      rotate_left
      · intro W hSW
        go_simp
        all_goals with_reducible rfl
      refine wpAnyH_take (i := 1) (v := ?_) rfl (by kernel_rfl) (by kernel_rfl) (by kernel_rfl) (fun _ _ _ h => h) (Or.inl ⟨by kernel_rfl, ?_⟩) hS ?_
      rotate_left
      · intro W hSW
        go_simp
        all_goals with_reducible rfl
      go_simp
      refine wpAnyH_take (i := 2) (v := snV a.n) rfl (by kernel_rfl) (by kernel_rfl) (by kernel_rfl) (fun _ _ _ h => h) (Or.inl ⟨by kernel_rfl, fun W hSW => exec_load_part stT rfl rfl [.int .i64 a.n.1, .int .i64 a.n.2] rfl hSW (acN a)⟩) hS ?_
      refine wpAnyH_take (i := 3) (v := ?_) rfl (by kernel_rfl) (by kernel_rfl) (by kernel_rfl) (fun _ _ _ h => h) (Or.inl ⟨by kernel_rfl, ?_⟩) hS ?_
      rotate_left
      · intro W hSW
        go_simp
        all_goals with_reducible rfl
      go_simp
      refine wpAnyH_take (i := 4) (v := .agg (spA a.s)) rfl (by kernel_rfl) (by kernel_rfl) (by kernel_rfl) (fun _ _ _ h => h) (Or.inl ⟨by kernel_rfl, fun W hSW => exec_load_part spR rfl rfl [.int .i64 a.s.1.1, .int .i64 a.s.1.2, .string a.s.2] rfl hSW (acS a)⟩) hS ?_
      go_simp
      refine wpAnyH_ready (rs := [5]) (by kernel_rfl) (by simp) ?_
      refine AllReadyH.cons rfl (fun K hK => ?_) AllReadyH.nil
      go_simp
      go_wp2_with ((go_at_call 14; refine (own_any a.s _).mono ?_; rintro e wn ⟨rfl, hbn⟩))
      replace HL := Lib.hid (HL.out.kept hbn)
      replace HT := Lib.hid (HT.out.trans (hbn.mono HT.out.size))
      refine hK.out _ _ (AgAt.kept hS hbn) (fun hS => ?_)
      clear hK K hbn
      refine wpAnyH_ready (rs := [6]) (by kernel_rfl) (by simp) ?_
      refine AllReadyH.cons rfl (fun K hK => ?_) AllReadyH.nil
      go_simp
      go_wp2_with ((go_at_call 13; refine (move_any a.n a.s _ HL.out HA.out.1 HA.out.2.1 HA.out.2.2 HG.out.1 HG.out.2).mono ?_; rintro e w5 ⟨rfl, C5, h5, h6⟩))
      have HR := Lib.hid (show DidT B P ((Tm.moveT T a.n a.s).1) w (.returned (.tuple #[])) w5 from Did.of HKD.out HT.out h5 h6)
      refine hK.out _ _ (AgAt.block hS (h6.block _ (AgAt.lt hS) (fun h => by have := HLT.out _ h; omega))) (fun hS => ?_)
      clear hK K h5 h6
      refine wpAnyH_done (by kernel_rfl) ?_ _
      go_simp
      clear hS
      go_wp2
      go_end0
      exact HR.out
    · have e1 : (a.k == 1) = false := by rw [beq_eq_false_iff_ne]; exact k1
      by_cases k2 : a.k = 2
      · have hd : doT T a = (Tm.dropT T a.n).1 := by unfold doT; rw [if_neg k0, if_neg k1, if_pos k2]
        rw [hd]
        clear hd HNO
        have e2 : (a.k == 2) = true := by rw [k2]; rfl
        go_enter Try.func9, Try.ntmps9
        go_wp2_with (refine wpList_load_part stT rfl _ rfl _ 1 rfl [.int .i64 a.n.1, .int .i64 a.n.2] rfl HB.out (acN a) ?_)
        refine (drop_any a.n _ HL.out HA.out.1 (fun s hs => HG.out.2 _ (Tm.look_mem hs))).mono ?_
        rintro e w5 ⟨rfl, C5, h5, h6⟩
        have HR := Lib.hid (show DidT B P ((Tm.dropT T a.n).1) w (.returned (.tuple #[])) w5 from Did.of HKD.out HT.out h5 h6)
        clear h5 h6
        go_wp2
        go_end0
        exact HR.out
      · have e2 : (a.k == 2) = false := by rw [beq_eq_false_iff_ne]; exact k2
        have HE := Lib.hid (HNO.out _ HT.out (by unfold doT; rw [if_neg k0, if_neg k1, if_neg k2]))
        clear HNO
        go_enter Try.func9, Try.ntmps9
        go_wp2
        go_end0
        exact HE.out

/-- the two nodes of the laws' own trial -/
def kT1 : Tr := [((1, 0), ((0, 0), ⟨#[97]⟩))]
def kT2 : Tr := [((1, 0), ((0, 0), ⟨#[97]⟩)), ((2, 0), ((1, 0), ⟨#[97]⟩))]
def kT3 : Tr := [((1, 0), ((0, 0), ⟨#[97]⟩)), ((2, 0), ((0, 1), ⟨#[98]⟩))]
theorem kA1 : Tm.addT [] (1, 0) ((0, 0), ⟨#[97]⟩) = (kT1, 0) := by decide +kernel
theorem kA2 : Tm.addT kT1 (2, 0) ((1, 0), ⟨#[97]⟩) = (kT2, 0) := by decide +kernel
theorem kM1 : Tm.moveT kT2 (1, 0) ((2, 0), ⟨#[97]⟩) = (kT2, zS, 41) := by decide +kernel
theorem kM2 : Tm.moveT kT2 (2, 0) ((0, 1), ⟨#[98]⟩) = (kT3, ((1, 0), ⟨#[97]⟩), 0) := by decide +kernel
theorem kW1 : Tm.within kT3 (1, 0) (1, 0) = true := by decide +kernel
theorem kW2 : Tm.within kT3 (1, 0) (2, 0) = false := by decide +kernel

end Go.Proofs.Ytljojdabmjkkcaa
