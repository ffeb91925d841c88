/-
  The way up from a node, as a function that is ranged over.
  No conditions.
-/
import Derived.Test.YtilkokhapcgolaaGreatTActs
import Derived.Test.YtilkokhapcgolaaGreatTSeq
import Derived.LoopIn
import Derived.LoopNIn
namespace Go.Proofs.YtilkokhapcgolaaGreat
open Go.RowKit
open Tm (Sp Tr has put cut kids)

section
variable {F : Fence} {n : Nat} {P : Program} {ops : Array Oper} {rest : List Oper} {o : Oper} {a : Act} {w w' : World} {Q : Exit → Act → World → Prop}
theorem wpListIn_value {v : Value} (hw : Region.wanted o (yielded ops a.tmps) = true) (hd : ∀ c, o.op ≠ .defer c) (ha : o.about P w a.eval = none) (hr : (execOp a.eval o).run P w = .ok (.value v) w') (h : wpListIn F n P ops Q rest (a.put o.dst v) w') : wpListIn F n P ops Q (o :: rest) a w := by
  refine wpListIn_step fun K hK => ?_
  rw [if_pos hw]
  unfold Oper.wpIn
  rw [Oper.semAt_eq _ _ _ hd, hr]
  exact ⟨fun f hf => (by rw [ha] at hf; cases hf), hK _ _ h⟩
theorem wpListIn_skipped (hw : Region.wanted o (yielded ops a.tmps) = true) (hd : ∀ c, o.op ≠ .defer c) (ha : o.about P w a.eval = none) (hr : (execOp a.eval o).run P w = .ok .skip w') (h : wpListIn F n P ops Q rest (a.put o.dst undef) w') : wpListIn F n P ops Q (o :: rest) a w := by
  refine wpListIn_step fun K hK => ?_
  rw [if_pos hw]
  unfold Oper.wpIn
  rw [Oper.semAt_eq _ _ _ hd, hr]
  exact ⟨fun f hf => (by rw [ha] at hf; cases hf), hK _ _ h⟩
theorem about_load {t : TypeId} {y : Operand} (ho : o.op = .load t y) : o.about P w a.eval = none := by simp [Oper.about, ho]
end
theorem wpListIn_load_part {F : Fence} {m : Nat} {t : TypeId} {n : Nat} (V : AgT t n) {ops : Array Oper} {rest : List Oper} {o : Oper} {a : Act} {w : World} {Q : Exit → Act → World → Prop} (hgd : Region.wanted o (yielded ops a.tmps) = true) (y : Operand) (ho : o.op = .load t y)
    (b i : Nat) (hx : a.eval y = .pointer (some ⟨b, i, none⟩)) (cs : List Value) (hn : cs.length = n) {A : Array Value} (hv : AgAt w b A) (hc : ∀ j v, cs[j]? = some v → A[i + j]? = some v)
    (h : wpListIn F m Tryz.prog ops Q rest (a.put o.dst (.agg cs.toArray)) w) : wpListIn F m Tryz.prog ops Q (o :: rest) a w :=
  wpListIn_value hgd (by rw [ho]; intro c hc; cases hc) (about_load ho) (exec_load_part V ho hx cs hn hv hc) h
theorem wpListIn_load_ag {F : Fence} {m : Nat} {t : TypeId} {n : Nat} (V : AgT t n) {ops : Array Oper} {rest : List Oper} {o : Oper} {a : Act} {w : World} {Q : Exit → Act → World → Prop} (hgd : Region.wanted o (yielded ops a.tmps) = true) (y : Operand) (ho : o.op = .load t y)
    (b : Nat) (hx : a.eval y = .pointer (some ⟨b, 0, none⟩)) {A : Array Value} (hn : A.size = n) (hv : AgAt w b A)
    (h : wpListIn F m Tryz.prog ops Q rest (a.put o.dst (.agg A)) w) : wpListIn F m Tryz.prog ops Q (o :: rest) a w :=
  wpListIn_value hgd (by rw [ho]; intro c hc; cases hc) (about_load ho) (exec_load_ag V ho hx hn hv) h

theorem look_of {w : World} {M : Nat} {T : Tr} {n : Qm.St} (h : SMap w M (spots T)) (hn : StWf n) :
    (Instr.lookup 59 (.map (some M)) (snV n) true).run Tryz.prog w = .ok (.tuple #[.agg (spA ((Tm.look T n).getD zS)), .bool (Tm.look T n).isSome]) w := by
  rw [h.lookOk mtSpots n hn, lk_spots]
  cases Tm.look T n <;> rfl
theorem wp_load_part {t : TypeId} {n : Nat} (V : AgT t n) {o : Oper} {a : Act} {w : World} {K : Act → World → Prop} {Q : Exit → Act → World → Prop} (y : Operand) (ho : o.op = .load t y)
    (b i : Nat) (hx : a.eval y = .pointer (some ⟨b, i, none⟩)) (cs : List Value) (hn : cs.length = n) {A : Array Value} (hv : AgAt w b A) (hc : ∀ j v, cs[j]? = some v → A[i + j]? = some v)
    (h : K (a.put o.dst (.agg cs.toArray)) w) : Oper.wp Tryz.prog o a w K Q := by
  unfold Oper.wp
  rw [exec_load_part V ho hx cs hn hv hc]
  exact h
/-- what lies ready for the way up: the closure's two boxes, the tree's block, its spots -/
def UpAt (w : World) (b0 b1 P M1 M2 : Nat) (n : Qm.St) (T : Tr) : Prop :=
  AgAt w b0 #[.pointer (some ⟨P, 0, none⟩)] ∧ AgAt w b1 #[.int .i64 n.1, .int .i64 n.2] ∧ AgAt w P #[.map (some M1), .map (some M2)] ∧ SMap w M1 (spots T)
theorem UpAt.turns {w w' : World} {b0 b1 P M1 M2 : Nat} {n : Qm.St} {T : Tr} {G : Nat → Prop} (h : UpAt w b0 b1 P M1 M2 n T) (ht : Turns G w w') (h0 : ¬ G b0) (h1 : ¬ G b1) (h2 : ¬ G P) (h3 : ¬ G M1) : UpAt w' b0 b1 P M1 M2 n T :=
  ⟨h.1.block (ht.block _ (AgAt.lt h.1) h0), h.2.1.block (ht.block _ (AgAt.lt h.2.1) h1), h.2.2.1.block (ht.block _ (AgAt.lt h.2.2.1) h2), h.2.2.2.turns ht h3⟩
theorem UpAt.kept {w w' : World} {b0 b1 P M1 M2 : Nat} {n : Qm.St} {T : Tr} (h : UpAt w b0 b1 P M1 M2 n T) (hb : Below w.heap.size w w') : UpAt w' b0 b1 P M1 M2 n T := h.turns (Turns.of_below (F := fun _ => False) hb) (fun h => h) (fun h => h) (fun h => h) fun h => h
/-- between two rounds: what has come, what is still to come, from where -/
structure UpI (T : Tr) (n : Qm.St) (J : List Qm.St → (Nat → Prop) → World → Prop) (Fp : Nat → Prop) (W0 : World) (A : Nat) (va : Sp) (ib : Bool) (pre rest : List Qm.St) (F1 : Nat → Prop) (w : World) : Prop where
  all : pre ++ rest = Tm.chain T n
  here : ib = true → ∃ rest', rest = va.1 :: rest' ∧ Tm.Up T va.1 rest'
  gone : ib = false → rest = []
  wf : ib = true → StWf va.1
  inv : J pre F1 w
  box : AgAt w A (spA va)
  fa : ¬ F1 A
  la : W0.heap.size ≤ A
  turns : Turns (fun k => Fp k ∨ W0.heap.size ≤ k) W0 w
  grows : Grows Fp F1 W0

/-- what the function's value leaves -/
def Uped (T : Tr) (n : Qm.St) (J Jx : List Qm.St → (Nat → Prop) → World → Prop) (Fp : Nat → Prop) (W : World) (e : Ending) (W' : World) : Prop :=
  (∃ v, e = .returned v) ∧ ∃ Fp', Turns (fun k => Fp k ∨ W.heap.size ≤ k) W W' ∧ Grows Fp Fp' W ∧ ((∃ xs, xs = Tm.chain T n ∧ J xs Fp' W') ∨ (∃ pre, pre <+: Tm.chain T n ∧ Jx pre Fp' W'))

set_option maxRecDepth 100000 in
set_option maxHeartbeats 8000000 in
theorem up1_seq {T : Tr} (ok : Tm.Ok T) {n : Qm.St} (hn : StWf n) (hpar : ∀ e ∈ T, StWf e.2.1) {b0 b1 P M1 M2 : Nat} {F0 : Nat → Prop} (w : World) (h : UpAt w b0 b1 P M1 M2 n T) (k0 : ¬ F0 b0) (k1 : ¬ F0 b1) (k2 : ¬ F0 P) (k3 : ¬ F0 M1) :
    SeqFp Tryz.prog 65 #[.pointer (some ⟨b0, 0, none⟩), .pointer (some ⟨b1, 0, none⟩)] snV (fun xs => xs = Tm.chain T n) (fun pre => pre <+: Tm.chain T n) F0 w := by
  intro l J Jx W Fp hW hFp hJ hlt hY h0
  have HU := Lib.hid (h.kept hW)
  have HNF := Lib.hid (show (¬ Fp b0 ∧ ¬ Fp b1 ∧ ¬ Fp P ∧ ¬ Fp M1) ∧ (b0 < W.heap.size ∧ b1 < W.heap.size ∧ P < W.heap.size ∧ M1 < W.heap.size) from
    ⟨⟨fun hh => k0 (hFp _ (AgAt.lt h.1) hh), fun hh => k1 (hFp _ (AgAt.lt h.2.1) hh), fun hh => k2 (hFp _ (AgAt.lt h.2.2.1) hh), fun hh => k3 (hFp _ h.2.2.2.lt hh)⟩, AgAt.lt HU.out.1, AgAt.lt HU.out.2.1, AgAt.lt HU.out.2.2.1, HU.out.2.2.2.lt⟩)
  have HWN := Lib.hid hn
  have HJ := Lib.hid hJ
  have HLT := Lib.hid hlt
  have HY := Lib.hid hY
  have HI0 := Lib.hid h0
  have HPAR := Lib.hid hpar
  have HOK := Lib.hid ok
  obtain ⟨ib, hib⟩ : ∃ b, b = (Tm.look T n).isSome := ⟨_, rfl⟩
  obtain ⟨va, hva⟩ : ∃ s, s = (Tm.look T n).getD zS := ⟨_, rfl⟩
  have HIB := Lib.hid hib
  have HVA := Lib.hid hva
  clear h hW hFp hJ hlt hY h0 k0 k1 k2 k3 hib hva hn hpar ok
  refine Calls.mono (R := Uped T n J Jx Fp W) ?_ fun e W' h => h
  simp only [List.append_toArray, List.cons_append, List.nil_append]
  go_enter Tryz.func65, Tryz.ntmps65
  go_upto_region 0 with fail
  refine wp_region_held_drew (S := fun W' => Below W.heap.size W W') (by kernel_rfl) (Below.refl _ _).drew (fun hS => ?_)
  have HD := Lib.hid (show Below W.heap.size W W.drew from (Below.refl _ _).drew)
  have HZD := Lib.hid (show W.drew.heap.size = W.heap.size from rfl)
  generalize W.drew = wd at *
  refine wpAnyH_take (i := 0) (v := ?_) rfl (by kernel_rfl) (by kernel_rfl) (by kernel_rfl) (fun _ _ _ h => h) (Or.inl ⟨by kernel_rfl, ?_⟩) hS ?_
  rotate_left
  · intro W hSW
    have yb : W.cell? ⟨b0, 0, none⟩ = some (.pointer (some ⟨P, 0, none⟩)) := by rw [AgAt.cell (AgAt.kept HU.out.1 hSW) 0]; rfl
    go_simp
    all_goals with_reducible rfl
  refine wpAnyH_take (i := 1) (v := ?_) rfl (by kernel_rfl) (by kernel_rfl) (by kernel_rfl) (fun _ _ _ h => h) (Or.inl ⟨by kernel_rfl, ?_⟩) hS ?_
  rotate_left
  · intro W hSW
    go_simp
    all_goals with_reducible rfl
  refine wpAnyH_take (i := 2) (v := ?_) rfl (by kernel_rfl) (by kernel_rfl) (by kernel_rfl) (fun _ _ _ h => h) (Or.inl ⟨by kernel_rfl, ?_⟩) hS ?_
  rotate_left
  · intro W hSW
    go_simp
    all_goals with_reducible rfl
  refine wpAnyH_take (i := 3) (v := ?_) rfl (by kernel_rfl) (by kernel_rfl) (by kernel_rfl) (fun _ _ _ h => h) (Or.inl ⟨by kernel_rfl, ?_⟩) hS ?_
  rotate_left
  · intro W hSW
    have y0 : W.cell? ⟨P, 0, none⟩ = some (.map (some M1)) := by rw [AgAt.cell (AgAt.kept HU.out.2.2.1 hSW) 0]; rfl
    go_simp
    all_goals with_reducible rfl
  go_simp
  refine wpAnyH_take (i := 4) (v := snV n) rfl (by kernel_rfl) (by kernel_rfl) (by kernel_rfl) (fun _ _ _ h => h) (Or.inl ⟨by kernel_rfl, fun W hSW => exec_load_ag stT rfl rfl rfl (AgAt.kept HU.out.2.1 hSW)⟩) hS ?_
  go_simp
  refine wpAnyH_take (i := 5) (v := .tuple #[.agg (spA va), .bool ib]) rfl (by kernel_rfl) (by kernel_rfl) (by kernel_rfl) (fun _ _ _ h => h) (Or.inl ⟨by kernel_rfl, fun W hSW => exec_lookup rfl rfl rfl (by rw [HIB.out, HVA.out]; exact look_of (HU.out.2.2.2.below hSW) HWN.out)⟩) hS ?_
  refine wpAnyH_take (i := 6) (v := ?_) rfl (by kernel_rfl) (by kernel_rfl) (by kernel_rfl) (fun _ _ _ h => h) (Or.inl ⟨by kernel_rfl, ?_⟩) hS ?_
  rotate_left
  · intro W hSW
    go_simp
    all_goals with_reducible rfl
  refine wpAnyH_take (i := 7) (v := ?_) rfl (by kernel_rfl) (by kernel_rfl) (by kernel_rfl) (fun _ _ _ h => h) (Or.inl ⟨by kernel_rfl, ?_⟩) hS ?_
  rotate_left
  · intro W hSW
    go_simp
    all_goals with_reducible rfl
  refine wpAnyH_take (i := 8) (v := ?_) rfl (by kernel_rfl) (by kernel_rfl) (by kernel_rfl) (fun _ _ _ h => h) (Or.inl ⟨by kernel_rfl, ?_⟩) hS ?_
  rotate_left
  · intro W hSW
    go_simp
    all_goals with_reducible rfl
  go_simp
  refine wpAnyH_ready (rs := [9]) (by kernel_rfl) (by simp) ?_
  refine AllReadyH.cons rfl (fun K hK => ?_) AllReadyH.nil
  have HS0 := Lib.hid hS
  go_simp
  have hba := (Below.refl wd.heap.size wd).alloc (Nat.le_refl _) (.cells #[.int .i64 0, .int .i64 0, .string ⟨#[]⟩] 39)
  refine hK.out _ _ (hS.trans (hba.mono hS.size)) (fun hS => ?_)
  clear hK K hba
  refine wpAnyH_ready (rs := [10]) (by kernel_rfl) (by simp) ?_
  refine AllReadyH.cons rfl (fun K hK => ?_) AllReadyH.nil
  refine step_of (by kernel_rfl) ?_
  refine wp_store_newag spT _ _ rfl rfl _ (A := spA va) rfl rfl rfl (spA_one _) ?_
  intro w5 hv5 hb5
  have HV5 := Lib.hid hv5
  refine hK.out _ _ (HS0.out.trans (hb5.mono HS0.out.size)) (fun hS => ?_)
  clear hK K hv5 hb5
  refine wpAnyH_take (i := 11) (v := ?_) rfl (by kernel_rfl) (by kernel_rfl) (by kernel_rfl) (fun _ _ _ h => h) (Or.inl ⟨by kernel_rfl, ?_⟩) hS ?_
  rotate_left
  · intro W hSW
    go_simp
    all_goals with_reducible rfl
  go_simp
  refine wpAnyH_done (by kernel_rfl) ?_ _
  go_simp
  have HT := Lib.hid (show Turns (fun k => Fp k ∨ W.heap.size ≤ k) W w5 from Turns.of_below hS)
  have HI := Lib.hid (show UpI T n J Fp W wd.heap.size va ib [] (Tm.chain T n) Fp w5 from ⟨rfl, fun hh => by
      obtain ⟨s, hs⟩ := Option.isSome_iff_exists.1 (HIB.out.symm.trans hh)
      have : va = s := by rw [HVA.out, hs]; rfl
      subst this
      exact ⟨_, HOK.out.chainEq (Tm.Up.step hs (HOK.out.chain va.1)), HOK.out.chain va.1⟩, fun hh => by
      have h2 : (Tm.look T n) = none := by have := HIB.out.symm.trans hh; rwa [Option.isSome_eq_false_iff, Option.isNone_iff_eq_none] at this
      exact HOK.out.chainEq (Tm.Up.stop h2), fun hh => by
      obtain ⟨s, hs⟩ := Option.isSome_iff_exists.1 (HIB.out.symm.trans hh)
      have : va = s := by rw [HVA.out, hs]; rfl
      subst this
      exact HPAR.out _ (Tm.look_mem hs), HJ.out _ _ _ _ HI0.out (Turns.of_below hS), HV5.out, fun hh => by have := HLT.out _ _ _ HI0.out _ hh; have := HZD.out; omega, by have := HZD.out; omega, HT.out, Grows.refl _ _⟩)
  clear hS HV5 HT HI0 HS0 HD HIB HVA
  generalize wd.heap.size = A at *
  go_wp2_with fail
  go_loopg [5] ((Tm.chain T n).length + 1) (fun g (p : Value) wr => ∃ jb va pre rest F1, p = .bool jb ∧ UpI T n J Fp W A va jb pre rest F1 wr ∧ rest.length < g)
  case atStart => exact ⟨_, _, _, _, _, rfl, HI.out, Nat.lt_succ_self _⟩
  case round =>
    clear HI
    obtain ⟨jb, va, pre, rest, F1, rfl, hI, hlg⟩ := hrel
    obtain ⟨g1, rfl⟩ : ∃ g1, gk = g1 + 1 := ⟨gk - 1, by omega⟩
    have HI := Lib.hid hI
    have HLG := Lib.hid hlg
    clear hI hlg
    cases jb with
    | false =>
      have HE := Lib.hid (show Uped T n J Jx Fp W (.returned (.tuple #[])) wr from by
        have h1 := HI.out.all
        rw [HI.out.gone rfl, List.append_nil] at h1
        exact ⟨⟨_, rfl⟩, F1, HI.out.turns, HI.out.grows, Or.inl ⟨pre, h1, HI.out.inv⟩⟩)
      clear HI HY HU HNF HLG
      go_wp2
      go_end0
      exact HE.out
    | true =>
      obtain ⟨rest', hr1, hr2⟩ := HI.out.here rfl
      have HRR := Lib.hid hr1
      have HUP := Lib.hid hr2
      have HPX := Lib.hid (show pre ++ [va.1] <+: Tm.chain T n from ⟨rest', by rw [← HI.out.all, hr1, List.append_assoc]; rfl⟩)
      clear hr1 hr2
      have hy := HY.out pre va.1 F1 wr HI.out.inv HPX.out
      obtain ⟨fn, tmps, assign, body, hyr, hR⟩ := hy
      have HR := Lib.hid hR
      clear hR
      refine wp_seq_k (fun K hK => ?_)
      refine (wpIn_wide (n := 0)).1 ?_
      gi_wp2_with (refine wpListIn_load_part stT (by kernel_rfl) _ rfl _ 0 rfl [.int .i64 va.1.1, .int .i64 va.1.2] rfl HI.out.box spPar ?_)
      refine ⟨rfl, HR.out.mono ?_⟩
      rintro e w3 ⟨F3, ht3, hg3, (⟨rfl, hj3⟩ | ⟨rfl, hj3⟩)⟩
      · have HT3 := Lib.hid (show Turns (fun k => Fp k ∨ W.heap.size ≤ k) W w3 from HI.out.turns.trans (ht3.mono fun k _ hk => Or.inl (HI.out.grows k hk)))
        have HU3 := Lib.hid (HU.out.turns HT3.out (fun h => h.elim HNF.out.1.1 fun h => by have := HNF.out.2.1; omega) (fun h => h.elim HNF.out.1.2.1 fun h => by have := HNF.out.2.2.1; omega) (fun h => h.elim HNF.out.1.2.2.1 fun h => by have := HNF.out.2.2.2.1; omega) (fun h => h.elim HNF.out.1.2.2.2 fun h => by have := HNF.out.2.2.2.2; omega))
        have HV := Lib.hid (AgAt.block HI.out.box (ht3.block _ (AgAt.lt HI.out.box) HI.out.fa))
        have HFA := Lib.hid (show ¬ F3 A from fun h => (hg3 _ h).elim HI.out.fa fun h => by have := AgAt.lt HI.out.box; omega)
        have HG3 := Lib.hid (show Grows Fp F3 W from fun k hk => (hg3 k hk).elim (HI.out.grows k) fun h => Or.inr (Nat.le_trans HI.out.turns.size h))
        have HJ3 := Lib.hid hj3
        have HWP := Lib.hid (HI.out.wf rfl)
        have HNA := Lib.hid (show b0 ≠ A ∧ P ≠ A ∧ M1 ≠ A from by have h1 := HNF.out.2; have h2 := HI.out.la; omega)
        have HLA := Lib.hid HI.out.la
        have HAL := Lib.hid HI.out.all
        obtain ⟨jb, hjb⟩ : ∃ b, b = (Tm.look T va.1).isSome := ⟨_, rfl⟩
        obtain ⟨vb, hvb⟩ : ∃ s, s = (Tm.look T va.1).getD zS := ⟨_, rfl⟩
        have HJB := Lib.hid hjb
        have HVB := Lib.hid hvb
        clear HI HR ht3 hg3 hj3 hjb hvb hyr
        gi_wp2
        clear HY HU HNF
        go_upto_region 2 with fail
        have hbd := Below.drew (Below.refl w3.heap.size w3)
        replace HT3 := Lib.hid (HT3.out.trans (Turns.of_below hbd))
        replace HU3 := Lib.hid (HU3.out.kept hbd)
        replace HV := Lib.hid (AgAt.kept HV.out hbd)
        replace HJ3 := Lib.hid (HJ.out _ _ _ _ HJ3.out (Turns.of_below hbd))
        refine wp_region_held_drew (S := fun W' => AgAt W' b0 #[.pointer (some ⟨P, 0, none⟩)] ∧ AgAt W' P #[.map (some M1), .map (some M2)] ∧ SMap W' M1 (spots T)) (by kernel_rfl) ⟨HU3.out.1, HU3.out.2.2.1, HU3.out.2.2.2⟩ (fun hS => ?_)
        clear hbd
        generalize w3.drew = w3 at *
        refine wpAnyH_take (i := 0) (v := ?_) rfl (by kernel_rfl) (by kernel_rfl) (by kernel_rfl) (fun _ _ _ h => h) (Or.inl ⟨by kernel_rfl, ?_⟩) hS ?_
        rotate_left
        · intro W hSW
          have yb : W.cell? ⟨b0, 0, none⟩ = some (.pointer (some ⟨P, 0, none⟩)) := by rw [AgAt.cell hSW.1 0]; rfl
          go_simp
          all_goals with_reducible rfl
        refine wpAnyH_take (i := 1) (v := ?_) rfl (by kernel_rfl) (by kernel_rfl) (by kernel_rfl) (fun _ _ _ h => h) (Or.inl ⟨by kernel_rfl, ?_⟩) hS ?_
        rotate_left
        · intro W hSW
          go_simp
          all_goals with_reducible rfl
        refine wpAnyH_take (i := 2) (v := ?_) rfl (by kernel_rfl) (by kernel_rfl) (by kernel_rfl) (fun _ _ _ h => h) (Or.inl ⟨by kernel_rfl, ?_⟩) hS ?_
        rotate_left
        · intro W hSW
          go_simp
          all_goals with_reducible rfl
        refine wpAnyH_take (i := 3) (v := ?_) rfl (by kernel_rfl) (by kernel_rfl) (by kernel_rfl) (fun _ _ _ h => h) (Or.inl ⟨by kernel_rfl, ?_⟩) hS ?_
        rotate_left
        · intro W hSW
          have y0 : W.cell? ⟨P, 0, none⟩ = some (.map (some M1)) := by rw [AgAt.cell hSW.2.1 0]; rfl
          go_simp
          all_goals with_reducible rfl
        go_simp
        refine wpAnyH_take (i := 4) (v := ?_) rfl (by kernel_rfl) (by kernel_rfl) (by kernel_rfl) (fun _ _ _ h => h) (Or.inl ⟨by kernel_rfl, ?_⟩) hS ?_
        rotate_left
        · intro W hSW
          go_simp
          all_goals with_reducible rfl
        go_simp
        refine wpAnyH_ready (rs := [5]) (by kernel_rfl) (by simp) ?_
        refine AllReadyH.cons rfl (fun K hK => ?_) AllReadyH.nil
        refine step_of (by kernel_rfl) ?_
        refine wp_load_part stT _ rfl A 0 rfl [.int .i64 va.1.1, .int .i64 va.1.2] rfl HV.out spPar ?_
        refine hK.out _ _ hS (fun hS => ?_)
        clear hK K
        refine wpAnyH_take (i := 6) (v := .tuple #[.agg (spA vb), .bool jb]) rfl (by kernel_rfl) (by kernel_rfl) (by kernel_rfl) (fun _ _ _ h => h) (Or.inl ⟨by kernel_rfl, fun W hSW => exec_lookup rfl rfl rfl (by rw [HJB.out, HVB.out]; exact look_of hSW.2.2 HWP.out)⟩) hS ?_
        refine wpAnyH_take (i := 7) (v := ?_) rfl (by kernel_rfl) (by kernel_rfl) (by kernel_rfl) (fun _ _ _ h => h) (Or.inl ⟨by kernel_rfl, ?_⟩) hS ?_
        rotate_left
        · intro W hSW
          go_simp
          all_goals with_reducible rfl
        refine wpAnyH_take (i := 8) (v := ?_) rfl (by kernel_rfl) (by kernel_rfl) (by kernel_rfl) (fun _ _ _ h => h) (Or.inl ⟨by kernel_rfl, ?_⟩) hS ?_
        rotate_left
        · intro W hSW
          go_simp
          all_goals with_reducible rfl
        refine wpAnyH_take (i := 9) (v := ?_) rfl (by kernel_rfl) (by kernel_rfl) (by kernel_rfl) (fun _ _ _ h => h) (Or.inl ⟨by kernel_rfl, ?_⟩) hS ?_
        rotate_left
        · intro W hSW
          go_simp
          all_goals with_reducible rfl
        go_simp
        refine wpAnyH_ready (rs := [10]) (by kernel_rfl) (by simp) ?_
        refine AllReadyH.cons rfl (fun K hK => ?_) AllReadyH.nil
        refine step_of (by kernel_rfl) ?_
        refine wp_store_ag spT _ _ rfl A rfl _ HV.out (A := spA vb) rfl rfl rfl (spA_one _) ?_
        intro w5 hv5 hko5 hsz5 hbn5
        have HT5 := Lib.hid (stored_turns hko5 hsz5 hbn5)
        have HV5 := Lib.hid hv5
        refine hK.out _ _ ⟨AgAt.block hS.1 (hko5 _ HNA.out.1), AgAt.block hS.2.1 (hko5 _ HNA.out.2.1), hS.2.2.block (hko5 _ HNA.out.2.2)⟩ (fun hS => ?_)
        clear hK K hv5 hko5 hsz5 hbn5 HV
        refine wpAnyH_take (i := 11) (v := ?_) rfl (by kernel_rfl) (by kernel_rfl) (by kernel_rfl) (fun _ _ _ h => h) (Or.inl ⟨by kernel_rfl, ?_⟩) hS ?_
        rotate_left
        · intro W hSW
          go_simp
          all_goals with_reducible rfl
        go_simp
        refine wpAnyH_done (by kernel_rfl) ?_ _
        go_simp
        clear hS HU3
        replace HT3 := Lib.hid (HT3.out.trans (HT5.out.mono fun k _ hk => Or.inl (Or.inr (by subst hk; exact HLA.out))))
        replace HJ3 := Lib.hid (HJ.out _ _ _ _ HJ3.out (HT5.out.mono fun k _ hk h => HFA.out (by subst hk; exact h)))
        have HI := Lib.hid (show UpI T n J Fp W A vb jb (pre ++ [va.1]) rest' F3 w5 from ⟨by rw [List.append_assoc, ← HAL.out, HRR.out]; rfl, fun hh => by
            obtain ⟨s, hs⟩ := Option.isSome_iff_exists.1 (HJB.out.symm.trans hh)
            have : vb = s := by rw [HVB.out, hs]; rfl
            subst this
            exact ⟨_, Tm.up_det HUP.out (Tm.Up.step hs (HOK.out.chain vb.1)), HOK.out.chain vb.1⟩, fun hh => by
            have h2 : (Tm.look T va.1) = none := by have := HJB.out.symm.trans hh; rwa [Option.isSome_eq_false_iff, Option.isNone_iff_eq_none] at this
            exact Tm.up_det HUP.out (Tm.Up.stop h2), fun hh => by
            obtain ⟨s, hs⟩ := Option.isSome_iff_exists.1 (HJB.out.symm.trans hh)
            have : vb = s := by rw [HVB.out, hs]; rfl
            subst this
            exact HPAR.out _ (Tm.look_mem hs), HJ3.out, HV5.out, HFA.out, HLA.out, HT3.out, HG3.out⟩)
        have HL1 := Lib.hid (show rest'.length < g1 from by have := HLG.out; rw [HRR.out] at this; simp only [List.length_cons] at this; omega)
        clear HT3 HJ3 HFA HAL HJB HVB HWP HPX HUP HRR HLG HG3 HT5 HV5
        go_wp2
        go_roundg g1
        case rel => exact ⟨_, _, _, _, _, rfl, HI.out, HL1.out⟩
        case measure => omega
      · have HE := Lib.hid (show Uped T n J Jx Fp W (.returned (.tuple #[])) w3 from
          ⟨⟨_, rfl⟩, F3, HI.out.turns.trans (ht3.mono fun k _ hk => Or.inl (HI.out.grows k hk)), fun k hk => (hg3 k hk).elim (HI.out.grows k) fun h => Or.inr (Nat.le_trans HI.out.turns.size h), Or.inr ⟨_, HPX.out, hj3⟩⟩)
        clear HI HR HY HU HNF ht3 hg3 hj3 hyr
        gi_wp2
        go_end0
        exact HE.out
end Go.Proofs.YtilkokhapcgolaaGreat
