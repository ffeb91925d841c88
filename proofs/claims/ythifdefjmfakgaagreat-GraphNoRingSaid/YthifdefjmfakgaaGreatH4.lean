/-
  slices.Clone of a graph's lines and of what takes them back: a row of its own.
  No conditions but sizes.
  Clone of a graph: a graph of its own, of the same ops; lines, and what takes them back, both share.
  No conditions but sizes.
  A GRAPH's LOOKS: Ref.
  No conditions but sizes.
  A GRAPH THAT A LAW HAS MADE, or it and its copy, beside boxes of the law's: what each call leaves.
  No conditions but sizes.
-/
import Derived.Test.YthifdefjmfakgaaGreatG4
import Derived.Test.YthifdefjmfakgaaGreatGZ
import Derived.Test.YthifdefjmfakgaaGreatGrAsk
import Derived.Test.YthifdefjmfakgaaGreatG3
import Derived.Test.YthifdefjmfakgaaGreatGrInsert
namespace Go.Proofs.YthifdefjmfakgaaGreat
open Go.RowKit
open Tm (Sp Tr has put cut kids)

end Go.Proofs.YthifdefjmfakgaaGreat

namespace Go.Proofs.YthifdefjmfakgaaGreat
open Go.RowKit
open Tm (Sp Tr has put cut kids)

theorem own_belowC {w w' : World} {B k n : Nat} {v : Value} {xs : List Value} {E : TypeId} (h : w.ownsRow B E k v n xs) (hb : Below w.heap.size w w') : w'.ownsRow B E k v n xs := (Turns.of_below (F := fun _ => False) hb).own h fun _ _ h => h
theorem Tm.up_of {T U : Tr} (h : ∀ n, Tm.look U n = Tm.look T n) {n : Qm.St} {l : List Qm.St} (hu : Tm.Up T n l) : Tm.Up U n l := by
  induction hu with
  | stop h1 => exact .stop ((h _).trans h1)
  | step h1 _ ih => exact .step ((h _).trans h1) ih
theorem Tm.Ok.perm {T U : Tr} (h : Tm.Ok T) (hp : U.Perm T) : Tm.Ok U := by
  have hl := Tm.look_perm h.nd hp
  refine ⟨(hp.map Prod.fst).nodup_iff.2 h.nd, fun e he => h.node e (hp.mem_iff.1 he), fun e he => h.sp e (hp.mem_iff.1 he), fun e he => ?_, fun n => ?_⟩
  · have h1 := h.par e (hp.mem_iff.1 he)
    unfold Tm.has at h1 ⊢
    rw [hl]; exact h1
  · obtain ⟨l, h1⟩ := h.up n
    exact ⟨l, Tm.up_of hl h1⟩
/-- the colours that a copy begins with: what both share -/
def sharedC (χ : Nat → Nat) : Nat → Nat := fun k => if χ k = 6 then 6 else 0
theorem shared_or {χ : Nat → Nat} (k : Nat) : (χ k = 6 ∧ sharedC χ k = 6) ∨ sharedC χ k = 0 := by
  unfold sharedC
  by_cases h : χ k = 6
  · exact Or.inl ⟨h, if_pos h⟩
  · exact Or.inr (if_neg h)
abbrev CpT := Nat × Nat × Nat × Tr × List Kid
/-- a copy's parts, as far as they are made -/
structure Cp (w : World) (X : Gx) (χ : Nat → Nat) (a b : Option (Option Addr × Nat)) (t : Option CpT) (m1 m2 : Option Nat) (χ2 : Nat → Nat) (W : World) : Prop where
  bel : Below w.heap.size w W
  lt : ∀ k, χ2 k ≠ 0 → k < W.heap.size
  old : ∀ k, k < w.heap.size → χ2 k = sharedC χ k
  ra : ∀ p c, a = some (p, c) → W.ownsRow 0 104 1 (.slice p X.ls.length c) X.ls.length (X.ls.map fun e => ptV e.2) ∧ ∀ k, (Value.slice p X.ls.length c).ownBlock = some k → χ2 k = 2
  rb : ∀ p c, b = some (p, c) → W.ownsRow 0 106 1 (.slice p X.us.length c) X.us.length (X.us.map Uk.val) ∧ ∀ k, (Value.slice p X.us.length c).ownBlock = some k → χ2 k = 3
  tr : ∀ x : CpT, t = some x → x.2.2.2.1.Perm X.T ∧ Lay W x.1 x.2.1 x.2.2.1 x.2.2.2.1 x.2.2.2.2 (fun k => χ2 k = 4)
  n1 : ∀ M, m1 = some M → SMap W M [] ∧ χ2 M = 5
  n2 : ∀ M, m2 = some M → SMap W M [] ∧ χ2 M = 5
  ne : ∀ M N, m1 = some M → m2 = some N → M ≠ N
def CpE (w : World) (X : Gx) (χ : Nat → Nat) (a b : Option (Option Addr × Nat)) (t : Option CpT) (m1 m2 : Option Nat) (W : World) : Prop := ∃ χ2, Cp w X χ a b t m1 m2 χ2 W
section
variable {w W W' : World} {X : Gx} {χ χ2 : Nat → Nat} {a b : Option (Option Addr × Nat)} {t : Option CpT} {m1 m2 : Option Nat}
theorem Cp.start (h : Grf w X χ) : Cp w X χ none none none none none (sharedC χ) w :=
  ⟨Below.refl _ _, fun k hk => by
    rcases shared_or (χ := χ) k with ⟨h1, -⟩ | h1
    · exact h.lt k (by rw [h1]; decide)
    · exact absurd h1 hk, fun _ _ => rfl, fun _ _ h => (by cases h), fun _ _ h => (by cases h), fun _ h => (by cases h), fun _ h => (by cases h), fun _ h => (by cases h), fun _ _ h => (by cases h)⟩
theorem Cp.grow (h : Cp w X χ a b t m1 m2 χ2 W) (hb : Below W.heap.size W W') (c : Nat) : Cp w X χ a b t m1 m2 (grown χ2 W W' c) W' := by
  have ho : ∀ {k d : Nat}, χ2 k = d → d ≠ 0 → grown χ2 W W' c k = d := fun {k d} h1 h2 => (grown_old h.lt (by rw [h1]; exact h2)).trans h1
  refine ⟨h.bel.trans (hb.mono h.bel.size), fun k hk => grown_lt hb.size hk, fun k hk => ?_, fun p c e => ⟨own_belowC (h.ra p c e).1 hb, fun k hk => ho ((h.ra p c e).2 k hk) (by decide)⟩, fun p c e => ⟨own_belowC (h.rb p c e).1 hb, fun k hk => ho ((h.rb p c e).2 k hk) (by decide)⟩,
    fun x e => ⟨(h.tr x e).1, ((h.tr x e).2.kept hb).more (fun k hk => ho hk (by decide)) fun k hk => grown_lt hb.size (by rw [hk]; decide)⟩, fun M e => ⟨(h.n1 M e).1.below hb, ho (h.n1 M e).2 (by decide)⟩, fun M e => ⟨(h.n2 M e).1.below hb, ho (h.n2 M e).2 (by decide)⟩, h.ne⟩
  have h1 := h.bel.size
  unfold grown
  rw [if_pos (by omega)]
  exact h.old k hk
theorem CpE.bel (h : CpE w X χ a b t m1 m2 W) : Below w.heap.size w W := by
  obtain ⟨χ2, h⟩ := h
  exact h.bel
theorem CpE.tree (h : CpE w X χ a b none m1 m2 W) (hg : Grf w X χ) :
    Calls Tryz.prog 34 #[ptV X.P] W fun e W' => ∃ x : CpT, e = .returned (ptV x.1) ∧ CpE w X χ a b (some x) m1 m2 W' := by
  obtain ⟨χ2, h⟩ := h
  refine (clone_any W (hg.tree.kept h.bel) hg.toCore.par).mono ?_
  rintro e W' ⟨P, M1, M2, U, C, rfl, hp, hl, hb⟩
  have h2 := h.grow hb 4
  refine ⟨(P, M1, M2, U, C), rfl, _, h2.bel, h2.lt, h2.old, h2.ra, h2.rb, fun x e => ?_, h2.n1, h2.n2, h2.ne⟩
  cases e
  exact ⟨hp, hl.more (fun k hk => grown_new hk.1 hk.2) fun k hk => grown_lt hb.size (by rw [hk]; decide)⟩
end

/-- a copy whose masters are still to come: where it lies is O's -/
structure Ot (w : World) (X : Gx) (χ : Nat → Nat) (O : Gx) (χ2 : Nat → Nat) (W : World) : Prop where
  bel : Below w.heap.size w W
  lt : ∀ k, χ2 k ≠ 0 → k < W.heap.size
  old : ∀ k, k < w.heap.size → χ2 k = sharedC χ k
  at_ : AgAt W O.b O.cells
  cb : χ2 O.b = 1
  ro : W.ownsRow 0 104 1 O.po O.ls.length (O.ls.map fun e => ptV e.2)
  co : ∀ k, O.po.ownBlock = some k → χ2 k = 2
  ru : W.ownsRow 0 106 1 O.pu O.us.length (O.us.map Uk.val)
  cu : ∀ k, O.pu.ownBlock = some k → χ2 k = 3
  tree : Lay W O.P O.M1 O.M2 O.T O.C (fun k => χ2 k = 4)
  ms : Ms W O.M3 O.M4 O.L O.D (fun k => χ2 k = 5)
  ls : O.ls = X.ls
  us : O.us = X.us
  tp : O.T.Perm X.T
  lk : O.lk = 0
section
variable {w W W' : World} {X O : Gx} {χ χ2 : Nat → Nat}
theorem Ot.far (h : Ot w X χ O χ2 W) {k c : Nat} (hk : χ2 k = c) (h1 : 1 ≤ c) (h5 : c ≤ 5) : w.heap.size ≤ k := by
  by_cases hl : k < w.heap.size
  · rw [h.old k hl] at hk
    rcases shared_or (χ := χ) k with ⟨-, h2⟩ | h2 <;> omega
  · omega
theorem Ot.turns {G : Nat → Prop} (h : Ot w X χ O χ2 W) (ht : Turns G W W') (hd : ∀ k, χ2 k ≠ 0 → ¬ G k) (hw : ∀ k, k < w.heap.size → ¬ G k) : Ot w X χ O χ2 W' :=
  ⟨h.bel.trans (ht.below (fun k _ hk => by
      by_cases hl : k < w.heap.size
      · exact absurd hk (hw k hl)
      · omega) h.bel.size), fun k hk => Nat.lt_of_lt_of_le (h.lt k hk) ht.size, h.old, h.at_.block (ht.block _ (AgAt.lt h.at_) (hd _ (by rw [h.cb]; decide))), h.cb, ht.own h.ro (fun k hk => hd k (by rw [h.co k hk]; decide)), h.co, ht.own h.ru (fun k hk => hd k (by rw [h.cu k hk]; decide)), h.cu,
    h.tree.turns ht (fun k hk => hd k (by rw [hk]; decide)), h.ms.turns ht (fun k hk => hd k (by rw [hk]; decide)), h.ls, h.us, h.tp, h.lk⟩
theorem Ot.kept (h : Ot w X χ O χ2 W) (hb : Below W.heap.size W W') : Ot w X χ O χ2 W' := h.turns (Turns.of_below (F := fun _ => False) hb) (fun _ _ h => h) fun _ _ h => h
/-- one master more -/
theorem Ot.turned (h : Ot w X χ O χ2 W) {n q : Qm.St} {e : Ending} (ht : Turned O.M3 O.M4 O.L (fun k => χ2 k = 5) n q W e W') (hn : lookL O.L n = none) (hq : q ≠ (0, 0)) :
    ∃ D, Ot w X χ { O with L := O.L ++ [(n, q)], D := D } (grown χ2 W W' 5) W' := by
  obtain ⟨-, D, hm, ht⟩ := ht
  have hl : turnL O.L n q = O.L ++ [(n, q)] := by
    unfold turnL
    rw [if_neg hq, cutL_none (by rw [hn]; rfl)]
  rw [hl] at hm
  have hz := ht.size
  have ho : ∀ {k d : Nat}, χ2 k = d → d ≠ 0 → grown χ2 W W' 5 k = d := fun {k d} h1 h2 => (grown_old h.lt (by rw [h1]; exact h2)).trans h1
  refine ⟨D, h.bel.trans (ht.below (fun k _ hk => h.far hk (by decide) (by decide)) h.bel.size), fun k hk => grown_lt hz hk, fun k hk => ?_, h.at_.block (ht.block _ (AgAt.lt h.at_) (by rw [h.cb]; decide)), ho h.cb (by decide), ht.own h.ro (fun k hk => by rw [h.co k hk]; decide), fun k hk => ho (h.co k hk) (by decide),
    ht.own h.ru (fun k hk => by rw [h.cu k hk]; decide), fun k hk => ho (h.cu k hk) (by decide), (h.tree.turns ht fun k hk => by rw [hk]; decide).more (fun k hk => ho hk (by decide)) (fun k hk => grown_lt hz (by rw [hk]; decide)), hm.more (fun k hk => ?_) (fun k hk => grown_lt hz (by rw [hk]; decide)), h.ls, h.us, h.tp, h.lk⟩
  · have h1 := h.bel.size
    unfold grown
    rw [if_pos (by omega)]
    exact h.old k hk
  · rcases hk with hk | hk
    · exact ho hk (by decide)
    · exact grown_new hk.1 hk.2
end
end Go.Proofs.YthifdefjmfakgaaGreat

namespace Go.Proofs.YthifdefjmfakgaaGreat
open Go.RowKit
open Tm (Sp Tr has put cut kids)

theorem wp_valueG {w : World} {o : Oper} {a : Act} {K : Act → World → Prop} {Q : Exit → Act → World → Prop} {v : Value} (hr : (execOp a.eval o).run Tryz.prog w = .ok (.value v) w) (h : K (a.put o.dst v) w) : Oper.wp Tryz.prog o a w K Q := by
  unfold Oper.wp
  rw [hr]
  exact h
set_option maxRecDepth 100000 in
set_option maxHeartbeats 4000000 in
theorem gref_any {gg : Nat} {ops : List Pm.Wr} {χ : Nat → Nat} (s : Qm.St) (w : World) (h : Gra w gg ops χ) (hn : StWf s) : Calls Tryz.prog 23 #[ptV gg, snV s] w fun e w' => e = .returned (.tuple #[snV (((Gm.run ops).m s).getD (0, 0)), .bool ((Gm.run ops).m s).isSome]) ∧ Left gg ops χ w w' := by
  have h1 : ∀ (w : World) (o : Obj), Below w.heap.size w (w.alloc o) := fun w o => (Below.refl _ _).alloc (Nat.le_refl _) _
  have hb := ((h1 w (.cells (stA s) 35)).trans ((h1 (w.alloc (.cells (stA s) 35)) (.cells #[.int .i64 0, .int .i64 0] 35)).mono (by simp)))
  have HB0 := Lib.hid ((AgAt.new w (stA s) 35).kept (h1 _ (.cells #[.int .i64 0, .int .i64 0] 35)))
  have HB1 := Lib.hid (show AgAt ((w.alloc (.cells (stA s) 35)).alloc (.cells #[.int .i64 0, .int .i64 0] 35)) (w.heap.size + 1) #[.int .i64 0, .int .i64 0] from by
    have := AgAt.new (w.alloc (.cells (stA s) 35)) #[.int .i64 0, .int .i64 0] 35
    rw [show (w.alloc (.cells (stA s) 35)).heap.size = w.heap.size + 1 from by simp] at this
    exact this)
  have HC := Lib.hid (h.kept hb)
  have HB := Lib.hid hb
  have HZ := Lib.hid (show χ w.heap.size = 0 ∧ ∀ k, w.heap.size ≤ k → χ k = 0 from by obtain ⟨⟨X, h1, h2, h3, h4⟩, -⟩ := h; exact ⟨h2.toCore.zero (Nat.le_refl _), fun k hk => h2.toCore.zero hk⟩)
  have HGZ := Lib.hid h.gz
  have HGL := Lib.hid h.lt
  have HWN := Lib.hid hn
  have hgb : ∃ b, AgAt ((w.alloc (.cells (stA s) 35)).alloc (.cells #[.int .i64 0, .int .i64 0] 35)) gg #[ptV b] := by
    obtain ⟨⟨X, h1, -⟩, -⟩ := h
    exact ⟨_, h1.kept hb⟩
  obtain ⟨b0, hgb⟩ := hgb
  have HGB := Lib.hid hgb
  obtain ⟨ib, hib⟩ : ∃ b, b = ((Gm.run ops).m s).isSome := ⟨_, rfl⟩
  obtain ⟨va, hva⟩ : ∃ v, v = ((Gm.run ops).m s).getD (0, 0) := ⟨_, rfl⟩
  have HLK := Lib.hid (fun (W : World) (X : Gx) (χ : Nat → Nat) (hc : Core W X χ (Gm.run ops)) => show (Instr.lookup 89 (.map (some X.M3)) (snV s) true).run Tryz.prog W = .ok (.tuple #[snV va, .bool ib]) W from by
    rw [hib, hva, ← hc.hm]; exact hc.ms.look1 s HWN.out)
  rw [← hib, ← hva]
  clear h hb hgb hn hib hva h1
  go_enter Tryz.func23, Tryz.ntmps23
  go_upto_region 3 with (go_at_call 30; refine (gours_any _ HGB.out).mono ?_; rintro e w1 ⟨rfl, rfl⟩)
  generalize (w.alloc (.cells (stA s) 35)).alloc (.cells #[.int .i64 0, .int .i64 0] 35) = w1 at *
  have hbd := Below.drew (Below.refl w1.heap.size w1)
  replace HC := Lib.hid (HC.out.kept hbd)
  replace HB0 := Lib.hid (AgAt.kept HB0.out hbd)
  replace HB1 := Lib.hid (AgAt.kept HB1.out hbd)
  replace HB := Lib.hid (HB.out.trans (hbd.mono HB.out.size))
  refine wp_region_held_drew (S := fun W => AgAt W w.heap.size (stA s)) (by kernel_rfl) HB0.out (fun hS => ?_)
  clear hbd HB0 HGB
  generalize w1.drew = wd at *
  refine wpAnyH_take (i := 0) (v := ?_) rfl (by kernel_rfl) (by kernel_rfl) (by kernel_rfl) (fun _ _ _ h => h) (Or.inl ⟨by kernel_rfl, ?_⟩) hS ?_
  rotate_left
  · intro W hSW
    go_simp
    all_goals with_reducible rfl
  go_simp
  refine wpAnyH_take (i := 5) (v := snV s) rfl (by kernel_rfl) (by kernel_rfl) (by kernel_rfl) (fun _ _ _ h => h) (Or.inl ⟨by kernel_rfl, fun W hSW => exec_load_ag stT rfl rfl rfl hSW⟩) hS ?_
  go_simp
  refine wpAnyH_ready (rs := [1, 10]) (by kernel_rfl) (by simp) ?_
  refine AllReadyH.cons rfl (fun K hK => ?_) (AllReadyH.cons rfl (fun K hK => ?_) AllReadyH.nil)
  · go_simp
    go_wp2_with (go_at_call 31; refine (gnow_any _ HC.out).mono ?_; rintro e w5 ⟨X, χ1, rfl, hg, hf, hl, ho, ha, hgg, hgo⟩)
    have HND := Lib.hid (nowd_of HB.out HGZ.out hg hf hl ho ha hgg hgo)
    have hs5 := hS.block (hgo.turns.block _ (AgAt.lt hS) (by rw [HZ.out.1]; decide))
    have HZ1 := Lib.hid ((hgo.keep _ (AgAt.lt HB1.out)).trans (HZ.out.2 (w.heap.size + 1) (by omega)))
    replace HB1 := Lib.hid (HB1.out.block (hgo.turns.block _ (AgAt.lt HB1.out) (by rw [HZ.out.2 _ (by omega)]; decide)))
    refine hK.out _ _ hs5 (fun hS => ?_)
    clear hK K hg hf hl ho ha hgg hgo hs5 HC HB HGZ
    refine wpAnyH_take (i := 2) (v := ?_) rfl (by kernel_rfl) (by kernel_rfl) (by kernel_rfl) (fun _ _ _ h => h) (Or.inl ⟨by kernel_rfl, ?_⟩) hS ?_
    rotate_left
    · intro W hSW
      go_simp
      all_goals with_reducible rfl
    refine wpAnyH_take (i := 3) (v := ?_) rfl (by kernel_rfl) (by kernel_rfl) (by kernel_rfl) (fun _ _ _ h => h) (Or.inl ⟨by kernel_rfl, ?_⟩) hS ?_
    rotate_left
    · intro W hSW
      go_simp
      all_goals with_reducible rfl
    go_simp
    refine wpAnyH_ready (rs := [4, 10]) (by kernel_rfl) (by simp) ?_
    refine AllReadyH.cons rfl (fun K hK => ?_) (AllReadyH.cons rfl (fun K hK => ?_) AllReadyH.nil)
    · have y5 := HND.out.core.c3
      go_simp
      refine hK.out _ _ hS (fun hS => ?_)
      clear hK K y5
      refine wpAnyH_ready (rs := [6, 10]) (by kernel_rfl) (by simp) ?_
      refine AllReadyH.cons rfl (fun K hK => ?_) (AllReadyH.cons rfl (fun K hK => ?_) AllReadyH.nil)
      · refine step_of (by kernel_rfl) ?_
        refine wp_valueG (exec_lookup rfl rfl rfl (HLK.out _ X χ1 HND.out.core)) ?_
        refine hK.out _ _ hS (fun hS => ?_)
        clear hK K
        refine wpAnyH_take (i := 7) (v := ?_) rfl (by kernel_rfl) (by kernel_rfl) (by kernel_rfl) (fun _ _ _ h => h) (Or.inl ⟨by kernel_rfl, ?_⟩) hS ?_
        rotate_left
        · intro W hSW
          go_simp
          all_goals with_reducible rfl
        refine wpAnyH_take (i := 8) (v := ?_) rfl (by kernel_rfl) (by kernel_rfl) (by kernel_rfl) (fun _ _ _ h => h) (Or.inl ⟨by kernel_rfl, ?_⟩) hS ?_
        rotate_left
        · intro W hSW
          go_simp
          all_goals with_reducible rfl
        refine wpAnyH_take (i := 9) (v := ?_) rfl (by kernel_rfl) (by kernel_rfl) (by kernel_rfl) (fun _ _ _ h => h) (Or.inl ⟨by kernel_rfl, ?_⟩) hS ?_
        rotate_left
        · intro W hSW
          go_simp
          all_goals with_reducible rfl
        go_simp
        refine wpAnyH_ready (rs := [10]) (by kernel_rfl) (by simp) ?_
        refine AllReadyH.cons rfl (fun K hK => ?_) AllReadyH.nil
        go_simp
        have hba := (Below.refl w5.heap.size w5).alloc (Nat.le_refl _) (.cells #[.int .i64 0, .int .i64 0] 35)
        have HQ := Lib.hid (AgAt.new w5 #[.int .i64 0, .int .i64 0] 35)
        have HQW := Lib.hid (show w.heap.size + 1 < w5.heap.size from AgAt.lt HB1.out)
        have HQZ := Lib.hid (HND.out.core.zero (Nat.le_refl w5.heap.size))
        replace HND := Lib.hid (HND.out.kept hba)
        replace HB1 := Lib.hid (AgAt.kept HB1.out hba)
        refine hK.out _ _ (hS.kept hba) (fun hS => ?_)
        clear hK K hba
        generalize w5.alloc (.cells #[.int .i64 0, .int .i64 0] 35) = wa at *
        refine wpAnyH_ready (rs := [11]) (by kernel_rfl) (by simp) ?_
        refine AllReadyH.cons rfl (fun K hK => ?_) AllReadyH.nil
        refine step_of (by kernel_rfl) ?_
        refine wp_store_agG stT _ _ rfl w5.heap.size rfl _ HQ.out rfl rfl rfl (stA_one _ _) ?_
        intro w7 hv7 hk7 hs7 hb7
        have HV7 := Lib.hid hv7
        have HE7 := Lib.hid (HND.out.turned HQZ.out (by have := HQW.out; omega) HGL.out (turns_of_store hk7 hs7 hb7))
        have HB7 := Lib.hid (HB1.out.block (hk7 _ (by have := HQW.out; omega)))
        have HZ7 := HZ1
        refine hK.out _ _ (AgAt.block hS (hk7 _ (by have := HQW.out; omega))) (fun hS => ?_)
        clear hK K hv7 hk7 hs7 hb7 HND HB1 HQ
        refine wpAnyH_take (i := 12) (v := ?_) rfl (by kernel_rfl) (by kernel_rfl) (by kernel_rfl) (fun _ _ _ h => h) (Or.inl ⟨by kernel_rfl, ?_⟩) hS ?_
        rotate_left
        · intro W hSW
          go_simp
          all_goals with_reducible rfl
        go_simp
        refine wpAnyH_done (by kernel_rfl) ?_ _
        go_simp
        clear hS
        go_wp2_with (first | (refine wpList_load_ag stT (by kernel_rfl) _ rfl _ rfl (A := stA va) rfl HV7.out ?_) | (refine wpList_store_ag stT rfl _ _ rfl _ rfl _ HB7.out rfl rfl rfl (stA_one _ _) ?_; intro w8 hv8 hk8 hs8 hb8))
        refine bodyPost_ret (results_two stT _ rfl rfl hv8 rfl rfl) rfl ?_
        exact ⟨rfl, (HE7.out.turned HZ7.out (by omega) HGL.out (turns_of_store hk8 hs8 hb8)).left⟩
      · go_simp
        have hba := (Below.refl w5.heap.size w5).alloc (Nat.le_refl _) (.cells #[.int .i64 0, .int .i64 0] 35)
        have HQ := Lib.hid (AgAt.new w5 #[.int .i64 0, .int .i64 0] 35)
        have HQW := Lib.hid (show w.heap.size + 1 < w5.heap.size from AgAt.lt HB1.out)
        have HQZ := Lib.hid (HND.out.core.zero (Nat.le_refl w5.heap.size))
        replace HND := Lib.hid (HND.out.kept hba)
        replace HB1 := Lib.hid (AgAt.kept HB1.out hba)
        refine hK.out _ _ (hS.kept hba) (fun hS => ?_)
        clear hK K hba
        generalize w5.alloc (.cells #[.int .i64 0, .int .i64 0] 35) = wa at *
        refine wpAnyH_ready (rs := [6]) (by kernel_rfl) (by simp) ?_
        refine AllReadyH.cons rfl (fun K hK => ?_) AllReadyH.nil
        refine step_of (by kernel_rfl) ?_
        refine wp_valueG (exec_lookup rfl rfl rfl (HLK.out _ X χ1 HND.out.core)) ?_
        refine hK.out _ _ hS (fun hS => ?_)
        clear hK K
        refine wpAnyH_take (i := 7) (v := ?_) rfl (by kernel_rfl) (by kernel_rfl) (by kernel_rfl) (fun _ _ _ h => h) (Or.inl ⟨by kernel_rfl, ?_⟩) hS ?_
        rotate_left
        · intro W hSW
          go_simp
          all_goals with_reducible rfl
        refine wpAnyH_take (i := 8) (v := ?_) rfl (by kernel_rfl) (by kernel_rfl) (by kernel_rfl) (fun _ _ _ h => h) (Or.inl ⟨by kernel_rfl, ?_⟩) hS ?_
        rotate_left
        · intro W hSW
          go_simp
          all_goals with_reducible rfl
        refine wpAnyH_take (i := 9) (v := ?_) rfl (by kernel_rfl) (by kernel_rfl) (by kernel_rfl) (fun _ _ _ h => h) (Or.inl ⟨by kernel_rfl, ?_⟩) hS ?_
        rotate_left
        · intro W hSW
          go_simp
          all_goals with_reducible rfl
        go_simp
        refine wpAnyH_ready (rs := [11]) (by kernel_rfl) (by simp) ?_
        refine AllReadyH.cons rfl (fun K hK => ?_) AllReadyH.nil
        refine step_of (by kernel_rfl) ?_
        refine wp_store_agG stT _ _ rfl w5.heap.size rfl _ HQ.out rfl rfl rfl (stA_one _ _) ?_
        intro w7 hv7 hk7 hs7 hb7
        have HV7 := Lib.hid hv7
        have HE7 := Lib.hid (HND.out.turned HQZ.out (by have := HQW.out; omega) HGL.out (turns_of_store hk7 hs7 hb7))
        have HB7 := Lib.hid (HB1.out.block (hk7 _ (by have := HQW.out; omega)))
        have HZ7 := HZ1
        refine hK.out _ _ (AgAt.block hS (hk7 _ (by have := HQW.out; omega))) (fun hS => ?_)
        clear hK K hv7 hk7 hs7 hb7 HND HB1 HQ
        refine wpAnyH_take (i := 12) (v := ?_) rfl (by kernel_rfl) (by kernel_rfl) (by kernel_rfl) (fun _ _ _ h => h) (Or.inl ⟨by kernel_rfl, ?_⟩) hS ?_
        rotate_left
        · intro W hSW
          go_simp
          all_goals with_reducible rfl
        go_simp
        refine wpAnyH_done (by kernel_rfl) ?_ _
        go_simp
        clear hS
        go_wp2_with (first | (refine wpList_load_ag stT (by kernel_rfl) _ rfl _ rfl (A := stA va) rfl HV7.out ?_) | (refine wpList_store_ag stT rfl _ _ rfl _ rfl _ HB7.out rfl rfl rfl (stA_one _ _) ?_; intro w8 hv8 hk8 hs8 hb8))
        refine bodyPost_ret (results_two stT _ rfl rfl hv8 rfl rfl) rfl ?_
        exact ⟨rfl, (HE7.out.turned HZ7.out (by omega) HGL.out (turns_of_store hk8 hs8 hb8)).left⟩
    · go_simp
      have hba := (Below.refl w5.heap.size w5).alloc (Nat.le_refl _) (.cells #[.int .i64 0, .int .i64 0] 35)
      have HQ := Lib.hid (AgAt.new w5 #[.int .i64 0, .int .i64 0] 35)
      have HQW := Lib.hid (show w.heap.size + 1 < w5.heap.size from AgAt.lt HB1.out)
      have HQZ := Lib.hid (HND.out.core.zero (Nat.le_refl w5.heap.size))
      replace HND := Lib.hid (HND.out.kept hba)
      replace HB1 := Lib.hid (AgAt.kept HB1.out hba)
      refine hK.out _ _ (hS.kept hba) (fun hS => ?_)
      clear hK K hba
      generalize w5.alloc (.cells #[.int .i64 0, .int .i64 0] 35) = wa at *
      refine wpAnyH_ready (rs := [4]) (by kernel_rfl) (by simp) ?_
      refine AllReadyH.cons rfl (fun K hK => ?_) AllReadyH.nil
      have y5 := HND.out.core.c3
      go_simp
      refine hK.out _ _ hS (fun hS => ?_)
      clear hK K y5
      refine wpAnyH_ready (rs := [6]) (by kernel_rfl) (by simp) ?_
      refine AllReadyH.cons rfl (fun K hK => ?_) AllReadyH.nil
      refine step_of (by kernel_rfl) ?_
      refine wp_valueG (exec_lookup rfl rfl rfl (HLK.out _ X χ1 HND.out.core)) ?_
      refine hK.out _ _ hS (fun hS => ?_)
      clear hK K
      refine wpAnyH_take (i := 7) (v := ?_) rfl (by kernel_rfl) (by kernel_rfl) (by kernel_rfl) (fun _ _ _ h => h) (Or.inl ⟨by kernel_rfl, ?_⟩) hS ?_
      rotate_left
      · intro W hSW
        go_simp
        all_goals with_reducible rfl
      refine wpAnyH_take (i := 8) (v := ?_) rfl (by kernel_rfl) (by kernel_rfl) (by kernel_rfl) (fun _ _ _ h => h) (Or.inl ⟨by kernel_rfl, ?_⟩) hS ?_
      rotate_left
      · intro W hSW
        go_simp
        all_goals with_reducible rfl
      refine wpAnyH_take (i := 9) (v := ?_) rfl (by kernel_rfl) (by kernel_rfl) (by kernel_rfl) (fun _ _ _ h => h) (Or.inl ⟨by kernel_rfl, ?_⟩) hS ?_
      rotate_left
      · intro W hSW
        go_simp
        all_goals with_reducible rfl
      go_simp
      refine wpAnyH_ready (rs := [11]) (by kernel_rfl) (by simp) ?_
      refine AllReadyH.cons rfl (fun K hK => ?_) AllReadyH.nil
      refine step_of (by kernel_rfl) ?_
      refine wp_store_agG stT _ _ rfl w5.heap.size rfl _ HQ.out rfl rfl rfl (stA_one _ _) ?_
      intro w7 hv7 hk7 hs7 hb7
      have HV7 := Lib.hid hv7
      have HE7 := Lib.hid (HND.out.turned HQZ.out (by have := HQW.out; omega) HGL.out (turns_of_store hk7 hs7 hb7))
      have HB7 := Lib.hid (HB1.out.block (hk7 _ (by have := HQW.out; omega)))
      have HZ7 := HZ1
      refine hK.out _ _ (AgAt.block hS (hk7 _ (by have := HQW.out; omega))) (fun hS => ?_)
      clear hK K hv7 hk7 hs7 hb7 HND HB1 HQ
      refine wpAnyH_take (i := 12) (v := ?_) rfl (by kernel_rfl) (by kernel_rfl) (by kernel_rfl) (fun _ _ _ h => h) (Or.inl ⟨by kernel_rfl, ?_⟩) hS ?_
      rotate_left
      · intro W hSW
        go_simp
        all_goals with_reducible rfl
      go_simp
      refine wpAnyH_done (by kernel_rfl) ?_ _
      go_simp
      clear hS
      go_wp2_with (first | (refine wpList_load_ag stT (by kernel_rfl) _ rfl _ rfl (A := stA va) rfl HV7.out ?_) | (refine wpList_store_ag stT rfl _ _ rfl _ rfl _ HB7.out rfl rfl rfl (stA_one _ _) ?_; intro w8 hv8 hk8 hs8 hb8))
      refine bodyPost_ret (results_two stT _ rfl rfl hv8 rfl rfl) rfl ?_
      exact ⟨rfl, (HE7.out.turned HZ7.out (by omega) HGL.out (turns_of_store hk8 hs8 hb8)).left⟩
  · go_simp
    have hba := (Below.refl wd.heap.size wd).alloc (Nat.le_refl _) (.cells #[.int .i64 0, .int .i64 0] 35)
    have HQ := Lib.hid (AgAt.new wd #[.int .i64 0, .int .i64 0] 35)
    have HQW := Lib.hid (show w.heap.size + 1 < wd.heap.size from AgAt.lt HB1.out)
    replace HC := Lib.hid (HC.out.kept hba)
    replace HB := Lib.hid (HB.out.trans (hba.mono HB.out.size))
    replace HB1 := Lib.hid (AgAt.kept HB1.out hba)
    refine hK.out _ _ (hS.kept hba) (fun hS => ?_)
    clear hK K hba
    generalize wd.alloc (.cells #[.int .i64 0, .int .i64 0] 35) = wa at *
    refine wpAnyH_ready (rs := [1]) (by kernel_rfl) (by simp) ?_
    refine AllReadyH.cons rfl (fun K hK => ?_) AllReadyH.nil
    go_simp
    go_wp2_with (go_at_call 31; refine (gnow_any _ HC.out).mono ?_; rintro e w5 ⟨X, χ1, rfl, hg, hf, hl, ho, ha, hgg, hgo⟩)
    have HND := Lib.hid (nowd_of HB.out HGZ.out hg hf hl ho ha hgg hgo)
    have hs5 := hS.block (hgo.turns.block _ (AgAt.lt hS) (by rw [HZ.out.1]; decide))
    have HZ1 := Lib.hid ((hgo.keep _ (AgAt.lt HB1.out)).trans (HZ.out.2 (w.heap.size + 1) (by omega)))
    replace HB1 := Lib.hid (HB1.out.block (hgo.turns.block _ (AgAt.lt HB1.out) (by rw [HZ.out.2 _ (by omega)]; decide)))
    have HQZ := Lib.hid ((hgo.keep _ (AgAt.lt HQ.out)).trans (HZ.out.2 _ (by have := HQW.out; omega)))
    replace HQ := Lib.hid (HQ.out.block (hgo.turns.block _ (AgAt.lt HQ.out) (by rw [HZ.out.2 _ (by have := HQW.out; omega)]; decide)))
    refine hK.out _ _ hs5 (fun hS => ?_)
    clear hK K hg hf hl ho ha hgg hgo hs5 HC HB HGZ
    refine wpAnyH_take (i := 2) (v := ?_) rfl (by kernel_rfl) (by kernel_rfl) (by kernel_rfl) (fun _ _ _ h => h) (Or.inl ⟨by kernel_rfl, ?_⟩) hS ?_
    rotate_left
    · intro W hSW
      go_simp
      all_goals with_reducible rfl
    refine wpAnyH_take (i := 3) (v := ?_) rfl (by kernel_rfl) (by kernel_rfl) (by kernel_rfl) (fun _ _ _ h => h) (Or.inl ⟨by kernel_rfl, ?_⟩) hS ?_
    rotate_left
    · intro W hSW
      go_simp
      all_goals with_reducible rfl
    go_simp
    refine wpAnyH_ready (rs := [4]) (by kernel_rfl) (by simp) ?_
    refine AllReadyH.cons rfl (fun K hK => ?_) AllReadyH.nil
    have y5 := HND.out.core.c3
    go_simp
    refine hK.out _ _ hS (fun hS => ?_)
    clear hK K y5
    refine wpAnyH_ready (rs := [6]) (by kernel_rfl) (by simp) ?_
    refine AllReadyH.cons rfl (fun K hK => ?_) AllReadyH.nil
    refine step_of (by kernel_rfl) ?_
    refine wp_valueG (exec_lookup rfl rfl rfl (HLK.out _ X χ1 HND.out.core)) ?_
    refine hK.out _ _ hS (fun hS => ?_)
    clear hK K
    refine wpAnyH_take (i := 7) (v := ?_) rfl (by kernel_rfl) (by kernel_rfl) (by kernel_rfl) (fun _ _ _ h => h) (Or.inl ⟨by kernel_rfl, ?_⟩) hS ?_
    rotate_left
    · intro W hSW
      go_simp
      all_goals with_reducible rfl
    refine wpAnyH_take (i := 8) (v := ?_) rfl (by kernel_rfl) (by kernel_rfl) (by kernel_rfl) (fun _ _ _ h => h) (Or.inl ⟨by kernel_rfl, ?_⟩) hS ?_
    rotate_left
    · intro W hSW
      go_simp
      all_goals with_reducible rfl
    refine wpAnyH_take (i := 9) (v := ?_) rfl (by kernel_rfl) (by kernel_rfl) (by kernel_rfl) (fun _ _ _ h => h) (Or.inl ⟨by kernel_rfl, ?_⟩) hS ?_
    rotate_left
    · intro W hSW
      go_simp
      all_goals with_reducible rfl
    go_simp
    refine wpAnyH_ready (rs := [11]) (by kernel_rfl) (by simp) ?_
    refine AllReadyH.cons rfl (fun K hK => ?_) AllReadyH.nil
    refine step_of (by kernel_rfl) ?_
    refine wp_store_agG stT _ _ rfl wd.heap.size rfl _ HQ.out rfl rfl rfl (stA_one _ _) ?_
    intro w7 hv7 hk7 hs7 hb7
    have HV7 := Lib.hid hv7
    have HE7 := Lib.hid (HND.out.turned HQZ.out (by have := HQW.out; omega) HGL.out (turns_of_store hk7 hs7 hb7))
    have HB7 := Lib.hid (HB1.out.block (hk7 _ (by have := HQW.out; omega)))
    have HZ7 := HZ1
    refine hK.out _ _ (AgAt.block hS (hk7 _ (by have := HQW.out; omega))) (fun hS => ?_)
    clear hK K hv7 hk7 hs7 hb7 HND HB1 HQ
    refine wpAnyH_take (i := 12) (v := ?_) rfl (by kernel_rfl) (by kernel_rfl) (by kernel_rfl) (fun _ _ _ h => h) (Or.inl ⟨by kernel_rfl, ?_⟩) hS ?_
    rotate_left
    · intro W hSW
      go_simp
      all_goals with_reducible rfl
    go_simp
    refine wpAnyH_done (by kernel_rfl) ?_ _
    go_simp
    clear hS
    go_wp2_with (first | (refine wpList_load_ag stT (by kernel_rfl) _ rfl _ rfl (A := stA va) rfl HV7.out ?_) | (refine wpList_store_ag stT rfl _ _ rfl _ rfl _ HB7.out rfl rfl rfl (stA_one _ _) ?_; intro w8 hv8 hk8 hs8 hb8))
    refine bodyPost_ret (results_two stT _ rfl rfl hv8 rfl rfl) rfl ?_
    exact ⟨rfl, (HE7.out.turned HZ7.out (by omega) HGL.out (turns_of_store hk8 hs8 hb8)).left⟩
end Go.Proofs.YthifdefjmfakgaaGreat

namespace Go.Proofs.YthifdefjmfakgaaGreat
open Go.RowKit
open Tm (Sp Tr has put cut kids)

abbrev Bxs := List (Nat × Array Value)
structure GBx (w : World) (gg : Nat) (ops : List Pm.Wr) (χ : Nat → Nat) (hh : Nat) (ops' : List Pm.Wr) (χ' : Nat → Nat) (bs : Bxs) (W : World) : Prop where
  two : Two W gg ops χ hh ops' χ'
  bel : Below w.heap.size w W
  far : ∀ k, (1 ≤ χ k ∧ χ k ≤ 5) ∨ (1 ≤ χ' k ∧ χ' k ≤ 5) → w.heap.size ≤ k
  bx : ∀ e ∈ bs, AgAt W e.1 e.2 ∧ χ e.1 = 0 ∧ χ' e.1 = 0
def GB2 (w : World) (gg : Nat) (ops : List Pm.Wr) (hh : Nat) (ops' : List Pm.Wr) (bs : Bxs) (W : World) : Prop := ∃ χ χ', GBx w gg ops χ hh ops' χ' bs W
structure GB1x (w : World) (gg : Nat) (ops : List Pm.Wr) (χ : Nat → Nat) (bs : Bxs) (W : World) : Prop where
  g : Gra W gg ops χ
  bel : Below w.heap.size w W
  far : ∀ k, 1 ≤ χ k ∧ χ k ≤ 5 → w.heap.size ≤ k
  bx : ∀ e ∈ bs, AgAt W e.1 e.2 ∧ χ e.1 = 0
def GB1 (w : World) (gg : Nat) (ops : List Pm.Wr) (bs : Bxs) (W : World) : Prop := ∃ χ, GB1x w gg ops χ bs W
section
variable {w w0 W W' : World} {gg hh : Nat} {ops ops' ops1 : List Pm.Wr} {χ χ' χ1 : Nat → Nat} {bs : Bxs}
theorem GBx.swap (h : GBx w gg ops χ hh ops' χ' bs W) : GBx w hh ops' χ' gg ops χ bs W := ⟨h.two.swap, h.bel, fun k hk => h.far k hk.symm, fun e he => ⟨(h.bx e he).1, (h.bx e he).2.2, (h.bx e he).2.1⟩⟩
theorem GBx.goes (h : GBx w gg ops χ hh ops' χ' bs W) (ha : Gra W' gg ops1 χ1) (hg : Goes W χ W' χ1) : GBx w gg ops1 χ1 hh ops' χ' bs W' :=
  ⟨h.two.goes ha hg, h.bel.trans (hg.turns.below (fun k _ hk => h.far k (Or.inl hk)) h.bel.size), fun k hk => by
    rcases hk with hk | hk
    · by_cases hl : k < W.heap.size
      · rw [hg.keep k hl] at hk; exact h.far k (Or.inl hk)
      · have := h.bel.size; omega
    · exact h.far k (Or.inr hk), fun e he => by
    obtain ⟨h1, h2, h3⟩ := h.bx e he
    exact ⟨h1.block (hg.turns.block _ (AgAt.lt h1) (by rw [h2]; decide)), (hg.keep _ (AgAt.lt h1)).trans h2, h3⟩⟩
theorem GB1x.goes (h : GB1x w gg ops χ bs W) (ha : Gra W' gg ops1 χ1) (hg : Goes W χ W' χ1) : GB1x w gg ops1 χ1 bs W' :=
  ⟨ha, h.bel.trans (hg.turns.below (fun k _ hk => h.far k hk) h.bel.size), fun k hk => by
    by_cases hl : k < W.heap.size
    · rw [hg.keep k hl] at hk; exact h.far k hk
    · have := h.bel.size; omega, fun e he => by
    obtain ⟨h1, h2⟩ := h.bx e he
    exact ⟨h1.block (hg.turns.block _ (AgAt.lt h1) (by rw [h2]; decide)), (hg.keep _ (AgAt.lt h1)).trans h2⟩⟩
theorem GB2.swap (h : GB2 w gg ops hh ops' bs W) : GB2 w hh ops' gg ops bs W := by
  obtain ⟨χ, χ', h⟩ := h
  exact ⟨χ', χ, h.swap⟩
theorem GB2.kept (h : GB2 w gg ops hh ops' bs W) (hb : Below W.heap.size W W') : GB2 w gg ops hh ops' bs W' := by
  obtain ⟨χ, χ', h⟩ := h
  exact ⟨χ, χ', h.goes (h.two.a.kept hb) (Goes.of_below hb)⟩
theorem GB1.kept (h : GB1 w gg ops bs W) (hb : Below W.heap.size W W') : GB1 w gg ops bs W' := by
  obtain ⟨χ, h⟩ := h
  exact ⟨χ, h.goes (h.g.kept hb) (Goes.of_below hb)⟩
theorem GB2.bel (h : GB2 w gg ops hh ops' bs W) : Below w.heap.size w W := by
  obtain ⟨χ, χ', h⟩ := h
  exact h.bel
theorem GB1.bel (h : GB1 w gg ops bs W) : Below w.heap.size w W := by
  obtain ⟨χ, h⟩ := h
  exact h.bel
theorem GB2.at_ (h : GB2 w gg ops hh ops' bs W) {b : Nat} {A : Array Value} (hb : (b, A) ∈ bs) : AgAt W b A := by
  obtain ⟨χ, χ', h⟩ := h
  exact (h.bx _ hb).1
theorem GB1.at_ (h : GB1 w gg ops bs W) {b : Nat} {A : Array Value} (hb : (b, A) ∈ bs) : AgAt W b A := by
  obtain ⟨χ, h⟩ := h
  exact (h.bx _ hb).1
theorem gra_zero (h : Gra W gg ops χ) {k : Nat} (hk : W.heap.size ≤ k) : χ k = 0 := by
  cases e : χ k with
  | zero => rfl
  | succ n => exact absurd (h.lts (k := k) (by rw [e]; omega)) (by omega)
/-- one box more -/
theorem GB2.box (h : GB2 w gg ops hh ops' bs W) (hb : Below W.heap.size W W') {b : Nat} {A : Array Value} (ha : AgAt W' b A) (hl : W.heap.size ≤ b) : GB2 w gg ops hh ops' ((b, A) :: bs) W' := by
  obtain ⟨χ, χ', h⟩ := h
  have h2 := h.goes (h.two.a.kept hb) (Goes.of_below hb)
  refine ⟨χ, χ', h2.two, h2.bel, h2.far, fun e he => ?_⟩
  rcases List.mem_cons.1 he with rfl | he
  · exact ⟨ha, gra_zero h.two.a hl, gra_zero h.two.b hl⟩
  · exact h2.bx e he
theorem GB1.box (h : GB1 w gg ops bs W) (hb : Below W.heap.size W W') {b : Nat} {A : Array Value} (ha : AgAt W' b A) (hl : W.heap.size ≤ b) : GB1 w gg ops ((b, A) :: bs) W' := by
  obtain ⟨χ, h⟩ := h
  have h2 := h.goes (h.g.kept hb) (Goes.of_below hb)
  refine ⟨χ, h2.g, h2.bel, h2.far, fun e he => ?_⟩
  rcases List.mem_cons.1 he with rfl | he
  · exact ⟨ha, gra_zero h.g hl⟩
  · exact h2.bx e he
theorem GB1.made (hw : Below w.heap.size w w0) (hb0 : ∀ e ∈ bs, AgAt w0 e.1 e.2) (h1 : Gra W gg [] χ) (b1 : Below w0.heap.size w0 W) (f1 : ∀ k, χ k ≠ 0 → w0.heap.size ≤ k) : GB1 w gg [] bs W := by
  refine ⟨χ, h1, hw.trans (b1.mono hw.size), fun k hk => ?_, fun e he => ⟨(hb0 e he).kept b1, ?_⟩⟩
  · have := hw.size
    have := f1 k (by omega)
    omega
  · cases h : χ e.1 with
    | zero => rfl
    | succ n => exact absurd (f1 e.1 (by rw [h]; omega)) (by have := AgAt.lt (hb0 e he); omega)
theorem GB1.ins (s1 s2 : Int) (x : Opp) (q : Option Addr) (c : Nat) (h : GB1 w gg ops bs W) (hs : Sz x) (ha : Pa W x q c) (hl : ops.length < 60) :
    Calls Tryz.prog 10 #[ptV gg, .agg #[.int .i64 s1, .int .i64 s2], .agg (opA x q c)] W fun e w' => e = .returned (.tuple #[.int .i64 ((Gm.insN ops ⟨(s1, s2), x⟩ : Nat) : Int), .int .i64 (Gm.insE ops ⟨(s1, s2), x⟩)]) ∧ GB1 w gg (Gm.insO ops ⟨(s1, s2), x⟩) bs w' := by
  obtain ⟨χ, h⟩ := h
  refine (ginsert_any (s1, s2) x q c W h.g hs ha hl).mono ?_
  rintro e w' ⟨χ1, rfl, hg, hgo⟩
  exact ⟨rfl, χ1, h.goes hg hgo⟩
theorem GB2.ins (s1 s2 : Int) (x : Opp) (q : Option Addr) (c : Nat) (h : GB2 w gg ops hh ops' bs W) (hs : Sz x) (ha : Pa W x q c) (hl : ops.length < 60) :
    Calls Tryz.prog 10 #[ptV gg, .agg #[.int .i64 s1, .int .i64 s2], .agg (opA x q c)] W fun e w' => e = .returned (.tuple #[.int .i64 ((Gm.insN ops ⟨(s1, s2), x⟩ : Nat) : Int), .int .i64 (Gm.insE ops ⟨(s1, s2), x⟩)]) ∧ GB2 w gg (Gm.insO ops ⟨(s1, s2), x⟩) hh ops' bs w' := by
  obtain ⟨χ, χ', h⟩ := h
  refine (ginsert_any (s1, s2) x q c W h.two.a hs ha hl).mono ?_
  rintro e w' ⟨χ1, rfl, hg, hgo⟩
  exact ⟨rfl, χ1, χ', h.goes hg hgo⟩
theorem GB2.same (h : GB2 w gg ops hh ops' bs W) (he : Gm.run ops' = Gm.run ops) :
    Calls Tryz.prog 15 #[ptV gg, ptV hh] W fun e w' => e = .returned (.bool true) ∧ GB2 w gg ops hh ops' bs w' := by
  obtain ⟨χ, χ', h⟩ := h
  refine (gsame_any W h.two he).mono ?_
  rintro e w' ⟨rfl, χ1, χ1', ht, hg⟩
  refine ⟨rfl, χ1, χ1', ht, h.bel.trans (hg.turns.below (fun k _ hk => h.far k hk) h.bel.size), fun k hk => ?_, fun e he => ?_⟩
  · by_cases hl : k < W.heap.size
    · rw [(hg.keep k hl).1, (hg.keep k hl).2] at hk; exact h.far k hk
    · have := h.bel.size; omega
  · obtain ⟨h1, h2, h3⟩ := h.bx e he
    exact ⟨h1.block (hg.turns.block _ (AgAt.lt h1) (by rw [h2, h3]; decide)), (hg.keep _ (AgAt.lt h1)).1.trans h2, (hg.keep _ (AgAt.lt h1)).2.trans h3⟩
theorem GB2.done (s1 s2 : Int) (h : GB2 w gg ops hh ops' bs W) :
    Calls Tryz.prog 20 #[ptV gg, .agg #[.int .i64 s1, .int .i64 s2]] W fun e w' => ∃ b, e = .returned (.bool b) ∧ (b = true ↔ Gm.Did ops (s1, s2)) ∧ GB2 w gg ops hh ops' bs w' := by
  obtain ⟨χ, χ', h⟩ := h
  refine (gdone_any (s1, s2) W h.two.a).mono ?_
  rintro e w' ⟨b, rfl, hb, χ1, hg, hgo⟩
  exact ⟨b, rfl, hb, χ1, χ', h.goes hg hgo⟩
theorem GB2.spot (s1 s2 : Int) (h : GB2 w gg ops hh ops' bs W) (hn : StWf (s1, s2)) {v : Sp} (hv : (Gm.run ops).s (s1, s2) = some v) :
    Calls Tryz.prog 22 #[ptV gg, .agg #[.int .i64 s1, .int .i64 s2]] W fun e w' => e = .returned (.tuple #[.agg (spA v), .bool true]) ∧ GB2 w gg ops hh ops' bs w' := by
  obtain ⟨χ, χ', h⟩ := h
  refine (gspot_any (s1, s2) W h.two.a hn).mono ?_
  rintro e w' ⟨rfl, χ1, hg, hgo⟩
  exact ⟨by rw [hv]; rfl, χ1, χ', h.goes hg hgo⟩
theorem GB2.ref (s1 s2 : Int) (h : GB2 w gg ops hh ops' bs W) (hn : StWf (s1, s2)) :
    Calls Tryz.prog 23 #[ptV gg, .agg #[.int .i64 s1, .int .i64 s2]] W fun e w' => e = .returned (.tuple #[.agg #[.int .i64 (((Gm.run ops).m (s1, s2)).getD (0, 0)).1, .int .i64 (((Gm.run ops).m (s1, s2)).getD (0, 0)).2], .bool ((Gm.run ops).m (s1, s2)).isSome]) ∧ GB2 w gg ops hh ops' bs w' := by
  obtain ⟨χ, χ', h⟩ := h
  refine (gref_any (s1, s2) W h.two.a hn).mono ?_
  rintro e w' ⟨rfl, χ1, hg, hgo⟩
  exact ⟨rfl, χ1, χ', h.goes hg hgo⟩
end
end Go.Proofs.YthifdefjmfakgaaGreat
