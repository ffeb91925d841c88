/-
  Before TreeBack's walk: what a move and its way back make, what an addition and its drop make; two trees side by side.
  No conditions.
-/
import Derived.Test.YtljojdabmjkkcaaTReach
import Derived.Test.YtljojdabmjkkcaaTSame
namespace Go.Proofs.Ytljojdabmjkkcaa
open Go.RowKit
open Tm (Sp Tr has put cut kids)

theorem GoodT.moveT {T : Tr} (h : GoodT T) (n : Qm.St) (s : Sp) (hs : StWf s.1) : GoodT (Tm.moveT T n s).1 := by
  have := GoodT.doT h (a := ⟨1, n, s⟩) hs
  rwa [show Go.Proofs.Ytljojdabmjkkcaa.doT T ⟨1, n, s⟩ = (Tm.moveT T n s).1 from rfl] at this
theorem GoodT.addT {T : Tr} (h : GoodT T) (n : Qm.St) (s : Sp) (hs : StWf s.1) : GoodT (Tm.addT T n s).1 := by
  have := GoodT.doT h (a := ⟨0, n, s⟩) hs
  rwa [show Go.Proofs.Ytljojdabmjkkcaa.doT T ⟨0, n, s⟩ = (Tm.addT T n s).1 from rfl] at this
theorem rightSp_size {s : Sp} (h : Tm.rightSp s = true) : s.2.size ≤ 140737488355328 := by
  unfold Tm.rightSp at h
  rw [Bool.and_eq_true] at h
  have h1 := ((Km.rightB_iff _).1 h.2).2.1
  have h2 : s.2.data.toList.length = s.2.size := by rw [Array.length_toList]; rfl
  rw [h2] at h1
  exact Nat.le_trans h1 (by decide)
theorem Tm.Alike.trans {T U V : Tr} (h : Tm.Alike T U) (k : Tm.Alike U V) : Tm.Alike T V := ⟨h.1.trans k.1, fun n => (h.2 n).trans (k.2 n)⟩
theorem move_two {T : Tr} (h : GoodT T) (n : Qm.St) (s : Sp) (hs : StWf s.1) :
    (∃ z e1, (e1 == (0 : Int)) = false ∧ Tm.moveT T n s = (T, z, e1)) ∨
    ∃ was T1 T2, Tm.moveT T n s = (T1, was, 0) ∧ StWf was.1 ∧ was.2.size ≤ 140737488355328 ∧ Tm.moveT T1 n was = (T2, s, 0) ∧ Tm.Alike T2 T ∧ GoodT T1 ∧ GoodT T2 := by
  by_cases h1 : (Tm.okN n && Tm.rightSp s) = false
  · exact Or.inl ⟨_, 1, rfl, by unfold Tm.moveT; rw [if_pos h1]⟩
  · cases h2 : Tm.look T n with
    | none => exact Or.inl ⟨_, 3, rfl, by unfold Tm.moveT; rw [if_neg h1, h2]⟩
    | some was =>
      by_cases h3 : has T s.1 = false
      · exact Or.inl ⟨_, 3, rfl, by unfold Tm.moveT; rw [if_neg h1, h2]; dsimp only; rw [if_pos h3]⟩
      · by_cases h4 : Tm.within T n s.1 = true
        · exact Or.inl ⟨_, 41, rfl, by unfold Tm.moveT; rw [if_neg h1, h2]; dsimp only; rw [if_neg h3, if_pos h4]⟩
        · have e1 : Tm.moveT T n s = (put (cut T n) n s, was, 0) := by unfold Tm.moveT; rw [if_neg h1, h2]; dsimp only; rw [if_neg h3, if_neg h4]
          have k1 : Tm.okN n = true := by
            rw [Bool.not_eq_false, Bool.and_eq_true] at h1
            exact h1.1
          obtain ⟨b1, b2⟩ := h.1.back (s := s) k1 h2
          have hw := h.2 _ (Tm.look_mem h2)
          have g1 : GoodT (put (cut T n) n s) := by have := h.moveT n s hs; rwa [e1] at this
          have g2 := g1.moveT n was hw
          rw [b1] at g2
          exact Or.inr ⟨was, _, _, e1, hw, rightSp_size (h.1.sp _ (Tm.look_mem h2)), b1, b2, g1, g2⟩
theorem add_two {T : Tr} (h : GoodT T) (n : Qm.St) (s : Sp) (hs : StWf s.1) :
    (∃ e1, (e1 == (0 : Int)) = false ∧ Tm.addT T n s = (T, e1)) ∨ ∃ T1, Tm.addT T n s = (T1, 0) ∧ Tm.dropT T1 n = (T, s, 0) ∧ GoodT T1 := by
  by_cases h1 : (Tm.okN n && Tm.rightSp s) = false
  · exact Or.inl ⟨1, rfl, by unfold Tm.addT; rw [if_pos h1]⟩
  · by_cases h2 : (Tm.look T n).isSome = true
    · exact Or.inl ⟨4, rfl, by unfold Tm.addT; rw [if_neg h1, if_pos h2]⟩
    · by_cases h3 : has T s.1 = false
      · exact Or.inl ⟨3, rfl, by unfold Tm.addT; rw [if_neg h1, if_neg h2, if_pos h3]⟩
      · by_cases h4 : 65536 ≤ T.length
        · exact Or.inl ⟨7, rfl, by unfold Tm.addT; rw [if_neg h1, if_neg h2, if_neg h3, if_pos h4]⟩
        · have e1 : Tm.addT T n s = (put T n s, 0) := by unfold Tm.addT; rw [if_neg h1, if_neg h2, if_neg h3, if_neg h4]
          have k1 : Tm.okN n = true := by
            rw [Bool.not_eq_false, Bool.and_eq_true] at h1
            exact h1.1
          have g1 : GoodT (put T n s) := by have := h.addT n s hs; rwa [e1] at this
          exact Or.inr ⟨_, e1, h.1.backAdd k1 (by simpa using h2) (by simpa using h3), g1⟩

/-- the tree, what it was, the act's box -/
structure Bk (w : World) (a : TAct) (P M1 M2 P' N1 N2 : Nat) (U : Tr) (F2 : Nat → Prop) (T : Tr) (G : Nat → Prop) (wr : World) : Prop where
  lay : ∃ C, Lay wr P M1 M2 T C G
  was : ∃ C, Lay wr P' N1 N2 U C F2
  dis : ∀ k, F2 k → ¬ G k
  act : AgAt wr w.heap.size (acA a)
  nb : ¬ G w.heap.size
  ge : ∀ k, G k → w.heap.size ≤ k
  bel : Below w.heap.size w wr
section
variable {w wr w' : World} {a : TAct} {P M1 M2 P' N1 N2 : Nat} {U T T' : Tr} {F2 G : Nat → Prop}
theorem Bk.kept (h : Bk w a P M1 M2 P' N1 N2 U F2 T G wr) (hb : Below wr.heap.size wr w') : Bk w a P M1 M2 P' N1 N2 U F2 T G w' := by
  obtain ⟨C, hC⟩ := h.lay
  obtain ⟨D, hD⟩ := h.was
  exact ⟨⟨C, hC.kept hb⟩, ⟨D, hD.kept hb⟩, h.dis, AgAt.kept h.act hb, h.nb, h.ge, h.bel.trans (hb.mono h.bel.size)⟩
theorem Bk.acted (h : Bk w a P M1 M2 P' N1 N2 U F2 T G wr) (hl : ∃ C', Lay w' P M1 M2 T' C' (fun k => G k ∨ (wr.heap.size ≤ k ∧ k < w'.heap.size)) ∧ Turns G wr w') :
    Bk w a P M1 M2 P' N1 N2 U F2 T' (fun k => G k ∨ (wr.heap.size ≤ k ∧ k < w'.heap.size)) w' := by
  obtain ⟨C, hC, ht⟩ := hl
  obtain ⟨D, hD⟩ := h.was
  have hz := AgAt.lt h.act
  exact ⟨⟨C, hC⟩, ⟨D, hD.turns ht h.dis⟩, fun k hk hh => hh.elim (h.dis k hk) fun hh => by have := hD.lt k hk; omega, AgAt.block h.act (ht.block _ hz h.nb), fun hh => hh.elim h.nb fun hh => by omega,
    fun k hk => hk.elim (h.ge k) fun hk => by omega, h.bel.trans (ht.below (fun k _ hk => h.ge k hk) h.bel.size)⟩
theorem Bk.lt (h : Bk w a P M1 M2 P' N1 N2 U F2 T G wr) : ∀ k, G k → k < wr.heap.size := by
  obtain ⟨C, hC⟩ := h.lay
  exact hC.lt
theorem Bk.move (h : Bk w a P M1 M2 P' N1 N2 U F2 T G wr) (g : GoodT T) (n : Qm.St) (s z : Sp) (e1 : Int) (hn : StWf n) (hs : StWf s.1) (hk : s.2.size ≤ 140737488355328) (he : Tm.moveT T n s = (T', z, e1)) :
    Calls Try.prog 13 #[.pointer (some ⟨P, 0, none⟩), snV n, spV s] wr fun e w' => e = .returned (.tuple #[.agg (spA z), .int .i64 e1]) ∧ Bk w a P M1 M2 P' N1 N2 U F2 T' (fun k => G k ∨ (wr.heap.size ≤ k ∧ k < w'.heap.size)) w' ∧ Turns G wr w' := by
  obtain ⟨C, hC⟩ := h.lay
  refine (move_any n s wr hC hn hs hk g.1 g.2).mono ?_
  rw [he]
  rintro e w' ⟨rfl, hl⟩
  exact ⟨rfl, h.acted hl, hl.elim fun _ x => x.2⟩
theorem Bk.add (h : Bk w a P M1 M2 P' N1 N2 U F2 T G wr) (n : Qm.St) (s : Sp) (e1 : Int) (hn : StWf n) (hs : StWf s.1) (hk : s.2.size ≤ 140737488355328) (he : Tm.addT T n s = (T', e1)) :
    Calls Try.prog 17 #[.pointer (some ⟨P, 0, none⟩), snV n, spV s] wr fun e w' => e = .returned (.int .i64 e1) ∧ Bk w a P M1 M2 P' N1 N2 U F2 T' (fun k => G k ∨ (wr.heap.size ≤ k ∧ k < w'.heap.size)) w' := by
  obtain ⟨C, hC⟩ := h.lay
  refine (add_any n s wr hC hn hs hk).mono ?_
  rw [he]
  rintro e w' ⟨rfl, hl⟩
  exact ⟨rfl, h.acted hl⟩
theorem Bk.drop (h : Bk w a P M1 M2 P' N1 N2 U F2 T G wr) (g : GoodT T) (n : Qm.St) (z : Sp) (e1 : Int) (hn : StWf n) (he : Tm.dropT T n = (T', z, e1)) :
    Calls Try.prog 18 #[.pointer (some ⟨P, 0, none⟩), snV n] wr fun e w' => e = .returned (.tuple #[.agg (spA z), .int .i64 e1]) ∧ Bk w a P M1 M2 P' N1 N2 U F2 T' (fun k => G k ∨ (wr.heap.size ≤ k ∧ k < w'.heap.size)) w' := by
  obtain ⟨C, hC⟩ := h.lay
  refine (drop_any n wr hC hn fun s hs => g.2 _ (Tm.look_mem hs)).mono ?_
  rw [he]
  rintro e w' ⟨rfl, hl⟩
  exact ⟨rfl, h.acted hl⟩
theorem Bk.same (h : Bk w a P M1 M2 P' N1 N2 U F2 T G wr) (ha : Tm.Alike T U) :
    Calls Try.prog 16 #[.pointer (some ⟨P, 0, none⟩), .pointer (some ⟨P', 0, none⟩)] wr fun e w' => e = .returned (.bool true) ∧ Below wr.heap.size wr w' := by
  obtain ⟨C, hC⟩ := h.lay
  obtain ⟨D, hD⟩ := h.was
  exact same_any wr hC hD ha
end
theorem exec_build_ac {c : Act} {o : Oper} {x : Operand} {w : World} (ho : o.op = .buildSlice 22 1 #[(0, x)]) (a : TAct) (hx : c.eval x = .agg (acA a)) :
    (execOp c.eval o).run Try.prog w = .ok (.value (.slice (some ⟨w.heap.size, 0, none⟩) 1 1)) (w.alloc (.cells (acA a) 33)) := by
  obtain ⟨k, ⟨n1, n2⟩, ⟨⟨s1, s2⟩, t⟩⟩ := a
  have hr : (Instr.buildSlice 22 1 #[(0, .agg #[.int .i64 k, .int .i64 n1, .int .i64 n2, .int .i64 s1, .int .i64 s2, .string t])]).run Try.prog w = .ok (.slice (some ⟨w.heap.size, 0, none⟩) 1 1) (w.alloc (.cells #[.int .i64 k, .int .i64 n1, .int .i64 n2, .int .i64 s1, .int .i64 s2, .string t] 33)) := by kernel_rfl
  have e : acA ⟨k, (n1, n2), ((s1, s2), t)⟩ = #[.int .i64 k, .int .i64 n1, .int .i64 n2, .int .i64 s1, .int .i64 s2, .string t] := rfl
  rw [e] at hx ⊢
  unfold execOp
  simp only [ho, Sem.run_bind, Sem.run_pure, Result.andThen_ok, List.map_toArray, List.map_cons, List.map_nil, hx, hr]
theorem Rd_ac1 (w : World) (a : TAct) : Rd (w.alloc (.cells (acA a) 33)) (some ⟨w.heap.size, 0, none⟩) (acCells [a]) := fun _ =>
  ⟨w.heap.size, 0, rfl, fun i u hu => by
    have h := AgAt.cell (AgAt.new w (acA a) 33) i
    rw [Nat.zero_add, h]
    unfold acA
    rw [List.getElem?_toArray]
    simpa [acCells] using hu⟩
end Go.Proofs.Ytljojdabmjkkcaa
