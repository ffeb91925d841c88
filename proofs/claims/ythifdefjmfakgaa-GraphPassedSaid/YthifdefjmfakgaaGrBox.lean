/-
  A GRAPH THAT A LAW HAS MADE, or it and its copy, beside boxes of the law's: what each call leaves.
  No conditions but sizes.
-/
import Derived.Test.YthifdefjmfakgaaG3
import Derived.Test.YthifdefjmfakgaaGrInsert
import Derived.Test.YthifdefjmfakgaaGrClone
import Derived.Test.YthifdefjmfakgaaGrRef
namespace Go.Proofs.Ythifdefjmfakgaa
open Go.RowKit
open Tm (Sp Tr has put cut kids)

abbrev Bxs := List (Nat × Array Value)
structure GBx (w : World) (gg : Nat) (ops : List Pm.Wr) (χ : Nat → Nat) (hh : Nat) (ops' : List Pm.Wr) (χ' : Nat → Nat) (bs : Bxs) (W : World) : Prop where
  two : Two W gg ops χ hh ops' χ'
  bel : Below w.heap.size w W
  far : ∀ k, (1 ≤ χ k ∧ χ k ≤ 5) ∨ (1 ≤ χ' k ∧ χ' k ≤ 5) → w.heap.size ≤ k
  bx : ∀ e ∈ bs, AgAt W e.1 e.2 ∧ χ e.1 = 0 ∧ χ' e.1 = 0
def GB2 (w : World) (gg : Nat) (ops : List Pm.Wr) (hh : Nat) (ops' : List Pm.Wr) (bs : Bxs) (W : World) : Prop := ∃ χ χ', GBx w gg ops χ hh ops' χ' bs W
structure GB1x (w : World) (gg : Nat) (ops : List Pm.Wr) (χ : Nat → Nat) (bs : Bxs) (W : World) : Prop where
  g : Gra W gg ops χ
  bel : Below w.heap.size w W
  far : ∀ k, 1 ≤ χ k ∧ χ k ≤ 5 → w.heap.size ≤ k
  bx : ∀ e ∈ bs, AgAt W e.1 e.2 ∧ χ e.1 = 0
def GB1 (w : World) (gg : Nat) (ops : List Pm.Wr) (bs : Bxs) (W : World) : Prop := ∃ χ, GB1x w gg ops χ bs W
section
variable {w w0 W W' : World} {gg hh : Nat} {ops ops' ops1 : List Pm.Wr} {χ χ' χ1 : Nat → Nat} {bs : Bxs}
theorem GBx.swap (h : GBx w gg ops χ hh ops' χ' bs W) : GBx w hh ops' χ' gg ops χ bs W := ⟨h.two.swap, h.bel, fun k hk => h.far k hk.symm, fun e he => ⟨(h.bx e he).1, (h.bx e he).2.2, (h.bx e he).2.1⟩⟩
theorem GBx.goes (h : GBx w gg ops χ hh ops' χ' bs W) (ha : Gra W' gg ops1 χ1) (hg : Goes W χ W' χ1) : GBx w gg ops1 χ1 hh ops' χ' bs W' :=
  ⟨h.two.goes ha hg, h.bel.trans (hg.turns.below (fun k _ hk => h.far k (Or.inl hk)) h.bel.size), fun k hk => by
    rcases hk with hk | hk
    · by_cases hl : k < W.heap.size
      · rw [hg.keep k hl] at hk; exact h.far k (Or.inl hk)
      · have := h.bel.size; omega
    · exact h.far k (Or.inr hk), fun e he => by
    obtain ⟨h1, h2, h3⟩ := h.bx e he
    exact ⟨h1.block (hg.turns.block _ (AgAt.lt h1) (by rw [h2]; decide)), (hg.keep _ (AgAt.lt h1)).trans h2, h3⟩⟩
theorem GB1x.goes (h : GB1x w gg ops χ bs W) (ha : Gra W' gg ops1 χ1) (hg : Goes W χ W' χ1) : GB1x w gg ops1 χ1 bs W' :=
  ⟨ha, h.bel.trans (hg.turns.below (fun k _ hk => h.far k hk) h.bel.size), fun k hk => by
    by_cases hl : k < W.heap.size
    · rw [hg.keep k hl] at hk; exact h.far k hk
    · have := h.bel.size; omega, fun e he => by
    obtain ⟨h1, h2⟩ := h.bx e he
    exact ⟨h1.block (hg.turns.block _ (AgAt.lt h1) (by rw [h2]; decide)), (hg.keep _ (AgAt.lt h1)).trans h2⟩⟩
theorem GB2.swap (h : GB2 w gg ops hh ops' bs W) : GB2 w hh ops' gg ops bs W := by
  obtain ⟨χ, χ', h⟩ := h
  exact ⟨χ', χ, h.swap⟩
theorem GB2.kept (h : GB2 w gg ops hh ops' bs W) (hb : Below W.heap.size W W') : GB2 w gg ops hh ops' bs W' := by
  obtain ⟨χ, χ', h⟩ := h
  exact ⟨χ, χ', h.goes (h.two.a.kept hb) (Goes.of_below hb)⟩
theorem GB1.kept (h : GB1 w gg ops bs W) (hb : Below W.heap.size W W') : GB1 w gg ops bs W' := by
  obtain ⟨χ, h⟩ := h
  exact ⟨χ, h.goes (h.g.kept hb) (Goes.of_below hb)⟩
theorem GB2.bel (h : GB2 w gg ops hh ops' bs W) : Below w.heap.size w W := by
  obtain ⟨χ, χ', h⟩ := h
  exact h.bel
theorem GB1.bel (h : GB1 w gg ops bs W) : Below w.heap.size w W := by
  obtain ⟨χ, h⟩ := h
  exact h.bel
theorem GB2.at_ (h : GB2 w gg ops hh ops' bs W) {b : Nat} {A : Array Value} (hb : (b, A) ∈ bs) : AgAt W b A := by
  obtain ⟨χ, χ', h⟩ := h
  exact (h.bx _ hb).1
theorem GB1.at_ (h : GB1 w gg ops bs W) {b : Nat} {A : Array Value} (hb : (b, A) ∈ bs) : AgAt W b A := by
  obtain ⟨χ, h⟩ := h
  exact (h.bx _ hb).1
theorem gra_zero (h : Gra W gg ops χ) {k : Nat} (hk : W.heap.size ≤ k) : χ k = 0 := by
  cases e : χ k with
  | zero => rfl
  | succ n => exact absurd (h.lts (k := k) (by rw [e]; omega)) (by omega)
/-- one box more -/
theorem GB2.box (h : GB2 w gg ops hh ops' bs W) (hb : Below W.heap.size W W') {b : Nat} {A : Array Value} (ha : AgAt W' b A) (hl : W.heap.size ≤ b) : GB2 w gg ops hh ops' ((b, A) :: bs) W' := by
  obtain ⟨χ, χ', h⟩ := h
  have h2 := h.goes (h.two.a.kept hb) (Goes.of_below hb)
  refine ⟨χ, χ', h2.two, h2.bel, h2.far, fun e he => ?_⟩
  rcases List.mem_cons.1 he with rfl | he
  · exact ⟨ha, gra_zero h.two.a hl, gra_zero h.two.b hl⟩
  · exact h2.bx e he
theorem GB1.box (h : GB1 w gg ops bs W) (hb : Below W.heap.size W W') {b : Nat} {A : Array Value} (ha : AgAt W' b A) (hl : W.heap.size ≤ b) : GB1 w gg ops ((b, A) :: bs) W' := by
  obtain ⟨χ, h⟩ := h
  have h2 := h.goes (h.g.kept hb) (Goes.of_below hb)
  refine ⟨χ, h2.g, h2.bel, h2.far, fun e he => ?_⟩
  rcases List.mem_cons.1 he with rfl | he
  · exact ⟨ha, gra_zero h.g hl⟩
  · exact h2.bx e he
theorem GB1.made (hw : Below w.heap.size w w0) (hb0 : ∀ e ∈ bs, AgAt w0 e.1 e.2) (h1 : Gra W gg [] χ) (b1 : Below w0.heap.size w0 W) (f1 : ∀ k, χ k ≠ 0 → w0.heap.size ≤ k) : GB1 w gg [] bs W := by
  refine ⟨χ, h1, hw.trans (b1.mono hw.size), fun k hk => ?_, fun e he => ⟨(hb0 e he).kept b1, ?_⟩⟩
  · have := hw.size
    have := f1 k (by omega)
    omega
  · cases h : χ e.1 with
    | zero => rfl
    | succ n => exact absurd (f1 e.1 (by rw [h]; omega)) (by have := AgAt.lt (hb0 e he); omega)
theorem GB1.ins (s1 s2 : Int) (x : Opp) (q : Option Addr) (c : Nat) (h : GB1 w gg ops bs W) (hs : Sz x) (ha : Pa W x q c) (hl : ops.length < 60) :
    Calls Try.prog 8 #[ptV gg, .agg #[.int .i64 s1, .int .i64 s2], .agg (opA x q c)] W fun e w' => e = .returned (.tuple #[.int .i64 ((Gm.insN ops ⟨(s1, s2), x⟩ : Nat) : Int), .int .i64 (Gm.insE ops ⟨(s1, s2), x⟩)]) ∧ GB1 w gg (Gm.insO ops ⟨(s1, s2), x⟩) bs w' := by
  obtain ⟨χ, h⟩ := h
  refine (ginsert_any (s1, s2) x q c W h.g hs ha hl).mono ?_
  rintro e w' ⟨χ1, rfl, hg, hgo⟩
  exact ⟨rfl, χ1, h.goes hg hgo⟩
theorem GB2.ins (s1 s2 : Int) (x : Opp) (q : Option Addr) (c : Nat) (h : GB2 w gg ops hh ops' bs W) (hs : Sz x) (ha : Pa W x q c) (hl : ops.length < 60) :
    Calls Try.prog 8 #[ptV gg, .agg #[.int .i64 s1, .int .i64 s2], .agg (opA x q c)] W fun e w' => e = .returned (.tuple #[.int .i64 ((Gm.insN ops ⟨(s1, s2), x⟩ : Nat) : Int), .int .i64 (Gm.insE ops ⟨(s1, s2), x⟩)]) ∧ GB2 w gg (Gm.insO ops ⟨(s1, s2), x⟩) hh ops' bs w' := by
  obtain ⟨χ, χ', h⟩ := h
  refine (ginsert_any (s1, s2) x q c W h.two.a hs ha hl).mono ?_
  rintro e w' ⟨χ1, rfl, hg, hgo⟩
  exact ⟨rfl, χ1, χ', h.goes hg hgo⟩
theorem GB1.clone (h : GB1 w gg ops bs W) : Calls Try.prog 13 #[ptV gg] W fun e w' => ∃ hh, e = .returned (ptV hh) ∧ GB2 w gg ops hh ops bs w' := by
  obtain ⟨χ, h⟩ := h
  refine (gclone_any W h.g).mono ?_
  rintro e w' ⟨hh, χ1, χ2, rfl, ha, hgo, hb, hc, hl, hz⟩
  have h1 := h.goes ha hgo
  have hold : ∀ {k : Nat}, k < W.heap.size → χ1 k = 0 → χ2 k = 0 := fun {k} hk h0 => by
    cases e : χ2 k with
    | zero => rfl
    | succ n =>
      rcases hc k (by rw [e]; omega) with h2 | h2
      · rw [h0] at h2; cases h2.1
      · omega
  refine ⟨hh, rfl, χ1, χ2, ⟨ha, hb, fun k k1 k2 => ?_, ?_, Or.inl hz⟩, h1.bel, fun k hk => ?_, fun e he => ?_⟩
  · rcases hc k k2 with h2 | h2
    · exact h2
    · exact absurd h2.1 k1
  · cases e : χ2 gg with
    | zero => exact Or.inl rfl
    | succ n =>
      rcases hc gg (by rw [e]; omega) with h2 | h2
      · rw [← e]; exact Or.inr h2.2
      · exact absurd h.g.lt (by omega)
  · rcases hk with hk | hk
    · exact h1.far k hk
    · rcases hc k (by omega) with h2 | h2
      · rw [h2.2] at hk; omega
      · have := h.bel.size; omega
  · obtain ⟨h2, h3⟩ := h1.bx e he
    exact ⟨h2, h3, hold (AgAt.lt (h.bx e he).1) h3⟩
theorem GB2.same (h : GB2 w gg ops hh ops' bs W) (he : Gm.run ops' = Gm.run ops) :
    Calls Try.prog 10 #[ptV gg, ptV hh] W fun e w' => e = .returned (.bool true) ∧ GB2 w gg ops hh ops' bs w' := by
  obtain ⟨χ, χ', h⟩ := h
  refine (gsame_any W h.two he).mono ?_
  rintro e w' ⟨rfl, χ1, χ1', ht, hg⟩
  refine ⟨rfl, χ1, χ1', ht, h.bel.trans (hg.turns.below (fun k _ hk => h.far k hk) h.bel.size), fun k hk => ?_, fun e he => ?_⟩
  · by_cases hl : k < W.heap.size
    · rw [(hg.keep k hl).1, (hg.keep k hl).2] at hk; exact h.far k hk
    · have := h.bel.size; omega
  · obtain ⟨h1, h2, h3⟩ := h.bx e he
    exact ⟨h1.block (hg.turns.block _ (AgAt.lt h1) (by rw [h2, h3]; decide)), (hg.keep _ (AgAt.lt h1)).1.trans h2, (hg.keep _ (AgAt.lt h1)).2.trans h3⟩
theorem GB2.done (s1 s2 : Int) (h : GB2 w gg ops hh ops' bs W) :
    Calls Try.prog 12 #[ptV gg, .agg #[.int .i64 s1, .int .i64 s2]] W fun e w' => ∃ b, e = .returned (.bool b) ∧ (b = true ↔ Gm.Did ops (s1, s2)) ∧ GB2 w gg ops hh ops' bs w' := by
  obtain ⟨χ, χ', h⟩ := h
  refine (gdone_any (s1, s2) W h.two.a).mono ?_
  rintro e w' ⟨b, rfl, hb, χ1, hg, hgo⟩
  exact ⟨b, rfl, hb, χ1, χ', h.goes hg hgo⟩
theorem GB2.spot (s1 s2 : Int) (h : GB2 w gg ops hh ops' bs W) (hn : StWf (s1, s2)) {v : Sp} (hv : (Gm.run ops).s (s1, s2) = some v) :
    Calls Try.prog 15 #[ptV gg, .agg #[.int .i64 s1, .int .i64 s2]] W fun e w' => e = .returned (.tuple #[.agg (spA v), .bool true]) ∧ GB2 w gg ops hh ops' bs w' := by
  obtain ⟨χ, χ', h⟩ := h
  refine (gspot_any (s1, s2) W h.two.a hn).mono ?_
  rintro e w' ⟨rfl, χ1, hg, hgo⟩
  exact ⟨by rw [hv]; rfl, χ1, χ', h.goes hg hgo⟩
theorem GB2.hasB (s1 s2 : Int) (h : GB2 w gg ops hh ops' bs W) (hn : StWf (s1, s2)) :
    Calls Try.prog 16 #[ptV hh, .agg #[.int .i64 s1, .int .i64 s2]] W fun e w' => e = .returned (.bool (Gm.has (Gm.run ops') (s1, s2))) ∧ GB2 w gg ops hh ops' bs w' := by
  obtain ⟨χ', χ, h⟩ := h.swap
  refine (ghas_any (s1, s2) W h.two.a hn).mono ?_
  rintro e w' ⟨rfl, χ1, hg, hgo⟩
  exact ⟨rfl, GB2.swap ⟨χ1, χ, h.goes hg hgo⟩⟩
theorem GB2.ref (s1 s2 : Int) (h : GB2 w gg ops hh ops' bs W) (hn : StWf (s1, s2)) :
    Calls Try.prog 17 #[ptV gg, .agg #[.int .i64 s1, .int .i64 s2]] W fun e w' => e = .returned (.tuple #[.agg #[.int .i64 (((Gm.run ops).m (s1, s2)).getD (0, 0)).1, .int .i64 (((Gm.run ops).m (s1, s2)).getD (0, 0)).2], .bool ((Gm.run ops).m (s1, s2)).isSome]) ∧ GB2 w gg ops hh ops' bs w' := by
  obtain ⟨χ, χ', h⟩ := h
  refine (gref_any (s1, s2) W h.two.a hn).mono ?_
  rintro e w' ⟨rfl, χ1, hg, hgo⟩
  exact ⟨rfl, χ1, χ', h.goes hg hgo⟩
end
end Go.Proofs.Ythifdefjmfakgaa
