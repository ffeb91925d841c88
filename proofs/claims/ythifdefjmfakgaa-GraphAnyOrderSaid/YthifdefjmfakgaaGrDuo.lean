/-
  TWO GRAPHS THAT A LAW HAS MADE, and a row beside them: what each call leaves.
  No conditions but sizes.
-/
import Derived.Test.YthifdefjmfakgaaG3
import Derived.Test.YthifdefjmfakgaaGrInsert
import Derived.Test.YthifdefjmfakgaaG4
namespace Go.Proofs.Ythifdefjmfakgaa
open Go.RowKit
open Tm (Sp Tr has put cut kids)

structure GDuo (w : World) (gg : Nat) (ops : List Pm.Wr) (χ : Nat → Nat) (hh : Nat) (ops' : List Pm.Wr) (χ' : Nat → Nat) (py : Option Addr) (cs : List Value) (W : World) : Prop where
  two : Two W gg ops χ hh ops' χ'
  bel : Below w.heap.size w W
  far : ∀ k, (1 ≤ χ k ∧ χ k ≤ 5) ∨ (1 ≤ χ' k ∧ χ' k ≤ 5) → w.heap.size ≤ k
  row : Rd W py cs
  rz : ∀ a, py = some a → a.block < W.heap.size ∧ χ a.block = 0 ∧ χ' a.block = 0
section
variable {w W W' : World} {gg hh : Nat} {ops ops' ops1 : List Pm.Wr} {χ χ' χ1 : Nat → Nat} {py : Option Addr} {cs : List Value}
theorem GDuo.swap (h : GDuo w gg ops χ hh ops' χ' py cs W) : GDuo w hh ops' χ' gg ops χ py cs W := ⟨h.two.swap, h.bel, fun k hk => h.far k hk.symm, h.row, fun a ha => ⟨(h.rz a ha).1, (h.rz a ha).2.2, (h.rz a ha).2.1⟩⟩
theorem GDuo.goes (h : GDuo w gg ops χ hh ops' χ' py cs W) (ha : Gra W' gg ops1 χ1) (hg : Goes W χ W' χ1) : GDuo w gg ops1 χ1 hh ops' χ' py cs W' :=
  ⟨h.two.goes ha hg, h.bel.trans (hg.turns.below (fun k _ hk => h.far k (Or.inl hk)) h.bel.size), fun k hk => by
    rcases hk with hk | hk
    · by_cases hl : k < W.heap.size
      · rw [hg.keep k hl] at hk; exact h.far k (Or.inl hk)
      · have := h.bel.size; omega
    · exact h.far k (Or.inr hk), hg.turns.rd h.row (fun a ha hf => by have := (h.rz a ha).2.1; omega), fun a ha => by
    obtain ⟨h1, h2, h3⟩ := h.rz a ha
    exact ⟨Nat.lt_of_lt_of_le h1 hg.turns.size, (hg.keep _ h1).trans h2, h3⟩⟩
end
def GD (w : World) (gg : Nat) (ops : List Pm.Wr) (hh : Nat) (ops' : List Pm.Wr) (py : Option Addr) (cs : List Value) (W : World) : Prop := ∃ χ χ', GDuo w gg ops χ hh ops' χ' py cs W
section
variable {w W W' : World} {gg hh : Nat} {ops ops' ops1 : List Pm.Wr} {py : Option Addr} {cs : List Value}
theorem GD.swap (h : GD w gg ops hh ops' py cs W) : GD w hh ops' gg ops py cs W := by
  obtain ⟨χ, χ', h⟩ := h
  exact ⟨χ', χ, h.swap⟩
theorem GD.kept (h : GD w gg ops hh ops' py cs W) (hb : Below W.heap.size W W') : GD w gg ops hh ops' py cs W' := by
  obtain ⟨χ, χ', h⟩ := h
  exact ⟨χ, χ', h.goes (h.two.a.kept hb) (Goes.of_below hb)⟩
theorem GD.bel (h : GD w gg ops hh ops' py cs W) : Below w.heap.size w W := by
  obtain ⟨χ, χ', h⟩ := h
  exact h.bel
theorem GD.row (h : GD w gg ops hh ops' py cs W) : Rd W py cs := by
  obtain ⟨χ, χ', h⟩ := h
  exact h.row
theorem GD.far (h : GD w gg ops hh ops' py cs W) (a : Addr) (ha : py = some a) : a.block < W.heap.size := by
  obtain ⟨χ, χ', h⟩ := h
  exact (h.rz a ha).1
/-- another row beside them -/
theorem GD.beside {qy : Option Addr} {ds : List Value} (h : GD w gg ops hh ops' py cs W) (hb : Below W.heap.size W W') (hr : Rd W' qy ds) (hq : ∀ a, qy = some a → W.heap.size ≤ a.block ∧ a.block < W'.heap.size) : GD w gg ops hh ops' qy ds W' := by
  obtain ⟨χ, χ', h⟩ := h
  have h2 := h.goes (h.two.a.kept hb) (Goes.of_below hb)
  refine ⟨χ, χ', h2.two, h2.bel, h2.far, hr, fun a ha => ⟨(hq a ha).2, ?_, ?_⟩⟩
  · cases e : χ a.block with
    | zero => rfl
    | succ n => exact absurd (h.two.a.lts (k := a.block) (by rw [e]; omega)) (by have := (hq a ha).1; omega)
  · cases e : χ' a.block with
    | zero => rfl
    | succ n => exact absurd (h.two.b.lts (k := a.block) (by rw [e]; omega)) (by have := (hq a ha).1; omega)
theorem GD.made {w w0 w1 w2 : World} {gg hh : Nat} {χ χ' : Nat → Nat} (hw : Below w.heap.size w w0) (h1 : Gra w1 gg [] χ) (b1 : Below w0.heap.size w0 w1) (f1 : ∀ k, χ k ≠ 0 → w0.heap.size ≤ k) (h2 : Gra w2 hh [] χ') (b2 : Below w1.heap.size w1 w2) (f2 : ∀ k, χ' k ≠ 0 → w1.heap.size ≤ k) (g2 : w1.heap.size ≤ hh) : GD w gg [] hh [] none [] w2 := by
  have z1 : ∀ k, w1.heap.size ≤ k → χ k = 0 := fun k hk => by
    cases e : χ k with
    | zero => rfl
    | succ n => exact absurd (h1.lts (k := k) (by rw [e]; omega)) (by omega)
  have z2 : ∀ k, k < w1.heap.size → χ' k = 0 := fun k hk => by
    cases e : χ' k with
    | zero => rfl
    | succ n => exact absurd (f2 k (by rw [e]; omega)) (by omega)
  refine ⟨χ, χ', ⟨h1.kept b2, h2, fun k k1 k2 => ?_, Or.inl (z2 _ h1.lt), Or.inl (z1 _ g2)⟩, hw.trans ((b1.trans (b2.mono b1.size)).mono hw.size), fun k hk => ?_, fun h => absurd h (by simp), fun a ha => by cases ha⟩
  · have := f2 k k2
    exact absurd (z1 k this) k1
  · have h0 := hw.size
    have h3 := b1.size
    rcases hk with hk | hk
    · have := f1 k (by omega); omega
    · have := f2 k (by omega); omega
theorem GD.ins (s1 s2 : Int) (x : Opp) (q : Option Addr) (c : Nat) (h : GD w gg ops hh ops' py cs W) (hs : Sz x) (ha : Pa W x q c) (hl : ops.length < 60) :
    Calls Try.prog 8 #[ptV gg, .agg #[.int .i64 s1, .int .i64 s2], .agg (opA x q c)] W fun e w' => e = .returned (.tuple #[.int .i64 ((Gm.insN ops ⟨(s1, s2), x⟩ : Nat) : Int), .int .i64 (Gm.insE ops ⟨(s1, s2), x⟩)]) ∧ GD w gg (Gm.insO ops ⟨(s1, s2), x⟩) hh ops' py cs w' := by
  obtain ⟨χ, χ', h⟩ := h
  refine (ginsert_any (s1, s2) x q c W h.two.a hs ha hl).mono ?_
  rintro e w' ⟨χ1, rfl, hg, hgo⟩
  exact ⟨rfl, χ1, χ', h.goes hg hgo⟩
theorem GD.insB (s1 s2 : Int) (x : Opp) (q : Option Addr) (c : Nat) (h : GD w gg ops hh ops' py cs W) (hs : Sz x) (ha : Pa W x q c) (hl : ops'.length < 60) :
    Calls Try.prog 8 #[ptV hh, .agg #[.int .i64 s1, .int .i64 s2], .agg (opA x q c)] W fun e w' => e = .returned (.tuple #[.int .i64 ((Gm.insN ops' ⟨(s1, s2), x⟩ : Nat) : Int), .int .i64 (Gm.insE ops' ⟨(s1, s2), x⟩)]) ∧ GD w gg ops hh (Gm.insO ops' ⟨(s1, s2), x⟩) py cs w' :=
  (GD.ins s1 s2 x q c h.swap hs ha hl).mono fun _ _ ⟨h1, h2⟩ => ⟨h1, h2.swap⟩
theorem GD.same (h : GD w gg ops hh ops' py cs W) (he : Gm.run ops' = Gm.run ops) :
    Calls Try.prog 10 #[ptV gg, ptV hh] W fun e w' => e = .returned (.bool true) ∧ GD w gg ops hh ops' py cs w' := by
  obtain ⟨χ, χ', h⟩ := h
  refine (gsame_any W h.two he).mono ?_
  rintro e w' ⟨rfl, χ1, χ1', ht, hg⟩
  refine ⟨rfl, χ1, χ1', ht, h.bel.trans (hg.turns.below (fun k _ hk => h.far k hk) h.bel.size), fun k hk => ?_, hg.turns.rd h.row (fun a ha hf => by have := (h.rz a ha).2; omega), fun a ha => ?_⟩
  · by_cases hl : k < W.heap.size
    · rw [(hg.keep k hl).1, (hg.keep k hl).2] at hk; exact h.far k hk
    · have := h.bel.size; omega
  · obtain ⟨h1, h2, h3⟩ := h.rz a ha
    exact ⟨Nat.lt_of_lt_of_le h1 hg.turns.size, (hg.keep _ h1).1.trans h2, (hg.keep _ h1).2.trans h3⟩
theorem GD.count (h : GD w gg ops hh ops' py cs W) : Calls Try.prog 11 #[ptV gg] W fun e w' => e = .returned (.int .i64 (ops.length : Int)) ∧ W = w' := by
  obtain ⟨χ, χ', h⟩ := h
  exact gcount_any W h.two.a
theorem GD.done (s1 s2 : Int) (h : GD w gg ops hh ops' py cs W) :
    Calls Try.prog 12 #[ptV gg, .agg #[.int .i64 s1, .int .i64 s2]] W fun e w' => ∃ b, e = .returned (.bool b) ∧ (b = true ↔ Gm.Did ops (s1, s2)) ∧ GD w gg ops hh ops' py cs w' := by
  obtain ⟨χ, χ', h⟩ := h
  refine (gdone_any (s1, s2) W h.two.a).mono ?_
  rintro e w' ⟨b, rfl, hb, χ1, hg, hgo⟩
  exact ⟨b, rfl, hb, χ1, χ', h.goes hg hgo⟩
theorem GD.doneB (s1 s2 : Int) (h : GD w gg ops hh ops' py cs W) :
    Calls Try.prog 12 #[ptV hh, .agg #[.int .i64 s1, .int .i64 s2]] W fun e w' => ∃ b, e = .returned (.bool b) ∧ (b = true ↔ Gm.Did ops' (s1, s2)) ∧ GD w gg ops hh ops' py cs w' :=
  (GD.done s1 s2 h.swap).mono fun _ _ ⟨b, h1, h2, h3⟩ => ⟨b, h1, h2, h3.swap⟩
end
end Go.Proofs.Ythifdefjmfakgaa
