/-
  THE LAWS' HELPERS: knows, Long.
  No conditions but sizes.
-/
import Derived.Test.YtilkokhapcgolaaGreatTLawK
namespace Go.Proofs.YtilkokhapcgolaaGreat
open Go.RowKit
open Tm (Sp Tr has put cut kids)

/-- a tree, and two stamps in boxes of their own -/
structure Kn (w0 : World) (ba bb P M1 M2 : Nat) (T : Tr) (C : List Kid) (F : Nat → Prop) (w : World) : Prop where
  lay : Lay w P M1 M2 T C F
  nb : ∀ k, F k → w0.heap.size ≤ k ∧ k ≠ ba ∧ k ≠ bb
  a : AgAt w ba #[.int .i64 1, .int .i64 0]
  b : AgAt w bb #[.int .i64 2, .int .i64 0]
  bel : Below w0.heap.size w0 w
section
variable {w0 w w' : World} {ba bb P M1 M2 : Nat} {T T' : Tr} {C : List Kid} {F : Nat → Prop}
theorem Kn.kept (h : Kn w0 ba bb P M1 M2 T C F w) (hb : Below w.heap.size w w') : Kn w0 ba bb P M1 M2 T C F w' := ⟨h.lay.kept hb, h.nb, AgAt.kept h.a hb, AgAt.kept h.b hb, h.bel.trans (hb.mono h.bel.size)⟩
theorem Kn.acted {v : Value} {e : Ending} (h : Kn w0 ba bb P M1 M2 T C F w) (ha : Acted P M1 M2 F T' v w e w') : ∃ C' F', Kn w0 ba bb P M1 M2 T' C' F' w' := by
  obtain ⟨-, C', hl, ht⟩ := ha
  refine ⟨C', _, hl, fun k hk => ?_, AgAt.block h.a (ht.block _ (AgAt.lt h.a) fun hh => (h.nb _ hh).2.1 rfl), AgAt.block h.b (ht.block _ (AgAt.lt h.b) fun hh => (h.nb _ hh).2.2 rfl), h.bel.trans (ht.below (fun k _ hk => (h.nb k hk).1) h.bel.size)⟩
  rcases hk with hk | hk
  · exact h.nb k hk
  · have h1 := AgAt.lt h.a
    have h2 := AgAt.lt h.b
    have h3 := h.bel.size
    refine ⟨?_, ?_, ?_⟩ <;> omega
end
theorem kOk1 : Tm.Ok kT1 := by have := Tm.Ok.nil.addT (1, 0) ((0, 0), ⟨#[97]⟩); rwa [kA1] at this
theorem kOk2 : Tm.Ok kT2 := by have := kOk1.addT (2, 0) ((1, 0), ⟨#[97]⟩); rwa [kA2] at this
theorem kOk3 : Tm.Ok kT3 := by have := kOk2.moveT (2, 0) ((0, 1), ⟨#[98]⟩); rwa [kM2] at this
theorem kWf : ∀ a b : Int, 0 ≤ a → a ≤ 2 → 0 ≤ b → b ≤ 1 → StWf (a, b) := fun a b h0 h1 h2 h3 => ⟨i64wf (by omega) (by dsimp only; omega), i64wf (by omega) (by dsimp only; omega)⟩
theorem kP2 : ∀ e ∈ kT2, StWf e.2.1 := by
  intro e he
  simp only [kT2, List.mem_cons, List.not_mem_nil, or_false] at he
  rcases he with rfl | rfl
  · exact kWf 0 0 (by decide) (by decide) (by decide) (by decide)
  · exact kWf 1 0 (by decide) (by decide) (by decide) (by decide)
theorem kP3 : ∀ e ∈ kT3, StWf e.2.1 := by
  intro e he
  simp only [kT3, List.mem_cons, List.not_mem_nil, or_false] at he
  rcases he with rfl | rfl
  · exact kWf 0 0 (by decide) (by decide) (by decide) (by decide)
  · exact kWf 0 1 (by decide) (by decide) (by decide) (by decide)

/-- what Long answers: false tells that there are at most 150, of short keys -/
def LongT (l : List TAct) (w : World) (e : Ending) (w' : World) : Prop := ∃ b, e = .returned (.bool b) ∧ (b = false → l.length ≤ 150 ∧ ∀ a ∈ l, a.s.2.size ≤ 500) ∧ w = w'
theorem acOf_all {l : List TAct} {Q : TAct → Prop} (h : ∀ i, i < l.length → Q (acOf l i)) : ∀ a ∈ l, Q a := fun a ha => by
  obtain ⟨i, hi, rfl⟩ := List.getElem_of_mem ha
  have := h i hi
  rwa [show acOf l i = l[i] by simp [acOf, hi]] at this
set_option maxRecDepth 100000 in
set_option maxHeartbeats 4000000 in
theorem long_any {p : Option Addr} {c : Nat} (l : List TAct) (w : World) (h : Rd w p (acCells l)) :
    Calls Tryz.prog 4 #[.slice p l.length c] w (LongT l w) := by
  have HR := Lib.hid h
  have HE := Lib.hid (show LongT l w (.returned (.bool true)) w from ⟨true, rfl, fun h => (by cases h), rfl⟩)
  have HF := Lib.hid (fun i (hi : ∀ j, j < i → (acOf l j).s.2.size ≤ 500) (hd : ¬ i < l.length ∨ ¬ i < 300) => show LongT l w (.returned (.bool (decide (150 < (l.length : Int))))) w from ⟨_, rfl, fun h => (by
    have h1 := of_decide_eq_false h
    refine ⟨by omega, acOf_all fun j hj => ?_⟩
    rcases hd with hd | hd
    · exact hi j (by omega)
    · by_cases hji : j < i
      · exact hi j hji
      · omega), rfl⟩)
  clear h
  go_enter Tryz.func4, Tryz.ntmps4
  go_wp2_with fail
  go_loopg [3] (l.length + 1) (fun g v wr => ∃ i : Nat, v = .int .i64 (i : Int) ∧ i + g = l.length + 1 ∧ (∀ j, j < i → (acOf l j).s.2.size ≤ 500) ∧ wr = w)
  case atStart => exact ⟨0, rfl, by omega, fun j hj => (by omega), rfl⟩
  case round =>
    obtain ⟨i, rfl, hi, hs, rfl⟩ := hrel
    have HS := Lib.hid hs
    clear hs
    by_cases h0 : i < l.length
    · have d0 : decide ((i : Int) < (l.length : Int)) = true := decide_eq_true (by omega)
      by_cases h1 : i < 300
      · have d1 : decide ((i : Int) < 300) = true := decide_eq_true (by omega)
        obtain ⟨b, o, rfl, hb⟩ := HR.out.addr (by rw [acCells_length]; omega)
        have y5 : wr.cell? ⟨b, o + i * 6 + 5, none⟩ = some (.string (acOf l i).s.2) := HR.out.ac i h0 5 _ rfl
        obtain ⟨g1, rfl⟩ : ∃ g1, gk = g1 + 1 := ⟨gk - 1, by omega⟩
        go_wp2
        · go_ret
          exact HE.out
        · rename_i hle
          have HN := Lib.hid (show ∀ j, j < i + 1 → (acOf l j).s.2.size ≤ 500 from fun j hj => by
            rcases Nat.lt_succ_iff_lt_or_eq.1 hj with h | h
            · exact HS.out j h
            · subst h; omega)
          go_roundg g1
          case rel => exact ⟨i + 1, by rw [Int.natCast_add]; rfl, by omega, HN.out, rfl⟩
          case measure => omega
      · have d1 : decide ((i : Int) < 300) = false := decide_eq_false (by omega)
        have HX := Lib.hid (HF.out i HS.out (Or.inr h1))
        go_wp2
        go_ret
        exact HX.out
    · have d0 : decide ((i : Int) < (l.length : Int)) = false := decide_eq_false (by omega)
      have HX := Lib.hid (HF.out i HS.out (Or.inl h0))
      go_wp2
      go_ret
      exact HX.out
/-- an act whose numbers words hold -/
def AcWf (a : TAct) : Prop := StWf a.n ∧ StWf a.s.1
theorem AcWf.ok {a : TAct} (h : AcWf a) (hs : a.s.2.size ≤ 500) : AcOk a := ⟨h.1, h.2, Nat.le_trans hs (by decide)⟩
end Go.Proofs.YtilkokhapcgolaaGreat
