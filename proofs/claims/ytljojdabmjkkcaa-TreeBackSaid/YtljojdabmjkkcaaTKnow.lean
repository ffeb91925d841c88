/-
  THE LAWS' HELPERS: knows, Long.
  No conditions but sizes.
-/
import Derived.Test.YtljojdabmjkkcaaTLawK
namespace Go.Proofs.Ytljojdabmjkkcaa
open Go.RowKit
open Tm (Sp Tr has put cut kids)

/-- a tree, and two stamps in boxes of their own -/
structure Kn (w0 : World) (ba bb P M1 M2 : Nat) (T : Tr) (C : List Kid) (F : Nat → Prop) (w : World) : Prop where
  lay : Lay w P M1 M2 T C F
  nb : ∀ k, F k → w0.heap.size ≤ k ∧ k ≠ ba ∧ k ≠ bb
  a : AgAt w ba #[.int .i64 1, .int .i64 0]
  b : AgAt w bb #[.int .i64 2, .int .i64 0]
  bel : Below w0.heap.size w0 w
section
variable {w0 w w' : World} {ba bb P M1 M2 : Nat} {T T' : Tr} {C : List Kid} {F : Nat → Prop}
theorem Kn.kept (h : Kn w0 ba bb P M1 M2 T C F w) (hb : Below w.heap.size w w') : Kn w0 ba bb P M1 M2 T C F w' := ⟨h.lay.kept hb, h.nb, AgAt.kept h.a hb, AgAt.kept h.b hb, h.bel.trans (hb.mono h.bel.size)⟩
theorem Kn.acted {v : Value} {e : Ending} (h : Kn w0 ba bb P M1 M2 T C F w) (ha : Acted P M1 M2 F T' v w e w') : ∃ C' F', Kn w0 ba bb P M1 M2 T' C' F' w' := by
  obtain ⟨-, C', hl, ht⟩ := ha
  refine ⟨C', _, hl, fun k hk => ?_, AgAt.block h.a (ht.block _ (AgAt.lt h.a) fun hh => (h.nb _ hh).2.1 rfl), AgAt.block h.b (ht.block _ (AgAt.lt h.b) fun hh => (h.nb _ hh).2.2 rfl), h.bel.trans (ht.below (fun k _ hk => (h.nb k hk).1) h.bel.size)⟩
  rcases hk with hk | hk
  · exact h.nb k hk
  · have h1 := AgAt.lt h.a
    have h2 := AgAt.lt h.b
    have h3 := h.bel.size
    refine ⟨?_, ?_, ?_⟩ <;> omega
end
theorem kOk1 : Tm.Ok kT1 := by have := Tm.Ok.nil.addT (1, 0) ((0, 0), ⟨#[97]⟩); rwa [kA1] at this
theorem kOk2 : Tm.Ok kT2 := by have := kOk1.addT (2, 0) ((1, 0), ⟨#[97]⟩); rwa [kA2] at this
theorem kOk3 : Tm.Ok kT3 := by have := kOk2.moveT (2, 0) ((0, 1), ⟨#[98]⟩); rwa [kM2] at this
theorem kWf : ∀ a b : Int, 0 ≤ a → a ≤ 2 → 0 ≤ b → b ≤ 1 → StWf (a, b) := fun a b h0 h1 h2 h3 => ⟨i64wf (by omega) (by dsimp only; omega), i64wf (by omega) (by dsimp only; omega)⟩
theorem kP2 : ∀ e ∈ kT2, StWf e.2.1 := by
  intro e he
  simp only [kT2, List.mem_cons, List.not_mem_nil, or_false] at he
  rcases he with rfl | rfl
  · exact kWf 0 0 (by decide) (by decide) (by decide) (by decide)
  · exact kWf 1 0 (by decide) (by decide) (by decide) (by decide)
theorem kP3 : ∀ e ∈ kT3, StWf e.2.1 := by
  intro e he
  simp only [kT3, List.mem_cons, List.not_mem_nil, or_false] at he
  rcases he with rfl | rfl
  · exact kWf 0 0 (by decide) (by decide) (by decide) (by decide)
  · exact kWf 0 1 (by decide) (by decide) (by decide) (by decide)

set_option maxRecDepth 100000 in
set_option maxHeartbeats 8000000 in
theorem knows_any (w : World) : Calls Try.prog 7 #[] w fun e w' => e = .returned (.bool true) ∧ Below w.heap.size w w' := by
  have w10 := kWf 1 0 (by decide) (by decide) (by decide) (by decide)
  have w20 := kWf 2 0 (by decide) (by decide) (by decide) (by decide)
  have w00 := kWf 0 0 (by decide) (by decide) (by decide) (by decide)
  have w01 := kWf 0 1 (by decide) (by decide) (by decide) (by decide)
  have HW := Lib.hid (And.intro w10 (And.intro w20 (And.intro w00 w01)))
  clear w10 w20 w00 w01
  have hk1 : (⟨#[97]⟩ : ByteArray).size ≤ 140737488355328 := by decide
  have hk2 : (⟨#[98]⟩ : ByteArray).size ≤ 140737488355328 := by decide
  have HKS := Lib.hid (And.intro hk1 hk2)
  clear hk1 hk2
  go_enter Try.func7, Try.ntmps7
  go_wp2_with fail
  refine (new_any w).mono ?_
  rintro e w1 ⟨P, M1, M2, rfl, hl1, hb1⟩
  go_upto_region 3 with (refine wpList_store_newag stT rfl _ _ rfl rfl _ (A := #[.int .i64 1, .int .i64 0]) rfl rfl rfl (stA_one _ _) ?_; intro w2 hv2 hb2)
  go_upto_region 4 with (refine wpList_store_newag stT rfl _ _ rfl rfl _ (A := #[.int .i64 2, .int .i64 0]) rfl rfl rfl (stA_one _ _) ?_; intro w3 hv3 hb3)
  have K := Lib.hid (show Kn w w1.heap.size w2.heap.size P M1 M2 [] [] (fun k => w.heap.size ≤ k ∧ k < w1.heap.size) w3 from
    ⟨(hl1.kept hb2).kept hb3, fun k hk => ⟨hk.1, by omega, by have := hb2.size; omega⟩, AgAt.kept hv2 hb3, hv3, hb1.trans ((hb2.mono hb1.size).trans (hb3.mono (Nat.le_trans hb1.size hb2.size)))⟩)
  clear hl1 hb1 hv2 hb2 hv3 hb3
  generalize w1.heap.size = ba at *
  generalize w2.heap.size = bb at *
  have hA := add_any (1, 0) ((0, 0), ⟨#[97]⟩) w3 K.out.lay HW.out.1 HW.out.2.2.1 HKS.out.1
  rw [kA1] at hA
  have HA := Lib.hid hA
  clear hA
  go_wp2_with (refine wpList_load_ag stT (by kernel_rfl) _ rfl ba rfl (A := #[.int .i64 1, .int .i64 0]) rfl K.out.a ?_)
  refine HA.out.mono ?_
  rintro e w4 h4
  obtain ⟨C4, F4, k4⟩ := K.out.acted h4
  obtain ⟨rfl, -⟩ := h4
  have K4 := Lib.hid k4
  clear k4 K HA
  have hA := add_any (2, 0) ((1, 0), ⟨#[97]⟩) w4 K4.out.lay HW.out.2.1 HW.out.1 HKS.out.1
  rw [kA2] at hA
  have HA := Lib.hid hA
  clear hA
  go_wp2_with (first | (refine wpList_load_ag stT (by kernel_rfl) _ rfl ba rfl (A := #[.int .i64 1, .int .i64 0]) rfl K4.out.a ?_) | (refine wpList_load_ag stT (by kernel_rfl) _ rfl bb rfl (A := #[.int .i64 2, .int .i64 0]) rfl K4.out.b ?_))
  refine HA.out.mono ?_
  rintro e w5 h5
  obtain ⟨C5, F5, k5⟩ := K4.out.acted h5
  obtain ⟨rfl, -⟩ := h5
  have K5 := Lib.hid k5
  clear k5 K4 HA
  have hA := move_any (1, 0) ((2, 0), ⟨#[97]⟩) w5 K5.out.lay HW.out.1 HW.out.2.1 HKS.out.1 kOk2 kP2
  rw [kM1] at hA
  have HA := Lib.hid hA
  clear hA
  go_wp2_with (first | (refine wpList_load_ag stT (by kernel_rfl) _ rfl ba rfl (A := #[.int .i64 1, .int .i64 0]) rfl K5.out.a ?_) | (refine wpList_load_ag stT (by kernel_rfl) _ rfl bb rfl (A := #[.int .i64 2, .int .i64 0]) rfl K5.out.b ?_))
  refine HA.out.mono ?_
  rintro e w6 h6
  obtain ⟨C6, F6, k6⟩ := K5.out.acted h6
  obtain ⟨rfl, -⟩ := h6
  have K6 := Lib.hid k6
  clear k6 K5 HA
  go_upto_region 7 with (refine wpList_store_newag spT rfl _ _ rfl rfl _ (A := spA zS) rfl rfl rfl (spA_one _) ?_; intro w7 hv7 hb7)
  replace K6 := Lib.hid (K6.out.kept hb7)
  clear hv7 hb7
  have hA := move_any (2, 0) ((0, 1), ⟨#[98]⟩) w7 K6.out.lay HW.out.2.1 HW.out.2.2.2 HKS.out.2 kOk2 kP2
  rw [kM2] at hA
  have HA := Lib.hid hA
  clear hA
  go_wp2_with (first | (refine wpList_load_ag stT (by kernel_rfl) _ rfl ba rfl (A := #[.int .i64 1, .int .i64 0]) rfl K6.out.a ?_) | (refine wpList_load_ag stT (by kernel_rfl) _ rfl bb rfl (A := #[.int .i64 2, .int .i64 0]) rfl K6.out.b ?_))
  refine HA.out.mono ?_
  rintro e w8 h8
  obtain ⟨C8, F8, k8⟩ := K6.out.acted h8
  obtain ⟨rfl, -⟩ := h8
  have K8 := Lib.hid k8
  clear k8 K6 HA
  go_upto_region 8 with (refine wpList_store_newag spT rfl _ _ rfl rfl _ (A := spA ((1, 0), ⟨#[97]⟩)) rfl rfl rfl (spA_one _) ?_; intro w9 hv9 hb9)
  replace K8 := Lib.hid (K8.out.kept hb9)
  clear hv9 hb9
  go_wp2_with fail
  refine (num_any 0 _).mono ?_
  rintro e w10 ⟨rfl, rfl⟩
  go_wp2_with fail
  refine (num_any 0 _).mono ?_
  rintro e w10 ⟨rfl, rfl⟩
  go_wp2_with fail
  refine (num_any 0 _).mono ?_
  rintro e w10 ⟨rfl, rfl⟩
  go_wp2_with fail
  refine (num_any 41 _).mono ?_
  rintro e w10 ⟨rfl, rfl⟩
  go_wp2_with (first | (refine wpList_load_ag stT (by kernel_rfl) _ rfl ba rfl (A := #[.int .i64 1, .int .i64 0]) rfl K8.out.a ?_) | (refine wpList_load_ag stT (by kernel_rfl) _ rfl bb rfl (A := #[.int .i64 2, .int .i64 0]) rfl K8.out.b ?_))
  refine (within_any (1, 0) (1, 0) _ K8.out.lay HW.out.1 kOk3 kP3).mono ?_
  rw [kW1]
  rintro e w10 ⟨rfl, hb10⟩
  replace K8 := Lib.hid (K8.out.kept hb10)
  clear hb10
  go_wp2_with (first | (refine wpList_load_ag stT (by kernel_rfl) _ rfl ba rfl (A := #[.int .i64 1, .int .i64 0]) rfl K8.out.a ?_) | (refine wpList_load_ag stT (by kernel_rfl) _ rfl bb rfl (A := #[.int .i64 2, .int .i64 0]) rfl K8.out.b ?_))
  refine (within_any (1, 0) (2, 0) _ K8.out.lay HW.out.2.1 kOk3 kP3).mono ?_
  rw [kW2]
  rintro e w11 ⟨rfl, hb11⟩
  replace K8 := Lib.hid (K8.out.kept hb11)
  clear hb11
  go_wp2_with fail
  refine (nodes_any _ K8.out.lay (by decide)).mono ?_
  rintro e w12 ⟨p, c, m, hp, rfl, -, -, hb12⟩
  have hml : m.length = 2 := hp.length_eq
  have HE := Lib.hid (K8.out.kept hb12).bel
  rw [hml]
  clear hb12 hp K8
  go_wp2
  go_ret
  exact ⟨rfl, HE.out⟩

/-- what Long answers: false tells that there are at most 150, of short keys -/
def LongT (l : List TAct) (w : World) (e : Ending) (w' : World) : Prop := ∃ b, e = .returned (.bool b) ∧ (b = false → l.length ≤ 150 ∧ ∀ a ∈ l, a.s.2.size ≤ 500) ∧ w = w'
theorem acOf_all {l : List TAct} {Q : TAct → Prop} (h : ∀ i, i < l.length → Q (acOf l i)) : ∀ a ∈ l, Q a := fun a ha => by
  obtain ⟨i, hi, rfl⟩ := List.getElem_of_mem ha
  have := h i hi
  rwa [show acOf l i = l[i] by simp [acOf, hi]] at this
set_option maxRecDepth 100000 in
set_option maxHeartbeats 4000000 in
theorem long_any {p : Option Addr} {c : Nat} (l : List TAct) (w : World) (h : Rd w p (acCells l)) :
    Calls Try.prog 6 #[.slice p l.length c] w (LongT l w) := by
  have HR := Lib.hid h
  have HE := Lib.hid (show LongT l w (.returned (.bool true)) w from ⟨true, rfl, fun h => (by cases h), rfl⟩)
  have HF := Lib.hid (fun i (hi : ∀ j, j < i → (acOf l j).s.2.size ≤ 500) (hd : ¬ i < l.length ∨ ¬ i < 300) => show LongT l w (.returned (.bool (decide (150 < (l.length : Int))))) w from ⟨_, rfl, fun h => (by
    have h1 := of_decide_eq_false h
    refine ⟨by omega, acOf_all fun j hj => ?_⟩
    rcases hd with hd | hd
    · exact hi j (by omega)
    · by_cases hji : j < i
      · exact hi j hji
      · omega), rfl⟩)
  clear h
  go_enter Try.func6, Try.ntmps6
  go_wp2_with fail
  go_loopg [3] (l.length + 1) (fun g v wr => ∃ i : Nat, v = .int .i64 (i : Int) ∧ i + g = l.length + 1 ∧ (∀ j, j < i → (acOf l j).s.2.size ≤ 500) ∧ wr = w)
  case atStart => exact ⟨0, rfl, by omega, fun j hj => (by omega), rfl⟩
  case round =>
    obtain ⟨i, rfl, hi, hs, rfl⟩ := hrel
    have HS := Lib.hid hs
    clear hs
    by_cases h0 : i < l.length
    · have d0 : decide ((i : Int) < (l.length : Int)) = true := decide_eq_true (by omega)
      by_cases h1 : i < 300
      · have d1 : decide ((i : Int) < 300) = true := decide_eq_true (by omega)
        obtain ⟨b, o, rfl, hb⟩ := HR.out.addr (by rw [acCells_length]; omega)
        have y5 : wr.cell? ⟨b, o + i * 6 + 5, none⟩ = some (.string (acOf l i).s.2) := HR.out.ac i h0 5 _ rfl
        obtain ⟨g1, rfl⟩ : ∃ g1, gk = g1 + 1 := ⟨gk - 1, by omega⟩
        go_wp2
        · go_ret
          exact HE.out
        · rename_i hle
          have HN := Lib.hid (show ∀ j, j < i + 1 → (acOf l j).s.2.size ≤ 500 from fun j hj => by
            rcases Nat.lt_succ_iff_lt_or_eq.1 hj with h | h
            · exact HS.out j h
            · subst h; omega)
          go_roundg g1
          case rel => exact ⟨i + 1, by rw [Int.natCast_add]; rfl, by omega, HN.out, rfl⟩
          case measure => omega
      · have d1 : decide ((i : Int) < 300) = false := decide_eq_false (by omega)
        have HX := Lib.hid (HF.out i HS.out (Or.inr h1))
        go_wp2
        go_ret
        exact HX.out
    · have d0 : decide ((i : Int) < (l.length : Int)) = false := decide_eq_false (by omega)
      have HX := Lib.hid (HF.out i HS.out (Or.inl h0))
      go_wp2
      go_ret
      exact HX.out
/-- an act whose numbers words hold -/
def AcWf (a : TAct) : Prop := StWf a.n ∧ StWf a.s.1
theorem AcWf.ok {a : TAct} (h : AcWf a) (hs : a.s.2.size ≤ 500) : AcOk a := ⟨h.1, h.2, Nat.le_trans hs (by decide)⟩
end Go.Proofs.Ytljojdabmjkkcaa
