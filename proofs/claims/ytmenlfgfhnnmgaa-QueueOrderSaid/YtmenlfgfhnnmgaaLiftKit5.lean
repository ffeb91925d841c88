/-
  FROM A LAW's WALK TO ITS STATEMENT: arguments that are stamps, items, rows of these, acts, rows of rows.
-/
import Derived.Test.YtmenlfgfhnnmgaaQMerge
import Derived.ProofKit
import Derived.OpenShut
import Derived.ShutString
import Derived.SizedLaws
import Derived.Lib.SmallJoins
import Derived.Deep.Slices
namespace Go.Proofs.Ytmenlfgfhnnmgaa
open Go.ChangeShapes Go.WideShapes Go.ChangeAt Go.RowKit Go.Deep Go.Joins

theorem flat_get {α : Type} (enc : α → List Value) (k : Nat) (hk0 : 0 < k) (hk : ∀ x, (enc x).length = k) : ∀ (l : List α) (i : Nat) (u : Value), (l.flatMap enc)[i]? = some u → ∃ x, l[i / k]? = some x ∧ (enc x)[i % k]? = some u
  | [], i, u, h => by simp at h
  | a :: l, i, u, h => by
    rw [List.flatMap_cons] at h
    by_cases hi : i < k
    · rw [List.getElem?_append_left (by rw [hk]; exact hi)] at h
      exact ⟨a, by rw [Nat.div_eq_of_lt hi]; rfl, by rw [Nat.mod_eq_of_lt hi]; exact h⟩
    · rw [List.getElem?_append_right (by rw [hk]; omega), hk] at h
      obtain ⟨x, h1, h2⟩ := flat_get enc k hk0 hk l (i - k) u h
      have e1 : i / k = (i - k) / k + 1 := by rw [← Nat.sub_add_cancel (Nat.le_of_not_lt hi), Nat.add_div_right _ hk0, Nat.add_sub_cancel]
      have e2 : i % k = (i - k) % k := Nat.mod_eq_sub_mod (Nat.le_of_not_lt hi)
      exact ⟨x, by rw [e1]; exact h1, by rw [e2]; exact h2⟩

section
variable {H : Type} {enc : TypeId × Value → H} {P : Program} {W : World} {held : Bool}
/-- a slice of elements of k cells, opened -/
theorem row_of_trod {α : Type} [Inhabited α] {T E : TypeId} (k : Nat) (hk0 : 0 < k) (ce : α → List Value) (hk : ∀ x, (ce x).length = k) (ht : P.underlying T = some (.slice E)) (hc : P.cellsOf E = k)
    (hel : ∀ (n : Nat) (cs : List Value) (y : DataW H × List MemPlace), cs.length = k → DataW.trod enc P W 0 (fun _ => true) held n E cs = some y → ∃ x, cs = ce x)
    {fuel : Nat} {cs : List Value} {x : DataW H × List MemPlace} (h : DataW.trod enc P W 0 (fun _ => true) held fuel T cs = some x) :
    ∃ (a : Option Addr) (cap : Nat) (l : List α), cs = [.slice a l.length cap] ∧ Rd W a (l.flatMap ce) ∧ l.length ≤ cap ∧ (a = none → cap = 0) ∧ ∀ el sp, x.1 = .slice el sp → el.length + sp.length = cap := by
  rcases open_slice ht h with ⟨hcs, hx⟩ | ⟨ad, len, c, m, n, D, Pl, hcs, _, hl, hm, hmm, hx, he⟩
  · exact ⟨none, 0, [], hcs, fun h0 => absurd h0 (Nat.lt_irrefl 0), Nat.le_refl _, fun _ => rfl, fun el sp e => by rw [hx] at e; cases e⟩
  · rw [if_pos rfl] at hmm
    subst hmm
    have key : ∀ i, i < m → ∃ y : α, ∀ j, j < k → W.cell? ((ad.add (i * k)).add j) = (ce y)[j]? := by
      intro i hi'
      obtain ⟨cs', hcl, htr⟩ := he i hi'
      rw [hc] at hcl
      obtain ⟨_, hlen, hat⟩ := World.cells?_some hcl
      obtain ⟨y, rfl⟩ := hel _ _ _ hlen htr
      exact ⟨y, fun j hj => hat j hj⟩
    have key2 : ∃ f : Nat → α, ∀ i, i < m → ∀ j, j < k → W.cell? ((ad.add (i * k)).add j) = (ce (f i))[j]? :=
      ⟨fun i => if h : i < m then (key i h).choose else default, fun i h => by simp only [dif_pos h]; exact (key i h).choose_spec⟩
    obtain ⟨f, hf2⟩ := key2
    refine ⟨some ad, m, (List.range len).map f, by rw [List.length_map, List.length_range]; exact hcs, fun h0 => ?_, by simpa using hl, (fun e => by cases e), fun el sp e => ?_⟩
    · have h00 : 0 < len := by
        rcases Nat.eq_zero_or_pos len with e | e
        · subst e; simp at h0
        · exact e
      have hsp : ad.spot = none := by
        have h1 := hf2 0 (by omega) 0 hk0
        have e : (ad.add (0 * k)).add 0 = ad := by simp [Addr.add]
        rw [e] at h1
        have hz : (ce (f 0))[0]? ≠ none := by
          rw [ne_eq, List.getElem?_eq_none_iff, hk]; omega
        cases hv : (ce (f 0))[0]? with
        | none => exact absurd hv hz
        | some v => rw [hv] at h1; exact World.cell?_spot h1
      obtain ⟨b, o, s⟩ := ad
      obtain rfl : s = none := hsp
      refine ⟨b, o, rfl, fun i u hu => ?_⟩
      obtain ⟨y, h1, h2⟩ := flat_get ce k hk0 hk _ i u hu
      have hi3 : i / k < len := by
        have := (List.getElem?_eq_some_iff.1 h1).1
        simpa using this
      simp only [List.getElem?_map, List.getElem?_range hi3, Option.map_some, Option.some.injEq] at h1
      subst h1
      have h3 := hf2 (i / k) (by omega) (i % k) (Nat.mod_lt _ hk0)
      simp only [Go.WideShapes.add_plain] at h3
      have e : o + i = o + i / k * k + i % k := by have := Nat.div_add_mod i k; rw [Nat.mul_comm] at this; omega
      rw [e, h3, h2]
    · rw [hx] at e
      simp only [DataW.slice.injEq] at e
      obtain ⟨rfl, rfl⟩ := e
      simp; omega
theorem opened_row {α : Type} [Inhabited α] {T E : TypeId} (k by_ : Nat) (hk0 : 0 < k) (ce : α → List Value) (hk : ∀ x, (ce x).length = k) (ht : P.underlying T = some (.slice E)) (hc : P.cellsOf E = k) (hb : P.bytesOf E = by_)
    (hel : ∀ (n : Nat) (cs : List Value) (y : DataW H × List MemPlace), cs.length = k → DataW.trod enc P W 0 (fun _ => true) held n E cs = some y → ∃ x, cs = ce x)
    {a : Option Addr} {len cap : Nat} {d : DataW H} {p : List MemPlace} (h : DataW.Trod enc P W 0 (fun _ => true) held T (Value.slice a len cap) d p)
    (hs : ∀ el sp, d = .slice el sp → (el.length + sp.length) * P.bytesOf E ≤ reachBytes) :
    ∃ l : List α, l.length = len ∧ Rd W a (l.flatMap ce) ∧ len ≤ cap ∧ (a = none → cap = 0) ∧ (a ≠ none → d = .nil ∨ cap * by_ ≤ 140737488351232) := by
  obtain ⟨fuel, hf⟩ := h
  obtain ⟨a', cap', l, hcs, h1, h2, h3, h4⟩ := row_of_trod k hk0 ce hk ht hc hel hf
  simp [Value.cells] at hcs
  obtain ⟨rfl, rfl, rfl⟩ := hcs
  refine ⟨l, rfl, h1, h2, h3, fun _ => ?_⟩
  cases d with
  | slice el sp =>
    right
    have := hs el sp rfl
    rw [hb, h4 el sp rfl] at this
    exact this
  | _ => first | (left; rfl) | (exfalso; rcases open_slice ht hf with ⟨-, hx⟩ | ⟨_, _, _, _, _, _, _, -, -, -, -, -, hx, -⟩ <;> simp at hx)

theorem ints_two {t i : TypeId} {f0 f1 : Field} (hs : P.underlying t = some (.struct #[f0, f1])) (hi : P.underlying i = some (.int .i64)) (ht0 : f0.type = i) (ht1 : f1.type = i) (ho0 : f0.offset = 0) (ho1 : f1.offset = 1) (hc : P.cellsOf i = 1)
    (n : Nat) (cs : List Value) (y : DataW H × List MemPlace) (h : DataW.trod enc P W 0 (fun _ => true) held n t cs = some y) : ∃ x : Qm.St, cs[0]? = some (.int .i64 x.1) ∧ cs[1]? = some (.int .i64 x.2) := by
  obtain ⟨ys, n, -, -, -, hyl, hf⟩ := DataW.trod_struct hs h
  have h0 := hf 0 f0 rfl
  have h1 := hf 1 f1 rfl
  rw [ho0, ht0, hc] at h0
  rw [ho1, ht1, hc] at h1
  cases hy0 : ys[0]? with
  | none => have := List.getElem?_eq_none_iff.1 hy0; simp at hyl; omega
  | some y0 =>
  cases hy1 : ys[1]? with
  | none => have := List.getElem?_eq_none_iff.1 hy1; simp at hyl; omega
  | some y1 =>
  rw [hy0] at h0
  rw [hy1] at h1
  obtain ⟨x, e0, -, -⟩ := DataW.trod_int hi h0
  obtain ⟨z, e1, -, -⟩ := DataW.trod_int hi h1
  refine ⟨(x, z), ?_, ?_⟩
  · have := congrArg (·[0]?) e0
    simpa [List.getElem?_take, List.getElem?_drop] using this
  · have := congrArg (·[0]?) e1
    simpa [List.getElem?_take, List.getElem?_drop] using this
theorem ints_item {t S i : TypeId} {f0 f1 g0 g1 : Field} (hs : P.underlying t = some (.struct #[f0, f1])) (hS : P.underlying S = some (.struct #[g0, g1])) (hi : P.underlying i = some (.int .i64)) (ht0 : f0.type = S) (ht1 : f1.type = i) (ho0 : f0.offset = 0) (ho1 : f1.offset = 2)
    (gt0 : g0.type = i) (gt1 : g1.type = i) (go0 : g0.offset = 0) (go1 : g1.offset = 1) (hc : P.cellsOf i = 1) (hcS : P.cellsOf S = 2)
    (n : Nat) (cs : List Value) (y : DataW H × List MemPlace) (h : DataW.trod enc P W 0 (fun _ => true) held n t cs = some y) : ∃ x : Qm.It, cs[0]? = some (.int .i64 x.1.1) ∧ cs[1]? = some (.int .i64 x.1.2) ∧ cs[2]? = some (.int .i64 x.2) := by
  obtain ⟨ys, n, -, -, -, hyl, hf⟩ := DataW.trod_struct hs h
  have h0 := hf 0 f0 rfl
  have h1 := hf 1 f1 rfl
  rw [ho0, ht0, hcS] at h0
  rw [ho1, ht1, hc] at h1
  cases hy0 : ys[0]? with
  | none => have := List.getElem?_eq_none_iff.1 hy0; simp at hyl; omega
  | some y0 =>
  cases hy1 : ys[1]? with
  | none => have := List.getElem?_eq_none_iff.1 hy1; simp at hyl; omega
  | some y1 =>
  rw [hy0] at h0
  rw [hy1] at h1
  obtain ⟨x, e0, e1⟩ := ints_two hS hi gt0 gt1 go0 go1 hc _ _ _ h0
  obtain ⟨z, e2, -, -⟩ := DataW.trod_int hi h1
  refine ⟨(x, z), ?_, ?_, ?_⟩
  · simpa [List.getElem?_take, List.getElem?_drop] using e0
  · simpa [List.getElem?_take, List.getElem?_drop] using e1
  · have := congrArg (·[0]?) e2
    simpa [List.getElem?_take, List.getElem?_drop] using this
end

/-- an act: its kind, its item -/
abbrev ActQ := Int × Qm.It
def actC (x : ActQ) : List Value := [.int .i64 x.1, .int .i64 x.2.1.1, .int .i64 x.2.1.2, .int .i64 x.2.2]
theorem list2 {cs : List Value} (h : cs.length = 2) : ∃ a b, cs = [a, b] := by match cs, h with | [a, b], _ => exact ⟨a, b, rfl⟩
theorem list3 {cs : List Value} (h : cs.length = 3) : ∃ a b c, cs = [a, b, c] := by match cs, h with | [a, b, c], _ => exact ⟨a, b, c, rfl⟩
theorem list4 {cs : List Value} (h : cs.length = 4) : ∃ a b c d, cs = [a, b, c, d] := by match cs, h with | [a, b, c, d], _ => exact ⟨a, b, c, d, rfl⟩

section
variable {H : Type} {enc : TypeId × Value → H} {W : World} {held : Bool}
theorem el_st (n : Nat) (cs : List Value) (y : DataW H × List MemPlace) (hl : cs.length = 2) (h : DataW.trod enc Try.prog W 0 (fun _ => true) held n 34 cs = some y) : ∃ x, cs = encS x := by
  obtain ⟨x, h0, h1⟩ := ints_two Try.underlying34 Try.underlying3 rfl rfl rfl rfl (by kernel_rfl) n cs y h
  obtain ⟨a, b, rfl⟩ := list2 hl
  simp at h0 h1
  exact ⟨x, by rw [h0, h1]; rfl⟩
def encI (x : Qm.It) : List Value := [.int .i64 x.1.1, .int .i64 x.1.2, .int .i64 x.2]
theorem el_it (n : Nat) (cs : List Value) (y : DataW H × List MemPlace) (hl : cs.length = 3) (h : DataW.trod enc Try.prog W 0 (fun _ => true) held n 36 cs = some y) : ∃ x, cs = encI x := by
  obtain ⟨x, h0, h1, h2⟩ := ints_item Try.underlying36 Try.underlying34 Try.underlying3 rfl rfl rfl rfl rfl rfl rfl rfl (by kernel_rfl) (by kernel_rfl) n cs y h
  obtain ⟨a, b, c, rfl⟩ := list3 hl
  simp at h0 h1 h2
  exact ⟨x, by rw [h0, h1, h2]; rfl⟩
set_option maxRecDepth 100000 in
/-- an argument that is an item -/
theorem opened_item {r : Reach} {b0 : Nat} {v : Value} {d : DataW H} {p : List MemPlace} (hv : Value.okWide Try.prog W r b0 36 v) (h : DataW.Trod enc Try.prog W 0 (fun _ => true) held 36 v d p) : ∃ x : Qm.It, v = .agg #[.int .i64 x.1.1, .int .i64 x.1.2, .int .i64 x.2] := by
  obtain ⟨cs, rfl, hsz⟩ := okWide_struct Try.underlying36 hv
  have h3 : cs.size = 3 := hsz.trans (by kernel_rfl)
  obtain ⟨fuel, hf⟩ := h
  obtain ⟨x, hx⟩ := el_it fuel cs.toList (d, p) (by simpa using h3) hf
  refine ⟨x, ?_⟩
  have : cs = (encI x).toArray := by rw [← hx]
  rw [this]; rfl
set_option maxRecDepth 100000 in
/-- an argument that is a stamp -/
theorem opened_stamp {r : Reach} {b0 : Nat} {v : Value} {d : DataW H} {p : List MemPlace} (hv : Value.okWide Try.prog W r b0 34 v) (h : DataW.Trod enc Try.prog W 0 (fun _ => true) held 34 v d p) : ∃ x : Qm.St, v = .agg #[.int .i64 x.1, .int .i64 x.2] := by
  obtain ⟨cs, rfl, hsz⟩ := okWide_struct Try.underlying34 hv
  have h3 : cs.size = 2 := hsz.trans (by kernel_rfl)
  obtain ⟨fuel, hf⟩ := h
  obtain ⟨x, hx⟩ := el_st fuel cs.toList (d, p) (by simpa using h3) hf
  refine ⟨x, ?_⟩
  have : cs = (encS x).toArray := by rw [← hx]
  rw [this]; rfl
/-- an argument that is a row of stamps -/
theorem opened_stamps {a : Option Addr} {len cap : Nat} {d : DataW H} {p : List MemPlace} (h : DataW.Trod enc Try.prog W 0 (fun _ => true) held 52 (Value.slice a len cap) d p) :
    ∃ l : List Qm.St, l.length = len ∧ Rd W a (stCells l) ∧ len ≤ cap ∧ (a = none → cap = 0) := by
  obtain ⟨fuel, hf⟩ := h
  obtain ⟨a', cap', l, hcs, h1, h2, h3, -⟩ := row_of_trod 2 (by decide) encS (fun _ => rfl) Try.underlying52 (by kernel_rfl) el_st hf
  simp [Value.cells] at hcs
  obtain ⟨rfl, rfl, rfl⟩ := hcs
  exact ⟨l, rfl, h1, h2, h3⟩
/-- an argument that is a row of items -/
theorem opened_items {a : Option Addr} {len cap : Nat} {d : DataW H} {p : List MemPlace} (h : DataW.Trod enc Try.prog W 0 (fun _ => true) held 22 (Value.slice a len cap) d p) :
    ∃ l : List Qm.It, l.length = len ∧ Rd W a (itCells l) ∧ len ≤ cap ∧ (a = none → cap = 0) := by
  obtain ⟨fuel, hf⟩ := h
  obtain ⟨a', cap', l, hcs, h1, h2, h3, -⟩ := row_of_trod 3 (by decide) encI (fun _ => rfl) Try.underlying22 (by kernel_rfl) el_it hf
  simp [Value.cells] at hcs
  obtain ⟨rfl, rfl, rfl⟩ := hcs
  exact ⟨l, rfl, h1, h2, h3⟩
/-- an argument that is a row of rows of stamps -/
theorem opened_rows {a : Option Addr} {len cap : Nat} {d : DataW H} {p : List MemPlace} (h : DataW.Trod enc Try.prog W 0 (fun _ => true) held 51 (Value.slice a len cap) d p) :
    ∃ L : List (List Qm.St), L.length = len ∧ Rws W a L ∧ len ≤ cap ∧ (a = none → cap = 0) := by
  obtain ⟨fuel, hf⟩ := h
  rcases open_slice1 Try.underlying51 (by kernel_rfl) hf with ⟨hcs, hx⟩ | ⟨ad, l, c, m, n, V, D, Pl, hcs, _, hl, hm, hmm, hx, hel⟩
  · simp [Value.cells] at hcs
    obtain ⟨rfl, rfl, rfl⟩ := hcs
    exact ⟨[], rfl, fun h => absurd h (Nat.lt_irrefl 0), by omega, fun _ => rfl⟩
  · simp [Value.cells] at hcs
    obtain ⟨rfl, rfl, rfl⟩ := hcs
    rw [if_pos rfl] at hmm
    subst hmm
    have key : ∀ i, i < m → ∃ l : List Qm.St, ∃ pi ci, W.cell? (ad.add i) = some (.slice pi l.length ci) ∧ Rd W pi (stCells l) ∧ (pi = none → ci = 0) := by
      intro i hi'
      obtain ⟨h1, htr⟩ := hel i hi'
      obtain ⟨a', cap', l, hcs, h2, h3, h4, -⟩ := row_of_trod 2 (by decide) encS (fun _ => rfl) Try.underlying52 (by kernel_rfl) el_st htr
      simp only [List.cons.injEq, and_true] at hcs
      exact ⟨l, a', cap', by rw [h1, hcs], h2, h4⟩
    have key2 : ∃ f : Nat → List Qm.St, ∀ i, i < m → ∃ pi ci, W.cell? (ad.add i) = some (.slice pi (f i).length ci) ∧ Rd W pi (stCells (f i)) ∧ (pi = none → ci = 0) :=
      ⟨fun i => if h : i < m then (key i h).choose else [], fun i h => by simp only [dif_pos h]; exact (key i h).choose_spec⟩
    obtain ⟨f, hf2⟩ := key2
    refine ⟨(List.range len).map f, by simp, fun h0 => ?_, hl, (fun e => by cases e)⟩
    have h00 : 0 < len := by simpa using h0
    have hsp : ad.spot = none := by
      obtain ⟨pi, ci, h1, -⟩ := hf2 0 (by omega)
      have e : ad.add 0 = ad := by simp [Addr.add]
      rw [e] at h1
      exact World.cell?_spot h1
    obtain ⟨b, o, s⟩ := ad
    obtain rfl : s = none := hsp
    refine ⟨b, o, rfl, fun i hi' => ?_⟩
    have hi3 : i < len := by simpa using hi'
    have e : rowAt ((List.range len).map f) i = f i := by simp [rowAt, List.getD, hi3]
    rw [e]
    obtain ⟨pi, ci, k0, k1, k2⟩ := hf2 i (by omega)
    simp only [Go.WideShapes.add_plain] at k0
    exact ⟨pi, ci, k0, k1, k2⟩
theorem ints_act {P : Program} {t I i : TypeId} {f0 f1 : Field} (hs : P.underlying t = some (.struct #[f0, f1])) (hi : P.underlying i = some (.int .i64)) (ht0 : f0.type = i) (ht1 : f1.type = I) (ho0 : f0.offset = 0) (ho1 : f1.offset = 1) (hc : P.cellsOf i = 1) (hcI : P.cellsOf I = 3)
    (hel : ∀ (n : Nat) (cs : List Value) (y : DataW H × List MemPlace), cs.length = 3 → DataW.trod enc P W 0 (fun _ => true) held n I cs = some y → ∃ x, cs = encI x)
    (n : Nat) (cs : List Value) (y : DataW H × List MemPlace) (hl : cs.length = 4) (h : DataW.trod enc P W 0 (fun _ => true) held n t cs = some y) : ∃ x, cs = actC x := by
  obtain ⟨a, b, c, e, rfl⟩ := list4 hl
  obtain ⟨ys, n, -, -, -, hyl, hf⟩ := DataW.trod_struct hs h
  have h0 := hf 0 f0 rfl
  have h1 := hf 1 f1 rfl
  rw [ho0, ht0, hc] at h0
  rw [ho1, ht1, hcI] at h1
  cases hy0 : ys[0]? with
  | none => have := List.getElem?_eq_none_iff.1 hy0; simp at hyl; omega
  | some y0 =>
  cases hy1 : ys[1]? with
  | none => have := List.getElem?_eq_none_iff.1 hy1; simp at hyl; omega
  | some y1 =>
  rw [hy0] at h0
  rw [hy1] at h1
  obtain ⟨x, e0, -, -⟩ := DataW.trod_int hi h0
  obtain ⟨z, e1⟩ := hel _ _ _ rfl h1
  refine ⟨(x, z), ?_⟩
  simp [encI] at e0 e1
  obtain ⟨rfl, rfl, rfl⟩ := e1
  rw [e0]; rfl
theorem el_act (n : Nat) (cs : List Value) (y : DataW H × List MemPlace) (hl : cs.length = 4) (h : DataW.trod enc Try.prog W 0 (fun _ => true) held n 38 cs = some y) : ∃ x, cs = actC x :=
  ints_act Try.underlying38 Try.underlying3 rfl rfl rfl rfl (by kernel_rfl) (by kernel_rfl) el_it n cs y hl h
/-- an argument that is a row of acts -/
theorem opened_acts {a : Option Addr} {len cap : Nat} {d : DataW H} {p : List MemPlace} (h : DataW.Trod enc Try.prog W 0 (fun _ => true) held 23 (Value.slice a len cap) d p) :
    ∃ l : List ActQ, l.length = len ∧ Rd W a (l.flatMap actC) ∧ len ≤ cap ∧ (a = none → cap = 0) := by
  obtain ⟨fuel, hf⟩ := h
  obtain ⟨a', cap', l, hcs, h1, h2, h3, -⟩ := row_of_trod 4 (by decide) actC (fun _ => rfl) Try.underlying23 (by kernel_rfl) el_act hf
  simp [Value.cells] at hcs
  obtain ⟨rfl, rfl, rfl⟩ := hcs
  exact ⟨l, rfl, h1, h2, h3⟩
end

end Go.Proofs.Ytmenlfgfhnnmgaa
