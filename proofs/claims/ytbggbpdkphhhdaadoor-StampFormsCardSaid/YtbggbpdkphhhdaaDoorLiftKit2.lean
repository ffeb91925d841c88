/-
  FROM A LAW's WALK TO ITS CARD: arguments that are stamps; a start that meets the list of the row's variables.
-/
import Derived.Test.YtbggbpdkphhhdaaDoorLiftKit
import Derived.Test.YtbggbpdkphhhdaaDoorCards
import Derived.Test.YtbggbpdkphhhdaaDoorTie
import Derived.Deep.DeepHandedRow
import Derived.Deep.DeepWitnessRowRef
import Derived.Lib.LaidTab
import Derived.Lib.SmallJoins
import Derived.LaidMore
import Derived.LaidHandle
import Derived.Stop.LaidErr
import Derived.Deep.Slices
import Derived.Deep.Fields
import Derived.ChangeSame
import Derived.Test.YtbggbpdkphhhdaaDoorAhead
import Derived.Test.YtbggbpdkphhhdaaDoorMax
namespace Go.Proofs.YtbggbpdkphhhdaaDoor
open Go.ChangeShapes Go.WideShapes Go.ChangeAt Go.RowKit Go.Deep Go.Joins

/-- an argument that is a struct of two integers -/
theorem opened_two {H : Type} {enc : TypeId × Value → H} {P : Program} {w : World} {base b0 : Nat} {spare : Nat → Bool} {held : Bool} {r : Reach} {t i : TypeId} {f0 f1 : Field} {v : Value} {d : DataW H} {p : List MemPlace}
    (hs : P.underlying t = some (.struct #[f0, f1])) (hone : oneCellFields P #[f0, f1] = true) (hC : P.cellsOf t = 2) (ht0 : f0.type = i) (ht1 : f1.type = i) (hi : P.underlying i = some (.int .i64))
    (hv : Value.okWide P w r b0 t v) (h : DataW.Trod enc P w base spare held t v d p) : ∃ x y : Int, v = .agg #[.int .i64 x, .int .i64 y] ∧ (Lit.int .i64 x).wf = true ∧ (Lit.int .i64 y).wf = true := by
  obtain ⟨v0, v1, y0, y1, n, rfl, -, -, h0, h1⟩ := Go.Joins.open_agg2 hs hone hC hv h
  rw [ht0] at h0
  rw [ht1] at h1
  obtain ⟨z0, e0, -, w0⟩ := DataW.trod_int hi h0
  obtain ⟨z1, e1, -, w1⟩ := DataW.trod_int hi h1
  simp only [List.cons.injEq, and_true] at e0 e1
  subst e0 e1
  exact ⟨z0, z1, rfl, w0, w1⟩

theorem cells_two {P : Program} {H : Type} {enc : TypeId × Value → H} {w : World} {base fuel : Nat} {spare : Nat → Bool} {held : Bool} {t i : TypeId} {f0 f1 : Field} {cs : List Value} {y : DataW H × List MemPlace}
    (hs : P.underlying t = some (.struct #[f0, f1])) (hi : P.underlying i = some (.int .i64)) (ht0 : f0.type = i) (ht1 : f1.type = i) (ho0 : f0.offset = 0) (ho1 : f1.offset = 1) (hc : P.cellsOf i = 1)
    (h : DataW.trod enc P w base spare held fuel t cs = some y) : ∃ x z : Int, cs[0]? = some (.int .i64 x) ∧ cs[1]? = some (.int .i64 z) := by
  obtain ⟨ys, n, -, -, -, hyl, hf⟩ := DataW.trod_struct hs h
  have h0 := hf 0 f0 rfl
  have h1 := hf 1 f1 rfl
  rw [ho0, ht0, hc] at h0
  rw [ho1, ht1, hc] at h1
  cases hy0 : ys[0]? with
  | none => have := List.getElem?_eq_none_iff.1 hy0; simp at hyl; omega
  | some y0 =>
  cases hy1 : ys[1]? with
  | none => have := List.getElem?_eq_none_iff.1 hy1; simp at hyl; omega
  | some y1 =>
  rw [hy0] at h0
  rw [hy1] at h1
  obtain ⟨x, e0, -, -⟩ := DataW.trod_int hi h0
  obtain ⟨z, e1, -, -⟩ := DataW.trod_int hi h1
  refine ⟨x, z, ?_, ?_⟩
  · have := congrArg (·[0]?) e0
    simpa [List.getElem?_take, List.getElem?_drop] using this
  · have := congrArg (·[0]?) e1
    simpa [List.getElem?_take, List.getElem?_drop] using this

theorem opened_acts {H : Type} {enc : TypeId × Value → H} {P : Program} {W : World} {held : Bool} {T E S I : TypeId} {f0 f1 f2 g0 g1 : Field} (ht : P.underlying T = some (.slice E)) (he : P.underlying E = some (.struct #[f0, f1, f2])) (hS : P.underlying S = some (.struct #[g0, g1])) (hi : P.underlying I = some (.int .i64))
    (hc : P.cellsOf E = 4) (hb1 : P.bytesOf E = 32) (hcI : P.cellsOf I = 1) (hcS : P.cellsOf S = 2) (o0 : f0.offset = 0) (o1 : f1.offset = 1) (o2 : f2.offset = 2) (u0 : f0.type = I) (u1 : f1.type = I) (u2 : f2.type = S) (p0 : g0.offset = 0) (p1 : g1.offset = 1) (v0 : g0.type = I) (v1 : g1.type = I)
    {a : Option Addr} {len cap : Nat} {d : DataW H} {p : List MemPlace} (h : DataW.Trod enc P W 0 (fun _ => true) held T (Value.slice a len cap) d p)
    (hs : ∀ el sp, d = .slice el sp → (el.length + sp.length) * P.bytesOf E ≤ reachBytes) :
    ∃ l : List ActD, l.length = len ∧ Acts W a l ∧ len ≤ cap ∧ (a = none → cap = 0) ∧ len ≤ 17592186043904 := by
  obtain ⟨fuel, hf⟩ := h
  rcases open_slice ht hf with ⟨hcs, hx⟩ | ⟨x, l, c, m, n, D, Pl, hcs, _, hl, hm, hmm, hx, hel⟩
  · simp [Value.cells] at hcs
    obtain ⟨rfl, rfl, rfl⟩ := hcs
    exact ⟨[], rfl, fun h => absurd h (Nat.lt_irrefl 0), by omega, fun _ => rfl, by omega⟩
  · simp [Value.cells] at hcs
    obtain ⟨rfl, rfl, rfl⟩ := hcs
    rw [if_pos rfl] at hmm
    subst hmm
    simp only [Prod.mk.injEq] at hx
    have hr := hs _ _ hx.1
    rw [hb1] at hr
    simp [reachBytes] at hr
    have key : ∀ i, i < m → ∃ y : ActD, W.cell? ((x.add (i * 4)).add 0) = some (.int .i64 y.kind) ∧ W.cell? ((x.add (i * 4)).add 1) = some (.int .i64 y.n) ∧ W.cell? ((x.add (i * 4)).add 2) = some (.int .i64 y.t) ∧ W.cell? ((x.add (i * 4)).add 3) = some (.int .i64 y.r) := by
      intro i hi'
      obtain ⟨cs', hcl, htr⟩ := hel i hi'
      rw [hc] at hcl
      obtain ⟨_, hlen4, hat⟩ := World.cells?_some hcl
      obtain ⟨ys, n', -, -, -, hyl, hfl⟩ := DataW.trod_struct he htr
      have q0 := hfl 0 f0 rfl
      have q1 := hfl 1 f1 rfl
      have q2 := hfl 2 f2 rfl
      rw [o0, u0, hcI] at q0
      rw [o1, u1, hcI] at q1
      rw [o2, u2, hcS] at q2
      have hy3 : ys.length = 3 := by simpa using hyl
      match ys, hy3 with
      | [y0, y1, y2], _ =>
        obtain ⟨z0, e0, -, -⟩ := DataW.trod_int hi q0
        obtain ⟨z1, e1, -, -⟩ := DataW.trod_int hi q1
        obtain ⟨z2, z3, e2, e3⟩ := cells_two hS hi v0 v1 p0 p1 hcI q2
        have k0 := congrArg (·[0]?) e0
        have k1 := congrArg (·[0]?) e1
        refine ⟨⟨z0, z1, z2, z3⟩, ?_, ?_, ?_, ?_⟩
        · rw [hat 0 (by omega)]; simpa [List.getElem?_take, List.getElem?_drop] using k0
        · rw [hat 1 (by omega)]; simpa [List.getElem?_take, List.getElem?_drop] using k1
        · rw [hat 2 (by omega)]; simpa [List.getElem?_take, List.getElem?_drop] using e2
        · rw [hat 3 (by omega)]; simpa [List.getElem?_take, List.getElem?_drop] using e3
    have key2 : ∃ f : Nat → ActD, ∀ i, i < m → W.cell? ((x.add (i * 4)).add 0) = some (.int .i64 (f i).kind) ∧ W.cell? ((x.add (i * 4)).add 1) = some (.int .i64 (f i).n) ∧ W.cell? ((x.add (i * 4)).add 2) = some (.int .i64 (f i).t) ∧ W.cell? ((x.add (i * 4)).add 3) = some (.int .i64 (f i).r) :=
      ⟨fun i => if h : i < m then (key i h).choose else ⟨0, 0, 0, 0⟩, fun i h => by simp only [dif_pos h]; exact (key i h).choose_spec⟩
    obtain ⟨f, hf2⟩ := key2
    refine ⟨(List.range len).map f, by simp, fun h0 => ?_, hl, by simp, by omega⟩
    have h00 : 0 < len := by simpa using h0
    have hsp : x.spot = none := by
      have h1 := (hf2 0 (by omega)).1
      have e : (x.add (0 * 4)).add 0 = x := by simp [Addr.add]
      rw [e] at h1
      exact World.cell?_spot h1
    obtain ⟨b, o, s⟩ := x
    obtain rfl : s = none := hsp
    refine ⟨b, o, rfl, fun i hi' => ?_⟩
    have hi3 : i < len := by simpa using hi'
    have e : actAt ((List.range len).map f) i = f i := by simp [actAt, List.getD, hi3]
    rw [e]
    obtain ⟨k0, k1, k2, k3⟩ := hf2 i (by omega)
    simp only [Go.WideShapes.add_plain] at k0 k1 k2 k3
    exact ⟨k0, k1, k2, k3⟩

theorem opened_stamps {H : Type} {enc : TypeId × Value → H} {P : Program} {W : World} {held : Bool} {T E I : TypeId} {g0 g1 : Field} (ht : P.underlying T = some (.slice E)) (he : P.underlying E = some (.struct #[g0, g1])) (hi : P.underlying I = some (.int .i64))
    (hc : P.cellsOf E = 2) (hb1 : P.bytesOf E = 16) (hcI : P.cellsOf I = 1) (p0 : g0.offset = 0) (p1 : g1.offset = 1) (v0 : g0.type = I) (v1 : g1.type = I)
    {a : Option Addr} {len cap : Nat} {d : DataW H} {p : List MemPlace} (h : DataW.Trod enc P W 0 (fun _ => true) held T (Value.slice a len cap) d p)
    (hs : ∀ el sp, d = .slice el sp → (el.length + sp.length) * P.bytesOf E ≤ reachBytes) :
    ∃ l : List (Int × Int), l.length = len ∧ Stamps W a l ∧ len ≤ cap ∧ (a = none → cap = 0) ∧ len * 16 ≤ 140737488351232 := by
  obtain ⟨fuel, hf⟩ := h
  rcases open_slice ht hf with ⟨hcs, hx⟩ | ⟨x, l, c, m, n, D, Pl, hcs, _, hl, hm, hmm, hx, hel⟩
  · simp [Value.cells] at hcs
    obtain ⟨rfl, rfl, rfl⟩ := hcs
    exact ⟨[], rfl, fun h => absurd h (Nat.lt_irrefl 0), by omega, fun _ => rfl, by omega⟩
  · simp [Value.cells] at hcs
    obtain ⟨rfl, rfl, rfl⟩ := hcs
    rw [if_pos rfl] at hmm
    subst hmm
    simp only [Prod.mk.injEq] at hx
    have hr := hs _ _ hx.1
    rw [hb1] at hr
    simp [reachBytes] at hr
    have key : ∀ i, i < m → ∃ y : Int × Int, W.cell? ((x.add (i * 2)).add 0) = some (.int .i64 y.1) ∧ W.cell? ((x.add (i * 2)).add 1) = some (.int .i64 y.2) := by
      intro i hi'
      obtain ⟨cs', hcl, htr⟩ := hel i hi'
      rw [hc] at hcl
      obtain ⟨_, hlen2, hat⟩ := World.cells?_some hcl
      obtain ⟨z0, z1, e0, e1⟩ := cells_two he hi v0 v1 p0 p1 hcI htr
      exact ⟨⟨z0, z1⟩, by rw [hat 0 (by omega)]; exact e0, by rw [hat 1 (by omega)]; exact e1⟩
    have key2 : ∃ f : Nat → Int × Int, ∀ i, i < m → W.cell? ((x.add (i * 2)).add 0) = some (.int .i64 (f i).1) ∧ W.cell? ((x.add (i * 2)).add 1) = some (.int .i64 (f i).2) :=
      ⟨fun i => if h : i < m then (key i h).choose else (0, 0), fun i h => by simp only [dif_pos h]; exact (key i h).choose_spec⟩
    obtain ⟨f, hf2⟩ := key2
    refine ⟨(List.range len).map f, by simp, fun h0 => ?_, hl, by simp, by omega⟩
    have h00 : 0 < len := by simpa using h0
    have hsp : x.spot = none := by
      have h1 := (hf2 0 (by omega)).1
      have e : (x.add (0 * 2)).add 0 = x := by simp [Addr.add]
      rw [e] at h1
      exact World.cell?_spot h1
    obtain ⟨b, o, s⟩ := x
    obtain rfl : s = none := hsp
    refine ⟨b, o, rfl, fun i hi' => ?_⟩
    have hi3 : i < len := by simpa using hi'
    have e : stAt ((List.range len).map f) i = f i := by simp [stAt, List.getD, hi3]
    rw [e]
    obtain ⟨k0, k1⟩ := hf2 i (by omega)
    simp only [Go.WideShapes.add_plain] at k0 k1
    exact ⟨k0, k1⟩

end Go.Proofs.YtbggbpdkphhhdaaDoor
