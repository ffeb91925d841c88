/-
  FROM A LAW's WALK TO ITS STATEMENT: arguments that are acts.
  No conditions.
-/
import Derived.Test.YtilkokhapcgolaaGreatTKnow
import Derived.ProofKit
import Derived.OpenShut
import Derived.ShutString
import Derived.SizedLaws
import Derived.Lib.SmallJoins
import Derived.Deep.Slices
namespace Go.Proofs.YtilkokhapcgolaaGreat
open Go.ChangeShapes Go.WideShapes Go.ChangeAt Go.RowKit Go.Deep Go.Joins

theorem flat_get {α : Type} (enc : α → List Value) (k : Nat) (hk0 : 0 < k) (hk : ∀ x, (enc x).length = k) : ∀ (l : List α) (i : Nat) (u : Value), (l.flatMap enc)[i]? = some u → ∃ x, l[i / k]? = some x ∧ (enc x)[i % k]? = some u
  | [], i, u, h => by simp at h
  | a :: l, i, u, h => by
    rw [List.flatMap_cons] at h
    by_cases hi : i < k
    · rw [List.getElem?_append_left (by rw [hk]; exact hi)] at h
      exact ⟨a, by rw [Nat.div_eq_of_lt hi]; rfl, by rw [Nat.mod_eq_of_lt hi]; exact h⟩
    · rw [List.getElem?_append_right (by rw [hk]; omega), hk] at h
      obtain ⟨x, h1, h2⟩ := flat_get enc k hk0 hk l (i - k) u h
      have e1 : i / k = (i - k) / k + 1 := by rw [← Nat.sub_add_cancel (Nat.le_of_not_lt hi), Nat.add_div_right _ hk0, Nat.add_sub_cancel]
      have e2 : i % k = (i - k) % k := Nat.mod_eq_sub_mod (Nat.le_of_not_lt hi)
      exact ⟨x, by rw [e1]; exact h1, by rw [e2]; exact h2⟩

section
variable {H : Type} {enc : TypeId × Value → H} {P : Program} {W : World} {held : Bool}
/-- a slice of elements of k cells, opened -/
theorem row_of_trod {α : Type} [Inhabited α] {T E : TypeId} (k : Nat) (hk0 : 0 < k) (ce : α → List Value) (hk : ∀ x, (ce x).length = k) (ht : P.underlying T = some (.slice E)) (hc : P.cellsOf E = k)
    (hel : ∀ (n : Nat) (cs : List Value) (y : DataW H × List MemPlace), cs.length = k → DataW.trod enc P W 0 (fun _ => true) held n E cs = some y → ∃ x, cs = ce x)
    {fuel : Nat} {cs : List Value} {x : DataW H × List MemPlace} (h : DataW.trod enc P W 0 (fun _ => true) held fuel T cs = some x) :
    ∃ (a : Option Addr) (cap : Nat) (l : List α), cs = [.slice a l.length cap] ∧ Rd W a (l.flatMap ce) ∧ l.length ≤ cap ∧ (a = none → cap = 0) ∧ ∀ el sp, x.1 = .slice el sp → el.length + sp.length = cap := by
  rcases open_slice ht h with ⟨hcs, hx⟩ | ⟨ad, len, c, m, n, D, Pl, hcs, _, hl, hm, hmm, hx, he⟩
  · exact ⟨none, 0, [], hcs, fun h0 => absurd h0 (Nat.lt_irrefl 0), Nat.le_refl _, fun _ => rfl, fun el sp e => by rw [hx] at e; cases e⟩
  · rw [if_pos rfl] at hmm
    subst hmm
    have key : ∀ i, i < m → ∃ y : α, ∀ j, j < k → W.cell? ((ad.add (i * k)).add j) = (ce y)[j]? := by
      intro i hi'
      obtain ⟨cs', hcl, htr⟩ := he i hi'
      rw [hc] at hcl
      obtain ⟨_, hlen, hat⟩ := World.cells?_some hcl
      obtain ⟨y, rfl⟩ := hel _ _ _ hlen htr
      exact ⟨y, fun j hj => hat j hj⟩
    have key2 : ∃ f : Nat → α, ∀ i, i < m → ∀ j, j < k → W.cell? ((ad.add (i * k)).add j) = (ce (f i))[j]? :=
      ⟨fun i => if h : i < m then (key i h).choose else default, fun i h => by simp only [dif_pos h]; exact (key i h).choose_spec⟩
    obtain ⟨f, hf2⟩ := key2
    refine ⟨some ad, m, (List.range len).map f, by rw [List.length_map, List.length_range]; exact hcs, fun h0 => ?_, by simpa using hl, (fun e => by cases e), fun el sp e => ?_⟩
    · have h00 : 0 < len := by
        rcases Nat.eq_zero_or_pos len with e | e
        · subst e; simp at h0
        · exact e
      have hsp : ad.spot = none := by
        have h1 := hf2 0 (by omega) 0 hk0
        have e : (ad.add (0 * k)).add 0 = ad := by simp [Addr.add]
        rw [e] at h1
        have hz : (ce (f 0))[0]? ≠ none := by
          rw [ne_eq, List.getElem?_eq_none_iff, hk]; omega
        cases hv : (ce (f 0))[0]? with
        | none => exact absurd hv hz
        | some v => rw [hv] at h1; exact World.cell?_spot h1
      obtain ⟨b, o, s⟩ := ad
      obtain rfl : s = none := hsp
      refine ⟨b, o, rfl, fun i u hu => ?_⟩
      obtain ⟨y, h1, h2⟩ := flat_get ce k hk0 hk _ i u hu
      have hi3 : i / k < len := by
        have := (List.getElem?_eq_some_iff.1 h1).1
        simpa using this
      simp only [List.getElem?_map, List.getElem?_range hi3, Option.map_some, Option.some.injEq] at h1
      subst h1
      have h3 := hf2 (i / k) (by omega) (i % k) (Nat.mod_lt _ hk0)
      simp only [Go.WideShapes.add_plain] at h3
      have e : o + i = o + i / k * k + i % k := by have := Nat.div_add_mod i k; rw [Nat.mul_comm] at this; omega
      rw [e, h3, h2]
    · rw [hx] at e
      simp only [DataW.slice.injEq] at e
      obtain ⟨rfl, rfl⟩ := e
      simp; omega
end

theorem list6 {cs : List Value} (h : cs.length = 6) : ∃ a0 a1 a2 a3 a4 a5, cs = [a0, a1, a2, a3, a4, a5] := by
  match cs, h with | [a0, a1, a2, a3, a4, a5], _ => exact ⟨a0, a1, a2, a3, a4, a5, rfl⟩
section
variable {H : Type} {enc : TypeId × Value → H} {W : World} {held : Bool}
theorem trod_field {P : Program} {W : World} {fs : Array Field} {n : Nat} {cs : List Value} {xs : List (DataW H × List MemPlace)}
    (hf : ∀ (i : Nat) (f : Field), fs[i]? = some f → DataW.trod enc P W 0 (fun _ => true) held n f.type ((cs.drop f.offset).take (P.cellsOf f.type)) = xs[i]?)
    (i : Nat) (f : Field) (T : TypeId) (off len : Nat) (us : List Value) (y : DataW H × List MemPlace) (hi : fs[i]? = some f) (ht : f.type = T) (ho : f.offset = off) (hc : P.cellsOf T = len) (hu : (cs.drop off).take len = us) (hy : xs[i]? = some y) :
    DataW.trod enc P W 0 (fun _ => true) held n T us = some y := by
  have h := hf i f hi
  rw [ht, ho, hc, hu, hy] at h
  exact h

/-- acts whose numbers words hold -/
abbrev ActW := { a : TAct // AcWf a }
instance : Inhabited ActW := ⟨⟨TAct.zero, ⟨i64wf (by decide) (by decide), i64wf (by decide) (by decide)⟩, ⟨i64wf (by decide) (by decide), i64wf (by decide) (by decide)⟩⟩⟩
theorem el_stW (n : Nat) (a b : Value) (y : DataW H × List MemPlace) (h : DataW.trod enc Tryz.prog W 0 (fun _ => true) held n 24 [a, b] = some y) : ∃ x : Qm.St, a = .int .i64 x.1 ∧ b = .int .i64 x.2 ∧ StWf x := by
  obtain ⟨ys, n, -, -, -, hyl, hf⟩ := DataW.trod_struct Tryz.underlying24 h
  have c1 : Tryz.prog.cellsOf 3 = 1 := by kernel_rfl
  have get : ∀ i, i < 2 → ∃ y, ys[i]? = some y := fun i hi => ⟨_, List.getElem?_eq_getElem (by simp at hyl; omega)⟩
  obtain ⟨y0, e0⟩ := get 0 (by omega)
  obtain ⟨y1, e1⟩ := get 1 (by omega)
  have h0 := trod_field hf 0 _ 3 0 _ [a] _ rfl rfl rfl c1 rfl e0
  have h1 := trod_field hf 1 _ 3 1 _ [b] _ rfl rfl rfl c1 rfl e1
  obtain ⟨k, f0, -, w0⟩ := DataW.trod_int Tryz.underlying3 h0
  obtain ⟨m, f1, -, w1⟩ := DataW.trod_int Tryz.underlying3 h1
  simp only [List.cons.injEq, and_true] at f0 f1
  exact ⟨(k, m), f0, f1, w0, w1⟩
theorem el_spW (n : Nat) (a b c : Value) (y : DataW H × List MemPlace) (h : DataW.trod enc Tryz.prog W 0 (fun _ => true) held n 34 [a, b, c] = some y) : ∃ s : Tm.Sp, a = .int .i64 s.1.1 ∧ b = .int .i64 s.1.2 ∧ c = .string s.2 ∧ StWf s.1 := by
  obtain ⟨ys, n, -, -, -, hyl, hf⟩ := DataW.trod_struct Tryz.underlying34 h
  have c1 : Tryz.prog.cellsOf 24 = 2 := by kernel_rfl
  have c2 : Tryz.prog.cellsOf 9 = 1 := by kernel_rfl
  have get : ∀ i, i < 2 → ∃ y, ys[i]? = some y := fun i hi => ⟨_, List.getElem?_eq_getElem (by simp at hyl; omega)⟩
  obtain ⟨y0, e0⟩ := get 0 (by omega)
  obtain ⟨y1, e1⟩ := get 1 (by omega)
  have h0 := trod_field hf 0 _ 24 0 _ [a, b] _ rfl rfl rfl c1 rfl e0
  have h1 := trod_field hf 1 _ 9 2 _ [c] _ rfl rfl rfl c2 rfl e1
  obtain ⟨x, f0, f1, w0⟩ := el_stW _ _ _ _ h0
  obtain ⟨t, f2, -, -⟩ := DataW.trod_string Tryz.underlying9 h1
  simp only [List.cons.injEq, and_true] at f2
  exact ⟨(x, t), f0, f1, f2, w0⟩
set_option maxRecDepth 100000 in
theorem el_tact (n : Nat) (cs : List Value) (y : DataW H × List MemPlace) (hl : cs.length = 6) (h : DataW.trod enc Tryz.prog W 0 (fun _ => true) held n 36 cs = some y) : ∃ x : ActW, cs = acL x.1 := by
  obtain ⟨a0, a1, a2, a3, a4, a5, rfl⟩ := list6 hl
  obtain ⟨ys, n, -, -, -, hyl, hf⟩ := DataW.trod_struct Tryz.underlying36 h
  have c1 : Tryz.prog.cellsOf 3 = 1 := by kernel_rfl
  have c2 : Tryz.prog.cellsOf 24 = 2 := by kernel_rfl
  have c3 : Tryz.prog.cellsOf 34 = 3 := by kernel_rfl
  have get : ∀ i, i < 3 → ∃ y, ys[i]? = some y := fun i hi => ⟨_, List.getElem?_eq_getElem (by simp at hyl; omega)⟩
  obtain ⟨y0, e0⟩ := get 0 (by omega)
  obtain ⟨y1, e1⟩ := get 1 (by omega)
  obtain ⟨y2, e2⟩ := get 2 (by omega)
  have h0 := trod_field hf 0 _ 3 0 _ [a0] _ rfl rfl rfl c1 rfl e0
  have h1 := trod_field hf 1 _ 24 1 _ [a1, a2] _ rfl rfl rfl c2 rfl e1
  have h2 := trod_field hf 2 _ 34 3 _ [a3, a4, a5] _ rfl rfl rfl c3 rfl e2
  obtain ⟨k, f0, -, -⟩ := DataW.trod_int Tryz.underlying3 h0
  obtain ⟨x, f1, f2, w1⟩ := el_stW _ _ _ _ h1
  obtain ⟨s, f3, f4, f5, w2⟩ := el_spW _ _ _ _ _ h2
  simp only [List.cons.injEq, and_true] at f0
  exact ⟨⟨⟨k, x, s⟩, w1, w2⟩, by rw [f0, f1, f2, f3, f4, f5]; rfl⟩
/-- an argument that is a row of acts -/
theorem opened_tacts {a : Option Addr} {len cap : Nat} {d : DataW H} {p : List MemPlace} (h : DataW.Trod enc Tryz.prog W 0 (fun _ => true) held 22 (Value.slice a len cap) d p) :
    ∃ l : List TAct, l.length = len ∧ Rd W a (acCells l) ∧ ∀ x ∈ l, AcWf x := by
  obtain ⟨fuel, hf⟩ := h
  obtain ⟨a', cap', l, hcs, h1, h2, h3, -⟩ := row_of_trod 6 (by decide) (fun x : ActW => acL x.1) (fun _ => rfl) Tryz.underlying22 (by kernel_rfl) el_tact hf
  simp [Value.cells] at hcs
  obtain ⟨rfl, rfl, rfl⟩ := hcs
  refine ⟨l.map (·.1), by simp, ?_, fun x hx => ?_⟩
  · have e : acCells (l.map (·.1)) = l.flatMap fun x : ActW => acL x.1 := by
      unfold acCells
      rw [List.flatMap_map]
    rw [e]; exact h1
  · obtain ⟨y, -, rfl⟩ := List.mem_map.1 hx
    exact y.2
set_option maxRecDepth 100000 in
/-- an argument that is an act -/
theorem opened_tact {r : Reach} {b0 : Nat} {v : Value} {d : DataW H} {p : List MemPlace} (hv : Value.okWide Tryz.prog W r b0 36 v) (h : DataW.Trod enc Tryz.prog W 0 (fun _ => true) held 36 v d p) :
    ∃ x : TAct, v = .agg (acA x) ∧ AcWf x := by
  obtain ⟨cs, rfl, hsz⟩ := okWide_struct Tryz.underlying36 hv
  have h3 : cs.size = 6 := hsz.trans (by kernel_rfl)
  obtain ⟨fuel, hf⟩ := h
  obtain ⟨x, hx⟩ := el_tact fuel cs.toList (d, p) (by simpa using h3) hf
  refine ⟨x.1, ?_, x.2⟩
  have : cs = (acL x.1).toArray := by rw [← hx]
  rw [this]; rfl
end
end Go.Proofs.YtilkokhapcgolaaGreat
