/-
  FROM A LAW's WALK TO ITS STATEMENT: an argument that is a write, a row of writes, a path: with the bounds of their words.
  No conditions.
-/
import Derived.Test.YtcenmkcencdlcaaGQ
import Derived.Test.YtcenmkcencdlcaaGM
namespace Go.Proofs.Ytcenmkcencdlcaa
open Go.ChangeShapes Go.WideShapes Go.ChangeAt Go.RowKit Go.Deep Go.Joins

/-- words hold a stamp's numbers -/
def StWf (x : Qm.St) : Prop := (Lit.int .i64 x.1).wf = true ∧ (Lit.int .i64 x.2).wf = true
/-- words hold what an op names -/
def OpWf (x : Opp) : Prop := StWf (x.nt, x.nr) ∧ (Lit.int .i64 x.p).wf = true ∧ ∀ s ∈ x.path, StWf s
abbrev StW := { x : Qm.St // StWf x }
instance : Inhabited StW := ⟨⟨(0, 0), i64wf (by decide) (by decide), i64wf (by decide) (by decide)⟩⟩
def encSW (x : StW) : List Value := encS x.1
theorem encSW_cells (l : List StW) : l.flatMap encSW = stCells (l.map (·.1)) := by
  induction l with
  | nil => rfl
  | cons a l ih => rw [List.flatMap_cons, ih, List.map_cons]; simp [stCells, encSW, encS]
section
variable {H : Type} {enc : TypeId × Value → H} {W : World} {held : Bool}
theorem el_stW (n : Nat) (cs : List Value) (y : DataW H × List MemPlace) (hl : cs.length = 2) (h : DataW.trod enc Try.prog W 0 (fun _ => true) held n 32 cs = some y) : ∃ x : StW, cs = encSW x := by
  obtain ⟨a, b, rfl⟩ := list2 hl
  obtain ⟨ys, n, -, -, -, hyl, hf⟩ := DataW.trod_struct Try.underlying32 h
  have c1 : Try.prog.cellsOf 3 = 1 := by kernel_rfl
  have get : ∀ i, i < 2 → ∃ y, ys[i]? = some y := fun i hi => ⟨_, List.getElem?_eq_getElem (by simp at hyl; omega)⟩
  obtain ⟨y0, e0⟩ := get 0 (by omega)
  obtain ⟨y1, e1⟩ := get 1 (by omega)
  have h0 := trod_field hf 0 _ 3 0 _ [a] _ rfl rfl rfl c1 rfl e0
  have h1 := trod_field hf 1 _ 3 1 _ [b] _ rfl rfl rfl c1 rfl e1
  obtain ⟨k, f0, -, w0⟩ := DataW.trod_int Try.underlying3 h0
  obtain ⟨m, f1, -, w1⟩ := DataW.trod_int Try.underlying3 h1
  simp only [List.cons.injEq, and_true] at f0 f1
  exact ⟨⟨(k, m), w0, w1⟩, by rw [f0, f1]; rfl⟩
set_option maxRecDepth 100000 in
set_option maxHeartbeats 1000000 in
theorem el_opW (n : Nat) (cs : List Value) (y : DataW H × List MemPlace) (hl : cs.length = 12) (h : DataW.trod enc Try.prog W 0 (fun _ => true) held n 38 cs = some y) : ∃ x q c, cs = opL x q c ∧ Pa W x q c ∧ OpWf x := by
  obtain ⟨a0, a1, a2, a3, a4, a5, a6, a7, a8, a9, a10, a11, rfl⟩ := list12 hl
  obtain ⟨ys, n, -, -, -, hyl, hf⟩ := DataW.trod_struct Try.underlying38 h
  have c1 : Try.prog.cellsOf 3 = 1 := by kernel_rfl
  have c2 : Try.prog.cellsOf 9 = 1 := by kernel_rfl
  have c3 : Try.prog.cellsOf 32 = 2 := by kernel_rfl
  have c4 : Try.prog.cellsOf 23 = 1 := by kernel_rfl
  have c5 : Try.prog.cellsOf 34 = 3 := by kernel_rfl
  have c6 : Try.prog.cellsOf 4 = 1 := by kernel_rfl
  have get : ∀ i, i < 8 → ∃ y, ys[i]? = some y := fun i hi => ⟨_, List.getElem?_eq_getElem (by simp at hyl; omega)⟩
  obtain ⟨y0, e0⟩ := get 0 (by omega)
  obtain ⟨y1, e1⟩ := get 1 (by omega)
  obtain ⟨y2, e2⟩ := get 2 (by omega)
  obtain ⟨y3, e3⟩ := get 3 (by omega)
  obtain ⟨y4, e4⟩ := get 4 (by omega)
  obtain ⟨y5, e5⟩ := get 5 (by omega)
  obtain ⟨y6, e6⟩ := get 6 (by omega)
  obtain ⟨y7, e7⟩ := get 7 (by omega)
  have h0 := trod_field hf 0 _ 3 0 _ [a0] _ rfl rfl rfl c1 rfl e0
  have h1 := trod_field hf 1 _ 32 1 _ [a1, a2] _ rfl rfl rfl c3 rfl e1
  have h2 := trod_field hf 2 _ 32 3 _ [a3, a4] _ rfl rfl rfl c3 rfl e2
  have h3 := trod_field hf 3 _ 9 5 _ [a5] _ rfl rfl rfl c2 rfl e3
  have h4 := trod_field hf 4 _ 23 6 _ [a6] _ rfl rfl rfl c4 rfl e4
  have h5 := trod_field hf 5 _ 3 7 _ [a7] _ rfl rfl rfl c1 rfl e5
  have h6 := trod_field hf 6 _ 34 8 _ [a8, a9, a10] _ rfl rfl rfl c5 rfl e6
  have h7 := trod_field hf 7 _ 4 11 _ [a11] _ rfl rfl rfl c6 rfl e7
  obtain ⟨k, f0, -, -⟩ := DataW.trod_int Try.underlying3 h0
  obtain ⟨⟨⟨nt, nr⟩, wn⟩, f1⟩ := el_stW _ _ _ rfl h1
  obtain ⟨⟨⟨rt, rr⟩, wr⟩, f2⟩ := el_stW _ _ _ rfl h2
  obtain ⟨key, f3, -, -⟩ := DataW.trod_string Try.underlying9 h3
  obtain ⟨q, c, l, f4, g1, g2, g3, -⟩ := row_of_trod 2 (by decide) encSW (fun _ => rfl) Try.underlying23 (by kernel_rfl) el_stW h4
  obtain ⟨p, f5, -, wp⟩ := DataW.trod_int Try.underlying3 h5
  obtain ⟨vk, vn, vt, f6, f7, f8⟩ := el_val _ _ _ _ _ h6
  obtain ⟨on, f9, -⟩ := DataW.trod_bool Try.underlying4 h7
  simp only [encSW, encS, List.cons.injEq, and_true] at f0 f1 f2 f3 f4 f5 f9
  obtain ⟨rfl, rfl⟩ := f1
  obtain ⟨rfl, rfl⟩ := f2
  subst f0 f3 f4 f5 f6 f7 f8 f9
  rw [encSW_cells] at g1
  refine ⟨⟨k, nt, nr, rt, rr, key, l.map (·.1), p, vk, vn, vt, on⟩, q, c, by simp [opL], ⟨g1, g3, by simpa using g2⟩, wn, wp, fun s hs => ?_⟩
  obtain ⟨y, -, rfl⟩ := List.mem_map.1 hs
  exact y.2
/-- a write that lies in W -/
def WrW (W : World) : Type := { e : WrE // Pa W e.w.x e.q e.c ∧ OpWf e.w.x }
instance : Inhabited (WrW W) := ⟨⟨⟨Pm.Wr.zero, none, 0⟩, Pa.none _ _ rfl, ⟨i64wf (by decide) (by decide), i64wf (by decide) (by decide)⟩, i64wf (by decide) (by decide), fun _ h => (by cases h)⟩⟩
def encW (e : WrW W) : List Value := ceW e.1
theorem list14 {cs : List Value} (h : cs.length = 14) : ∃ a b ds, cs = a :: b :: ds ∧ ds.length = 12 := by
  match cs, h with
  | a :: b :: ds, h => exact ⟨a, b, ds, rfl, by simpa using h⟩
set_option maxRecDepth 100000 in
theorem el_wr (n : Nat) (cs : List Value) (y : DataW H × List MemPlace) (hl : cs.length = 14) (h : DataW.trod enc Try.prog W 0 (fun _ => true) held n 40 cs = some y) : ∃ e : WrW W, cs = encW e := by
  obtain ⟨a, b, ds, rfl, hd⟩ := list14 hl
  obtain ⟨ys, n, -, -, -, hyl, hf⟩ := DataW.trod_struct Try.underlying40 h
  have c1 : Try.prog.cellsOf 32 = 2 := by kernel_rfl
  have c2 : Try.prog.cellsOf 38 = 12 := by kernel_rfl
  have get : ∀ i, i < 2 → ∃ y, ys[i]? = some y := fun i hi => ⟨_, List.getElem?_eq_getElem (by simp at hyl; omega)⟩
  obtain ⟨y0, e0⟩ := get 0 (by omega)
  obtain ⟨y1, e1⟩ := get 1 (by omega)
  have h0 := trod_field hf 0 _ 32 0 _ [a, b] _ rfl rfl rfl c1 rfl e0
  have h1 := trod_field hf 1 _ 38 2 _ ds _ rfl rfl rfl c2 (List.take_of_length_le (by show ds.length ≤ 12; omega)) e1
  obtain ⟨s, f0⟩ := el_stW _ _ _ rfl h0
  obtain ⟨x, q, c, f1, hp, hw⟩ := el_opW _ _ _ hd h1
  refine ⟨⟨⟨⟨s.1, x⟩, q, c⟩, hp, hw⟩, ?_⟩
  show a :: b :: ds = [.int .i64 s.1.1, .int .i64 s.1.2] ++ opL x q c
  have e : a :: b :: ds = [a, b] ++ ds := rfl
  rw [e, f0, f1]
  rfl
theorem encW_cells (l : List (WrW W)) : l.flatMap encW = (l.map (·.1)).flatMap ceW := by rw [List.flatMap_map]; rfl
/-- an argument that is a row of writes -/
theorem opened_writes {a : Option Addr} {len cap : Nat} {d : DataW H} {p : List MemPlace} (h : DataW.Trod enc Try.prog W 0 (fun _ => true) held 22 (Value.slice a len cap) d p) :
    ∃ l : List WrE, l.length = len ∧ Ws W a l ∧ (a = none → cap = 0) ∧ ∀ e ∈ l, OpWf e.w.x := by
  obtain ⟨fuel, hf⟩ := h
  obtain ⟨a', cap', l, hcs, h1, h2, h3, -⟩ := row_of_trod 14 (by decide) (encW (W := W)) (fun e => wrK.len e.1) Try.underlying22 (by kernel_rfl) el_wr hf
  simp [Value.cells] at hcs
  obtain ⟨rfl, rfl, rfl⟩ := hcs
  rw [encW_cells] at h1
  refine ⟨l.map (·.1), by simp, ⟨h1, fun e he => ?_⟩, h3, fun e he => ?_⟩
  · obtain ⟨y, -, rfl⟩ := List.mem_map.1 he
    exact y.2.1
  · obtain ⟨y, -, rfl⟩ := List.mem_map.1 he
    exact y.2.2
/-- an argument that is a path -/
theorem opened_path {a : Option Addr} {len cap : Nat} {d : DataW H} {p : List MemPlace} (h : DataW.Trod enc Try.prog W 0 (fun _ => true) held 23 (Value.slice a len cap) d p) :
    ∃ l : List Qm.St, l.length = len ∧ Rd W a (stCells l) ∧ (a = none → cap = 0) ∧ ∀ s ∈ l, StWf s := by
  obtain ⟨fuel, hf⟩ := h
  obtain ⟨a', cap', l, hcs, h1, h2, h3, -⟩ := row_of_trod 2 (by decide) encSW (fun _ => rfl) Try.underlying23 (by kernel_rfl) el_stW hf
  simp [Value.cells] at hcs
  obtain ⟨rfl, rfl, rfl⟩ := hcs
  rw [encSW_cells] at h1
  refine ⟨l.map (·.1), by simp, h1, h3, fun s hs => ?_⟩
  obtain ⟨y, -, rfl⟩ := List.mem_map.1 hs
  exact y.2
set_option maxRecDepth 100000 in
/-- an argument that is a write -/
theorem opened_write {r : Reach} {b0 : Nat} {v : Value} {d : DataW H} {p : List MemPlace} (hv : Value.okWide Try.prog W r b0 40 v) (h : DataW.Trod enc Try.prog W 0 (fun _ => true) held 40 v d p) :
    ∃ e : WrE, v = .agg (wrA e) ∧ Pa W e.w.x e.q e.c := by
  obtain ⟨cs, rfl, hsz⟩ := okWide_struct Try.underlying40 hv
  have h3 : cs.size = 14 := hsz.trans (by kernel_rfl)
  obtain ⟨fuel, hf⟩ := h
  obtain ⟨e, he⟩ := el_wr fuel cs.toList (d, p) (by simpa using h3) hf
  refine ⟨e.1, ?_, e.2.1⟩
  have : cs = (ceW e.1).toArray := by
    apply Array.toList_inj.1
    rw [he]
    rfl
  rw [this]
end
end Go.Proofs.Ytcenmkcencdlcaa
