/-
  WHAT QueueOrder KEEPS: a queue, a map that tells how often each item is left, the box of the last one.
  No conditions but sizes.
-/
import Derived.Test.YtmenlfgfhnnmgaaQMap
import Derived.Test.YtmenlfgfhnnmgaaQPair
import Derived.Test.YtmenlfgfhnnmgaaQItems
import Derived.Test.YtmenlfgfhnnmgaaLiftKit5
namespace Go.Proofs.Ytmenlfgfhnnmgaa
open Go.RowKit

structure Ord (w : World) (q b : Nat) (F : Nat → Prop) (l : List Qm.It) (f : Qm.It → Int) (n : Nat) (W : World) : Prop where
  below : Below w.heap.size w W
  qo : QO W q F l
  flt : ∀ k, F k → w.heap.size ≤ k ∧ k < W.heap.size
  cnt : Cnt W b n f
  fb : ¬ F b
  hb : w.heap.size ≤ b
theorem Ord.turns {w W W' : World} {q b n : Nat} {F G : Nat → Prop} {l : List Qm.It} {f : Qm.It → Int} (h : Ord w q b F l f n W) (ht : Turns G W W') (hG : ∀ k, G k → w.heap.size ≤ k ∧ ¬ F k ∧ k ≠ b) : Ord w q b F l f n W' :=
  ⟨h.below.trans (ht.below (fun k _ hk => (hG k hk).1) h.below.size), h.qo.turns ht fun k hk hg => (hG k hg).2.1 hk, fun k hk => ⟨(h.flt k hk).1, Nat.lt_of_lt_of_le (h.flt k hk).2 ht.size⟩, h.cnt.turns ht fun hg => (hG b hg).2.2 rfl, h.fb, h.hb⟩
theorem Ord.more {w W W' : World} {q b n : Nat} {F : Nat → Prop} {l : List Qm.It} {f : Qm.It → Int} (h : Ord w q b F l f n W) (hb : Below W.heap.size W W') : Ord w q b F l f n W' :=
  h.turns (G := fun _ => False) (Turns.of_below hb) fun _ hk => hk.elim
theorem Ord.perm {w W : World} {q b n : Nat} {F : Nat → Prop} {l m : List Qm.It} {f : Qm.It → Int} (h : Ord w q b F l f n W) (hp : l.Perm m) : Ord w q b F m f n W :=
  ⟨h.below, h.qo.perm hp, h.flt, h.cnt, h.fb, h.hb⟩
theorem Ord.congr {w W : World} {q b n : Nat} {F : Nat → Prop} {l : List Qm.It} {f g : Qm.It → Int} (h : Ord w q b F l f n W) (hfg : ∀ x, f x = g x) : Ord w q b F l g n W :=
  ⟨h.below, h.qo, h.flt, h.cnt.congr hfg, h.fb, h.hb⟩
/-- the queue has been called -/
theorem Ord.called {w W W' : World} {q b n : Nat} {F : Nat → Prop} {l m : List Qm.It} {f : Qm.It → Int} (h : Ord w q b F l f n W) (hq : QO W' q (ext F W W') m) (ht : Turns F W W') : Ord w q b (ext F W W') m f n W' := by
  have hz := ht.size
  have hbs := h.below.size
  have hbl := h.cnt.lt
  refine ⟨h.below.trans (ht.below (fun k _ hk => (h.flt k hk).1) hbs), hq, fun k hk => ?_, h.cnt.turns ht h.fb, fun hk => ?_, h.hb⟩
  · rcases hk with hk | hk
    · have := h.flt k hk; omega
    · omega
  · rcases hk with hk | hk
    · exact h.fb hk
    · omega
/-- the map is written -/
theorem Ord.map {w W : World} {q b n : Nat} {F : Nat → Prop} {l : List Qm.It} {f : Qm.It → Int} (h : Ord w q b F l f n W) (x : Qm.It) (hx : ItWf x) :
    ∃ (D : DataW Unit) (kl : Lit), W.ownsMap Try.prog 40 (plainElem Try.prog 3) b n D ∧ keyOf Try.prog 40 (itA x) = some kl ∧
      ∀ v w1, w1.ownsMap Try.prog 40 (plainElem Try.prog 3) b (n + 1) (D.put kl (.lit (.int .i64 v))) → W.grownBy w1 (some b) → Ord w q b F l (fun y => if y = x then v else f y) (n + 1) w1 := by
  obtain ⟨D, h1, h2, h3⟩ := h.cnt
  obtain ⟨kl, hk⟩ := key_it x hx
  refine ⟨D, kl, h1, hk, fun v w1 ho hg => ?_⟩
  have ht : Turns (fun k => k = b) W w1 := (Turns.of_grown hg).mono fun k _ e => by cases e; rfl
  exact ⟨h.below.trans (ht.below (fun k _ hk => hk ▸ h.hb) h.below.size), h.qo.turns ht fun k hk e => h.fb (e ▸ hk), fun k hk => ⟨(h.flt k hk).1, Nat.lt_of_lt_of_le (h.flt k hk).2 ht.size⟩, Cnt.upd h2 h3 hk ho, h.fb, h.hb⟩

/-- a box that holds an item -/
structure Lst (c : Nat) (x : Qm.It) (W : World) : Prop where
  c0 : W.cell? ⟨c, 0, none⟩ = some (.int .i64 x.1.1)
  c1 : W.cell? ⟨c, 1, none⟩ = some (.int .i64 x.1.2)
  c2 : W.cell? ⟨c, 2, none⟩ = some (.int .i64 x.2)
  fr : ∀ o, W.frozen? ⟨c, o, none⟩ = false
theorem Lst.turns {c : Nat} {x : Qm.It} {W W' : World} {G : Nat → Prop} (h : Lst c x W) (ht : Turns G W W') (hG : ¬ G c) : Lst c x W' :=
  ⟨ht.cell h.c0 hG, ht.cell h.c1 hG, ht.cell h.c2 hG, fun o => by rw [ht.frozen (show c < _ from cell_lt h.c0) hG]; exact h.fr o⟩
theorem Lst.more {c : Nat} {x : Qm.It} {W W' : World} (h : Lst c x W) (hb : Below W.heap.size W W') : Lst c x W' := h.turns (G := fun _ => False) (Turns.of_below hb) fun h => h
theorem Lst.set {c : Nat} {x : Qm.It} {W : World} (h : Lst c x W) (y : Qm.It) : Lst c y (put3 W c (.int .i64 y.1.1) (.int .i64 y.1.2) (.int .i64 y.2)) := by
  obtain ⟨-, -, -, r3, r4, r5⟩ := res3 h.c0 h.c1 h.c2 (.int .i64 y.1.1) (.int .i64 y.1.2) (.int .i64 y.2)
  exact ⟨r3, r4, r5, fun o => by rw [put3_frozen]; exact h.fr o⟩
theorem Lst.new (W : World) (x : Qm.It) (E : TypeId) (n : Nat) (hn : W.heap.size = n) : Lst n x (W.alloc (.cells #[.int .i64 x.1.1, .int .i64 x.1.2, .int .i64 x.2] E)) := by
  obtain ⟨h1, h2⟩ := at3 W #[Value.int .i64 x.1.1, .int .i64 x.1.2, .int .i64 x.2] E n hn
  exact ⟨by rw [h1]; rfl, by rw [h1]; rfl, by rw [h1]; rfl, h2⟩

/-- the box of an answer: made, then written -/
theorem put_new_below (W : World) (E : TypeId) (u v z : Value) : Below W.heap.size W (put3 (W.alloc (.cells #[.int .i64 0, .int .i64 0, .int .i64 0] E)) W.heap.size u v z) :=
  put3_below ((Below.refl _ _).alloc (Nat.le_refl _) _) (Nat.le_refl _) u v z

theorem count_take {l : List Qm.It} {k : Nat} (h : k < l.length) (y : Qm.It) : ((l.take (k + 1)).count y : Int) = if y = Qm.itAt l k then (((l.take k).count (Qm.itAt l k) : Nat) : Int) + 1 else ((l.take k).count y : Int) := by
  rw [take_item h, List.count_append]
  by_cases e : y = Qm.itAt l k
  · subst e; simp
  · rw [if_neg e, List.count_singleton]
    have : (Qm.itAt l k == y) = false := by rw [beq_eq_false_iff_ne]; exact fun h => e h.symm
    simp [this]
theorem count_pop {l m : List Qm.It} {x : Qm.It} (h : (x :: m).Perm l) (y : Qm.It) : (m.count y : Int) = if y = x then ((l.count x : Nat) : Int) - 1 else (l.count y : Int) := by
  rw [← h.count_eq x, ← h.count_eq y, List.count_cons, List.count_cons]
  by_cases e : y = x
  · subst e; simp
  · have : (x == y) = false := by rw [beq_eq_false_iff_ne]; exact fun h => e h.symm
    simp [e, this]

section
open Go.ChangeShapes Go.WideShapes Go.ChangeAt Go.Deep Go.Joins
variable {H : Type} {enc : TypeId × Value → H} {W : World} {held : Bool}
/-- items whose numbers a word holds -/
abbrev ItW := { x : Qm.It // ItWf x }
instance : Inhabited ItW := ⟨⟨((0, 0), 0), i64_of (by decide) (by decide), i64_of (by decide) (by decide), i64_of (by decide) (by decide)⟩⟩
theorem ints_twoW {P : Program} {t i : TypeId} {f0 f1 : Field} (hs : P.underlying t = some (.struct #[f0, f1])) (hi : P.underlying i = some (.int .i64)) (ht0 : f0.type = i) (ht1 : f1.type = i) (ho0 : f0.offset = 0) (ho1 : f1.offset = 1) (hc : P.cellsOf i = 1)
    (n : Nat) (cs : List Value) (y : DataW H × List MemPlace) (h : DataW.trod enc P W 0 (fun _ => true) held n t cs = some y) : ∃ x : Qm.St, cs[0]? = some (.int .i64 x.1) ∧ cs[1]? = some (.int .i64 x.2) ∧ I64 x.1 ∧ I64 x.2 := by
  obtain ⟨ys, n, -, -, -, hyl, hf⟩ := DataW.trod_struct hs h
  have h0 := hf 0 f0 rfl
  have h1 := hf 1 f1 rfl
  rw [ho0, ht0, hc] at h0
  rw [ho1, ht1, hc] at h1
  cases hy0 : ys[0]? with
  | none => have := List.getElem?_eq_none_iff.1 hy0; simp at hyl; omega
  | some y0 =>
  cases hy1 : ys[1]? with
  | none => have := List.getElem?_eq_none_iff.1 hy1; simp at hyl; omega
  | some y1 =>
  rw [hy0] at h0
  rw [hy1] at h1
  obtain ⟨x, e0, -, wx⟩ := DataW.trod_int hi h0
  obtain ⟨z, e1, -, wz⟩ := DataW.trod_int hi h1
  refine ⟨(x, z), ?_, ?_, wx, wz⟩
  · have := congrArg (·[0]?) e0
    simpa [List.getElem?_take, List.getElem?_drop] using this
  · have := congrArg (·[0]?) e1
    simpa [List.getElem?_take, List.getElem?_drop] using this
theorem ints_itemW {P : Program} {t S i : TypeId} {f0 f1 g0 g1 : Field} (hs : P.underlying t = some (.struct #[f0, f1])) (hS : P.underlying S = some (.struct #[g0, g1])) (hi : P.underlying i = some (.int .i64)) (ht0 : f0.type = S) (ht1 : f1.type = i) (ho0 : f0.offset = 0) (ho1 : f1.offset = 2)
    (gt0 : g0.type = i) (gt1 : g1.type = i) (go0 : g0.offset = 0) (go1 : g1.offset = 1) (hc : P.cellsOf i = 1) (hcS : P.cellsOf S = 2)
    (n : Nat) (cs : List Value) (y : DataW H × List MemPlace) (h : DataW.trod enc P W 0 (fun _ => true) held n t cs = some y) : ∃ x : Qm.It, cs[0]? = some (.int .i64 x.1.1) ∧ cs[1]? = some (.int .i64 x.1.2) ∧ cs[2]? = some (.int .i64 x.2) ∧ ItWf x := by
  obtain ⟨ys, n, -, -, -, hyl, hf⟩ := DataW.trod_struct hs h
  have h0 := hf 0 f0 rfl
  have h1 := hf 1 f1 rfl
  rw [ho0, ht0, hcS] at h0
  rw [ho1, ht1, hc] at h1
  cases hy0 : ys[0]? with
  | none => have := List.getElem?_eq_none_iff.1 hy0; simp at hyl; omega
  | some y0 =>
  cases hy1 : ys[1]? with
  | none => have := List.getElem?_eq_none_iff.1 hy1; simp at hyl; omega
  | some y1 =>
  rw [hy0] at h0
  rw [hy1] at h1
  obtain ⟨x, e0, e1, w0, w1⟩ := ints_twoW hS hi gt0 gt1 go0 go1 hc _ _ _ h0
  obtain ⟨z, e2, -, w2⟩ := DataW.trod_int hi h1
  refine ⟨(x, z), ?_, ?_, ?_, w0, w1, w2⟩
  · simpa [List.getElem?_take, List.getElem?_drop] using e0
  · simpa [List.getElem?_take, List.getElem?_drop] using e1
  · have := congrArg (·[0]?) e2
    simpa [List.getElem?_take, List.getElem?_drop] using this
theorem el_itW (n : Nat) (cs : List Value) (y : DataW H × List MemPlace) (hl : cs.length = 3) (h : DataW.trod enc Try.prog W 0 (fun _ => true) held n 36 cs = some y) : ∃ x : ItW, cs = encI x.1 := by
  obtain ⟨x, h0, h1, h2, hw⟩ := ints_itemW Try.underlying36 Try.underlying34 Try.underlying3 rfl rfl rfl rfl rfl rfl rfl rfl (by kernel_rfl) (by kernel_rfl) n cs y h
  obtain ⟨a, b, c, rfl⟩ := list3 hl
  simp at h0 h1 h2
  exact ⟨⟨x, hw⟩, by rw [h0, h1, h2]; rfl⟩
/-- an argument that is a row of items, whose numbers a word holds -/
theorem opened_witems {a : Option Addr} {len cap : Nat} {d : DataW H} {p : List MemPlace} (h : DataW.Trod enc Try.prog W 0 (fun _ => true) held 22 (Value.slice a len cap) d p) :
    ∃ l : List Qm.It, l.length = len ∧ (Rd W a (itCells l) ∧ ∀ x ∈ l, ItWf x) ∧ len ≤ cap ∧ (a = none → cap = 0) := by
  obtain ⟨fuel, hf⟩ := h
  obtain ⟨a', cap', l, hcs, h1, h2, h3, -⟩ := row_of_trod 3 (by decide) (fun x : ItW => encI x.1) (fun _ => rfl) Try.underlying22 (by kernel_rfl) el_itW hf
  simp [Value.cells] at hcs
  obtain ⟨rfl, rfl, rfl⟩ := hcs
  refine ⟨l.map (·.1), by simp, ⟨?_, fun x hx => ?_⟩, h2, h3⟩
  · have e : itCells (l.map (·.1)) = l.flatMap fun x : ItW => encI x.1 := by
      unfold itCells
      rw [List.flatMap_map]
      rfl
    rw [e]; exact h1
  · obtain ⟨y, -, rfl⟩ := List.mem_map.1 hx
    exact y.2
end

end Go.Proofs.Ytmenlfgfhnnmgaa
