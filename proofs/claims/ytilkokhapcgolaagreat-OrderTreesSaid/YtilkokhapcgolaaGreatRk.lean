/-
  ROWS OF STRUCTS, of whatever type: their cells, parts, loads, and appends inside a region that draws its order.
  No conditions but sizes.
-/
import Derived.Test.YtilkokhapcgolaaGreatSbMem
import Derived.Deep.MidRow
namespace Go.Proofs.YtilkokhapcgolaaGreat
open Go.RowKit

/-- what the type tables say of a row: its elements are structs of k cells, by_ bytes -/
structure RK {α : Type} (E SE : TypeId) (k by_ : Nat) (ce : α → List Value) : Prop where
  und : Tryz.prog.underlying SE = some (.slice E)
  elem : Tryz.prog.elem SE = E
  size : ∀ W, (sizeOf E).run Tryz.prog W = .ok k W
  info : ∃ i z, Tryz.prog.info? E = some i ∧ i.zero = some z ∧ i.size = k ∧ i.bytes = by_ ∧ z.cells.size = k
  row : ∃ d, Tryz.prog.underlying E = some (.struct d)
  len : ∀ x, (ce x).length = k
  one : ∀ x, ∀ u ∈ ce x, u.oneCell' = true
  pos : 0 < k
  small : by_ ≤ 1000

section
variable {α : Type} {E SE : TypeId} {k by_ : Nat} {ce : α → List Value}
theorem RK.length (V : RK E SE k by_ ce) (l : List α) : (l.flatMap ce).length = l.length * k := by
  induction l with
  | nil => simp
  | cons a l ih => rw [List.flatMap_cons, List.length_append, ih, V.len, List.length_cons, Nat.add_mul]; omega
theorem RK.ones (V : RK E SE k by_ ce) (l : List α) : ∀ u ∈ l.flatMap ce, u.oneCell' = true := fun u hu => by
  obtain ⟨x, _, hx⟩ := List.mem_flatMap.1 hu
  exact V.one x u hx
theorem RK.get (V : RK E SE k by_ ce) : ∀ (l : List α) (i j : Nat) (x : α), l[i]? = some x → j < k → (l.flatMap ce)[i * k + j]? = (ce x)[j]?
  | [], i, j, x, h, _ => by simp at h
  | a :: l, 0, j, x, h, hj => by
    simp at h
    subst h
    rw [List.flatMap_cons, Nat.zero_mul, Nat.zero_add, List.getElem?_append_left (by rw [V.len]; exact hj)]
  | a :: l, i + 1, j, x, h, hj => by
    have h' : l[i]? = some x := by simpa using h
    rw [List.flatMap_cons, List.getElem?_append_right (by rw [V.len, Nat.add_mul]; omega), V.len, show (i + 1) * k + j - k = i * k + j from by rw [Nat.add_mul]; omega]
    exact V.get l i j x h' hj
theorem RK.drop (V : RK E SE k by_ ce) : ∀ (l : List α) (i : Nat), (l.flatMap ce).drop (i * k) = (l.drop i).flatMap ce
  | [], i => by simp
  | a :: l, 0 => by simp
  | a :: l, i + 1 => by
    rw [List.flatMap_cons, List.drop_succ_cons, ← V.drop l i, Nat.add_mul, Nat.one_mul, Nat.add_comm (i * k) k, ← List.drop_drop, List.drop_left' (V.len a)]
theorem RK.range (V : RK E SE k by_ ce) {w : World} {b s i : Nat} {l : List α} {x : α} (h : Rd w (some ⟨b, s, none⟩) (l.flatMap ce)) (hi : l[i]? = some x) : w.rangeAt b (s + i * k) (ce x) := by
  intro j v hv
  have hj : j < k := by have := (List.getElem?_eq_some_iff.1 hv).1; rw [V.len] at this; exact this
  have := V.get l i j x hi hj
  rw [hv] at this
  rw [Nat.add_assoc]
  exact h.cell this
theorem RK.isz (V : RK E SE k by_ ce) (x : α) : (Tryz.prog.info? E).map (·.size) = some (ce x).length := by
  obtain ⟨i, z, h1, -, h2, -⟩ := V.info
  rw [h1, V.len]
  exact congrArg some h2
/-- an element, loaded whole -/
theorem RK.load (V : RK E SE k by_ ce) {c : Act} {o : Oper} {x : Operand} {w : World} (ho : o.op = .load E x) {b s i : Nat} (hx : c.eval x = .pointer (some ⟨b, s + i * k, none⟩)) {l : List α} {y : α} (hrd : Rd w (some ⟨b, s, none⟩) (l.flatMap ce)) (hi : l[i]? = some y) :
    (execOp c.eval o).run Tryz.prog w = .ok (.value (.agg (ce y).toArray)) w := by
  obtain ⟨d, hu⟩ := V.row
  unfold execOp
  simp only [ho, hx, Sem.run_bind, run_loadAt_mid w b (s + i * k) _ (ce y) _ (V.range hrd hi) hu rfl (V.isz y), Result.andThen_ok, Sem.run_pure]
/-- a part of an element that is a struct of its own, loaded whole -/
theorem RK.loadPart (V : RK E SE k by_ ce) {t : TypeId} {d : Array Field} (hu : Tryz.prog.underlying t = some (.struct d)) {c : Act} {o : Oper} {x : Operand} {w : World} (ho : o.op = .load t x) {b s i off : Nat} (hx : c.eval x = .pointer (some ⟨b, s + i * k + off, none⟩)) {l : List α} {y : α} (cs : List Value) (hrd : Rd w (some ⟨b, s, none⟩) (l.flatMap ce)) (hi : l[i]? = some y) (hc : ∀ j v, cs[j]? = some v → (ce y)[off + j]? = some v) (hn : (Tryz.prog.info? t).map (·.size) = some cs.length) :
    (execOp c.eval o).run Tryz.prog w = .ok (.value (.agg cs.toArray)) w := by
  have h1 : w.rangeAt b (s + i * k + off) cs := fun j v hv => by
    rw [Nat.add_assoc (s + i * k)]
    exact V.range hrd hi (off + j) v (hc j v hv)
  unfold execOp
  simp only [ho, hx, Sem.run_bind, run_loadAt_mid w b (s + i * k + off) t cs _ h1 hu rfl hn, Result.andThen_ok, Sem.run_pure]

/-! ### parts of a row -/
def drA (k : Nat) (p : Option Addr) (c i : Nat) : Option Addr := if c = i then p else p.map (·.add (i * k))
theorem RK.take (V : RK E SE k by_ ce) {a : Act} {w : World} {o : Oper} {x y : Operand} (ho : o.op = .slice SE x none (some y) none) {p : Option Addr} {n c i : Nat} (hx : a.eval x = .slice p n c) (hy : a.eval y = .int .i64 (i : Int)) (hi : i ≤ c) :
    (execOp a.eval o).run Tryz.prog w = .ok (.value (.slice p i c)) w := by
  have hu : Tryz.prog.underlying SE = some (.slice (Tryz.prog.elem SE)) := by rw [V.elem]; exact V.und
  have hr : (Instr.sliceAt SE (.slice p n c) none (some (.int .i64 (i : Int))) none).run Tryz.prog w = .ok (.slice p i c) w := by
    rw [run_sliceAt_slice (h := hu), run_slice_h (ht := hu) (h0 := by omega) (h2 := by omega), V.elem, V.size]
    cases p <;> simp [Result.andThen_ok, sliced, Addr.add]
  unfold execOp
  simp only [ho, hx, hy, Option.map_some, Option.map_none, Sem.run_bind, hr, Result.andThen_ok, Sem.run_pure]
theorem RK.dropE (V : RK E SE k by_ ce) {a : Act} {w : World} {o : Oper} {x y : Operand} (ho : o.op = .slice SE x (some y) none none) {p : Option Addr} {n c i : Nat} (hx : a.eval x = .slice p n c) (hy : a.eval y = .int .i64 (i : Int)) (hi : i ≤ n) :
    (execOp a.eval o).run Tryz.prog w = .ok (.value (.slice (drA k p c i) (n - i) (c - i))) w := by
  have hu : Tryz.prog.underlying SE = some (.slice (Tryz.prog.elem SE)) := by rw [V.elem]; exact V.und
  have hr : (Instr.sliceAt SE (.slice p n c) (some (.int .i64 (i : Int))) none none).run Tryz.prog w = .ok (.slice (drA k p c i) (n - i) (c - i)) w := by
    rw [run_sliceAt_slice (h := hu), run_slice_l (ht := hu) (h0 := by omega) (h1 := by omega), V.elem, V.size]
    simp only [Result.andThen_ok, sliced, drA, Int.toNat_natCast]
  unfold execOp
  simp only [ho, hx, hy, Option.map_some, Option.map_none, Sem.run_bind, hr, Result.andThen_ok, Sem.run_pure]
theorem RK.rdTake (V : RK E SE k by_ ce) {w : World} {p : Option Addr} {l : List α} (h : Rd w p (l.flatMap ce)) (i : Nat) : Rd w p ((l.take i).flatMap ce) := by
  intro h0
  have hl : 0 < (l.flatMap ce).length := by
    rw [V.length, List.length_take] at h0
    rw [V.length]
    exact Nat.lt_of_lt_of_le h0 (Nat.mul_le_mul_right _ (Nat.min_le_right _ _))
  obtain ⟨b', o, e, hc⟩ := h hl
  refine ⟨b', o, e, fun j u hu => hc j u ?_⟩
  have hj := (List.getElem?_eq_some_iff.1 hu).1
  have e2 : l.flatMap ce = (l.take i).flatMap ce ++ (l.drop i).flatMap ce := by rw [← List.flatMap_append, List.take_append_drop]
  rw [e2, List.getElem?_append_left hj]
  exact hu
theorem RK.rdDrop (V : RK E SE k by_ ce) {w : World} {p : Option Addr} {c : Nat} {l : List α} (h : Rd w p (l.flatMap ce)) (i : Nat) (hc : l.length ≤ c) : Rd w (drA k p c i) ((l.drop i).flatMap ce) := by
  intro h0
  have hk := V.pos
  have hil : i < l.length := by
    rw [V.length, List.length_drop] at h0
    have : 0 < l.length - i := Nat.pos_of_mul_pos_right h0
    omega
  have hl : 0 < (l.flatMap ce).length := by rw [V.length]; exact Nat.mul_pos (by omega) hk
  obtain ⟨b', o, e, hcc⟩ := h hl
  subst e
  refine ⟨b', o + i * k, by unfold drA; rw [if_neg (by omega)]; simp [Addr.add], fun j u hu => ?_⟩
  have h1 := hcc (i * k + j) u (by rw [← V.drop, List.getElem?_drop] at hu; exact hu)
  rw [← Nat.add_assoc] at h1
  exact h1
theorem drA_none {p : Option Addr} {c i : Nat} (h : p = none → c = 0) (hd : drA k p c i = none) : c - i = 0 := by
  unfold drA at hd
  split at hd
  · omega
  · have : p = none := by cases p with
      | none => rfl
      | some a => cases hd
    have := h this
    omega
theorem drA_block {p : Option Addr} {c i : Nat} {a : Addr} (hd : drA k p c i = some a) : ∃ b, p = some b ∧ b.block = a.block := by
  unfold drA at hd
  split at hd
  · exact ⟨a, hd, rfl⟩
  · cases p with
    | none => cases hd
    | some b =>
      simp only [Option.map_some, Option.some.injEq] at hd
      exact ⟨b, rfl, by rw [← hd]; unfold Addr.add; split <;> rfl⟩

/-! ### appends -/
theorem RK.empty (_ : RK E SE k by_ ce) {w1 w : World} {B : Nat} (_ : Below B w1 w) (h : B ≤ w.heap.size) : (w.alloc (.cells #[] E)).ownsRow B E k (.slice (some ⟨w.heap.size, 0, none⟩) ([] : List α).length 0) ([] : List α).length (([] : List α).flatMap ce) :=
  World.ownsRow_lit (base := B) (e := E) (size := k) w #[] 0 h (by simp [maxLen]) (by simp)
theorem rd_new1 {w1 w : World} {B : Nat} (_ : Below B w1 w) (ce : α → List Value) (x : α) (E : TypeId) : Rd (w.alloc (.cells (ce x).toArray E)) (some ⟨w.heap.size, 0, none⟩) ([x].flatMap ce) := fun _ => ⟨_, 0, rfl, fun i u hu => by
  rw [Nat.zero_add, World.cell?_alloc_at _ _ _ _ rfl, ← hu]
  simp⟩
theorem own_rdK {w : World} {B : Nat} {p : Option Addr} {c : Nat} {l : List α} (h : w.ownsRow B E k (.slice p l.length c) l.length (l.flatMap ce)) : Rd w p (l.flatMap ce) ∧ (p = none → c = 0) ∧ l.length ≤ c ∧ (∀ a, p = some a → B ≤ a.block) := by
  obtain ⟨p2, c2, hv, hrd, hlc, -, hn, hb⟩ := own_rd h
  cases hv
  exact ⟨hrd, hn, hlc, fun a ha => (hb a ha).1⟩
theorem RK.append (V : RK E SE k by_ ce) {w : World} {ops : Array Oper} {o : Oper} {a : Act} {K : Act → World → Prop} {Q : Exit → Act → World → Prop} {X : Prop} (hgd : o.guard = none) (s x : Operand)
    (ho : o.op = .call { callee := .builtin .append, args := #[s, x], argTypes := #[SE, SE] })
    (base : Nat) (xs ys zs : List α) (hz : xs ++ ys = zs) {p : Option Addr} {c : Nat} (hs : a.eval s = .slice p xs.length c) (hown : w.ownsRow base E k (.slice p xs.length c) xs.length (xs.flatMap ce))
    (q : Option Addr) (d : Nat) (hx : a.eval x = .slice q ys.length d) (hrd : Rd w q (ys.flatMap ce)) (hpn : q = none → d = 0) (hsz : xs.length + ys.length ≤ 10000) (hbase : base ≤ w.heap.size)
    (h : ∀ p' c' w', w'.ownsRow base E k (.slice p' zs.length c') zs.length (zs.flatMap ce) → w.grownBy w' (Value.slice p xs.length c).ownBlock → K (a.put o.dst (.slice p' zs.length c')) w') :
    if Region.wanted o (yielded ops a.tmps) = true then Oper.wp Tryz.prog o a w K Q else X := by
  obtain ⟨i0, z, hi, hz0, hz1, hz2, hz3⟩ := V.info
  refine step_append_sb hgd s x SE ho base E i0 z k by_ V.und hi hz0 hz1 V.pos hz2 V.small hz3 _ xs.length (xs.flatMap ce) hs hown q ys.length d (ys.flatMap ce) hx (V.length ys) hrd hpn (V.ones ys) hsz hbase ?_
  intro p' c' w' h1 h2 _
  have e : xs.length + ys.length = zs.length := by rw [← hz, List.length_append]
  rw [← List.flatMap_append, hz, e] at h1
  have := h p' c' w' h1 h2
  rwa [e]
/-- behind an append: what lies elsewhere stays -/
theorem rd_grown {w w' : World} {v : Value} (hg : w.grownBy w' v.ownBlock) {q : Option Addr} {us : List Value} (h : Rd w q us) (hne : ∀ a, q = some a → v.ownBlock ≠ some a.block) : Rd w' q us :=
  (Turns.of_grown hg).rd h hne
end
end Go.Proofs.YtilkokhapcgolaaGreat
