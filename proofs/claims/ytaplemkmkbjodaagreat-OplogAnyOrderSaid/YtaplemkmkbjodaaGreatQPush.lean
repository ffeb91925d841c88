/-
  items.Push and items.Pop, heap.Init, heap.Push, heap.Pop.
  No conditions but sizes.
-/
import Derived.Test.YtaplemkmkbjodaaGreatQDown
import Derived.Test.YtaplemkmkbjodaaGreatQUp
import Derived.Deep.RegionLaw
namespace Go.Proofs.YtaplemkmkbjodaaGreat
open Go.RowKit

/-- the slice in cell c is a row of the call's own, or none, that holds these items -/
structure HQ (w : World) (c : Nat) (p : Option Addr) (cap : Nat) (d : List Qm.It) : Prop where
  cell : w.cell? ⟨c, 0, none⟩ = some (.slice p d.length cap)
  free : w.frozen? ⟨c, 0, none⟩ = false
  own : w.ownsRow 0 115 3 (.slice p d.length cap) d.length (itCells d)
  ne : ∀ a, p = some a → a.block ≠ c
  len : d.length ≤ 2000
theorem own_addr {w : World} {B : Nat} {E : TypeId} {k : Nat} {p : Option Addr} {n c : Nat} {xs : List Value} (h : w.ownsRow B E k (.slice p n c) n xs) : p = none ∨ ∃ g, p = some ⟨g, 0, none⟩ := by
  rcases h.2 with ⟨h2, -⟩ | ⟨g, cap, cur, hv, -⟩
  · cases h2; exact Or.inl rfl
  · cases hv; exact Or.inr ⟨g, rfl⟩
theorem HQ.hr {w : World} {c : Nat} {p : Option Addr} {cap : Nat} {d : List Qm.It} (h : HQ w c p cap d) (h0 : 0 < d.length) : ∃ g, p = some ⟨g, 0, none⟩ ∧ HR w c g cap d := by
  rcases own_addr h.own with rfl | ⟨g, rfl⟩
  · rcases h.own.2 with ⟨-, h2⟩ | ⟨g, cap, cur, hv, -⟩
    · omega
    · cases hv
  · exact ⟨g, rfl, h.cell, h.free, fun e => h.ne _ rfl e.symm, h.own, h.len⟩
theorem HR.hq {w : World} {c g cap : Nat} {d : List Qm.It} (h : HR w c g cap d) : HQ w c (some ⟨g, 0, none⟩) cap d := ⟨h.cell, h.free, h.own, fun a e => by cases e; exact fun e => h.ne e.symm, h.len⟩
theorem HQ.turns {F : Nat → Prop} {w w' : World} {c : Nat} {p : Option Addr} {cap : Nat} {d : List Qm.It} (h : HQ w c p cap d) (ht : Turns F w w') (hc : ¬ F c) (hg : ∀ a, p = some a → ¬ F a.block) : HQ w' c p cap d :=
  ⟨ht.cell h.cell hc, by rw [ht.frozen (cell_lt h.cell) hc]; exact h.free, ht.own h.own fun k hk => by
    rcases own_addr h.own with rfl | ⟨g, rfl⟩
    · cases hk
    · cases hk; exact hg _ rfl, h.ne, h.len⟩
theorem HQ.below {w w' : World} {c : Nat} {p : Option Addr} {cap : Nat} {d : List Qm.It} (h : HQ w c p cap d) (hb : Below w.heap.size w w') : HQ w' c p cap d :=
  h.turns (F := fun _ => False) (Turns.of_below hb) (fun h => h) (fun _ _ h => h)

/-- the same for the operation inside a region that draws its order -/
theorem step_append_k {P : Program} {w : World} {ops : Array Oper} {o : Oper} {a : Act} {K : Act → World → Prop} {Q : Exit → Act → World → Prop} {E : Prop} (hgd : o.guard = none) (s x : Operand) (t : TypeId)
    (ho : o.op = .call { callee := .builtin .append, args := #[s, x], argTypes := #[t, t] })
    (base : Nat) (e : TypeId) (i : TypeInfo) (z : Value) (k bytes : Nat) (ht : P.underlying t = some (.slice e)) (hi : P.info? e = some i) (hz : i.zero = some z)
    (hsize : i.size = k) (hk0 : 0 < k) (hby : i.bytes = bytes) (hb1 : bytes ≤ 1000) (hzs : z.cells.size = k)
    (v : Value) (n : Nat) (xs : List Value) (hs : a.eval s = v) (hown : w.ownsRow base e k v n xs)
    (p : Option Addr) (m c : Nat) (us : List Value) (hx : a.eval x = .slice p m c) (hus : us.length = m * k) (hrd : Rd w p us) (hpn : p = none → c = 0) (h1 : ∀ u ∈ us, u.oneCell' = true)
    (hsz : n + m ≤ 10000) (hbase : base ≤ w.heap.size)
    (h : ∀ p' c' w', w'.ownsRow base e k (.slice p' (n + m) c') (n + m) (xs ++ us) → w.grownBy w' v.ownBlock → (∀ g, (Value.slice p' (n + m) c').ownBlock = some g → v.ownBlock = some g ∨ w.heap.size ≤ g) → K (a.put o.dst (.slice p' (n + m) c')) w') :
    if Region.wanted o (yielded ops a.tmps) = true then Oper.wp P o a w K Q else E := by
  have hw : Region.wanted o (yielded ops a.tmps) = true := by simp [Region.wanted, hgd]
  rw [if_pos hw]
  obtain ⟨v', w', hr, h2, h3, h4⟩ := run_append_k (P := P) w base t o.type e i z k bytes ht hi hz hsize hk0 hby (by omega) hzs v n xs hown p m c us hus hrd hpn h1
    (Nat.le_trans (Nat.mul_le_mul hsz hb1) (by decide)) (by unfold maxLen; omega) hbase
  obtain ⟨p', c', rfl, -⟩ := own_rd h2
  unfold Oper.wp execOp
  simp only [ho, resolve, invoke, builtin, Sem.run_bind, Sem.run_pure, Result.andThen_ok, List.map_toArray, List.map_cons, List.map_nil, hs, hx, hr]
  exact h p' c' w' h2 h3 h4

theorem info_item : (Tryz.prog.info? 115).map (fun i => (i.zero, i.size, i.bytes)) = some (some (.agg #[.int .i64 0, .int .i64 0, .int .i64 0]), 3, 24) := by kernel_rfl
theorem rd_one (w : World) (x : Qm.It) (E : TypeId) : Rd (w.alloc (.cells #[.int .i64 x.1.1, .int .i64 x.1.2, .int .i64 x.2] E)) (some ⟨w.heap.size, 0, none⟩) (itCells [x]) := fun _ => ⟨_, 0, rfl, fun i u hu => by
  rw [Nat.zero_add, World.cell?_alloc_at _ _ _ _ rfl]
  rw [← hu]
  simp [itCells]⟩

theorem assert_item (x y z : Value) (w : World) : (Instr.typeAssert (.iface 115 (.agg #[x, y, z])) 20 115 false).run Tryz.prog w = .ok (.agg #[x, y, z]) w := by kernel_rfl

/-- what items.Push leaves -/
def Pushed (c : Nat) (p : Option Addr) (d : List Qm.It) (w : World) (e : Ending) (w' : World) : Prop :=
  e = .returned (.tuple #[]) ∧ ∃ p' cap', HQ w' c p' cap' d ∧ Turns (fun k => k = c ∨ ∃ a, p = some a ∧ a.block = k) w w' ∧ (∀ a, p' = some a → p = some a ∨ w.heap.size ≤ a.block)

/-- behind the append: the cell is as it was, and may be written; what it is then -/
theorem pushed_new {c : Nat} {p p' : Option Addr} {cap c' : Nat} {d : List Qm.It} {x : Qm.It} {w W w1 : World} (h : HQ W c p cap d) (hb : Below w.heap.size w W) (hne : ∀ a, p = some a → a.block ≠ c)
    (ho : w1.ownsRow 0 115 3 (.slice p' (d.length + 1) c') (d.length + 1) (itCells d ++ itCells [x])) (hg : W.grownBy w1 (Value.slice p d.length cap).ownBlock)
    (hf : ∀ g, (Value.slice p' (d.length + 1) c').ownBlock = some g → (Value.slice p d.length cap).ownBlock = some g ∨ W.heap.size ≤ g) (hc : c < w.heap.size) (hl : d.length < 2000) :
    w1.cell? ⟨c, 0, none⟩ = some (.slice p d.length cap) ∧ w1.frozen? ⟨c, 0, none⟩ = false ∧
    ∀ w2, Below w1.heap.size w1 w2 → Pushed c p (d ++ [x]) w (.returned (.tuple #[])) (w2.setCell ⟨c, 0, none⟩ (.slice p' (d.length + 1) c')) := by
  have hpb : ∀ g, (Value.slice p d.length cap).ownBlock = some g → ∃ a, p = some a ∧ a.block = g := by
    intro g hg
    cases p with
    | none => cases hg
    | some a => cases hg; exact ⟨a, rfl, rfl⟩
  have ht := Turns.of_grown hg
  have hcn : ¬ (Value.slice p d.length cap).ownBlock = some c := fun e => by
    obtain ⟨a, ha, e⟩ := hpb c e
    exact hne a ha e
  have k1 := ht.cell h.cell hcn
  have k2 := ht.frozen (cell_lt h.cell) hcn
  refine ⟨k1, by rw [k2]; exact h.free, fun w2 hw2 => ⟨rfl, p', c', ⟨?_, ?_, ?_, ?_, ?_⟩, ?_, ?_⟩⟩
  · rw [List.length_append]
    exact qcell_same (by rw [hw2.cell (cell_lt k1)]; exact k1)
  · rw [World.frozen?_setCell, hw2.frozen (cell_lt k1), k2]; exact h.free
  · rw [itCells_append, List.length_append]
    refine (turns_set c w2 0 _).own ((Turns.of_below (F := fun _ => False) hw2).own ho fun _ _ h => h) fun g hg2 e => ?_
    subst e
    rcases hf g hg2 with h1 | h1
    · exact hcn h1
    · have := hb.size; omega
  · intro a ha e
    subst e
    rcases hf a.block (by rw [ha]; rfl) with h1 | h1
    · exact hcn h1
    · have := hb.size; omega
  · rw [List.length_append, List.length_singleton]; omega
  · refine (Turns.of_below hb).trans ((ht.mono fun k _ hk => Or.inl (Or.inr (hpb k hk))).trans ?_)
    refine (Turns.of_below hw2).trans ((turns_set c w2 0 _).mono fun k _ hk => ?_)
    exact Or.inl (Or.inl (Or.inl (Or.inl hk)))
  · intro a ha
    rcases hf a.block (by rw [ha]; rfl) with h1 | h1
    · left
      rcases own_addr h.own with rfl | ⟨g, rfl⟩
      · cases h1
      · cases h1
        rcases own_addr ho with rfl | ⟨g', rfl⟩
        · cases ha
        · cases ha; rfl
    · right; have := hb.size; omega

set_option maxRecDepth 100000 in
set_option maxHeartbeats 2000000 in
theorem ipush_any (c : Nat) (p : Option Addr) (cap : Nat) (d : List Qm.It) (t r k : Int) (w : World) (h : HQ w c p cap d) (hl : d.length < 2000) :
    Calls Tryz.prog 148 #[.pointer (some ⟨c, 0, none⟩), .iface 115 (.agg #[.int .i64 t, .int .i64 r, .int .i64 k])] w (Pushed c p (d ++ [((t, r), k)]) w) := by
  obtain ⟨i0, hi, hz0, hz1, hz2⟩ := info_parts info_item
  have hc := h.cell
  have hf := h.free
  have hcw := cell_lt h.cell
  have ta := fun W => assert_item (.int .i64 t) (.int .i64 r) (.int .i64 k) W
  have hbel : Below w.heap.size w (w.alloc (.cells #[.int .i64 t, .int .i64 r, .int .i64 k] 115)).drew := ((Below.refl _ _).alloc (Nat.le_refl _) _).drew
  have HO := Lib.hid (h.below hbel)
  have HRD := Lib.hid (show Rd (w.alloc (.cells #[.int .i64 t, .int .i64 r, .int .i64 k] 115)).drew (some ⟨w.heap.size, 0, none⟩) (itCells [((t, r), k)]) from rd_one w ((t, r), k) 115)
  have HBel := Lib.hid hbel
  have hne : ∀ a, p = some a → a.block ≠ c := h.ne
  have HNE := Lib.hid hne
  clear h hbel hne
  go_enter Tryz.func148, Tryz.ntmps148
  go_wp2
  go_region_law (refine step_append_k rfl _ _ 137 rfl 0 115 i0 _ 3 24 Tryz.underlying137 hi hz0 hz1 (by decide) hz2 (by decide) rfl _ d.length (itCells d) rfl HO.out.own _ 1 1 (itCells [((t, r), k)]) rfl rfl HRD.out (fun e => by cases e) itCells_one (by omega) (Nat.zero_le _) ?_; intro p' c' w1 ho1 hg1 hf1; have hq1 := pushed_new HO.out HBel.out HNE.out ho1 hg1 hf1 hcw hl; have hc1 := hq1.1; have hc2 := hq1.2.1; have HQ1 := Lib.hid hq1.2.2; clear hq1 ho1 hg1 hf1 hc hf)
  all_goals
    go_end0
    exact HQ1.out w1 (Below.refl _ _)

/-- what items.Pop leaves -/
def Popped (c g cap : Nat) (d : List Qm.It) (w : World) (e : Ending) (w' : World) : Prop :=
  e = .returned (.iface 115 (.agg #[.int .i64 (Qm.itAt d (d.length - 1)).1.1, .int .i64 (Qm.itAt d (d.length - 1)).1.2, .int .i64 (Qm.itAt d (d.length - 1)).2])) ∧ HR w' c g cap (d.take (d.length - 1)) ∧ Turns (fun k => k = c) w w'

theorem HR.cap {w : World} {c g cap : Nat} {d : List Qm.It} (h : HR w c g cap d) : d.length ≤ cap := by
  obtain ⟨p, c', e, -, h1, -⟩ := own_rd h.own
  cases e
  exact h1
theorem popped_new {c g cap m : Nat} {d : List Qm.It} {w : World} (h : HR w c g cap d) (hm : d.length = m + 1) :
    HR (w.setCell ⟨c, 0, none⟩ (.slice (some ⟨g, 0, none⟩) m cap)) c g cap (d.take (d.length - 1)) := by
  have hl : (d.take (d.length - 1)).length = m := by rw [List.length_take]; omega
  have ho := own_take h.own m (by omega)
  rw [itCells_take] at ho
  refine ⟨?_, by simpa using h.free, h.ne, ?_, by rw [hl]; have := h.len; omega⟩
  · rw [hl]; exact qcell_same h.cell
  · rw [hl, hm, Nat.add_sub_cancel]
    exact (turns_set c w 0 _).own ho fun g' hg' e => by cases hg'; exact h.ne e.symm

set_option maxRecDepth 100000 in
set_option maxHeartbeats 2000000 in
theorem ipop_any (c g cap : Nat) (d : List Qm.It) (w : World) (h : HR w c g cap d) (h0 : 0 < d.length) :
    Calls Tryz.prog 147 #[.pointer (some ⟨c, 0, none⟩)] w (Popped c g cap d w) := by
  obtain ⟨m, hm⟩ : ∃ m : Nat, d.length = m + 1 := ⟨d.length - 1, by omega⟩
  have hc := h.cell
  have hf := h.free
  have hcw : c < w.heap.size := h.lt.1
  have hgw : g < w.heap.size := h.lt.2
  obtain ⟨i0, i1, i2⟩ := h.at m (by omega)
  have hml : m < d.length := by omega
  have hm2 : m ≤ 2000 := by have := h.len; omega
  have hl2 := h.len
  have hcap : m ≤ cap := by have := h.cap; omega
  have HN := Lib.hid (popped_new h hm)
  have HX := Lib.hid (show d.length - 1 = m from by omega)
  have hn1 : (d.length : Int) - 1 = (m : Int) := by omega
  clear h hm h0
  unfold Popped
  rw [HX.out]
  rw [HX.out] at HN
  generalize Qm.itAt d m = x at *
  obtain ⟨⟨t, r⟩, k⟩ := x
  dsimp only at *
  go_enter Tryz.func147, Tryz.ntmps147
  go_wp2
  go_ret
  exact ⟨rfl, HN.out.below ((Below.refl _ _).alloc (Nat.le_refl _) _), (turns_set c w 0 _).trans (Turns.of_below ((Below.refl _ _).alloc (Nat.le_refl _) _))⟩

end Go.Proofs.YtaplemkmkbjodaaGreat
