/-
  ROWS WHOSE ELEMENTS ARE ONE CELL (pointers, functions): parts of them, one more; the state's own cells.
  No conditions but sizes.
-/
import Derived.Test.YthifdefjmfakgaaGreatGrUndo
import Derived.Test.YthifdefjmfakgaaGreatGK
import Derived.Test.YthifdefjmfakgaaGreatG2
namespace Go.Proofs.YthifdefjmfakgaaGreat
open Go.RowKit
open Tm (Sp Tr has put cut kids)

structure R1 (E SE : TypeId) (z : Value) : Prop where
  und : Tryz.prog.underlying SE = some (.slice E)
  elem : Tryz.prog.elem SE = E
  size : ∀ W, (sizeOf E).run Tryz.prog W = .ok 1 W
  info : ∃ i, Tryz.prog.info? E = some i ∧ i.zero = some z ∧ i.size = 1 ∧ i.bytes = 8
  zc : z.cells.size = 1
theorem lineR : R1 104 98 (.pointer none) where
  und := Tryz.underlying98
  elem := by kernel_rfl
  size := fun _ => by kernel_rfl
  info := by
    have h : (Tryz.prog.info? 104).map (fun i => (i.zero, i.size, i.bytes)) = some (some (.pointer none), 1, 8) := by kernel_rfl
    cases hi : Tryz.prog.info? 104 with
    | none => rw [hi] at h; cases h
    | some i =>
      rw [hi] at h
      simp only [Option.map_some, Option.some.injEq, Prod.mk.injEq] at h
      exact ⟨i, rfl, h.1, h.2.1, h.2.2⟩
  zc := rfl
theorem fnR : R1 106 99 .nilFunc where
  und := Tryz.underlying99
  elem := by kernel_rfl
  size := fun _ => by kernel_rfl
  info := by
    have h : (Tryz.prog.info? 106).map (fun i => (i.zero, i.size, i.bytes)) = some (some .nilFunc, 1, 8) := by kernel_rfl
    cases hi : Tryz.prog.info? 106 with
    | none => rw [hi] at h; cases h
    | some i =>
      rw [hi] at h
      simp only [Option.map_some, Option.some.injEq, Prod.mk.injEq] at h
      exact ⟨i, rfl, h.1, h.2.1, h.2.2⟩
  zc := rfl
section
variable {E SE : TypeId} {z : Value}
theorem R1.take (V : R1 E SE z) {a : Act} {w : World} {o : Oper} {x y : Operand} (ho : o.op = .slice SE x none (some y) none) {p : Option Addr} {n c i : Nat} (hx : a.eval x = .slice p n c) (hy : a.eval y = .int .i64 (i : Int)) (hi : i ≤ c) :
    (execOp a.eval o).run Tryz.prog w = .ok (.value (.slice p i c)) w := by
  have hu : Tryz.prog.underlying SE = some (.slice (Tryz.prog.elem SE)) := by rw [V.elem]; exact V.und
  have hr : (Instr.sliceAt SE (.slice p n c) none (some (.int .i64 (i : Int))) none).run Tryz.prog w = .ok (.slice p i c) w := by
    rw [run_sliceAt_slice (h := hu), run_slice_h (ht := hu) (h0 := by omega) (h2 := by omega), V.elem, V.size]
    cases p <;> simp [Result.andThen_ok, sliced, Addr.add]
  unfold execOp
  simp only [ho, hx, hy, Option.map_some, Option.map_none, Sem.run_bind, hr, Result.andThen_ok, Sem.run_pure]
theorem R1.dropE (V : R1 E SE z) {a : Act} {w : World} {o : Oper} {x y : Operand} (ho : o.op = .slice SE x (some y) none none) {p : Option Addr} {n c i : Nat} (hx : a.eval x = .slice p n c) (hy : a.eval y = .int .i64 (i : Int)) (hi : i ≤ n) :
    (execOp a.eval o).run Tryz.prog w = .ok (.value (.slice (drA 1 p c i) (n - i) (c - i))) w := by
  have hu : Tryz.prog.underlying SE = some (.slice (Tryz.prog.elem SE)) := by rw [V.elem]; exact V.und
  have hr : (Instr.sliceAt SE (.slice p n c) (some (.int .i64 (i : Int))) none none).run Tryz.prog w = .ok (.slice (drA 1 p c i) (n - i) (c - i)) w := by
    rw [run_sliceAt_slice (h := hu), run_slice_l (ht := hu) (h0 := by omega) (h1 := by omega), V.elem, V.size]
    simp only [Result.andThen_ok, sliced, drA, Int.toNat_natCast]
  unfold execOp
  simp only [ho, hx, hy, Option.map_some, Option.map_none, Sem.run_bind, hr, Result.andThen_ok, Sem.run_pure]
theorem R1.append (V : R1 E SE z) {w : World} {ops : Array Oper} {o : Oper} {a : Act} {K : Act → World → Prop} {Q : Exit → Act → World → Prop} {X : Prop} (hgd : o.guard = none) (s x : Operand)
    (ho : o.op = .call { callee := .builtin .append, args := #[s, x], argTypes := #[SE, SE] })
    (v : Value) (n : Nat) (xs : List Value) (hs : a.eval s = v) (hown : w.ownsRow 0 E 1 v n xs)
    (q : Option Addr) (m d : Nat) (us : List Value) (hx : a.eval x = .slice q m d) (hus : us.length = m) (hrd : Rd w q us) (hpn : q = none → d = 0) (h1 : ∀ u ∈ us, u.oneCell' = true) (hsz : n + m ≤ 10000)
    (h : ∀ p' c' w', w'.ownsRow 0 E 1 (.slice p' (n + m) c') (n + m) (xs ++ us) → w.grownBy w' v.ownBlock → (∀ g, (Value.slice p' (n + m) c').ownBlock = some g → v.ownBlock = some g ∨ w.heap.size ≤ g) → K (a.put o.dst (.slice p' (n + m) c')) w') :
    if Region.wanted o (yielded ops a.tmps) = true then Oper.wp Tryz.prog o a w K Q else X := by
  obtain ⟨i0, hi, hz0, hz1, hz2⟩ := V.info
  exact step_append_sb hgd s x SE ho 0 E i0 z 1 8 V.und hi hz0 hz1 (by decide) hz2 (by decide) V.zc v n xs hs hown q m d us hx (by omega) hrd hpn h1 hsz (Nat.zero_le _) h
theorem own_1 {w : World} {g c n : Nat} {xs : List Value} (h : w.ownsRow 0 E 1 (.slice (some ⟨g, 0, none⟩) n c) n xs) : ∀ i v, xs[i]? = some v → w.cell? ⟨g, i, none⟩ = some v := fun i v hv => by
  obtain ⟨p2, c2, he, hrd, -⟩ := own_rd h
  cases he
  have := hrd.cell (i := i) (u := v) (by exact hv)
  rwa [Nat.zero_add] at this
end
theorem Uk.one (u : Uk) : (Uk.val u).oneCell' = true := by cases u <;> rfl
theorem own_take1 {w : World} {n m : Nat} {E : TypeId} {p : Option Addr} {c : Nat} {xs : List Value} (h : w.ownsRow 0 E 1 (.slice p n c) n xs) (hm : m ≤ n) (hp : p ≠ none) : w.ownsRow 0 E 1 (.slice p m c) m (xs.take m) := by
  have := own_takeG h hm hp
  rwa [Nat.mul_one] at this
/-- the state's own cells turned -/
theorem Core.cells' {w w' : World} {X : Gx} {χ : Nat → Nat} {g : Gm.G} (h : Core w X χ g) (ht : Turns (fun k => k = X.b) w w') (lk : Int) (po pu : Value) (us : List Uk) (ha : AgAt w' X.b ({ X with lk := lk, po := po, pu := pu, us := us } : Gx).cells)
    (ro : w.ownsRow 0 104 1 po X.ls.length (X.ls.map fun e => ptV e.2)) (co : ∀ k, po.ownBlock = some k → χ k = 2)
    (ru : w.ownsRow 0 106 1 pu us.length (us.map Uk.val)) (cu : ∀ k, pu.ownBlock = some k → χ k = 3) : Core w' { X with lk := lk, po := po, pu := pu, us := us } χ g := by
  have hd : ∀ k, χ k ≠ 1 → ¬ k = X.b := fun k hk e => hk (by rw [e]; exact h.cb)
  exact ⟨fun k hk => Nat.lt_of_lt_of_le (h.lt k hk) ht.size, ha, h.cb, ht.own ro fun k hk => hd k (by rw [co k hk]; decide), co, ht.own ru fun k hk => hd k (by rw [cu k hk]; decide), cu,
    h.tree.turns ht fun k hk => hd k (by rw [hk]; decide), h.ms.turns ht fun k hk => hd k (by rw [hk]; decide), fun e he => ⟨(h.ln e he).1, (h.ln e he).2.block (ht.block _ (h.ln e he).2.lt (hd _ (by rw [(h.ln e he).1]; decide)))⟩,
    h.tk, h.hs, h.hm, h.good, h.ops, h.few, h.dom⟩
theorem Core.setPu {w : World} {X : Gx} {χ : Nat → Nat} {g : Gm.G} (h : Core w X χ g) (pu : Value) (us : List Uk) (ru : w.ownsRow 0 106 1 pu us.length (us.map Uk.val)) (cu : ∀ k, pu.ownBlock = some k → χ k = 3) : Core (w.setCell ⟨X.b, 3, none⟩ pu) { X with pu := pu, us := us } χ g :=
  h.cells' (set_turns X.b w 3 pu) X.lk X.po pu us (h.at_.put 3 pu) h.ro h.co ru cu
theorem Core.setLk {w : World} {X : Gx} {χ : Nat → Nat} {g : Gm.G} (h : Core w X χ g) (lk : Int) : Core (w.setCell ⟨X.b, 0, none⟩ (.int .i32 lk)) { X with lk := lk } χ g :=
  h.cells' (set_turns X.b w 0 _) lk X.po X.pu X.us (h.at_.put 0 _) h.ro h.co h.ru h.cu
theorem goes_set {w : World} {X : Gx} {χ : Nat → Nat} {g : Gm.G} (h : Core w X χ g) (i : Nat) (v : Value) : Goes w χ (w.setCell ⟨X.b, i, none⟩ v) χ := ⟨(set_turns X.b w i v).mono fun k _ hk => by subst hk; rw [h.cb]; decide, fun _ _ => rfl⟩
end Go.Proofs.YthifdefjmfakgaaGreat
