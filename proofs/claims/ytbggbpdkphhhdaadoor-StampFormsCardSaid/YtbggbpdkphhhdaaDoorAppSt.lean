/-
  APPEND of a list of stamps to an empty slice, inside a region that draws its order.
  Conditions: the list takes at most 2^47 - 4096 bytes (the form's reach).
-/
import Derived.Test.YtbggbpdkphhhdaaDoorMax
import Derived.Test.YtbggbpdkphhhdaaDoorAppend
namespace Go.Proofs.YtbggbpdkphhhdaaDoor
open Go.RowKit

/-- cell j of a row of stamps -/
def stCell (l : List (Int × Int)) (j : Nat) : Value := .int .i64 (if j % 2 = 0 then (stAt l (j / 2)).1 else (stAt l (j / 2)).2)
def stCells (l : List (Int × Int)) : List Value := (List.range (l.length * 2)).map (stCell l)
theorem stCells_length (l : List (Int × Int)) : (stCells l).length = l.length * 2 := by simp [stCells]
theorem stCells_get (l : List (Int × Int)) (j : Nat) (h : j < l.length * 2) : (stCells l)[j]? = some (stCell l j) := by simp [stCells, h]
theorem stCell_even (l : List (Int × Int)) (i : Nat) : stCell l (i * 2) = .int .i64 (stAt l i).1 := by
  unfold stCell
  rw [if_pos (by omega), show i * 2 / 2 = i from by omega]
theorem stCell_odd (l : List (Int × Int)) (i : Nat) : stCell l (i * 2 + 1) = .int .i64 (stAt l i).2 := by
  unfold stCell
  rw [if_neg (by omega), show (i * 2 + 1) / 2 = i from by omega]

theorem info_stamp : (Tryd.prog.info? 23).map (fun i => (i.zero, i.size, i.bytes)) = some (some (.agg #[.int .i64 0, .int .i64 0]), 2, 16) := by kernel_rfl

/-- THE OPERATION, inside a region: append of a list of stamps to an empty slice. -/
theorem step_append_st {w : World} {ops : Array Oper} {o : Oper} {a : Act} {K : Act → World → Prop} {Q : Exit → Act → World → Prop} {E : Prop} (hw : Region.wanted o (yielded ops a.tmps) = true) (s x : Operand)
    (ho : o.op = .call { callee := .builtin .append, args := #[s, x], argTypes := #[24, 24] })
    (g : Nat) (hs : a.eval s = .slice (some ⟨g, 0, none⟩) 0 0)
    (p : Option Addr) (c : Nat) (l : List (Int × Int)) (hx : a.eval x = .slice p l.length c) (hst : Stamps w p l) (hpn : p = none → c = 0)
    (hbytes : l.length * 16 ≤ 140737488351232)
    (h : ∀ p' c' w', Stamps w' p' l → Below w.heap.size w w' → K (a.put o.dst (.slice p' l.length c')) w') : if Region.wanted o (yielded ops a.tmps) = true then Oper.wp Tryd.prog o a w K Q else E := by
  rw [if_pos hw]
  obtain ⟨i, hi, hz, hsize, hby⟩ := info_parts info_stamp
  have key : ∃ p' c' w', (Builtin.append_ #[24, 24] o.type #[.slice (some ⟨g, 0, none⟩) 0 0, .slice p l.length c]).run Tryd.prog w = .ok (.slice p' l.length c') w' ∧ Stamps w' p' l ∧ Below w.heap.size w w' := by
    rcases Nat.eq_zero_or_pos l.length with h0 | h0
    · obtain rfl : l = [] := List.eq_nil_of_length_eq_zero h0
      refine ⟨some ⟨g, 0, none⟩, 0, w, ?_, Stamps.nil _ _, Below.refl _ _⟩
      cases p with
      | none =>
        obtain rfl := hpn rfl
        simp [Builtin.append_, run_underlying Tryd.underlying24, sizeOf, typeInfo, hi, Builtin.lenOf, Builtin.firstCells, loadCells, loadCellsFrom, storeCells]
      | some ad => simp [Builtin.append_, run_underlying Tryd.underlying24, sizeOf, typeInfo, hi, Builtin.lenOf, Builtin.firstCells, loadCells, loadCellsFrom, storeCells]
    · obtain ⟨b, off, rfl, hc⟩ := hst h0
      have hnews : ∀ j v, (stCells l)[j]? = some v → w.cell? ((⟨b, off, none⟩ : Addr).add j) = some v := by
        intro j v hj
        have hjl : j < l.length * 2 := by
          have := (List.getElem?_eq_some_iff.1 hj).1
          rwa [stCells_length] at this
        rw [stCells_get l j hjl] at hj
        have hadd : (⟨b, off, none⟩ : Addr).add j = ⟨b, off + j, none⟩ := by unfold Addr.add; split <;> simp_all
        rw [hadd, ← hj]
        obtain ⟨k0, k1⟩ := hc (j / 2) (by omega)
        rcases Nat.mod_two_eq_zero_or_one j with he | he
        · have e : j = j / 2 * 2 := by omega
          rw [e, stCell_even]
          exact k0
        · have e : j = j / 2 * 2 + 1 := by omega
          rw [e, stCell_odd, ← Nat.add_assoc]
          exact k1
      have hr := run_append_grow (P := Tryd.prog) w 24 o.type 23 i (.agg #[.int .i64 0, .int .i64 0]) Tryd.underlying24 hi hz ⟨g, 0, none⟩ 0 0 [] (by simp) (fun j v hj => by simp at hj) ⟨b, off, none⟩ l.length c (stCells l) (by rw [hsize, stCells_length]) hnews (by omega) (by omega)
        (by rw [hby]; exact grow_fits (by omega) (by omega) (by decide))
      rw [Nat.zero_add] at hr
      refine ⟨_, _, _, hr, fun _ => ⟨_, _, rfl, fun k hk => ?_⟩, ((Below.refl w.heap.size w).drew).alloc (Nat.le_refl _) _⟩
      have hcell : ∀ (cs : Array Value) (j : Nat), (w.drew.alloc (.cells cs 23)).cell? ⟨w.heap.size, 0 + j, none⟩ = cs[j]? := fun cs j => by
        rw [Nat.zero_add]
        exact World.cell?_alloc_at (w := w.drew) _ _ _ _ rfl
      rw [Nat.add_assoc, hcell, hcell]
      have hge : ∀ j, j < l.length * 2 → ((#[] : Array Value) ++ (stCells l).toArray ++ Builtin.zeroCells (Value.agg #[.int .i64 0, .int .i64 0]).cells (grownCap w l.length 0 23 - l.length))[j]? = some (stCell l j) := fun j hj => by
        rw [Array.getElem?_append_left (by simp [stCells_length]; omega)]
        simp only [Array.empty_append, List.getElem?_toArray]
        exact stCells_get l j hj
      exact ⟨by rw [← stCell_even]; exact hge _ (by omega), by rw [← stCell_odd]; exact hge _ (by omega)⟩
  obtain ⟨p', c', w', hr, h2, h3⟩ := key
  unfold Oper.wp execOp
  simp only [ho, resolve, invoke, builtin, Sem.run_bind, Sem.run_pure, Result.andThen_ok, List.map_toArray, List.map_cons, List.map_nil, hs, hx, hr]
  exact h p' c' w' h2 h3

end Go.Proofs.YtbggbpdkphhhdaaDoor
