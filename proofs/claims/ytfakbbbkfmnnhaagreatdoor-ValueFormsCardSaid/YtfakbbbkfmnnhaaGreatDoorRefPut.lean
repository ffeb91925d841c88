/-
  THE DOCUMENT's Put; append inside a region that draws its order.
  No conditions.
-/
import Derived.Test.YtfakbbbkfmnnhaaGreatDoorRefClock
import Derived.Test.YtfakbbbkfmnnhaaGreatDoorPutTake
import Derived.Test.YtfakbbbkfmnnhaaGreatDoorRef
namespace Go.Proofs.YtfakbbbkfmnnhaaGreatDoor
open Go.RowKit

/-- THE OPERATION, inside a region that draws its order: append of a slice of bytes. -/
theorem step_append_bs {P : Program} {w : World} {ops : Array Oper} {o : Oper} {a : Act} {K : Act → World → Prop} {Q : Exit → Act → World → Prop} {E : Prop} (hw : Region.wanted o (yielded ops a.tmps) = true) (s x : Operand) (t : TypeId)
    (ho : o.op = .call { callee := .builtin .append, args := #[s, x], argTypes := #[t, t] })
    (base : Nat) (e : TypeId) (i : TypeInfo) (ht : P.underlying t = some (.slice e)) (hi : P.info? e = some i) (hz : i.zero = some (.int .u8 0))
    (hsize : i.size = 1) (hby : i.bytes = 1)
    (v : Value) (xs : List UInt8) (hs : a.eval s = v) (hown : Own e w base v xs)
    (p : Option Addr) (c : Nat) (l : List UInt8) (hx : a.eval x = .slice p l.length c) (hbs : Bs w p l) (hpn : p = none → c = 0)
    (hbytes : xs.length + l.length ≤ 211106232532992) (hbase : base ≤ w.heap.size)
    (h : ∀ v' w', Own e w' base v' (xs ++ l) → Below base w w' → K (a.put o.dst v') w') : if Region.wanted o (yielded ops a.tmps) = true then Oper.wp P o a w K Q else E := by
  rw [if_pos hw]
  obtain ⟨v', w', hr, h2, h3, -⟩ := run_append_rd (P := P) w base t o.type e i (.int .u8 0) 1 ht hi hz hsize hby (by decide) rfl v xs.length (vals xs) hown p c (vals l) hbs.rd hpn vals_one
    (by rw [vals_length]; omega) (by rw [vals_length]; unfold maxLen; omega) hbase
  rw [vals_length] at hr h2
  unfold Oper.wp execOp
  simp only [ho, resolve, invoke, builtin, Sem.run_bind, Sem.run_pure, Result.andThen_ok, List.map_toArray, List.map_cons, List.map_nil, hs, hx, hr]
  refine h v' w' ?_ ?_
  · unfold Own; rw [vals_append, List.length_append]; exact h2
  · exact (Below.refl _ _).grown h3 hbase fun k hk => (World.ownsRow.lt hown k hk).1

end Go.Proofs.YtfakbbbkfmnnhaaGreatDoor
