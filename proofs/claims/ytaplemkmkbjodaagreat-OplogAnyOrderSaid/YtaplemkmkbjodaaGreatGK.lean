/-
  THE LAW's HELPERS: long; what must come.
  No conditions.
  THE LAWS OF OPS: what their walks share.
  No conditions.
-/
import Derived.Test.YtaplemkmkbjodaaGreatOOwn
import Derived.Test.YtaplemkmkbjodaaGreatOPut
import Derived.Test.YtaplemkmkbjodaaGreatOTake
import Derived.Test.YtaplemkmkbjodaaGreatOSame
namespace Go.Proofs.YtaplemkmkbjodaaGreat
open Go.RowKit

/-- is an op long? -/
def longB (x : Opp) : Bool := decide (500 < x.path.length) || decide (5000 < x.key.size) || decide (5000 < x.vt.size)
theorem long_no {x : Opp} (h : longB x = false) : x.path.length ≤ 500 ∧ x.key.size ≤ 5000 ∧ x.vt.size ≤ 5000 := by
  simp only [longB, Bool.or_eq_false_iff, decide_eq_false_iff_not] at h
  omega
theorem long_sz {x : Opp} (h : longB x = false) : Sz x := by
  obtain ⟨h1, h2, h3⟩ := long_no h
  exact ⟨by omega, by omega, by omega⟩
/-- an op into a new block -/
theorem wpList_store_newop {t : TypeId} (V : OT t) {ops : Array Oper} {rest : List Oper} {o : Oper} {a : Act} {w : World} {T : TypeId} {Q : Exit → Act → World → Prop} (hgd : o.guard = none) (x y : Operand) (ho : o.op = .store t x y)
    (hx : a.eval x = .pointer (some ⟨w.heap.size, 0, none⟩)) (A : Array Value) (hA : A.size = 12) (v : Opp) (q : Option Addr) (c : Nat) (hy : a.eval y = .agg (opA v q c))
    (h : ∀ w' : World, OpAt w' w.heap.size v q c → Below w.heap.size w w' → wpList Tryz.prog ops Q rest (a.put o.dst undef) w') : wpList Tryz.prog ops Q (o :: rest) a (w.alloc (.cells A T)) :=
  wpList_store_op V hgd x y ho w.heap.size hx T A (heap_alloc_new w _) hA v q c hy fun w' hv _ _ hb => h w' hv (hb _ _ ((Below.refl _ _).alloc (Nat.le_refl _) _) (Nat.le_refl _))

/-- the mark of knows -/
def kM : Opp := { Opp.zero with k := 4, nt := 5, nr := 2, on := true }
theorem kM_right : rightO kM = true := by decide
theorem kM_put : putO kM = ([1, 4, 1, 5, 1, 2, 1, 1], 0) := by decide
theorem kM_take : takeO (([1, 4, 1, 5, 1, 2, 1, 1] : List UInt8), 0) = (kM, ([], 0)) := by
  have h := takeO_back kM_right []
  rw [show opB kM = [1, 4, 1, 5, 1, 2, 1, 1] from by decide] at h
  exact h

end Go.Proofs.YtaplemkmkbjodaaGreat

namespace Go.Proofs.YtaplemkmkbjodaaGreat
open Go.RowKit

/-- nothing of w has turned -/
def Bel (w W : World) : Prop := Below w.heap.size w W
theorem Bel.start (w : World) : Bel w w.drew := (Below.refl _ _).drew
theorem Bel.get {w W : World} (h : Bel w W) {a : Addr} {v : Value} (hc : w.cell? a = some v) : W.cell? a = some v := by rw [Below.cell h (cell_lt hc)]; exact hc
theorem Bel.trans {w W W' : World} (h : Bel w W) (hb : Below W.heap.size W W') : Bel w W' := Below.trans h (hb.mono (Below.size h))
theorem OpAt.bel {w W : World} {b : Nat} {x : Opp} {q : Option Addr} {c : Nat} (h : OpAt w b x q c) (hS : Bel w W) : OpAt W b x q c := h.kept hS
theorem Pa.bel {w W : World} {x : Opp} {q : Option Addr} {c : Nat} (h : Pa w x q c) (hS : Bel w W) : Pa W x q c := h.kept hS
theorem RdS.bel {w W : World} {B b : Nat} {s : RS} (h : RdS w B b s) (hS : Bel w W) : RdS W B b s := h.kept hS
theorem Bs.bel {w W : World} {p : Option Addr} {l : List UInt8} (h : Bs w p l) (hS : Bel w W) : Bs W p l := h.kept hS
theorem exec_load_op {t : TypeId} (V : OT t) {c : Act} {w : World} {o : Oper} {x : Operand} (ho : o.op = .load t x) {b : Nat} {v : Opp} {q : Option Addr} {k : Nat} (hx : c.eval x = .pointer (some ⟨b, 0, none⟩)) (hv : OpAt w b v q k) :
    (execOp c.eval o).run Tryz.prog w = .ok (.value (.agg (opA v q k))) w := by
  unfold execOp
  simp only [ho, hx, Sem.run_bind, V.load hv, Result.andThen_ok, Sem.run_pure]
theorem opB_len {x : Opp} (h : rightO x = true) : (opB x).length ≤ 1000 := by
  obtain ⟨k1, k6⟩ := rightO_kind h
  have hc : x.k = 1 ∨ x.k = 2 ∨ x.k = 3 ∨ x.k = 4 ∨ x.k = 5 ∨ x.k = 6 := by omega
  have l0 := numB_small x.k.toNat
  have l1 := stB_len x.nt x.nr
  have l2 := stB_len x.rt x.rr
  have l3 := numB_small x.p.toNat
  have l4 := numB_small (digO x.on)
  have l5 := numB_small x.path.length
  have l6 := paB_len x.path
  unfold opB tailB
  rcases hc with hk | hk | hk | hk | hk | hk
  · obtain ⟨-, e2, -⟩ := right1 h hk
    have := txB_len (key_small e2)
    rw [if_pos hk]
    simp only [List.length_append]; omega
  · obtain ⟨-, -, e2, -⟩ := right2 h hk
    have := txB_len (key_small e2)
    rw [if_neg (by omega), if_pos hk]
    simp only [List.length_append]; omega
  · obtain ⟨-, e1, -⟩ := right3 h hk
    have := vlB_len (right8_facts e1).2.2
    rw [if_neg (by omega), if_neg (by omega), if_pos hk]
    simp only [List.length_append]; omega
  · rw [if_neg (by omega), if_neg (by omega), if_neg (by omega), if_pos hk]
    simp only [List.length_append]; omega
  · rw [if_neg (by omega), if_neg (by omega), if_neg (by omega), if_neg (by omega), if_pos hk]
    simp only [List.length_append]; omega
  · obtain ⟨-, e1, e2, -⟩ := right6 h hk
    have := vlB_len (right8_facts e2).2.2
    have := (okPath_small e1).2.1
    rw [if_neg (by omega), if_neg (by omega), if_neg (by omega), if_neg (by omega), if_neg (by omega)]
    simp only [List.length_append]; omega
/-- what a law answers: true; nothing that was there has turned -/
def Yes (w : World) (e : Ending) (w' : World) : Prop := e = .returned (.bool true) ∧ Below w.heap.size w w'
end Go.Proofs.YtaplemkmkbjodaaGreat
