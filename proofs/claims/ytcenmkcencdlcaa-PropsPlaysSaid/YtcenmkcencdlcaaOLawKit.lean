/-
  THE LAWS OF OPS: what their walks share.
  No conditions.
-/
import Derived.Test.YtcenmkcencdlcaaOKnow
namespace Go.Proofs.Ytcenmkcencdlcaa
open Go.RowKit

/-- nothing of w has turned -/
def Bel (w W : World) : Prop := Below w.heap.size w W
theorem Bel.start (w : World) : Bel w w.drew := (Below.refl _ _).drew
theorem Bel.get {w W : World} (h : Bel w W) {a : Addr} {v : Value} (hc : w.cell? a = some v) : W.cell? a = some v := by rw [Below.cell h (cell_lt hc)]; exact hc
theorem Bel.trans {w W W' : World} (h : Bel w W) (hb : Below W.heap.size W W') : Bel w W' := Below.trans h (hb.mono (Below.size h))
theorem OpAt.bel {w W : World} {b : Nat} {x : Opp} {q : Option Addr} {c : Nat} (h : OpAt w b x q c) (hS : Bel w W) : OpAt W b x q c := h.kept hS
theorem Pa.bel {w W : World} {x : Opp} {q : Option Addr} {c : Nat} (h : Pa w x q c) (hS : Bel w W) : Pa W x q c := h.kept hS
theorem RdS.bel {w W : World} {B b : Nat} {s : RS} (h : RdS w B b s) (hS : Bel w W) : RdS W B b s := h.kept hS
theorem Bs.bel {w W : World} {p : Option Addr} {l : List UInt8} (h : Bs w p l) (hS : Bel w W) : Bs W p l := h.kept hS
theorem exec_load_op {t : TypeId} (V : OT t) {c : Act} {w : World} {o : Oper} {x : Operand} (ho : o.op = .load t x) {b : Nat} {v : Opp} {q : Option Addr} {k : Nat} (hx : c.eval x = .pointer (some ⟨b, 0, none⟩)) (hv : OpAt w b v q k) :
    (execOp c.eval o).run Try.prog w = .ok (.value (.agg (opA v q k))) w := by
  unfold execOp
  simp only [ho, hx, Sem.run_bind, V.load hv, Result.andThen_ok, Sem.run_pure]
theorem opB_len {x : Opp} (h : rightO x = true) : (opB x).length ≤ 1000 := by
  obtain ⟨k1, k6⟩ := rightO_kind h
  have hc : x.k = 1 ∨ x.k = 2 ∨ x.k = 3 ∨ x.k = 4 ∨ x.k = 5 ∨ x.k = 6 := by omega
  have l0 := numB_small x.k.toNat
  have l1 := stB_len x.nt x.nr
  have l2 := stB_len x.rt x.rr
  have l3 := numB_small x.p.toNat
  have l4 := numB_small (digO x.on)
  have l5 := numB_small x.path.length
  have l6 := paB_len x.path
  unfold opB tailB
  rcases hc with hk | hk | hk | hk | hk | hk
  · obtain ⟨-, e2, -⟩ := right1 h hk
    have := txB_len (key_small e2)
    rw [if_pos hk]
    simp only [List.length_append]; omega
  · obtain ⟨-, -, e2, -⟩ := right2 h hk
    have := txB_len (key_small e2)
    rw [if_neg (by omega), if_pos hk]
    simp only [List.length_append]; omega
  · obtain ⟨-, e1, -⟩ := right3 h hk
    have := vlB_len (right8_facts e1).2.2
    rw [if_neg (by omega), if_neg (by omega), if_pos hk]
    simp only [List.length_append]; omega
  · rw [if_neg (by omega), if_neg (by omega), if_neg (by omega), if_pos hk]
    simp only [List.length_append]; omega
  · rw [if_neg (by omega), if_neg (by omega), if_neg (by omega), if_neg (by omega), if_pos hk]
    simp only [List.length_append]; omega
  · obtain ⟨-, e1, e2, -⟩ := right6 h hk
    have := vlB_len (right8_facts e2).2.2
    have := (okPath_small e1).2.1
    rw [if_neg (by omega), if_neg (by omega), if_neg (by omega), if_neg (by omega), if_neg (by omega)]
    simp only [List.length_append]; omega
/-- what a law answers: true; nothing that was there has turned -/
def Yes (w : World) (e : Ending) (w' : World) : Prop := e = .returned (.bool true) ∧ Below w.heap.size w w'
end Go.Proofs.Ytcenmkcencdlcaa
