/-
  PUT's function value: bytes are put behind those that there are.
  No conditions but sizes.
  PUT: an op is written.
  No conditions but sizes.
-/
import Derived.Test.YtcenmkcencdlcaaGN
import Derived.Test.YtcenmkcencdlcaaGH
import Derived.Test.YtcenmkcencdlcaaGL
namespace Go.Proofs.Ytcenmkcencdlcaa
open Go.RowKit

/-- the bytes so far: in a row (from block B on) that cell o points to -/
structure Out (w : World) (B o : Nat) (l : List UInt8) : Prop where
  lt : o < B
  size : B ≤ w.heap.size
  free : w.frozen? ⟨o, 0, none⟩ = false
  row : ∃ v, w.cell? ⟨o, 0, none⟩ = some v ∧ Own 5 w B v l
/-- of what lies below block B nothing turned but block o -/
structure Chg (o B : Nat) (w w' : World) : Prop where
  os : w'.os = w.os
  tape : w'.tape = w.tape
  output : w'.output = w.output
  size : w.heap.size ≤ w'.heap.size
  block : ∀ k, k < B → k ≠ o → w'.heap[k]? = w.heap[k]?
theorem Out.kept {w w' : World} {B o : Nat} {l : List UInt8} (h : Out w B o l) (hb : Below w.heap.size w w') : Out w' B o l := by
  obtain ⟨h1, h2, h3, v, h4, h5⟩ := h
  exact ⟨h1, Nat.le_trans h2 hb.size, by rw [hb.frozen (by simp; omega)]; exact h3, v, by rw [hb.cell (by simp; omega)]; exact h4, h5.below hb⟩
theorem only_set' (b o : Nat) (w : World) (v : Value) : w.grownBy (w.setCell ⟨b, o, none⟩ v) (some b) :=
  ⟨rfl, rfl, rfl, by simp [World.setCell], fun k _ hk => Below.heap_setCell w _ v k (fun e => hk (by rw [e]))⟩
theorem Own.setFar {w : World} {B o : Nat} {v : Value} {l : List UInt8} (h : Own 5 w B v l) (ho : o < B) (u : Value) : Own 5 (w.setCell ⟨o, 0, none⟩ u) B v l :=
  World.ownsRow.kept (row := some o) h (only_set' o 0 w u) (by
    cases hv : v.ownBlock with
    | none => simp
    | some g => have := (World.ownsRow.lt h g hv).1; simp; omega)

end Go.Proofs.Ytcenmkcencdlcaa

namespace Go.Proofs.Ytcenmkcencdlcaa
open Go.RowKit

/-- what Put carries: the op's block X, what its kind names, the bytes so far -/
structure PuO (w0 : World) (X o PB B : Nat) (p : Prt) (x : Opp) (q : Option Addr) (c : Nat) (l : List UInt8) (w : World) : Prop where
  hX : w0.heap.size ≤ X
  hXo : X < o
  hoP : o < PB
  hPB : PB < B
  op : OpAt w X x q c
  pr : PrAt w PB p
  pa : Pa w0 x q c
  below : Below w0.heap.size w0 w
  out : Out w B o l
theorem PuO.kept {w0 w w' : World} {X o PB B : Nat} {p : Prt} {x : Opp} {q : Option Addr} {c : Nat} {l : List UInt8} (h : PuO w0 X o PB B p x q c l w) (hb : Below w.heap.size w w') : PuO w0 X o PB B p x q c l w' :=
  { h with op := h.op.kept hb, pr := h.pr.kept hb, below := h.below.trans (hb.mono h.below.size), out := h.out.kept hb }
theorem PuO.add {w0 w w' : World} {X o PB B : Nat} {p : Prt} {x : Opp} {q : Option Addr} {c : Nat} {l m : List UInt8} (h : PuO w0 X o PB B p x q c l w) (ho : Out w' B o m) (hc : Chg o B w w') : PuO w0 X o PB B p x q c m w' := by
  have h1 := h.hX; have h2 := h.hXo; have h3 := h.hoP; have h4 := h.hPB
  exact ⟨h1, h2, h3, h4, h.op.block (hc.block X (by omega) (by omega)), h.pr.block (hc.block PB (by omega) (by omega)), h.pa,
    h.below.trans ⟨hc.os, hc.tape, hc.output, hc.size, fun k hk => hc.block k (by omega) (by omega)⟩, ho⟩
theorem PuO.paw {w0 w : World} {X o PB B : Nat} {p : Prt} {x : Opp} {q : Option Addr} {c : Nat} {l : List UInt8} (h : PuO w0 X o PB B p x q c l w) : Pa w x q c := h.pa.kept h.below
theorem putW_ok {t r : Int} (h : rightB t r = true) : putW t r = (stB t r, 0) := by unfold putW stB; rw [if_pos h]
theorem numW_ok {n : Int} (h0 : 0 ≤ n) (h1 : n ≤ 281474976710655) : numW n = (Wm.numB n.toNat, 0) := by unfold numW; rw [if_pos ⟨h0, h1⟩]
theorem textW_ok {s : ByteArray} (h : s.size ≤ 1048576) : textW s.data.toList = (txB s, 0) := by unfold textW txB; rw [str_len, if_pos h]
theorem putV_ok {k n : Int} {t : ByteArray} (h : Vm.rightV k n t.data.toList = true) : putV k n t.data.toList = (vlB k n t, 0) := by unfold putV vlB; rw [if_pos h]
theorem stB_len (t r : Int) : (stB t r).length ≤ 14 := by
  unfold stB
  have h1 := numB_small t.toNat
  have h2 := numB_small r.toNat
  rw [List.length_append]; omega
theorem txB_len {k : ByteArray} (h : k.size ≤ 24) : (txB k).length ≤ 31 := by
  unfold txB
  have := numB_small k.size
  rw [List.length_append, str_len]; omega
theorem vlB_len {k n : Int} {t : ByteArray} (h : Vm.rightV k n t.data.toList = true) : (vlB k n t).length ≤ 100 := by
  unfold vlB restV
  have h1 := numB_small k.toNat
  have h2 := numB_small n.toNat
  have h3 := numB_small (foldV n)
  have h4 := numB_small t.data.toList.length
  rw [List.length_append]
  split
  · next e => subst e; have := (right_text h).2; rw [List.length_append]; omega
  · split
    · omega
    · split
      · simp; omega
      · omega
theorem paB_len (l : List Qm.St) : (paB l).length ≤ 14 * l.length := by
  induction l with
  | nil => simp [paB]
  | cons s l ih =>
    have e : paB (s :: l) = stB s.1 s.2 ++ paB l := by simp [paB]
    have := stB_len s.1 s.2
    rw [e, List.length_append, List.length_cons]; omega
theorem paB_take {l : List Qm.St} {k : Nat} (h : k < l.length) : paB (l.take (k + 1)) = paB (l.take k) ++ stB (Qm.stOf l k).1 (Qm.stOf l k).2 := by
  rw [List.take_succ_eq_append_getElem h]
  have : Qm.stOf l k = l[k] := by simp [Qm.stOf, h]
  rw [this, paB, List.flatMap_append, List.flatMap_cons, List.flatMap_nil, List.append_nil]
  rfl
theorem stOf_mem {l : List Qm.St} {k : Nat} (h : k < l.length) : Qm.stOf l k ∈ l := by
  have : Qm.stOf l k = l[k] := by simp [Qm.stOf, h]
  rw [this]; exact List.getElem_mem h

theorem putO_err {x : Opp} (h : rightO x = false) : putO x = ([], 1) := by unfold putO; rw [if_neg (by simp [h])]
theorem putO_ok {x : Opp} (h : rightO x = true) : putO x = (opB x, 0) := by unfold putO; rw [if_pos h]
end Go.Proofs.Ytcenmkcencdlcaa
