/-
  THE DOCUMENT's TAKE: an op is read: what it carries.
  No conditions.
-/
import Derived.Test.YthpdphlkmleldaaGreatRoRead
import Derived.Test.YthpdphlkmleldaaGreatRoMath
import Derived.Test.YthpdphlkmleldaaGreatRoRight
import Derived.Test.YthpdphlkmleldaaGreatGH
namespace Go.Proofs.YthpdphlkmleldaaGreat
open Go.RowKit

/-- what Take carries: the result's block, the op's; the reader -/
structure RkO (w0 : World) (B b R V : Nat) (x : Opp) (q : Option Addr) (c : Nat) (s : RS) (w : World) : Prop where
  hR : w0.heap.size ≤ R
  hV : R < V
  hb : b < w0.heap.size
  res : OpAt w R Opp.zero none 0
  op : OpAt w V x q c
  rd : RrS w B b s
  only : Only b w0 w
  own : OwnP w (V + 1) (.slice q x.path.length c) x.path
theorem RkO.kept {w0 w w' : World} {B b R V : Nat} {x : Opp} {q : Option Addr} {c : Nat} {s : RS} (h : RkO w0 B b R V x q c s w) (hb : Below w.heap.size w w') : RkO w0 B b R V x q c s w' :=
  { h with res := h.res.kept hb, op := h.op.kept hb, rd := h.rd.kept hb, only := h.only.trans (Only.of_below hb), own := h.own.below hb }
theorem RkO.read {w0 w w' : World} {B b R V : Nat} {x : Opp} {q : Option Addr} {c : Nat} {s s' : RS} (h : RkO w0 B b R V x q c s w) (hr : RrS w' B b s') (ho : Only b w w') : RkO w0 B b R V x q c s' w' := by
  have h1 := h.hR; have h2 := h.hV; have h4 := h.hb
  exact { h with res := h.res.only ho (by omega), op := h.op.only ho (by omega), rd := hr, only := h.only.trans ho, own := h.own.only ho (by omega) }
theorem RkO.set {w0 w w' : World} {B b R V : Nat} {x y : Opp} {q q' : Option Addr} {c c' : Nat} {s : RS} (h : RkO w0 B b R V x q c s w) (hc : Only V w w') (hop : OpAt w' V y q' c') (hown : OwnP w' (V + 1) (.slice q' y.path.length c') y.path) : RkO w0 B b R V y q' c' s w' := by
  have h1 := h.hR; have h2 := h.hV; have h4 := h.hb
  have hbw : Below w0.heap.size w w' := ⟨hc.os, hc.tape, hc.output, hc.size, fun k hk => hc.block k (by have := h.only.size; omega) (by simp; omega)⟩
  exact { h with res := h.res.only hc (by omega), op := hop, rd := h.rd.under hbw h4, only := h.only.then_new hbw, own := hown }
section
variable {w0 w wz w' : World} {B b R V : Nat} {x : Opp} {q q' : Option Addr} {c c' : Nat} {s : RS}
theorem RkO.setN (h : RkO w0 B b R V x q c s w) (t r : Int) : RkO w0 B b R V { x with nt := t, nr := r } q c s ((w.setCell ⟨V, 1, none⟩ (.int .i64 t)).setCell ⟨V, 2, none⟩ (.int .i64 r)) := h.set (only_two _ _ _ _ _ _) (h.op.setN t r) (h.own.only (only_two _ _ _ _ _ _) (Nat.lt_succ_self _))
theorem RkO.setR (h : RkO w0 B b R V x q c s w) (t r : Int) : RkO w0 B b R V { x with rt := t, rr := r } q c s ((w.setCell ⟨V, 3, none⟩ (.int .i64 t)).setCell ⟨V, 4, none⟩ (.int .i64 r)) := h.set (only_two _ _ _ _ _ _) (h.op.setR t r) (h.own.only (only_two _ _ _ _ _ _) (Nat.lt_succ_self _))
theorem RkO.setKey (h : RkO w0 B b R V x q c s w) (t : ByteArray) : RkO w0 B b R V { x with key := t } q c s (w.setCell ⟨V, 5, none⟩ (.string t)) := h.set (Only.set _ _ _ _) (h.op.setKey t) (h.own.only (Only.set _ _ _ _) (Nat.lt_succ_self _))
theorem RkO.setP (h : RkO w0 B b R V x q c s w) (t : Int) : RkO w0 B b R V { x with p := t } q c s (w.setCell ⟨V, 7, none⟩ (.int .i64 t)) := h.set (Only.set _ _ _ _) (h.op.setP t) (h.own.only (Only.set _ _ _ _) (Nat.lt_succ_self _))
theorem RkO.setV (h : RkO w0 B b R V x q c s w) (k n : Int) (t : ByteArray) : RkO w0 B b R V { x with vk := k, vn := n, vt := t } q c s (((w.setCell ⟨V, 8, none⟩ (.int .i64 k)).setCell ⟨V, 9, none⟩ (.int .i64 n)).setCell ⟨V, 10, none⟩ (.string t)) := h.set (only_three _ _ _ _ _ _ _ _) (h.op.setV k n t) (h.own.only (only_three _ _ _ _ _ _ _ _) (Nat.lt_succ_self _))
theorem RkO.setOn (h : RkO w0 B b R V x q c s w) (t : Bool) : RkO w0 B b R V { x with on := t } q c s (w.setCell ⟨V, 11, none⟩ (.bool t)) := h.set (Only.set _ _ _ _) (h.op.setOn t) (h.own.only (Only.set _ _ _ _) (Nat.lt_succ_self _))
theorem RkO.pa (h : RkO w0 B b R V x q c s w) : Pa w x q c := by
  obtain ⟨p', c', e, h1, h2, -, h3, -⟩ := own_rd h.own
  cases e
  exact ⟨h1, h3, h2⟩
/-- a stamp more, behind the Path -/
theorem RkO.push (h : RkO w0 B b R V x q c s w) (st : Qm.St) (ho : w'.ownsRow (V + 1) 47 2 (.slice q' (x.path.length + 1) c') (x.path.length + 1) (stCells x.path ++ stCells [st])) (hg : w.grownBy w' (Value.slice q x.path.length c).ownBlock) :
    RkO w0 B b R V { x with path := x.path ++ [st] } q' c' s (w'.setCell ⟨V, 6, none⟩ (.slice q' (x.path.length + 1) c')) ∧ OpAt w' V x q c := by
  have h1 := h.hR; have h2 := h.hV; have h4 := h.hb
  have hb1 := h.own.grown hg h.op.lt
  have hop := h.op.below hb1 (Nat.lt_succ_self _)
  have e : (x.path ++ [st]).length = x.path.length + 1 := by simp
  have hbw : Below V w (w'.setCell ⟨V, 6, none⟩ (.slice q' (x.path.length + 1) c')) := (hb1.mono (Nat.le_succ _)).setCell (by simp) _
  have hbw0 := hbw.mono (show w0.heap.size ≤ V from by omega)
  refine ⟨{ h with res := h.res.below hbw h2, op := ?_, rd := h.rd.under hbw (by omega), only := h.only.then_new hbw0, own := ?_ }, hop⟩
  · have := hop.setPath (x.path ++ [st]) q' c'
    rw [e] at this
    exact this
  · dsimp only
    rw [e]
    have ho' : OwnP w' (V + 1) (.slice q' (x.path.length + 1) c') (x.path ++ [st]) := by unfold OwnP; rw [stCells_append, e]; exact ho
    exact ho'.only (Only.set V 6 _ _) (Nat.lt_succ_self _)
/-- the result is written: nothing else turned -/
theorem RkO.done (h : RkO w0 B b R V x q c s w) (hbn : ∀ B w0, Below B w0 w → B ≤ R → Below B w0 wz) : RrS wz B b s :=
  h.rd.under (hbn _ w (Below.refl _ _) h.hR) h.hb
theorem RkO.doneO (h : RkO w0 B b R V x q c s w) (hbn : ∀ B w0, Below B w0 w → B ≤ R → Below B w0 wz) : Only b w0 wz :=
  h.only.then_new (hbn _ w (Below.refl _ _) h.hR)
theorem RkO.doneN (h : RkO w0 B b R V x q c s w) : ∀ a, q = some a → w0.heap.size ≤ a.block := by
  have hV := h.hV
  have hR := h.hR
  obtain ⟨p', c', e, -, -, -, -, h4⟩ := own_rd h.own
  cases e
  intro a ha
  have := (h4 a ha).1
  omega
theorem RkO.donePa (h : RkO w0 B b R V x q c s w) (hko : ∀ k, k ≠ R → wz.heap[k]? = w.heap[k]?) : Pa wz x q c := by
  have hp := h.pa
  have hV := h.hV
  refine ⟨fun h0 => ?_, hp.nil, hp.cap⟩
  obtain ⟨p', c', e, h1, h2, -, h3, h4⟩ := own_rd h.own
  cases e
  obtain ⟨b', o', rfl, hc⟩ := hp.rd h0
  have := (h4 _ rfl).1
  exact ⟨b', o', rfl, fun i u hu => by rw [World.cell?_of_block (w := w) (hko b' (by simp only at this; omega))]; exact hc i u hu⟩
end
/-- what Take leaves -/
def TookRo (w : World) (B b : Nat) (r : Opp × RS) (e : Ending) (w' : World) : Prop :=
  ∃ q c, e = .returned (.agg (opA r.1 q c)) ∧ Pa w' r.1 q c ∧ RrS w' B b r.2 ∧ Only b w w' ∧ (∀ a, q = some a → w.heap.size ≤ a.block)
theorem takeRo_eq {s : RS} (h : ¬ ((numS s).1 < 1 ∨ 6 < (numS s).1)) : takeRo s = endR (rawR (numS s).1 (numS s).2) := by unfold takeRo; rw [if_neg h]
theorem lpR_len : ∀ (n : Nat) (s : RS) (a : List Qm.St), (lpR n s a).1.length ≤ a.length + n
  | 0, s, a => by simp [lpR]
  | n + 1, s, a => by
    rw [lpR]
    split
    · simp only; omega
    · have := lpR_len n (stS s).2 (a ++ [(stS s).1])
      simp only [List.length_append, List.length_singleton] at this
      omega
theorem paR_le (s : RS) : (paR s).1.length ≤ 8 := by
  have h1 := lpR_len (uptoS 8 s).1 (uptoS 8 s).2 []
  have h2 : (uptoS 8 s).1 ≤ 8 := uptoS_le 8 s
  unfold paR
  simp at h1
  omega

end Go.Proofs.YthpdphlkmleldaaGreat
