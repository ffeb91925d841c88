/-
  TAKE: an op is read.
  Conditions: at most 10^12 bytes are left, or the op's Path is not longer.
-/
import Derived.Test.YtcenmkcencdlcaaGN
import Derived.Test.YtcenmkcencdlcaaGL
namespace Go.Proofs.Ytcenmkcencdlcaa
open Go.RowKit

/-- what Take carries: the result's block, the op's, what its kind names; the reader -/
structure TkO (w0 : World) (B b R V PB : Nat) (p : Prt) (x : Opp) (q : Option Addr) (c : Nat) (s : RS) (w : World) : Prop where
  hR : w0.heap.size ≤ R
  hV : R < V
  hP : V < PB
  hb : b < w0.heap.size
  res : OpAt w R Opp.zero none 0
  op : OpAt w V x q c
  pr : PrAt w PB p
  rd : RdS w B b s
  only : Only b w0 w
  own : OwnP w (V + 1) (.slice q x.path.length c) x.path
theorem TkO.kept {w0 w w' : World} {B b R V PB : Nat} {p : Prt} {x : Opp} {q : Option Addr} {c : Nat} {s : RS} (h : TkO w0 B b R V PB p x q c s w) (hb : Below w.heap.size w w') : TkO w0 B b R V PB p x q c s w' :=
  { h with res := h.res.kept hb, op := h.op.kept hb, pr := h.pr.kept hb, rd := h.rd.kept hb, only := h.only.trans (Only.of_below hb), own := h.own.below hb }
theorem TkO.read {w0 w w' : World} {B b R V PB : Nat} {p : Prt} {x : Opp} {q : Option Addr} {c : Nat} {s s' : RS} (h : TkO w0 B b R V PB p x q c s w) (hr : RdS w' B b s') (ho : Only b w w') : TkO w0 B b R V PB p x q c s' w' := by
  have h1 := h.hR; have h2 := h.hV; have h3 := h.hP; have h4 := h.hb
  exact { h with res := h.res.only ho (by omega), op := h.op.only ho (by omega), pr := h.pr.only ho (by omega), rd := hr, only := h.only.trans ho, own := h.own.only ho (by omega) }
theorem TkO.set {w0 w w' : World} {B b R V PB : Nat} {p : Prt} {x y : Opp} {q q' : Option Addr} {c c' : Nat} {s : RS} (h : TkO w0 B b R V PB p x q c s w) (hc : Only V w w') (hop : OpAt w' V y q' c') (hown : OwnP w' (V + 1) (.slice q' y.path.length c') y.path) : TkO w0 B b R V PB p y q' c' s w' := by
  have h1 := h.hR; have h2 := h.hV; have h3 := h.hP; have h4 := h.hb
  have hbw : Below w0.heap.size w w' := ⟨hc.os, hc.tape, hc.output, hc.size, fun k hk => hc.block k (by have := h.only.size; omega) (by simp; omega)⟩
  exact { h with res := h.res.only hc (by omega), op := hop, pr := h.pr.only hc (by omega), rd := h.rd.under hbw h4, only := h.only.then_new hbw, own := hown }
theorem only_two (V i j : Nat) (w : World) (a b : Value) : Only V w ((w.setCell ⟨V, i, none⟩ a).setCell ⟨V, j, none⟩ b) := (Only.set V i w a).trans (Only.set V j _ b)
theorem only_three (V i j k : Nat) (w : World) (a b c : Value) : Only V w (((w.setCell ⟨V, i, none⟩ a).setCell ⟨V, j, none⟩ b).setCell ⟨V, k, none⟩ c) := (only_two V i j w a b).trans (Only.set V k _ c)
section
variable {w0 w : World} {B b R V PB : Nat} {p : Prt} {x : Opp} {q : Option Addr} {c : Nat} {s : RS}
theorem TkO.setN (h : TkO w0 B b R V PB p x q c s w) (t r : Int) : TkO w0 B b R V PB p { x with nt := t, nr := r } q c s ((w.setCell ⟨V, 1, none⟩ (.int .i64 t)).setCell ⟨V, 2, none⟩ (.int .i64 r)) := h.set (only_two _ _ _ _ _ _) (h.op.setN t r) (h.own.only (only_two _ _ _ _ _ _) (Nat.lt_succ_self _))
theorem TkO.setR (h : TkO w0 B b R V PB p x q c s w) (t r : Int) : TkO w0 B b R V PB p { x with rt := t, rr := r } q c s ((w.setCell ⟨V, 3, none⟩ (.int .i64 t)).setCell ⟨V, 4, none⟩ (.int .i64 r)) := h.set (only_two _ _ _ _ _ _) (h.op.setR t r) (h.own.only (only_two _ _ _ _ _ _) (Nat.lt_succ_self _))
theorem TkO.setKey (h : TkO w0 B b R V PB p x q c s w) (t : ByteArray) : TkO w0 B b R V PB p { x with key := t } q c s (w.setCell ⟨V, 5, none⟩ (.string t)) := h.set (Only.set _ _ _ _) (h.op.setKey t) (h.own.only (Only.set _ _ _ _) (Nat.lt_succ_self _))
theorem TkO.setP (h : TkO w0 B b R V PB p x q c s w) (t : Int) : TkO w0 B b R V PB p { x with p := t } q c s (w.setCell ⟨V, 7, none⟩ (.int .i64 t)) := h.set (Only.set _ _ _ _) (h.op.setP t) (h.own.only (Only.set _ _ _ _) (Nat.lt_succ_self _))
theorem TkO.setV (h : TkO w0 B b R V PB p x q c s w) (k n : Int) (t : ByteArray) : TkO w0 B b R V PB p { x with vk := k, vn := n, vt := t } q c s (((w.setCell ⟨V, 8, none⟩ (.int .i64 k)).setCell ⟨V, 9, none⟩ (.int .i64 n)).setCell ⟨V, 10, none⟩ (.string t)) := h.set (only_three _ _ _ _ _ _ _ _) (h.op.setV k n t) (h.own.only (only_three _ _ _ _ _ _ _ _) (Nat.lt_succ_self _))
theorem TkO.setOn (h : TkO w0 B b R V PB p x q c s w) (t : Bool) : TkO w0 B b R V PB p { x with on := t } q c s (w.setCell ⟨V, 11, none⟩ (.bool t)) := h.set (Only.set _ _ _ _) (h.op.setOn t) (h.own.only (Only.set _ _ _ _) (Nat.lt_succ_self _))
theorem TkO.setPath (h : TkO w0 B b R V PB p x q c s w) (l : List Qm.St) (q' : Option Addr) (c' : Nat) (hl : OwnP w (V + 1) (.slice q' l.length c') l) : TkO w0 B b R V PB p { x with path := l } q' c' s (w.setCell ⟨V, 6, none⟩ (.slice q' l.length c')) :=
  h.set (Only.set _ _ _ _) (h.op.setPath l q' c') (hl.only (Only.set _ _ _ _) (Nat.lt_succ_self _))
theorem OwnP.up {w : World} {B V : Nat} {v : Value} {l : List Qm.St} (h : OwnP w B v l) (hV : V < B) : OwnP w (V + 1) v l := own_base h (fun g hg => by have := (World.ownsRow.lt h g hg).1; omega)
theorem TkO.pa (h : TkO w0 B b R V PB p x q c s w) : Pa w x q c := by
  obtain ⟨p', c', e, h1, h2, -, h3, -⟩ := own_rd h.own
  cases e
  exact ⟨h1, h3, h2⟩
end

theorem txS_size (s : RS) : (txS s).1.size ≤ s.1.length := by
  unfold txS
  split
  · exact Nat.zero_le _
  · have := textR_le s.1
    show (strB (textR s.1).1).size ≤ _
    rw [← str_len, strB_toList]
    exact this
theorem txS_small (s : RS) : (txS s).1.size ≤ 1048576 := by
  unfold txS
  split
  · exact Nat.zero_le _
  · show (strB (textR s.1).1).size ≤ _
    rw [← str_len, strB_toList]
    unfold textR
    split
    · exact Nat.zero_le _
    · split
      · exact Nat.zero_le _
      · have := (numR_small s.1 1048576).2.1
        simp only [List.length_take]
        omega
theorem vlS_size (s : RS) : (vlS s).1.2.2.size ≤ 64 := by
  unfold vlS
  split
  · exact Nat.zero_le _
  · show (strB (takeV s.1).2.2.1).size ≤ 64
    rw [← str_len, strB_toList]
    unfold takeV
    split
    · exact Nat.zero_le _
    · split
      · next h =>
        rcases right_kind h with e | e | e | e | e
        all_goals first | (rw [right_empty h (by omega)]; exact Nat.zero_le _) | skip
        rw [e] at h
        exact (right_text h).2
      · exact Nat.zero_le _
theorem lpS_len : ∀ (n : Nat) (s : RS) (a : List Qm.St), (lpS n s a).1.length ≤ a.length + s.1.length
  | 0, s, a => by simp [lpS]
  | n + 1, s, a => by
    rw [lpS]
    split
    · simp
    · next h =>
      have h1 := lpS_len n (stS s).2 (a ++ [(stS s).1])
      have h2 := stS_len (s := s) (by simpa using h)
      simp only [List.length_append, List.length_singleton] at h1
      omega
theorem paS_len (s : RS) : (paS s).1.length ≤ s.1.length := by
  have h1 := lpS_len (numS s).1 (numS s).2 []
  have h2 := numS_len s
  unfold paS
  simp at h1
  omega
theorem lpS_le : ∀ (n : Nat) (s : RS) (a : List Qm.St), (lpS n s a).1.length ≤ a.length + n
  | 0, s, a => by simp [lpS]
  | n + 1, s, a => by
    rw [lpS]
    split
    · simp
    · have h1 := lpS_le n (stS s).2 (a ++ [(stS s).1])
      simp only [List.length_append, List.length_singleton] at h1
      omega
theorem paS_le (s : RS) : (paS s).1.length ≤ (numS s).1 := by
  have h1 := lpS_le (numS s).1 (numS s).2 []
  unfold paS
  simp at h1
  omega
/-- at most 10^12 bytes are left, or the op's Path is not longer -/
def Lim (s : RS) : Prop := s.1.length ≤ 1000000000000 ∨ (numS s).1 ≠ 6 ∨ (numS (stS (numS s).2).2).1 ≤ 1000000000000
theorem stS_le (s : RS) : (stS s).2.1.length ≤ s.1.length := by
  unfold stS
  split
  · exact Nat.le_refl _
  · show (takeR s.1).2.2.1.length ≤ _
    have h1 := uptoR_len s.1 1099511627776
    have h2 := uptoR_len (uptoR s.1 1099511627776).2.1 15
    unfold takeR
    split
    · exact h1
    · split
      · simp only; omega
      · simp only; omega

/-- what Take leaves -/
def TookO (w : World) (B b : Nat) (r : Opp × RS) (e : Ending) (w' : World) : Prop :=
  ∃ q c, e = .returned (.agg (opA r.1 q c)) ∧ Pa w' r.1 q c ∧ RdS w' B b r.2 ∧ Only b w w' ∧ (∀ a, q = some a → w.heap.size ≤ a.block)
theorem endO_ok {q : Opp × RS} (h : rightO q.1 = true) (he : q.2.2 = 0) : endO q = q := by unfold endO; rw [if_pos h, if_pos he]
theorem endO_err {q : Opp × RS} (h : rightO q.1 = true) (he : q.2.2 ≠ 0) : endO q = (Opp.zero, q.2) := by unfold endO; rw [if_pos h, if_neg he]
theorem endO_no {q : Opp × RS} (h : rightO q.1 = false) : endO q = (Opp.zero, failS 21 q.2) := by unfold endO; rw [if_neg (by simp [h])]
theorem failS_ne (s : RS) : (failS 21 s).2 ≠ 0 := by unfold failS; dsimp only; split <;> omega

section
variable {w0 w wz : World} {B b R V PB : Nat} {p : Prt} {x : Opp} {q : Option Addr} {c : Nat} {s : RS}
/-- the result is written: nothing else turned -/
theorem TkO.done (h : TkO w0 B b R V PB p x q c s w) (hbn : ∀ B w0, Below B w0 w → B ≤ R → Below B w0 wz) : RdS wz B b s :=
  h.rd.under (hbn _ w (Below.refl _ _) h.hR) h.hb
theorem TkO.doneO (h : TkO w0 B b R V PB p x q c s w) (hbn : ∀ B w0, Below B w0 w → B ≤ R → Below B w0 wz) : Only b w0 wz :=
  h.only.then_new (hbn _ w (Below.refl _ _) h.hR)
theorem TkO.doneN (h : TkO w0 B b R V PB p x q c s w) : ∀ a, q = some a → w0.heap.size ≤ a.block := by
  have hV := h.hV
  have hR := h.hR
  obtain ⟨p', c', e, -, -, -, -, h4⟩ := own_rd h.own
  cases e
  intro a ha
  have := (h4 a ha).1
  omega
theorem TkO.donePa (h : TkO w0 B b R V PB p x q c s w) (hko : ∀ k, k ≠ R → wz.heap[k]? = w.heap[k]?) : Pa wz x q c := by
  have hp := h.pa
  have hV := h.hV
  refine ⟨fun h0 => ?_, hp.nil, hp.cap⟩
  obtain ⟨p', c', e, h1, h2, -, h3, h4⟩ := own_rd h.own
  cases e
  obtain ⟨b', o', rfl, hc⟩ := hp.rd h0
  have := (h4 _ rfl).1
  exact ⟨b', o', rfl, fun i u hu => by rw [World.cell?_of_block (w := w) (hko b' (by simp only at this; omega))]; exact hc i u hu⟩
end

end Go.Proofs.Ytcenmkcencdlcaa
