/-
  THE LAW's FOUR: two rows of registers, the program's and the document's, in one memory; what each call leaves of the others.
  No conditions.
-/
import Derived.Test.YtcenmkcencdlcaaPrRDo
namespace Go.Proofs.Ytcenmkcencdlcaa
open Go.RowKit

/-- blocks of registers -/
structure Blk where
  P : Nat
  a : Nat
  b : Nat
  c : Nat
def Blk.all (m : Blk) (Q : Nat → Prop) : Prop := Q m.P ∧ Q m.a ∧ Q m.b ∧ Q m.c
/-- the program's two, the document's two -/
structure Four (w0 w : World) (m n : Blk) (R1 R2 : Nat) (r s : Pm.Rs) (La Lb : List WrE) (pa pb : Option Addr) (ca cb B1 B2 : Nat) (Fa Fb : Nat → Prop) : Prop where
  lr : Lay w m.P m.a m.b m.c r
  ls : Lay w n.P n.a n.b n.c s
  ra : RefL w R1 La pa ca B1 Fa
  rb : RefL w R2 Lb pb cb B2 Fb
  bel : Below w0.heap.size w0 w
  gm : m.all (w0.heap.size ≤ ·)
  gn : n.all (w0.heap.size ≤ ·)
  fa : ∀ k, Fa k → w0.heap.size ≤ k ∧ m.all (k ≠ ·) ∧ n.all (k ≠ ·) ∧ ¬ Fb k
  fb : ∀ k, Fb k → w0.heap.size ≤ k ∧ m.all (k ≠ ·) ∧ n.all (k ≠ ·)
  ap : ∃ B, m.all (· < B) ∧ n.all (B ≤ ·)
  b1 : B1 ≤ w.heap.size
  b2 : B2 ≤ w.heap.size
section
variable {w0 w w' : World} {m n : Blk} {R1 R2 : Nat} {r s : Pm.Rs} {La Lb : List WrE} {pa pb : Option Addr} {ca cb B1 B2 : Nat} {Fa Fb G : Nat → Prop}
theorem Four.kept (h : Four w0 w m n R1 R2 r s La Lb pa pb ca cb B1 B2 Fa Fb) (hb : Below w.heap.size w w') : Four w0 w' m n R1 R2 r s La Lb pa pb ca cb B1 B2 Fa Fb :=
  ⟨h.lr.kept hb, h.ls.kept hb, h.ra.kept hb, h.rb.kept hb, h.bel.trans (hb.mono h.bel.size), h.gm, h.gn, h.fa, h.fb, h.ap, Nat.le_trans h.b1 hb.size, Nat.le_trans h.b2 hb.size⟩
/-- what is none of theirs -/
def Four.out (_ : Four w0 w m n R1 R2 r s La Lb pa pb ca cb B1 B2 Fa Fb) (k : Nat) : Prop := w0.heap.size ≤ k ∧ m.all (k ≠ ·) ∧ n.all (k ≠ ·) ∧ ¬ Fa k ∧ ¬ Fb k
theorem Four.turns (h : Four w0 w m n R1 R2 r s La Lb pa pb ca cb B1 B2 Fa Fb) (ht : Turns G w w') (hG : ∀ k, G k → h.out k) : Four w0 w' m n R1 R2 r s La Lb pa pb ca cb B1 B2 Fa Fb := by
  refine ⟨h.lr.turns ht (fun g => (hG _ g).2.1.1 rfl) (fun g => (hG _ g).2.1.2.1 rfl) (fun g => (hG _ g).2.1.2.2.1 rfl) (fun g => (hG _ g).2.1.2.2.2 rfl),
    h.ls.turns ht (fun g => (hG _ g).2.2.1.1 rfl) (fun g => (hG _ g).2.2.1.2.1 rfl) (fun g => (hG _ g).2.2.1.2.2.1 rfl) (fun g => (hG _ g).2.2.1.2.2.2 rfl),
    h.ra.turns ht (fun k hk g => (hG k g).2.2.2.1 hk), h.rb.turns ht (fun k hk g => (hG k g).2.2.2.2 hk), h.bel.trans (ht.below (fun k _ g => (hG k g).1) h.bel.size), h.gm, h.gn, h.fa, h.fb, h.ap, Nat.le_trans h.b1 ht.size, Nat.le_trans h.b2 ht.size⟩
/-- new memory is none of theirs -/
theorem Four.fresh (h : Four w0 w m n R1 R2 r s La Lb pa pb ca cb B1 B2 Fa Fb) {k : Nat} (hk : w.heap.size ≤ k) : h.out k := by
  have h1 := h.lr.box.lt
  have h2 := h.lr.v.lt
  have h3 := h.lr.m.lt
  have h4 := h.lr.o.lt
  have k1 := h.ls.box.lt
  have k2 := h.ls.v.lt
  have k3 := h.ls.m.lt
  have k4 := h.ls.o.lt
  have := h.bel.size
  exact ⟨by omega, ⟨by show k ≠ m.P; omega, by show k ≠ m.a; omega, by show k ≠ m.b; omega, by show k ≠ m.c; omega⟩, ⟨by show k ≠ n.P; omega, by show k ≠ n.a; omega, by show k ≠ n.b; omega, by show k ≠ n.c; omega⟩, fun g => by have := h.ra.lt k g; omega, fun g => by have := h.rb.lt k g; omega⟩
theorem Four.doA (h : Four w0 w m n R1 R2 r s La Lb pa pb ca cb B1 B2 Fa Fb) {y : Pm.Wr} {e : Ending} (hd : Done m.P m.a m.b m.c r y w e w') : Four w0 w' m n R1 R2 (Pm.doR r y) s La Lb pa pb ca cb B1 B2 Fa Fb := by
  obtain ⟨-, hl, ht⟩ := hd
  obtain ⟨B, hB1, hB2⟩ := h.ap
  refine ⟨hl, h.ls.above ht ⟨hB1.2.1, hB1.2.2.1, hB1.2.2.2⟩ hB2, h.ra.turns ht (fun k hk g => ?_), h.rb.turns ht (fun k hk g => ?_), turns3_below ht ⟨h.gm.2.1, h.gm.2.2.1, h.gm.2.2.2⟩ h.bel, h.gm, h.gn, h.fa, h.fb, h.ap, Nat.le_trans h.b1 ht.size, Nat.le_trans h.b2 ht.size⟩
  · have h1 := (h.fa k hk).2.1
    rcases g with g | g | g
    · exact h1.2.1 g
    · exact h1.2.2.1 g
    · exact h1.2.2.2 g
  · have h1 := (h.fb k hk).2.1
    rcases g with g | g | g
    · exact h1.2.1 g
    · exact h1.2.2.1 g
    · exact h1.2.2.2 g
theorem Four.doB (h : Four w0 w m n R1 R2 r s La Lb pa pb ca cb B1 B2 Fa Fb) {y : Pm.Wr} {e : Ending} (hd : Done n.P n.a n.b n.c s y w e w') : Four w0 w' m n R1 R2 r (Pm.doR s y) La Lb pa pb ca cb B1 B2 Fa Fb := by
  obtain ⟨-, hl, ht⟩ := hd
  obtain ⟨B, hB1, hB2⟩ := h.ap
  refine ⟨h.lr.under ht ⟨hB2.2.1, hB2.2.2.1, hB2.2.2.2⟩ hB1, hl, h.ra.turns ht (fun k hk g => ?_), h.rb.turns ht (fun k hk g => ?_), turns3_below ht ⟨h.gn.2.1, h.gn.2.2.1, h.gn.2.2.2⟩ h.bel, h.gm, h.gn, h.fa, h.fb, h.ap, Nat.le_trans h.b1 ht.size, Nat.le_trans h.b2 ht.size⟩
  · have h1 := (h.fa k hk).2.2.1
    rcases g with g | g | g
    · exact h1.2.1 g
    · exact h1.2.2.1 g
    · exact h1.2.2.2 g
  · have h1 := (h.fb k hk).2.2
    rcases g with g | g | g
    · exact h1.2.1 g
    · exact h1.2.2.1 g
    · exact h1.2.2.2 g
theorem Four.refA (h : Four w0 w m n R1 R2 r s La Lb pa pb ca cb B1 B2 Fa Fb) {y : Pm.Wr} {e : Ending} (hd : RDone R1 B1 La Fa y w e w') :
    ∃ La' pa' ca' Fa', Four w0 w' m n R1 R2 r s La' Lb pa' pb ca' cb B1 B2 Fa' Fb ∧ pl La' = (if Pm.kept y = true then pl La ++ [y] else pl La) ∧ (∀ e ∈ La', e ∈ La ∨ e.w = y) ∧ La'.length ≤ La.length + 1 ∧ ∀ k, Fa' k → Fa k ∨ w.heap.size ≤ k := by
  obtain ⟨-, L', p', c', hr, h1, h2, h3, ht⟩ := hd
  have q1 := h.lr.box.lt
  have q2 := h.lr.v.lt
  have q3 := h.lr.m.lt
  have q4 := h.lr.o.lt
  have k1 := h.ls.box.lt
  have k2 := h.ls.v.lt
  have k3 := h.ls.m.lt
  have k4 := h.ls.o.lt
  have hb0 := h.bel.size
  refine ⟨L', p', c', _, ⟨h.lr.turns ht (fun g => (h.fa _ g).2.1.1 rfl) (fun g => (h.fa _ g).2.1.2.1 rfl) (fun g => (h.fa _ g).2.1.2.2.1 rfl) (fun g => (h.fa _ g).2.1.2.2.2 rfl),
    h.ls.turns ht (fun g => (h.fa _ g).2.2.1.1 rfl) (fun g => (h.fa _ g).2.2.1.2.1 rfl) (fun g => (h.fa _ g).2.2.1.2.2.1 rfl) (fun g => (h.fa _ g).2.2.1.2.2.2 rfl),
    hr, h.rb.turns ht (fun k hk g => (h.fa k g).2.2.2 hk), h.bel.trans (ht.below (fun k _ g => (h.fa k g).1) h.bel.size), h.gm, h.gn, fun k hk => ?_, h.fb, h.ap, Nat.le_trans h.b1 ht.size, Nat.le_trans h.b2 ht.size⟩, h1, h2, h3, fun _ hk => hk.imp id (·.1)⟩
  rcases hk with hk | hk
  · exact h.fa k hk
  · exact ⟨by omega, ⟨by show k ≠ m.P; omega, by show k ≠ m.a; omega, by show k ≠ m.b; omega, by show k ≠ m.c; omega⟩, ⟨by show k ≠ n.P; omega, by show k ≠ n.a; omega, by show k ≠ n.b; omega, by show k ≠ n.c; omega⟩, fun g => by have := h.rb.lt k g; omega⟩
theorem Four.refB (h : Four w0 w m n R1 R2 r s La Lb pa pb ca cb B1 B2 Fa Fb) {y : Pm.Wr} {e : Ending} (hd : RDone R2 B2 Lb Fb y w e w') :
    ∃ Lb' pb' cb' Fb', Four w0 w' m n R1 R2 r s La Lb' pa pb' ca cb' B1 B2 Fa Fb' ∧ pl Lb' = (if Pm.kept y = true then pl Lb ++ [y] else pl Lb) ∧ (∀ e ∈ Lb', e ∈ Lb ∨ e.w = y) ∧ Lb'.length ≤ Lb.length + 1 ∧ ∀ k, Fb' k → Fb k ∨ w.heap.size ≤ k := by
  obtain ⟨-, L', p', c', hr, h1, h2, h3, ht⟩ := hd
  have q1 := h.lr.box.lt
  have q2 := h.lr.v.lt
  have q3 := h.lr.m.lt
  have q4 := h.lr.o.lt
  have k1 := h.ls.box.lt
  have k2 := h.ls.v.lt
  have k3 := h.ls.m.lt
  have k4 := h.ls.o.lt
  have hb0 := h.bel.size
  refine ⟨L', p', c', _, ⟨h.lr.turns ht (fun g => (h.fb _ g).2.1.1 rfl) (fun g => (h.fb _ g).2.1.2.1 rfl) (fun g => (h.fb _ g).2.1.2.2.1 rfl) (fun g => (h.fb _ g).2.1.2.2.2 rfl),
    h.ls.turns ht (fun g => (h.fb _ g).2.2.1 rfl) (fun g => (h.fb _ g).2.2.2.1 rfl) (fun g => (h.fb _ g).2.2.2.2.1 rfl) (fun g => (h.fb _ g).2.2.2.2.2 rfl),
    h.ra.turns ht (fun k hk g => (h.fa k hk).2.2.2 g), hr, h.bel.trans (ht.below (fun k _ g => (h.fb k g).1) h.bel.size), h.gm, h.gn, fun k hk => ⟨(h.fa k hk).1, (h.fa k hk).2.1, (h.fa k hk).2.2.1, fun g => ?_⟩, fun k hk => ?_, h.ap, Nat.le_trans h.b1 ht.size, Nat.le_trans h.b2 ht.size⟩, h1, h2, h3, fun _ hk => hk.imp id (·.1)⟩
  · rcases g with g | g
    · exact (h.fa k hk).2.2.2 g
    · have := h.ra.lt k hk; omega
  · rcases hk with hk | hk
    · exact h.fb k hk
    · exact ⟨by omega, ⟨by show k ≠ m.P; omega, by show k ≠ m.a; omega, by show k ≠ m.b; omega, by show k ≠ m.c; omega⟩, ⟨by show k ≠ n.P; omega, by show k ≠ n.a; omega, by show k ≠ n.b; omega, by show k ≠ n.c; omega⟩⟩
end
end Go.Proofs.Ytcenmkcencdlcaa
