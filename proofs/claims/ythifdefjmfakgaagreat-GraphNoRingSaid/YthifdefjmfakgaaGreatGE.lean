/-
  A VALUE's BYTES: folded, unfolded, Put, Take.
  No conditions.
  TAKE.
  No conditions.
  PUT.
  No conditions.
-/
import Derived.Test.YthifdefjmfakgaaGreatGB
import Derived.Test.YthifdefjmfakgaaGreatGD
namespace Go.Proofs.YthifdefjmfakgaaGreat
open Go.RowKit

theorem OwnX.only {E : TypeId} {w w' : World} {B k g n cap : Nat} {l : List UInt8} (h : Own E w B (.slice (some ⟨g, 0, none⟩) n cap) l) (ho : Only k w w') (hne : g ≠ k) : Own E w' B (.slice (some ⟨g, 0, none⟩) n cap) l :=
  World.ownsRow.kept (row := some k) h ho (by simp [Value.ownBlock, hne])
theorem ThreeAt.only {w w' : World} {b c : Nat} {k n : Int} {t : ByteArray} (h : ThreeAt w b k n t) (ho : Only c w w') (hne : b ≠ c) : ThreeAt w' b k n t := (ho.block b h.size (by simpa using hne)).trans h

end Go.Proofs.YthifdefjmfakgaaGreat

namespace Go.Proofs.YthifdefjmfakgaaGreat
open Go.RowKit

theorem Only.ofBelow {b : Nat} {w w' : World} (h : Below w.heap.size w w') : Only b w w' := ⟨h.os, h.tape, h.output, h.size, fun i hi _ => h.block i hi⟩
/-- what Take carries: the result's cell, the value's box, the reader -/
def Tk (w0 : World) (B b : Nat) (R V : Nat) (k n : Int) (t : ByteArray) (l : List UInt8) (err : Nat) (w : World) : Prop :=
  (w0.heap.size ≤ R ∧ w0.heap.size ≤ V ∧ R ≠ V ∧ b < w0.heap.size) ∧ ThreeAt w R 0 0 ⟨#[]⟩ ∧ ThreeAt w V k n t ∧ Rdr w B b l err ∧ Only b w0 w
theorem Tk.kept {w0 w w' : World} {B b R V : Nat} {k n : Int} {t : ByteArray} {l : List UInt8} {err : Nat} (h : Tk w0 B b R V k n t l err w) (hb : Below w.heap.size w w') : Tk w0 B b R V k n t l err w' :=
  ⟨h.1, h.2.1.kept hb, h.2.2.1.kept hb, h.2.2.2.1.kept hb, h.2.2.2.2.trans (Only.ofBelow (b := b) hb)⟩
end Go.Proofs.YthifdefjmfakgaaGreat

namespace Go.Proofs.YthifdefjmfakgaaGreat
open Go.RowKit

theorem Own.far {E : TypeId} {w w' : World} {B k : Nat} {v : Value} {l : List UInt8} (h : Own E w B v l) (ho : Only k w w') (hk : k < B) : Own E w' B v l :=
  World.ownsRow.kept (row := some k) h ho (Or.inr fun e => by have := (World.ownsRow.lt h k e).1; omega)

end Go.Proofs.YthifdefjmfakgaaGreat
