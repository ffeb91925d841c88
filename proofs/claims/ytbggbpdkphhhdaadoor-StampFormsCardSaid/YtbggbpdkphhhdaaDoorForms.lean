/-
  STAMPFORMS: what the walk carries.
  No conditions.
-/
import Derived.Test.YtbggbpdkphhhdaaDoorRefReader
import Derived.Test.YtbggbpdkphhhdaaDoorRefMax
import Derived.Test.YtbggbpdkphhhdaaDoorRefParse
import Derived.Test.YtbggbpdkphhhdaaDoorAppSt
import Derived.Test.YtbggbpdkphhhdaaDoorLent
import Derived.Test.YtbggbpdkphhhdaaDoorBack2
namespace Go.Proofs.YtbggbpdkphhhdaaDoor
open Go.RowKit

/-- two stamps that the call has boxed first -/
def F0 (w0 : World) (a b : Int × Int) (w : World) : Prop := TwoAt w w0.heap.size a.1 a.2 ∧ TwoAt w (w0.heap.size + 1) b.1 b.2 ∧ Below w0.heap.size w0 w
theorem F0.kept {w0 w w' : World} {a b : Int × Int} (h : F0 w0 a b w) (hb : Below w.heap.size w w') : F0 w0 a b w' := ⟨h.1.kept hb, h.2.1.kept hb, h.2.2.trans (hb.mono h.2.2.size)⟩
theorem F0.only {w0 w w' : World} {a b : Int × Int} {k : Nat} (h : F0 w0 a b w) (ho : Only k w w') (hk : w0.heap.size + 1 < k) : F0 w0 a b w' := ⟨h.1.only ho (by omega), h.2.1.only ho (by omega), ho.below h.2.2 (by omega) h.2.2.size⟩
theorem F0.start (w0 : World) (a b : Int × Int) : F0 w0 a b ((w0.alloc (.cells #[.int .i64 a.1, .int .i64 a.2] 23)).alloc (.cells #[.int .i64 b.1, .int .i64 b.2] 23)) := by
  refine ⟨(TwoAt.start w0 a.1 a.2).kept ((Below.refl _ _).alloc (Nat.le_refl _) _), ?_, ((Below.refl _ _).alloc (Nat.le_refl _) _).alloc (by simp) _⟩
  have h := TwoAt.start (w0.alloc (.cells #[.int .i64 a.1, .int .i64 a.2] 23)) b.1 b.2
  simpa using h
theorem F0.size {w0 w : World} {a b : Int × Int} (h : F0 w0 a b w) : w0.heap.size + 1 < w.heap.size := h.2.1.size

theorem Own.only {E : TypeId} {w w' : World} {B k g n cap : Nat} {l : List UInt8} (h : Own E w B (.slice (some ⟨g, 0, none⟩) n cap) l) (ho : Only k w w') (hne : g ≠ k) : Own E w' B (.slice (some ⟨g, 0, none⟩) n cap) l :=
  World.ownsRow.kept (row := some k) h ho (by simp [Value.ownBlock, hne])

/-- what region 8 needs, and what comes behind it -/
def S8 (w0 : World) (a b : Int × Int) (px py : Option Addr) (x : List UInt8) (F1 F2 : Nat) (q : Int × Int) (g cap : Nat) (l2 : List UInt8) (Br bR Bq bQ : Nat) (w : World) : Prop :=
  F0 w0 a b w ∧ (Bs w px x ∧ Bs w py x) ∧ (TwoAt w F1 q.1 q.2 ∧ TwoAt w F2 q.1 q.2) ∧ Own 5 w w0.heap.size (.slice (some ⟨g, 0, none⟩) (l2.length + 2) cap) (l2 ++ [61, 62]) ∧ Rdr w Br bR l2 0 ∧ RRdr w Bq bQ l2 0
theorem S8.kept {w0 w w' : World} {a b : Int × Int} {px py : Option Addr} {x : List UInt8} {F1 F2 : Nat} {q : Int × Int} {g cap : Nat} {l2 : List UInt8} {Br bR Bq bQ : Nat} (h : S8 w0 a b px py x F1 F2 q g cap l2 Br bR Bq bQ w) (hb : Below w.heap.size w w') : S8 w0 a b px py x F1 F2 q g cap l2 Br bR Bq bQ w' := by
  obtain ⟨h1, ⟨h2, h3⟩, ⟨h4, h5⟩, h6, h7, h8⟩ := h
  exact ⟨h1.kept hb, ⟨h2.kept hb, h3.kept hb⟩, ⟨h4.kept hb, h5.kept hb⟩, h6.below hb, h7.kept hb, h8.kept hb⟩

end Go.Proofs.YtbggbpdkphhhdaaDoor
