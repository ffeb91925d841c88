/-
  THE LAWS' OWN HELPERS: Lent (bytes with marked room behind them), Stays (are they as they were, their room too).
-/
import Derived.Test.YthpdphlkmleldaaGA
import Derived.Deep.DeepFit
namespace Go.Proofs.Ythpdphlkmleldaa
open Go.RowKit

theorem Own.cell {E : TypeId} {w : World} {B g n cap : Nat} {l : List UInt8} (h : Own E w B (.slice (some ⟨g, 0, none⟩) n cap) l) (i : Nat) (hi : i < l.length) : w.cell? ⟨g, i, none⟩ = some (.int .u8 (by8 l i : Nat)) := by
  obtain ⟨p, c, e, hbs, -⟩ := h.bs
  simp only [Value.slice.injEq] at e
  obtain ⟨rfl, -, -⟩ := e
  have := hbs.get i hi
  rwa [Nat.zero_add] at this

theorem by8_app_l (l m : List UInt8) (i : Nat) (h : i < l.length) : by8 (l ++ m) i = by8 l i := by
  simp [by8, List.getD, List.getElem?_append_left h]
theorem by8_app_r (l m : List UInt8) (i : Nat) : by8 (l ++ m) (l.length + i) = by8 m i := by
  simp [by8, List.getD, List.getElem?_append_right (Nat.le_add_right l.length i)]

end Go.Proofs.Ythpdphlkmleldaa
