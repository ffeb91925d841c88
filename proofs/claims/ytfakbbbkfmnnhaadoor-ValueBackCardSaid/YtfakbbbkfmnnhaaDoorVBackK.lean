/-
  VALUEBACK: what the walk carries.
  Conditions: the row's listed variables ('Laid').
-/
import Derived.Test.YtfakbbbkfmnnhaaDoorVBackMath
import Derived.Test.YtfakbbbkfmnnhaaDoorLaid
import Derived.Deep.RegionHeld3
namespace Go.Proofs.YtfakbbbkfmnnhaaDoor
open Go.RowKit

/-- the value that the call has boxed first; the listed variables -/
def VB (w0 : World) (k n : Int) (t : ByteArray) (w : World) : Prop := ThreeAt w w0.heap.size k n t ∧ Laid w ∧ Below w0.heap.size w0 w
theorem VB.kept {w0 w w' : World} {k n : Int} {t : ByteArray} (h : VB w0 k n t w) (hb : Below w.heap.size w w') : VB w0 k n t w' := ⟨h.1.kept hb, h.2.1.kept hb, h.2.2.trans (hb.mono h.2.2.size)⟩
theorem VB.start (w0 : World) (k n : Int) (t : ByteArray) (hL : Laid w0) : VB w0 k n t (w0.alloc (.cells #[.int .i64 k, .int .i64 n, .string t] 23)) :=
  ⟨ThreeAt.start w0 k n t, hL.kept ((Below.refl _ _).alloc (Nat.le_refl _) _), (Below.refl _ _).alloc (Nat.le_refl _) _⟩
/-- what region 9 needs -/
def S9 (w0 : World) (k n : Int) (t : ByteArray) (F : Nat) (w : World) : Prop := (ThreeAt w w0.heap.size k n t ∧ True ∧ Below w0.heap.size w0 w) ∧ ThreeAt w F k n t
theorem S9.kept {w0 w w' : World} {k n : Int} {t : ByteArray} {F : Nat} (h : S9 w0 k n t F w) (hb : Below w.heap.size w w') : S9 w0 k n t F w' := ⟨⟨h.1.1.kept hb, trivial, h.1.2.2.trans (hb.mono h.1.2.2.size)⟩, h.2.kept hb⟩
theorem S9.only {w0 w w' : World} {k n : Int} {t : ByteArray} {F b : Nat} (h : S9 w0 k n t F w) (ho : Only b w w') (h1 : w0.heap.size ≠ b) (h2 : F ≠ b) (h3 : w0.heap.size ≤ b) : S9 w0 k n t F w' :=
  ⟨⟨h.1.1.only ho h1, trivial, ho.below h.1.2.2 h3 h.1.2.2.size⟩, h.2.only ho h2⟩
theorem print_short {k n : Int} {t : List UInt8} (h : Vm.rightV k n t = true) : (printV k n t).length ≤ 1000 := by
  have ha := right_t h
  have hb := right_n h
  have hc := itoa_short n hb.1 hb.2
  rw [strV_size] at hc
  unfold printV
  rw [if_pos h]
  repeat' split
  all_goals first | omega | (simp only [List.length_append, List.length_cons, List.length_nil]; omega)
theorem put_short {k n : Int} {t : List UInt8} (h : Vm.rightV k n t = true) : (Wm.numB k.toNat ++ restV k n t).length ≤ 1000 := by
  have ha := right_t h
  have h1 := numB_small k.toNat
  have h2 := numB_small t.length
  have h3 := numB_small n.toNat
  have h4 := numB_small (foldV n)
  unfold restV
  rw [List.length_append]
  repeat' split
  all_goals first | omega | (simp only [List.length_append, List.length_nil]; omega)

end Go.Proofs.YtfakbbbkfmnnhaaDoor
