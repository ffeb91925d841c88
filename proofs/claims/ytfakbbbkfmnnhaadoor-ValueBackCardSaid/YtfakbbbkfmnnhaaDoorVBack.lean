/-
  VALUEBACK: the walk: a value that may be is read as it was written, in bytes and in text, and a text that is read is written as it was.
  Conditions: the row's listed variables ('Laid').
-/
import Derived.Test.YtfakbbbkfmnnhaaDoorVBackN
import Derived.Test.YtfakbbbkfmnnhaaDoorVBackY
import Derived.MakeChecks
import Derived.Deep.RegionHeld3
namespace Go.Proofs.YtfakbbbkfmnnhaaDoor
open Go.RowKit

theorem laid_of_vback {W : World} (h : laidMetH Tryd.prog Rows.valueBackRow.laid W) : Laid W := by
  rw [MakeChecks.laidMetH_plain _ _ _ (by kernel_rfl)] at h
  exact laid_of_list h
theorem valueBack_walk (k n : Int) (t s : ByteArray) (w : World) (_ : (Lit.int .i64 k).wf = true) (_ : (Lit.int .i64 n).wf = true) (ht : t.size ≤ 140737488351232) (hs : s.size ≤ 140737488351232) (hL : laidMetH Tryd.prog Rows.valueBackRow.laid w) :
    Calls Tryd.prog 6 #[.agg #[.int .i64 k, .int .i64 n, .string t], .string s] w fun e w' => e = .returned (.bool true) ∧ Below w.heap.size w w' := by
  cases hR : Vm.rightV k n t.data.toList with
  | false => exact valueBack_no k n t s w ht hs (laid_of_vback hL) hR
  | true => exact valueBack_yes k n t s w ht hs (laid_of_vback hL) hR

end Go.Proofs.YtfakbbbkfmnnhaaDoor
