/-
  MAY A KEY BE (the program's Right and the document's); the number of an error; the program's Compare.
  No conditions but sizes.
-/
import Derived.Test.YtilkokhapcgolaaGreatOKey
import Derived.Test.YtilkokhapcgolaaGreatShelf
namespace Go.Proofs.YtilkokhapcgolaaGreat
open Go.RowKit

set_option maxHeartbeats 400000 in
theorem refRight_any (k : ByteArray) (w : World) (_ : k.size ≤ 140737488355328) : Calls Tryz.prog 49 #[.string k] w fun e w' => e = .returned (.bool (Km.rightB k.data.toList)) ∧ w = w' := by
  by_cases h0 : k.size = 0
  · have HR := Lib.hid (right_no (k := k) (by omega))
    go_enter Tryz.func49, Tryz.ntmps49
    go_wp2
    go_ret
    exact ⟨ret_bool HR.out.symm, rfl⟩
  · by_cases h1 : k.size ≤ 24
    · have HR := Lib.hid (right_last (k := k) (by omega) h1)
      go_enter Tryz.func49, Tryz.ntmps49
      go_wp2
      go_ret
      exact ⟨ret_bool HR.out.symm, rfl⟩
    · have HR := Lib.hid (right_no (k := k) (by omega))
      go_enter Tryz.func49, Tryz.ntmps49
      go_wp2
      go_ret
      exact ⟨ret_bool HR.out.symm, rfl⟩

theorem compare_any (a b : ByteArray) (w : World) : Calls Tryz.prog 60 #[.string a, .string b] w fun e w' => e = .returned (.int .i64 (Lib.compareBytes a.data.toList b.data.toList)) ∧ w = w' := by
  have H := Lib.hid (Tryz.strings_Compare a b)
  go_enter Tryz.func60, Tryz.ntmps60
  go_wp2_with fail
  refine (H.out _).mono ?_
  rintro e w' ⟨rfl, rfl⟩
  go_wp2
  go_ret
  exact ⟨rfl, rfl⟩

end Go.Proofs.YtilkokhapcgolaaGreat
