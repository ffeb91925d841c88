/-
  POSKEYBETWEEN: the walk: the key between any two, and any two in order.
  No conditions.
-/
import Derived.Test.YtdgcdepepfgkoaaKRefBtw
import Derived.Test.YtdgcdepepfgkoaaKKnows
namespace Go.Proofs.Ytdgcdepepfgkoaa
open Go.RowKit

set_option maxRecDepth 100000 in
set_option maxHeartbeats 8000000 in
theorem poskeyBetween_walk (a b : ByteArray) (w : World) (ha : a.size ≤ 140737488351232) (hb : b.size ≤ 140737488351232) :
    Calls Try.prog 3 #[.string a, .string b] w fun e w' => e = .returned (.bool true) ∧ Below w.heap.size w w' := by
  have H1 := Lib.hid (fun w => between_any a b w (by omega) (by omega))
  have H2 := Lib.hid (fun w => refBetween_any a b w (by omega) (by omega))
  have H3 := Lib.hid (fun w => right_any a w (by omega))
  have H4 := Lib.hid (fun w => refRight_any a w (by omega))
  have H5 := Lib.hid (fun w => compare_any a b w)
  have H6 := Lib.hid (fun w => refCompare_any a b w (by omega) (by omega))
  generalize strB (Km.betw a.data.toList b.data.toList).1 = K at *
  generalize (Km.betw a.data.toList b.data.toList).2 = x at *
  generalize Lib.compareBytes a.data.toList b.data.toList = c at *
  generalize Km.rightB a.data.toList = ra at *
  go_enter Try.func3, Try.ntmps3
  go_wp2_with fail
  refine (H1.out _).mono ?_
  rintro e w1 ⟨rfl, hb1⟩
  have B1 := Lib.hid hb1
  clear hb1
  go_wp2_with fail
  refine (H2.out _).mono ?_
  rintro e w2 ⟨rfl, hb2⟩
  have B2 := Lib.hid (B1.out.trans (hb2.mono B1.out.size))
  clear hb2
  go_wp2_with fail
  refine (num_any _ _).mono ?_
  rintro e w' ⟨rfl, rfl⟩
  go_wp2_with fail
  refine (H3.out _).mono ?_
  rintro e w' ⟨rfl, rfl⟩
  go_wp2_with fail
  refine (H4.out _).mono ?_
  rintro e w' ⟨rfl, rfl⟩
  go_wp2_with fail
  refine (H5.out _).mono ?_
  rintro e w' ⟨rfl, rfl⟩
  go_wp2_with fail
  refine (H6.out _).mono ?_
  rintro e w3 ⟨rfl, hb3⟩
  have B3 := Lib.hid (B2.out.trans (hb3.mono B2.out.size))
  clear hb3
  go_wp2_with fail
  refine (knows_any _).mono ?_
  rintro e w4 ⟨rfl, hb4⟩
  have B4 := Lib.hid (B3.out.trans (hb4.mono B3.out.size))
  clear hb4
  go_wp2
  go_ret
  exact ⟨rfl, B4.out⟩

end Go.Proofs.Ytdgcdepepfgkoaa
