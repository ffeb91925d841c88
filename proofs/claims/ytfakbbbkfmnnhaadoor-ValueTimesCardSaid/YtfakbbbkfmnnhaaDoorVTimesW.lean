/-
  VALUETIMES: the walk: each product is the document's.
  No conditions.
-/
import Derived.Test.YtfakbbbkfmnnhaaDoorVPrint
import Derived.Test.YtfakbbbkfmnnhaaDoorVRefTimes2
namespace Go.Proofs.YtfakbbbkfmnnhaaDoor
open Go.RowKit

set_option maxRecDepth 100000 in
set_option maxHeartbeats 4000000 in
theorem valueTimes_walk (k n : Int) (t : ByteArray) (k' n' : Int) (t' : ByteArray) (w : World) (_ : (Lit.int .i64 k).wf = true) (_ : (Lit.int .i64 n).wf = true) (ht : t.size ≤ 140737488351232) (_ : (Lit.int .i64 k').wf = true) (_ : (Lit.int .i64 n').wf = true) (ht' : t'.size ≤ 140737488351232) :
    Calls Tryd.prog 4 #[.agg #[.int .i64 k, .int .i64 n, .string t], .agg #[.int .i64 k', .int .i64 n', .string t']] w fun e w' => e = .returned (.bool true) ∧ Below w.heap.size w w' := by
  have HW := Lib.hid (VTwo.start w k n t k' n' t')
  have HA := Lib.hid (fun W => vtimes_any k n t k' n' t' W (by omega) (by omega))
  have HR := Lib.hid (fun W => refVtimes_any k n t k' n' t' W (by omega) (by omega))
  generalize Vm.timesV k n t.data.toList k' n' t'.data.toList = r at *
  obtain ⟨ra, rb, rc⟩ := r
  unfold valE at HA HR
  dsimp only at HA HR
  go_enter Tryd.func4, Tryd.ntmps4
  go_wp2_with fail
  refine (HA.out _).mono ?_
  rintro e w1 ⟨rfl, hb1⟩
  have hb2 := hb1.trans (((Below.refl w1.heap.size w1).alloc (Nat.le_refl _) (.cells #[.int .i64 ra, .int .i64 rb, .string ⟨#[]⟩] 23)).mono hb1.size)
  have HW2 := Lib.hid (HW.out.kept hb2)
  have HT1 := Lib.hid (ThreeAt.start w1 ra rb ⟨#[]⟩)
  clear hb1 hb2
  have x0 := HW2.out.1.cell0
  have x1 := HW2.out.1.cell1
  have x2 := HW2.out.1.cell2
  have y0 := HW2.out.2.1.cell0
  have y1 := HW2.out.2.1.cell1
  have y2 := HW2.out.2.1.cell2
  go_wp2_with fail
  refine (HR.out _).mono ?_
  rintro e w3 ⟨rfl, hb3⟩
  have hb4 := hb3.trans (((Below.refl w3.heap.size w3).alloc (Nat.le_refl _) (.cells #[.int .i64 ra, .int .i64 rb, .string ⟨#[]⟩] 23)).mono hb3.size)
  have HW4 := Lib.hid (HW2.out.kept hb4)
  have HT4 := Lib.hid (HT1.out.kept hb4)
  have HT5 := Lib.hid (ThreeAt.start w3 ra rb ⟨#[]⟩)
  clear hb3 hb4 x0 x1 x2 y0 y1 y2
  have x0 := HT4.out.cell0
  have x1 := HT4.out.cell1
  have x2 := HT4.out.cell2
  go_wp2_with fail
  refine (lawNum3_any rc _).mono ?_
  rintro e w' ⟨rfl, rfl⟩
  go_wp2_with fail
  refine (knows3_any _).mono ?_
  rintro e w5 ⟨rfl, hb5⟩
  have HB5 := Lib.hid (HW4.out.kept hb5).2.2
  clear hb5 x0 x1 x2
  go_wp2
  go_ret
  exact ⟨rfl, HB5.out⟩

end Go.Proofs.YtfakbbbkfmnnhaaDoor
