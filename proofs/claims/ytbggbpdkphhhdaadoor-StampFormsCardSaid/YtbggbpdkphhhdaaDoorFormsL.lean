/-
  STAMPFORMS: the walk, in the form that the step to the statement takes.
  Conditions: none but the row's own list of variables.
-/
import Derived.Test.YtbggbpdkphhhdaaDoorFormsW
namespace Go.Proofs.YtbggbpdkphhhdaaDoor
open Go.RowKit

theorem laid_of_forms {W : World} (h : laidMetH Tryd.prog Rows.stampFormsRow.laid W) : Laid W := by
  rw [MakeChecks.laidMetH_plain _ _ _ (by kernel_rfl)] at h
  exact laid_of_list h

theorem stampForms_walk (at' ar bt br : Int) (pl : Option Addr) (cl : Nat) (l : List (Int × Int)) (p2 : Option Addr) (c2 : Nat) (l2 : List UInt8) (s : ByteArray) (w : World)
    (ua : (Lit.int .i64 at').wf = true) (wa : (Lit.int .i64 ar).wf = true) (_ : (Lit.int .i64 bt).wf = true) (_ : (Lit.int .i64 br).wf = true)
    (hst : Stamps w pl l) (_ : l.length ≤ cl) (hpl : pl = none → cl = 0) (hll : l.length * 16 ≤ 140737488351232)
    (hbs : Bs w p2 l2) (_ : l2.length ≤ c2) (hp2 : p2 = none → c2 = 0) (hl2 : l2.length ≤ 140737488351232) (hss : s.size ≤ 140737488351232) (hL : laidMetH Tryd.prog Rows.stampFormsRow.laid w) :
    Calls Tryd.prog 3 #[.agg #[.int .i64 at', .int .i64 ar], .agg #[.int .i64 bt, .int .i64 br], .slice pl l.length cl, .slice p2 l2.length c2, .string s] w fun e w' => e = .returned (.bool true) ∧ Below w.heap.size w w' := by
  obtain ⟨a0, a1⟩ := wf_i64 ua
  obtain ⟨b0, b1⟩ := wf_i64 wa
  exact stampForms_go at' ar bt br pl cl l p2 c2 l2 s w hst (by assumption) hpl hll hbs hp2 hl2 hss (laid_of_forms hL) a0 a1 b0 b1

end Go.Proofs.YtbggbpdkphhhdaaDoor
