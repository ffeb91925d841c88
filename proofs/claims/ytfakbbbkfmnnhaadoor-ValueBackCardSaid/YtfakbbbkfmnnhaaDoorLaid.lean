/-
  FROM THE ROWS' LIST OF VARIABLES TO WHAT THE WALKS ASK.
  No conditions.
-/
import Derived.Test.YtfakbbbkfmnnhaaDoorLaidB
import Derived.LaidLaws
import Derived.Stop.LaidErr
import Derived.Lib.LaidTab
import Derived.LaidHandle
import Derived.MakeChecks
namespace Go.Proofs.YtfakbbbkfmnnhaaDoor
open Go.RowKit Go.ChangeShapes

theorem powData : (Rows.laid_internal_strconv_uint64pow10 : DataW Unit) = Lib.tabData .u64 Lib.pow10Tab := by kernel_rfl
theorem typePow : (Tryd.prog.globals[2]?).map (·.type) = some 105 := by kernel_rfl
theorem typeSyn : (Tryd.prog.globals[0]?).map (·.type) = some 74 := by kernel_rfl
theorem typeRan : (Tryd.prog.globals[1]?).map (·.type) = some 74 := by kernel_rfl
theorem cellsPow : Tryd.prog.cellsOf 105 = 20 := by kernel_rfl
theorem cellsU64 : Tryd.prog.cellsOf 47 = 1 := by kernel_rfl
theorem cellsES : Tryd.prog.cellsOf 111 = 1 := by kernel_rfl
theorem cellsStr : Tryd.prog.cellsOf 9 = 1 := by kernel_rfl
theorem starES : "*" ++ "errors.errorString" = "*errors.errorString" := by decide
theorem rowES (u : TypeId) (h : Tryd.prog.typeName? 3 u = some "*errors.errorString") : u = 109 :=
  typeName_ptr_named (nm := "errors.errorString") (by rw [starES]; kernel_rfl) (by kernel_rfl) (by decide) u (by rw [starES]; exact h)

theorem laid_of_list {W : World} {r : List (String × DataW Unit)} (h : laidMet Tryd.prog (("math/bits.deBruijn32tab", Rows.laid_math_bits_deBruijn32tab) :: ("math/bits.deBruijn64tab", Rows.laid_math_bits_deBruijn64tab) :: ("internal/strconv.uint64pow10", Rows.laid_internal_strconv_uint64pow10) :: ("strconv.ErrRange", Rows.laid_strconv_ErrRange) :: ("strconv.ErrSyntax", Rows.laid_strconv_ErrSyntax) :: r) W) : Laid W := by
  have h2 := h.tail.tail
  have h3 := h2.tail
  rw [powData] at h2
  obtain ⟨a0, s0, hv0, -, -, -⟩ := laid_sentinel h3 gRan typeRan Tryd.underlying74 rowES Tryd.underlying109 Tryd.underlying111 rfl rfl Tryd.underlying9 cellsES cellsStr
  obtain ⟨a1, s1, hv1, -, -, -⟩ := laid_sentinel h3.tail gSyn typeSyn Tryd.underlying74 rowES Tryd.underlying109 Tryd.underlying111 rfl rfl Tryd.underlying9 cellsES cellsStr
  exact ⟨Lib.tabIs_of_head gPow typePow Tryd.underlying105 Tryd.underlying47 cellsU64 cellsPow h2, ⟨_, _, hv1⟩, _, _, hv0⟩

end Go.Proofs.YtfakbbbkfmnnhaaDoor
