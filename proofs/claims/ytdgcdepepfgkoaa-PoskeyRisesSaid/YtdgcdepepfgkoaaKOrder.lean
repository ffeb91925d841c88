/-
  POSKEYORDER: the walk: keys stand as texts do.
  No conditions.
-/
import Derived.Test.YtdgcdepepfgkoaaKKnows
namespace Go.Proofs.Ytdgcdepepfgkoaa
open Go.RowKit

theorem cmp3 (a b : List UInt8) : Lib.compareBytes a b = -1 ∨ Lib.compareBytes a b = 0 ∨ Lib.compareBytes a b = 1 := by
  rw [Km.compare_less]
  repeat' split
  all_goals omega
theorem cmp_chain_lt (a b c : List UInt8) (h : Lib.compareBytes a b = -1) (k : Lib.compareBytes b c = -1) : Lib.compareBytes a c = -1 := by
  have h1 := (Km.cmp_less a b).1 (by omega)
  have h2 := (Km.cmp_less b c).1 (by omega)
  have h3 := (Km.cmp_less a c).2 (Km.less_trans a b c h1 h2)
  have := cmp3 a c
  omega
theorem cmp_chain_gt (a b c : List UInt8) (h : Lib.compareBytes a b = 1) (k : Lib.compareBytes b c = 1) : Lib.compareBytes a c = 1 := by
  have h1 := Km.cmp_neg a b
  have h2 := Km.cmp_neg b c
  have h3 := Km.cmp_neg a c
  have := cmp_chain_lt c b a (by omega) (by omega)
  omega
/-- what Compare answers, of two texts -/
theorem cmp_cases (a b : ByteArray) : (Lib.compareBytes a.data.toList b.data.toList = -1 ∧ Lib.compareBytes b.data.toList a.data.toList = 1 ∧ Op.bytesLess a.toList b.toList = true ∧ (a.toList == b.toList) = false) ∨
    (Lib.compareBytes a.data.toList b.data.toList = 0 ∧ Lib.compareBytes b.data.toList a.data.toList = 0 ∧ Op.bytesLess a.toList b.toList = false ∧ (a.toList == b.toList) = true) ∨
    (Lib.compareBytes a.data.toList b.data.toList = 1 ∧ Lib.compareBytes b.data.toList a.data.toList = -1 ∧ Op.bytesLess a.toList b.toList = false ∧ (a.toList == b.toList) = false) := by
  rw [ByteArray.toList_eq, ByteArray.toList_eq]
  have h1 := Km.cmp_neg a.data.toList b.data.toList
  have h2 := Km.cmp_less a.data.toList b.data.toList
  have h3 := Km.cmp_zero a.data.toList b.data.toList
  have hf : ∀ x : Bool, ¬ x = true → x = false := fun x h => by simpa using h
  rcases cmp3 a.data.toList b.data.toList with h | h | h
  · exact Or.inl ⟨h, by omega, h2.1 (by omega), beq_eq_false_iff_ne.2 fun e => by have := h3.2 e; omega⟩
  · exact Or.inr (Or.inl ⟨h, by omega, hf _ fun e => by have := h2.2 e; omega, beq_iff_eq.2 (h3.1 h)⟩)
  · exact Or.inr (Or.inr ⟨h, by omega, hf _ fun e => by have := h2.2 e; omega, beq_eq_false_iff_ne.2 fun e => by have := h3.2 e; omega⟩)

set_option maxRecDepth 100000 in
set_option maxHeartbeats 8000000 in
theorem poskeyOrder_walk (a b c : ByteArray) (w : World) (_ : a.size ≤ 140737488351232) (_ : b.size ≤ 140737488351232) (_ : c.size ≤ 140737488351232) :
    Calls Try.prog 8 #[.string a, .string b, .string c] w fun e w' => e = .returned (.bool true) ∧ Below w.heap.size w w' := by
  have X := compare_any a b
  have Y := compare_any b c
  have Z := compare_any a c
  have N := compare_any b a
  have C1 := Lib.hid (cmp_chain_lt a.data.toList b.data.toList c.data.toList)
  have C2 := Lib.hid (cmp_chain_gt a.data.toList b.data.toList c.data.toList)
  have CY := Lib.hid (cmp3 b.data.toList c.data.toList)
  rcases cmp_cases a b with ⟨x1, x2, x3, x4⟩ | ⟨x1, x2, x3, x4⟩ | ⟨x1, x2, x3, x4⟩
  all_goals
    rw [x1] at X C1 C2
    rw [x2] at N
    have HX := Lib.hid X
    have HN := Lib.hid N
    clear X N x1 x2
    generalize Lib.compareBytes b.data.toList c.data.toList = y at *
    generalize Lib.compareBytes a.data.toList c.data.toList = z at *
    have HZ := Lib.hid Z
    clear Z
    rcases CY.out with rfl | rfl | rfl
    all_goals
      have HY := Lib.hid Y
      clear Y
      first
      | (obtain rfl := C1.out rfl rfl)
      | (obtain rfl := C2.out rfl rfl)
      | skip
      all_goals
        go_enter Try.func8, Try.ntmps8
        go_wp2_with fail
        refine (HX.out _).mono ?_
        rintro e w' ⟨rfl, rfl⟩
        go_wp2_with fail
        refine (HY.out _).mono ?_
        rintro e w' ⟨rfl, rfl⟩
        go_wp2_with fail
        refine (HZ.out _).mono ?_
        rintro e w' ⟨rfl, rfl⟩
        go_wp2_with fail
        refine (HN.out _).mono ?_
        rintro e w' ⟨rfl, rfl⟩
        go_wp2_with fail
        refine (knows_any _).mono ?_
        rintro e w' ⟨rfl, hb⟩
        have HB := Lib.hid hb
        clear hb
        go_wp2
        go_ret
        exact ⟨rfl, HB.out⟩

end Go.Proofs.Ytdgcdepepfgkoaa
