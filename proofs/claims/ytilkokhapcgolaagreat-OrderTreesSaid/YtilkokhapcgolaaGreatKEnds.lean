/-
  MAY THERE BE KEYS BETWEEN TWO ENDS: the program's ends, the document's fine.
  No conditions but sizes.
-/
import Derived.Test.YtilkokhapcgolaaGreatKRefCmp
import Derived.WalkLawsBesides
namespace Go.Proofs.YtilkokhapcgolaaGreat
open Go.RowKit

/-- what is known of a text: it is empty, or it is not -/
theorem str_cases (a : ByteArray) : a = ByteArray.empty ∨ (a.toList.isEmpty = false ∧ a.data.toList ≠ []) := by
  by_cases h : a.data.toList = []
  · left
    have : a.data = #[] := by simpa using h
    rw [show a = ⟨a.data⟩ from rfl, this]
    rfl
  · right
    rw [ByteArray.toList_eq]
    exact ⟨by simpa using h, h⟩

theorem ends_none : Km.endsB ByteArray.empty.data.toList ByteArray.empty.data.toList = true := by
  rw [Km.endsB_iff]
  exact ⟨Or.inl rfl, Or.inl rfl, Or.inl rfl⟩
theorem ends_above (b : ByteArray) (h : b.data.toList ≠ []) : Km.endsB ByteArray.empty.data.toList b.data.toList = Km.rightB b.data.toList := by
  rw [Bool.eq_iff_iff, Km.endsB_iff]
  exact ⟨fun e => e.2.1.elim (fun x => absurd x h) id, fun e => ⟨Or.inl rfl, Or.inr e, Or.inl rfl⟩⟩
theorem ends_below (a : ByteArray) (h : a.data.toList ≠ []) : Km.endsB a.data.toList ByteArray.empty.data.toList = Km.rightB a.data.toList := by
  rw [Bool.eq_iff_iff, Km.endsB_iff]
  exact ⟨fun e => e.1.elim (fun x => absurd x h) id, fun e => ⟨Or.inr e, Or.inl rfl, Or.inr (Or.inl rfl)⟩⟩
theorem ends_both (a b : ByteArray) (h : a.data.toList ≠ []) (k : b.data.toList ≠ []) : Km.endsB a.data.toList b.data.toList = (Km.rightB a.data.toList && Km.rightB b.data.toList && Op.bytesLess a.toList b.toList) := by
  rw [Bool.eq_iff_iff, Km.endsB_iff, ByteArray.toList_eq, ByteArray.toList_eq]
  simp only [Bool.and_eq_true]
  constructor
  · rintro ⟨h1, h2, h3⟩
    refine ⟨⟨h1.elim (fun x => absurd x h) id, h2.elim (fun x => absurd x k) id⟩, ?_⟩
    rcases h3 with h3 | h3 | h3
    · exact absurd h3 h
    · exact absurd h3 k
    · exact h3
  · rintro ⟨⟨h1, h2⟩, h3⟩
    exact ⟨Or.inr h1, Or.inr h2, Or.inr (Or.inr h3)⟩

set_option maxHeartbeats 1000000 in
theorem ends_any (a b : ByteArray) (w : World) (ha : a.size ≤ 140737488355328) (hb : b.size ≤ 140737488355328) : Calls Tryz.prog 62 #[.string a, .string b] w fun e w' => e = .returned (.bool (Km.endsB a.data.toList b.data.toList)) ∧ w = w' := by
  have RA := kright_any a
  have RB := kright_any b
  rcases str_cases a with rfl | ⟨ea, na⟩
  · rcases str_cases b with rfl | ⟨eb, nb⟩
    · go_enter Tryz.func62, Tryz.ntmps62
      go_wp2
      go_ret
      exact ⟨ret_bool ends_none.symm, rfl⟩
    · have HE := Lib.hid (ends_above b nb)
      clear nb
      generalize Km.rightB b.data.toList = rb at *
      cases rb
      all_goals
        go_enter Tryz.func62, Tryz.ntmps62
        go_wp2_with fail
        refine (RB _ hb).mono ?_
        rintro e w' ⟨rfl, rfl⟩
        go_wp2
        go_ret
        exact ⟨ret_bool HE.out.symm, rfl⟩
  · rcases str_cases b with rfl | ⟨eb, nb⟩
    · have HE := Lib.hid (ends_below a na)
      clear na
      generalize Km.rightB a.data.toList = ra at *
      cases ra
      all_goals
        go_enter Tryz.func62, Tryz.ntmps62
        go_wp2_with fail
        refine (RA _ ha).mono ?_
        rintro e w' ⟨rfl, rfl⟩
        go_wp2
        go_ret
        exact ⟨ret_bool HE.out.symm, rfl⟩
    · have HE := Lib.hid (ends_both a b na nb)
      clear na nb
      generalize Km.rightB a.data.toList = ra at *
      generalize Km.rightB b.data.toList = rb at *
      cases ra
      · go_enter Tryz.func62, Tryz.ntmps62
        go_wp2_with fail
        refine (RA _ ha).mono ?_
        rintro e w' ⟨rfl, rfl⟩
        go_wp2
        go_ret
        exact ⟨ret_bool (by rw [HE.out]; rfl), rfl⟩
      · cases rb
        all_goals
          go_enter Tryz.func62, Tryz.ntmps62
          go_wp2_with fail
          refine (RA _ ha).mono ?_
          rintro e w' ⟨rfl, rfl⟩
          go_wp2_with fail
          refine (RB _ hb).mono ?_
          rintro e w' ⟨rfl, rfl⟩
          go_wp2
          go_ret
          exact ⟨ret_bool (by rw [HE.out]; rfl), rfl⟩

end Go.Proofs.YtilkokhapcgolaaGreat
