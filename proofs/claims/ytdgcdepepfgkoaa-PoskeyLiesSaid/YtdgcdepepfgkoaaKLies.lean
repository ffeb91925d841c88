/-
  POSKEYLIES: the walk: a key between stands between, and may be; of any two keys that may be, in order, with room, there is one.
  No conditions.
-/
import Derived.Test.YtdgcdepepfgkoaaKOrder
namespace Go.Proofs.Ytdgcdepepfgkoaa
open Go.RowKit

theorem cmp_of_less {a b : ByteArray} (h : Op.bytesLess a.data.toList b.data.toList = true) : Lib.compareBytes a.data.toList b.data.toList = -1 := by
  have h1 := (Km.cmp_less a.data.toList b.data.toList).2 h
  have := cmp3 a.data.toList b.data.toList
  omega
/-- what Between answers, where there may be keys between -/
theorem between_fine (a b : ByteArray) (he : Km.endsB a.data.toList b.data.toList = true) :
    ((∀ w, Calls Try.prog 9 #[.string a, .string b] w fun e w' => e = .returned (.tuple #[.string ⟨#[]⟩, .int .i64 32]) ∧ Below w.heap.size w w') ∧ 24 ≤ max a.size b.size) ∨
    ∃ K : ByteArray, (∀ w, Calls Try.prog 9 #[.string a, .string b] w fun e w' => e = .returned (.tuple #[.string K, .int .i64 0]) ∧ Below w.heap.size w w') ∧ K.size ≤ 24 ∧ K.data.toList = (Km.betwIn a.data.toList b.data.toList).1 ∧
      (∀ w, Calls Try.prog 12 #[.string K] w fun e w' => e = .returned (.bool true) ∧ w = w') ∧ Km.rightB K.data.toList = true ∧
      Op.bytesLess a.data.toList K.data.toList = true ∧ (b.data.toList = [] ∨ Op.bytesLess K.data.toList b.data.toList = true) := by
  obtain ⟨ha, hb⟩ := ends_sizes he
  have hB := fun w => between_in a b w ha hb he
  by_cases h0 : (Km.betwIn a.data.toList b.data.toList).2 = 0
  · right
    obtain ⟨l1, l2, l3, l4⟩ := Km.betw_lies he h0
    refine ⟨strB (Km.betwIn a.data.toList b.data.toList).1, fun w => by have h := hB w; rw [h0] at h; exact h, ?_, strB_toList _, fun w => ?_, by rw [strB_toList]; exact l1, by rw [strB_toList]; exact l2, by rw [strB_toList]; exact l3⟩
    · rw [← size_list, strB_toList]; exact l4
    · have h := right_any (strB (Km.betwIn a.data.toList b.data.toList).1) w (by rw [← size_list, strB_toList]; omega)
      rw [strB_toList, l1] at h
      exact h
  · left
    have h1 : Km.betwIn a.data.toList b.data.toList = ([], 32) := (Km.betw_err _ _).elim (fun h => absurd h h0) id
    refine ⟨fun w => by have h := hB w; rw [h1] at h; exact h, ?_⟩
    apply Classical.byContradiction
    intro hn
    exact h0 (Km.betw_room he (by rw [size_list, size_list]; omega)).1
theorem between_bad (a b : ByteArray) (ha : a.size ≤ 140737488355328) (hb : b.size ≤ 140737488355328) (he : Km.endsB a.data.toList b.data.toList = false) (w : World) :
    Calls Try.prog 9 #[.string a, .string b] w fun e w' => e = .returned (.tuple #[.string ⟨#[]⟩, .int .i64 1]) ∧ Below w.heap.size w w' := by
  have h := between_any a b w ha hb
  rw [show Km.betw a.data.toList b.data.toList = ([], 1) from if_neg (by rw [he]; simp)] at h
  exact h

set_option maxRecDepth 100000 in
set_option maxHeartbeats 8000000 in
theorem lies_00 (w : World) :
    Calls Try.prog 5 #[.string ByteArray.empty, .string ByteArray.empty] w fun e w' => e = .returned (.bool true) ∧ Below w.heap.size w w' := by
  have he := ends_none
  rcases between_fine ByteArray.empty ByteArray.empty he with ⟨hbt, hm⟩ | ⟨K, hbt, hKs, -, hKr, -, hK1, hK2⟩
  · exact absurd hm (by decide)
  · have HBT := Lib.hid hbt
    have HKR := Lib.hid hKr
    have l1 : Op.bytesLess [] K.toList = true := by rw [ByteArray.toList_eq]; exact hK1
    clear hbt he hKr hK1 hK2
    go_enter Try.func5, Try.ntmps5
    go_wp2_with fail
    refine (HBT.out _).mono ?_
    rintro e w1 ⟨rfl, hb1⟩
    have B1 := Lib.hid hb1
    clear hb1
    go_wp2_with fail
    refine (num_any _ _).mono ?_
    rintro e w' ⟨rfl, rfl⟩
    go_wp2_with fail
    refine (HKR.out _).mono ?_
    rintro e w' ⟨rfl, rfl⟩
    go_wp2_with fail
    refine (knows_any _).mono ?_
    rintro e w2 ⟨rfl, hb2⟩
    have B2 := Lib.hid hb2
    clear hb2
    go_wp2
    go_ret
    exact ⟨rfl, B1.out.trans (B2.out.mono B1.out.size)⟩

set_option maxRecDepth 100000 in
set_option maxHeartbeats 8000000 in
theorem lies_01 (b : ByteArray) (w : World) (hb : b.size ≤ 140737488351232) (eb : b.toList.isEmpty = false) (nb : b.data.toList ≠ [])  :
    Calls Try.prog 5 #[.string ByteArray.empty, .string b] w fun e w' => e = .returned (.bool true) ∧ Below w.heap.size w w' := by
  have he := ends_above b nb
  have RB := right_any b
  generalize Km.rightB b.data.toList = rb at *
  have HR := Lib.hid RB
  clear RB
  cases rb
  · clear nb
    have HBT := Lib.hid (between_bad ByteArray.empty b (by first | decide | omega) (by first | decide | omega) he)
    clear he
    go_enter Try.func5, Try.ntmps5
    go_wp2_with fail
    refine (HBT.out _).mono ?_
    rintro e w1 ⟨rfl, hb1⟩
    have B1 := Lib.hid hb1
    clear hb1
    go_wp2_with fail
    refine (HR.out _ (by omega)).mono ?_
    rintro e w' ⟨rfl, rfl⟩
    go_wp2_with fail
    refine (num_any _ _).mono ?_
    rintro e w' ⟨rfl, rfl⟩
    go_wp2_with fail
    refine (knows_any _).mono ?_
    rintro e w2 ⟨rfl, hb2⟩
    have B2 := Lib.hid hb2
    clear hb2
    go_wp2
    go_ret
    exact ⟨rfl, B1.out.trans (B2.out.mono B1.out.size)⟩
  · skip
    rcases between_fine ByteArray.empty b he with ⟨hbt, hm⟩ | ⟨K, hbt, hKs, -, hKr, -, hK1, hK2⟩
    · have HBT := Lib.hid hbt
      have hm2 : (24 : Int) ≤ (b.size : Int) := by rw [show ByteArray.empty.size = 0 from rfl] at hm; omega
      clear hbt he hm
      go_enter Try.func5, Try.ntmps5
      go_wp2_with fail
      refine (HBT.out _).mono ?_
      rintro e w1 ⟨rfl, hb1⟩
      have B1 := Lib.hid hb1
      clear hb1
      go_wp2_with fail
      refine (HR.out _ (by omega)).mono ?_
      rintro e w' ⟨rfl, rfl⟩
      go_wp2_with fail
      refine (num_any _ _).mono ?_
      rintro e w' ⟨rfl, rfl⟩
      go_wp2_with fail
      refine (num_any _ _).mono ?_
      rintro e w' ⟨rfl, rfl⟩
      go_wp2_with fail
      refine (knows_any _).mono ?_
      rintro e w2 ⟨rfl, hb2⟩
      have B2 := Lib.hid hb2
      clear hb2
      go_wp2
      go_ret
      exact ⟨rfl, B1.out.trans (B2.out.mono B1.out.size)⟩
    · have HBT := Lib.hid hbt
      have HKR := Lib.hid hKr
      have l1 : Op.bytesLess [] K.toList = true := by rw [ByteArray.toList_eq]; exact hK1
      have hK3 := hK2.elim (fun h => absurd h nb) id
      have l2 : Op.bytesLess K.toList b.toList = true := by rw [ByteArray.toList_eq, ByteArray.toList_eq]; exact hK3
      have HC2 := Lib.hid (fun w => by have h := compare_any K b w; rw [cmp_of_less hK3] at h; exact h)
      clear hK3
      clear hbt he hKr hK1 hK2
      clear nb
      go_enter Try.func5, Try.ntmps5
      go_wp2_with fail
      refine (HBT.out _).mono ?_
      rintro e w1 ⟨rfl, hb1⟩
      have B1 := Lib.hid hb1
      clear hb1
      go_wp2_with fail
      refine (HR.out _ (by omega)).mono ?_
      rintro e w' ⟨rfl, rfl⟩
      go_wp2_with fail
      refine (num_any _ _).mono ?_
      rintro e w' ⟨rfl, rfl⟩
      go_wp2_with fail
      refine (HKR.out _).mono ?_
      rintro e w' ⟨rfl, rfl⟩
      go_wp2_with fail
      refine (HC2.out _).mono ?_
      rintro e w' ⟨rfl, rfl⟩
      go_wp2_with fail
      refine (knows_any _).mono ?_
      rintro e w2 ⟨rfl, hb2⟩
      have B2 := Lib.hid hb2
      clear hb2
      go_wp2
      go_ret
      exact ⟨rfl, B1.out.trans (B2.out.mono B1.out.size)⟩

set_option maxRecDepth 100000 in
set_option maxHeartbeats 8000000 in
theorem lies_10 (a : ByteArray) (w : World) (ha : a.size ≤ 140737488351232) (ea : a.toList.isEmpty = false) (na : a.data.toList ≠ [])  :
    Calls Try.prog 5 #[.string a, .string ByteArray.empty] w fun e w' => e = .returned (.bool true) ∧ Below w.heap.size w w' := by
  have he := ends_below a na
  have RA := right_any a
  generalize Km.rightB a.data.toList = ra at *
  have HR := Lib.hid RA
  clear RA na
  cases ra
  · skip
    have HBT := Lib.hid (between_bad a ByteArray.empty (by first | decide | omega) (by first | decide | omega) he)
    clear he
    go_enter Try.func5, Try.ntmps5
    go_wp2_with fail
    refine (HBT.out _).mono ?_
    rintro e w1 ⟨rfl, hb1⟩
    have B1 := Lib.hid hb1
    clear hb1
    go_wp2_with fail
    refine (HR.out _ (by omega)).mono ?_
    rintro e w' ⟨rfl, rfl⟩
    go_wp2_with fail
    refine (num_any _ _).mono ?_
    rintro e w' ⟨rfl, rfl⟩
    go_wp2_with fail
    refine (knows_any _).mono ?_
    rintro e w2 ⟨rfl, hb2⟩
    have B2 := Lib.hid hb2
    clear hb2
    go_wp2
    go_ret
    exact ⟨rfl, B1.out.trans (B2.out.mono B1.out.size)⟩
  · skip
    rcases between_fine a ByteArray.empty he with ⟨hbt, hm⟩ | ⟨K, hbt, hKs, -, hKr, -, hK1, hK2⟩
    · have HBT := Lib.hid hbt
      have hm2 : (24 : Int) ≤ (a.size : Int) := by rw [show ByteArray.empty.size = 0 from rfl] at hm; omega
      clear hbt he hm
      go_enter Try.func5, Try.ntmps5
      go_wp2_with fail
      refine (HBT.out _).mono ?_
      rintro e w1 ⟨rfl, hb1⟩
      have B1 := Lib.hid hb1
      clear hb1
      go_wp2_with fail
      refine (HR.out _ (by omega)).mono ?_
      rintro e w' ⟨rfl, rfl⟩
      go_wp2_with fail
      refine (num_any _ _).mono ?_
      rintro e w' ⟨rfl, rfl⟩
      go_wp2_with fail
      refine (num_any _ _).mono ?_
      rintro e w' ⟨rfl, rfl⟩
      go_wp2_with fail
      refine (knows_any _).mono ?_
      rintro e w2 ⟨rfl, hb2⟩
      have B2 := Lib.hid hb2
      clear hb2
      go_wp2
      go_ret
      exact ⟨rfl, B1.out.trans (B2.out.mono B1.out.size)⟩
    · have HBT := Lib.hid hbt
      have HKR := Lib.hid hKr
      have l1 : Op.bytesLess a.toList K.toList = true := by rw [ByteArray.toList_eq, ByteArray.toList_eq]; exact hK1
      have HC1 := Lib.hid (fun w => by have h := compare_any a K w; rw [cmp_of_less hK1] at h; exact h)
      clear hbt he hKr hK1 hK2
      go_enter Try.func5, Try.ntmps5
      go_wp2_with fail
      refine (HBT.out _).mono ?_
      rintro e w1 ⟨rfl, hb1⟩
      have B1 := Lib.hid hb1
      clear hb1
      go_wp2_with fail
      refine (HR.out _ (by omega)).mono ?_
      rintro e w' ⟨rfl, rfl⟩
      go_wp2_with fail
      refine (num_any _ _).mono ?_
      rintro e w' ⟨rfl, rfl⟩
      go_wp2_with fail
      refine (HKR.out _).mono ?_
      rintro e w' ⟨rfl, rfl⟩
      go_wp2_with fail
      refine (HC1.out _).mono ?_
      rintro e w' ⟨rfl, rfl⟩
      go_wp2_with fail
      refine (knows_any _).mono ?_
      rintro e w2 ⟨rfl, hb2⟩
      have B2 := Lib.hid hb2
      clear hb2
      go_wp2
      go_ret
      exact ⟨rfl, B1.out.trans (B2.out.mono B1.out.size)⟩

set_option maxRecDepth 100000 in
set_option maxHeartbeats 8000000 in
theorem lies_11 (a b : ByteArray) (w : World) (ha : a.size ≤ 140737488351232) (hb : b.size ≤ 140737488351232) (ea : a.toList.isEmpty = false) (na : a.data.toList ≠ []) (eb : b.toList.isEmpty = false) (nb : b.data.toList ≠ [])  :
    Calls Try.prog 5 #[.string a, .string b] w fun e w' => e = .returned (.bool true) ∧ Below w.heap.size w w' := by
  have he := ends_both a b na nb
  have RA := right_any a
  have RB := right_any b
  generalize Km.rightB a.data.toList = ra at *
  generalize Km.rightB b.data.toList = rb at *
  generalize hlt : Op.bytesLess a.toList b.toList = lt at *
  have HR := Lib.hid RA
  have HS := Lib.hid RB
  clear RA RB na
  cases ra
  · have he : Km.endsB a.data.toList b.data.toList = false := he
    clear nb
    have HBT := Lib.hid (between_bad a b (by first | decide | omega) (by first | decide | omega) he)
    clear he
    go_enter Try.func5, Try.ntmps5
    go_wp2_with fail
    refine (HBT.out _).mono ?_
    rintro e w1 ⟨rfl, hb1⟩
    have B1 := Lib.hid hb1
    clear hb1
    go_wp2_with fail
    refine (HR.out _ (by omega)).mono ?_
    rintro e w' ⟨rfl, rfl⟩
    go_wp2_with fail
    refine (num_any _ _).mono ?_
    rintro e w' ⟨rfl, rfl⟩
    go_wp2_with fail
    refine (knows_any _).mono ?_
    rintro e w2 ⟨rfl, hb2⟩
    have B2 := Lib.hid hb2
    clear hb2
    go_wp2
    go_ret
    exact ⟨rfl, B1.out.trans (B2.out.mono B1.out.size)⟩
  · cases rb
    · have he : Km.endsB a.data.toList b.data.toList = false := he
      clear nb
      have HBT := Lib.hid (between_bad a b (by first | decide | omega) (by first | decide | omega) he)
      clear he
      go_enter Try.func5, Try.ntmps5
      go_wp2_with fail
      refine (HBT.out _).mono ?_
      rintro e w1 ⟨rfl, hb1⟩
      have B1 := Lib.hid hb1
      clear hb1
      go_wp2_with fail
      refine (HR.out _ (by omega)).mono ?_
      rintro e w' ⟨rfl, rfl⟩
      go_wp2_with fail
      refine (HS.out _ (by omega)).mono ?_
      rintro e w' ⟨rfl, rfl⟩
      go_wp2_with fail
      refine (num_any _ _).mono ?_
      rintro e w' ⟨rfl, rfl⟩
      go_wp2_with fail
      refine (knows_any _).mono ?_
      rintro e w2 ⟨rfl, hb2⟩
      have B2 := Lib.hid hb2
      clear hb2
      go_wp2
      go_ret
      exact ⟨rfl, B1.out.trans (B2.out.mono B1.out.size)⟩
    · cases lt
      · have he : Km.endsB a.data.toList b.data.toList = false := he
        clear nb
        have HBT := Lib.hid (between_bad a b (by first | decide | omega) (by first | decide | omega) he)
        clear he
        go_enter Try.func5, Try.ntmps5
        go_wp2_with fail
        refine (HBT.out _).mono ?_
        rintro e w1 ⟨rfl, hb1⟩
        have B1 := Lib.hid hb1
        clear hb1
        go_wp2_with fail
        refine (HR.out _ (by omega)).mono ?_
        rintro e w' ⟨rfl, rfl⟩
        go_wp2_with fail
        refine (HS.out _ (by omega)).mono ?_
        rintro e w' ⟨rfl, rfl⟩
        go_wp2_with fail
        refine (num_any _ _).mono ?_
        rintro e w' ⟨rfl, rfl⟩
        go_wp2_with fail
        refine (knows_any _).mono ?_
        rintro e w2 ⟨rfl, hb2⟩
        have B2 := Lib.hid hb2
        clear hb2
        go_wp2
        go_ret
        exact ⟨rfl, B1.out.trans (B2.out.mono B1.out.size)⟩
      · have he : Km.endsB a.data.toList b.data.toList = true := he
        rcases between_fine a b he with ⟨hbt, hm⟩ | ⟨K, hbt, hKs, -, hKr, -, hK1, hK2⟩
        · have HBT := Lib.hid hbt
          have hm2 : (24 : Int) ≤ max (a.size : Int) (b.size : Int) := by omega
          clear hbt he hm
          go_enter Try.func5, Try.ntmps5
          go_wp2_with fail
          refine (HBT.out _).mono ?_
          rintro e w1 ⟨rfl, hb1⟩
          have B1 := Lib.hid hb1
          clear hb1
          go_wp2_with fail
          refine (HR.out _ (by omega)).mono ?_
          rintro e w' ⟨rfl, rfl⟩
          go_wp2_with fail
          refine (HS.out _ (by omega)).mono ?_
          rintro e w' ⟨rfl, rfl⟩
          go_wp2_with fail
          refine (num_any _ _).mono ?_
          rintro e w' ⟨rfl, rfl⟩
          go_wp2_with fail
          refine (num_any _ _).mono ?_
          rintro e w' ⟨rfl, rfl⟩
          go_wp2_with fail
          refine (knows_any _).mono ?_
          rintro e w2 ⟨rfl, hb2⟩
          have B2 := Lib.hid hb2
          clear hb2
          go_wp2
          go_ret
          exact ⟨rfl, B1.out.trans (B2.out.mono B1.out.size)⟩
        · have HBT := Lib.hid hbt
          have HKR := Lib.hid hKr
          have l1 : Op.bytesLess a.toList K.toList = true := by rw [ByteArray.toList_eq, ByteArray.toList_eq]; exact hK1
          have HC1 := Lib.hid (fun w => by have h := compare_any a K w; rw [cmp_of_less hK1] at h; exact h)
          have hK3 := hK2.elim (fun h => absurd h nb) id
          have l2 : Op.bytesLess K.toList b.toList = true := by rw [ByteArray.toList_eq, ByteArray.toList_eq]; exact hK3
          have HC2 := Lib.hid (fun w => by have h := compare_any K b w; rw [cmp_of_less hK3] at h; exact h)
          clear hK3
          clear hbt he hKr hK1 hK2
          clear nb
          go_enter Try.func5, Try.ntmps5
          go_wp2_with fail
          refine (HBT.out _).mono ?_
          rintro e w1 ⟨rfl, hb1⟩
          have B1 := Lib.hid hb1
          clear hb1
          go_wp2_with fail
          refine (HR.out _ (by omega)).mono ?_
          rintro e w' ⟨rfl, rfl⟩
          go_wp2_with fail
          refine (HS.out _ (by omega)).mono ?_
          rintro e w' ⟨rfl, rfl⟩
          go_wp2_with fail
          refine (num_any _ _).mono ?_
          rintro e w' ⟨rfl, rfl⟩
          go_wp2_with fail
          refine (HKR.out _).mono ?_
          rintro e w' ⟨rfl, rfl⟩
          go_wp2_with fail
          refine (HC1.out _).mono ?_
          rintro e w' ⟨rfl, rfl⟩
          go_wp2_with fail
          refine (HC2.out _).mono ?_
          rintro e w' ⟨rfl, rfl⟩
          go_wp2_with fail
          refine (knows_any _).mono ?_
          rintro e w2 ⟨rfl, hb2⟩
          have B2 := Lib.hid hb2
          clear hb2
          go_wp2
          go_ret
          exact ⟨rfl, B1.out.trans (B2.out.mono B1.out.size)⟩

theorem poskeyLies_walk (a b : ByteArray) (w : World) (ha : a.size ≤ 140737488351232) (hb : b.size ≤ 140737488351232) :
    Calls Try.prog 5 #[.string a, .string b] w fun e w' => e = .returned (.bool true) ∧ Below w.heap.size w w' := by
  rcases str_cases a with rfl | ⟨ea, na⟩
  · rcases str_cases b with rfl | ⟨eb, nb⟩
    · exact lies_00 w
    · exact lies_01 b w hb eb nb
  · rcases str_cases b with rfl | ⟨eb, nb⟩
    · exact lies_10 a w ha ea na
    · exact lies_11 a b w ha hb ea na eb nb

end Go.Proofs.Ytdgcdepepfgkoaa
