/-
  POSKEYDENSE: the walk: between a key and what was put behind it again and again there is room for twenty more.
  No conditions.
-/
import Derived.Test.YtdgcdepepfgkoaaKLies
namespace Go.Proofs.Ytdgcdepepfgkoaa
open Go.RowKit

/-- after k keys: the ends may be, and have at most 4 + k bytes -/
def DenseAt (x y : ByteArray) (k : Nat) : Prop := Km.endsB x.data.toList y.data.toList = true ∧ x.size ≤ 4 + k ∧ y.size ≤ 4 + k

theorem dense_step {x y : ByteArray} {k : Nat} (h : DenseAt x y k) (hk : k < 20) :
    ∃ K : ByteArray, (∀ w, Calls Try.prog 9 #[.string x, .string y] w fun e w' => e = .returned (.tuple #[.string K, .int .i64 0]) ∧ Below w.heap.size w w') ∧
      DenseAt K y (k + 1) ∧ DenseAt x K (k + 1) ∧ (Op.bytesLess K.toList x.toList = false ∧ (K.toList == x.toList) = false) ∧ (y.data.toList ≠ [] → Op.bytesLess K.toList y.toList = true) := by
  obtain ⟨he, hx, hy⟩ := h
  obtain ⟨ha, hb⟩ := ends_sizes he
  have hB := fun w => between_in x y w ha hb he
  obtain ⟨h0, hlen⟩ := Km.betw_room he (by rw [size_list, size_list]; omega)
  obtain ⟨l1, l2, l3, -⟩ := Km.betw_lies he h0
  rw [size_list, size_list] at hlen
  have hs : (strB (Km.betwIn x.data.toList y.data.toList).1).size ≤ max x.size y.size + 1 := by rw [← size_list, strB_toList]; exact hlen
  refine ⟨strB (Km.betwIn x.data.toList y.data.toList).1, fun w => by have h := hB w; rw [h0] at h; exact h, ⟨?_, by omega, by omega⟩, ⟨?_, by omega, by omega⟩, ⟨?_, ?_⟩, ?_⟩
  · rw [strB_toList]; exact Km.ends_right he l1 l3
  · rw [strB_toList]; exact Km.ends_left he l1 l2
  · rw [ByteArray.toList_eq, ByteArray.toList_eq, strB_toList]; exact Km.less_asymm _ _ l2
  · rw [ByteArray.toList_eq, ByteArray.toList_eq, strB_toList, beq_eq_false_iff_ne]
    intro e
    rw [e, Km.less_irrefl] at l2
    cases l2
  · intro hne
    rw [ByteArray.toList_eq, ByteArray.toList_eq, strB_toList]
    exact l3.elim (fun h => absurd h hne) id

set_option maxRecDepth 100000 in
set_option maxHeartbeats 8000000 in
theorem poskeyDense_walk (a : ByteArray) (n : Int) (w : World) (ha : a.size ≤ 140737488351232) (_ : (Lit.int .i64 n).wf = true) :
    Calls Try.prog 7 #[.string a, .int .i64 n] w fun e w' => e = .returned (.bool true) ∧ Below w.heap.size w w' := by
  have HR := right_any a
  cases hr : Km.rightB a.data.toList
  · rw [hr] at HR
    have HRR := Lib.hid HR
    clear HR hr
    go_enter Try.func7, Try.ntmps7
    go_wp2_with fail
    refine (HRR.out _ (by omega)).mono ?_
    rintro e w' ⟨rfl, rfl⟩
    go_wp2_with fail
    refine (knows_any _).mono ?_
    rintro e w2 ⟨rfl, hb2⟩
    have B2 := Lib.hid hb2
    clear hb2
    go_wp2
    go_ret
    exact ⟨rfl, B2.out⟩
  · rw [hr] at HR
    have HRR := Lib.hid HR
    by_cases h4 : a.size ≤ 4
    · have HD := Lib.hid (show DenseAt a ⟨#[]⟩ 0 from ⟨(Km.endsB_iff _ _).2 ⟨Or.inr hr, Or.inl rfl, Or.inr (Or.inl rfl)⟩, by omega, by decide⟩)
      clear HR hr
      go_enter Try.func7, Try.ntmps7
      go_wp2_with fail
      refine (HRR.out _ (by omega)).mono ?_
      rintro e w' ⟨rfl, rfl⟩
      go_wp2
      go_loopw [5, 6, 7] (fun x y i wr => ∃ (X Y : ByteArray) (k : Nat), k ≤ 20 ∧ x = .string X ∧ y = .string Y ∧ i = .int .i64 k ∧ DenseAt X Y k ∧ Below w.heap.size w wr) (fun _ _ i _ => 20 - (intOf i).toNat)
      case atStart => exact ⟨_, _, 0, by omega, rfl, rfl, rfl, HD.out, Below.refl _ _⟩
      case round =>
        obtain ⟨X, Y, k, hk, rfl, rfl, rfl, hd, hb⟩ := hrel
        have B0 := Lib.hid hb
        clear hb
        by_cases hlt : k < 20
        · obtain ⟨K, hB, d1, d2, ⟨l1, l2⟩, l3⟩ := dense_step hd hlt
          have HB := Lib.hid hB
          have D1 := Lib.hid d1
          have D2 := Lib.hid d2
          clear hd hB d1 d2
          rcases str_cases Y with rfl | ⟨ey, ny⟩
          · clear l3
            go_wp2_with fail
            refine (HB.out _).mono ?_
            rintro e w1 ⟨rfl, hb1⟩
            have B1 := Lib.hid (B0.out.trans (hb1.mono B0.out.size))
            clear hb1
            go_wp2_with fail
            refine (num_any _ _).mono ?_
            rintro e w' ⟨rfl, rfl⟩
            go_wp2
            · go_roundw
              case rel => exact ⟨K, _, k + 1, by omega, rfl, rfl, by go_num, D1.out, B1.out⟩
              case measure => simp [intOf]; omega
            · go_roundw
              case rel => exact ⟨X, K, k + 1, by omega, rfl, rfl, by go_num, D2.out, B1.out⟩
              case measure => simp [intOf]; omega
          · have l4 := l3 ny
            clear l3 ny
            go_wp2_with fail
            refine (HB.out _).mono ?_
            rintro e w1 ⟨rfl, hb1⟩
            have B1 := Lib.hid (B0.out.trans (hb1.mono B0.out.size))
            clear hb1
            go_wp2_with fail
            refine (num_any _ _).mono ?_
            rintro e w' ⟨rfl, rfl⟩
            go_wp2
            · go_roundw
              case rel => exact ⟨K, Y, k + 1, by omega, rfl, rfl, by go_num, D1.out, B1.out⟩
              case measure => simp [intOf]; omega
            · go_roundw
              case rel => exact ⟨X, K, k + 1, by omega, rfl, rfl, by go_num, D2.out, B1.out⟩
              case measure => simp [intOf]; omega
        · go_wp2_with fail
          refine (knows_any _).mono ?_
          rintro e w2 ⟨rfl, hb2⟩
          have B2 := Lib.hid (B0.out.trans (hb2.mono B0.out.size))
          clear hb2
          go_wp2
          go_ret
          exact ⟨rfl, B2.out⟩
    · clear HR hr
      go_enter Try.func7, Try.ntmps7
      go_wp2_with fail
      refine (HRR.out _ (by omega)).mono ?_
      rintro e w' ⟨rfl, rfl⟩
      go_wp2_with fail
      refine (knows_any _).mono ?_
      rintro e w2 ⟨rfl, hb2⟩
      have B2 := Lib.hid hb2
      clear hb2
      go_wp2
      go_ret
      exact ⟨rfl, B2.out⟩

end Go.Proofs.Ytdgcdepepfgkoaa
