/-
  THE PROGRAM's Between.
  No conditions but sizes.
-/
import Derived.Test.YtilkokhapcgolaaGreatKEnds
import Derived.Test.YtilkokhapcgolaaGreatTail
import Derived.Lib.SmallJoins
import Derived.Lib.Split
namespace Go.Proofs.YtilkokhapcgolaaGreat
open Go.RowKit

theorem repeat_zero : ∀ c, Lib.repeatL [0] c = List.replicate c 0
  | 0 => rfl
  | c + 1 => by simp [Lib.repeatL, repeat_zero c, List.replicate_succ]
theorem low_str (a : ByteArray) (c : Nat) (h : a.size + c = 24) : (a ++ (⟨(Lib.repeatL (⟨#[0]⟩ : ByteArray).data.toList c).toArray⟩ : ByteArray)).data.toList = Km.low a.data.toList := by
  rw [Go.Joins.data_append]
  unfold Km.low
  rw [size_list, show 24 - a.size = c from by omega]
  congr 1
  exact repeat_zero c
theorem low_size (a : ByteArray) (c : Nat) (h : a.size + c = 24) : a.size + (⟨(Lib.repeatL (⟨#[0]⟩ : ByteArray).data.toList c).toArray⟩ : ByteArray).size = 24 := by
  have : (⟨(Lib.repeatL (⟨#[0]⟩ : ByteArray).data.toList c).toArray⟩ : ByteArray).size = c := by
    rw [← size_list]
    exact (congrArg List.length (repeat_zero c)).trans (by simp)
  omega

theorem low_at (a L : ByteArray) (k : Nat) (h : L.data.toList = Km.low a.data.toList) (hk : k < L.size) : L[k].toNat = Km.dg a.data.toList k := by
  rw [← dg_at L k hk, h, Km.dg_low]
theorem head_at (a L : ByteArray) (k : Nat) (h : L.data.toList = Km.low a.data.toList) : (L.extract 0 k).data.toList = (Km.low a.data.toList).take k := by
  rw [Lib.extract_from_zero, h]
/-- what is left of b behind its beginning -/
theorem rest_at (a b : ByteArray) (k : Nat) (ha : a.size ≤ 24) (hk : k < 24) (he : Km.endsB a.data.toList b.data.toList = true) (h1 : Lib.hasPrefix b.data.toList ((Km.low a.data.toList).take k) = true) (nb : b.data.toList ≠ []) :
    ∃ R : ByteArray, (⟨(Lib.trimPrefix b.data.toList ((Km.low a.data.toList).take k)).toArray⟩ : ByteArray) = R ∧ R.size = b.size - k ∧ k < b.size ∧ ∀ h : 0 < R.size, R[0].toNat = Km.dg b.data.toList k := by
  have hl : ((Km.low a.data.toList).take k).length = k := by rw [List.length_take, Km.low_length _ (by rw [size_list]; exact ha)]; omega
  have ht : Lib.trimPrefix b.data.toList ((Km.low a.data.toList).take k) = b.data.toList.drop k := by
    unfold Lib.trimPrefix
    rw [h1, if_pos rfl, hl]
  obtain ⟨p1, p2⟩ := (Km.headB_iff a.data.toList b.data.toList k (by rw [size_list]; exact ha) (by omega)).1 h1
  obtain ⟨-, -, i, e1, e2⟩ := Km.ends_frac he nb
  have hki : k ≤ i := Classical.byContradiction fun hni => by have := p2 i (by omega); omega
  have hib := Km.dg_pos (l := b.data.toList) (i := i) (by omega)
  rw [size_list] at hib
  refine ⟨⟨(b.data.toList.drop k).toArray⟩, by rw [ht], ?_, by omega, fun h => ?_⟩
  · rw [← size_list]
    simp
  · rw [← dg_at _ 0 h]
    show Km.dg (b.data.toList.drop k) 0 = _
    rw [Km.dg_drop, Nat.add_zero]
/-- what the beginning of b is, and what is the greatest last byte -/
theorem step_cases (a b : ByteArray) (k : Nat) :
    (Lib.hasPrefix b.data.toList ((Km.low a.data.toList).take k) = false ∧ Km.mo a.data.toList b.data.toList k = 255) ∨
    (Lib.hasPrefix b.data.toList ((Km.low a.data.toList).take k) = true ∧ b = ByteArray.empty ∧ Km.mo a.data.toList b.data.toList k = 255) ∨
    (Lib.hasPrefix b.data.toList ((Km.low a.data.toList).take k) = true ∧ b.toList.isEmpty = false ∧ b.data.toList ≠ [] ∧ k + 1 < b.size ∧ Km.mo a.data.toList b.data.toList k = Km.dg b.data.toList k) ∨
    (Lib.hasPrefix b.data.toList ((Km.low a.data.toList).take k) = true ∧ b.toList.isEmpty = false ∧ b.data.toList ≠ [] ∧ ¬ k + 1 < b.size ∧ Km.mo a.data.toList b.data.toList k = Km.dg b.data.toList k - 1) := by
  by_cases h1 : Lib.hasPrefix b.data.toList ((Km.low a.data.toList).take k) = true
  · rcases str_cases b with rfl | ⟨eb, nb⟩
    · exact Or.inr (Or.inl ⟨h1, rfl, if_pos (Or.inl rfl)⟩)
    · have h2 : ¬ (b.data.toList = [] ∨ Km.headB a.data.toList b.data.toList k = false) := by
        rintro (h | h)
        · exact nb h
        · unfold Km.headB at h; rw [h1] at h; cases h
      by_cases h3 : k + 1 < b.size
      · exact Or.inr (Or.inr (Or.inl ⟨h1, eb, nb, h3, by unfold Km.mo; rw [if_neg h2, size_list, if_pos h3]⟩))
      · exact Or.inr (Or.inr (Or.inr ⟨h1, eb, nb, h3, by unfold Km.mo; rw [if_neg h2, size_list, if_neg h3]⟩))
  · have h2 : Lib.hasPrefix b.data.toList ((Km.low a.data.toList).take k) = false := by simpa using h1
    exact Or.inl ⟨h2, if_pos (Or.inr h2)⟩
theorem info_u8 : (Tryz.prog.info? 5).map (fun i => (i.zero, i.size, i.bytes)) = some (some (.int .u8 0), 1, 1) := by kernel_rfl
theorem one_cell (w : World) (E : TypeId) (n : Nat) (v : Int) (h : n < 256 ∧ v = (n : Int)) : ∀ i, i < [UInt8.ofNat n].length → (w.alloc (.cells #[.int .u8 v] E)).cell? ⟨w.heap.size, 0 + i, none⟩ = some (.int .u8 (by8 [UInt8.ofNat n] i)) := by
  intro i hi
  obtain rfl : i = 0 := by simpa using hi
  obtain ⟨h1, rfl⟩ := h
  rw [World.cell?_alloc_at _ _ _ _ rfl]
  simp [by8, Nat.mod_eq_of_lt h1]
/-- no key with at most k bytes -/
def NoneYet (a b : List UInt8) (k : Nat) : Prop := ∀ m, m < k → Km.okB a b m = false

theorem none_succ {a b : List UInt8} {k : Nat} (h : NoneYet a b k) (hk : Km.okB a b k = false) : NoneYet a b (k + 1) := fun m hm => by
  by_cases e : m = k
  · subst e; exact hk
  · exact h m (by omega)

set_option maxRecDepth 100000 in
set_option maxHeartbeats 20000000 in
theorem between_in (a b : ByteArray) (w : World) (ha : a.size ≤ 24) (hb : b.size ≤ 24) (he : Km.endsB a.data.toList b.data.toList = true) : Calls Tryz.prog 39 #[.string a, .string b] w fun e w' => e = .returned (.tuple #[.string (strB (Km.betwIn a.data.toList b.data.toList).1), .int .i64 (Km.betwIn a.data.toList b.data.toList).2]) ∧ Below w.heap.size w w' := by
  obtain ⟨i0, hi, hz0, hz1, hz2⟩ := info_parts info_u8
  have HE := ends_any a b
  rw [he] at HE
  have HENDS := Lib.hid HE
  obtain ⟨c, hc⟩ : ∃ c : Nat, a.size + c = 24 := ⟨24 - a.size, by omega⟩
  have HR := Lib.hid (Tryz.strings_Repeat ⟨#[0]⟩ c)
  clear HE
  have hg : (24 - (a.size : Int)) = (c : Int) := by omega
  have HC := Lib.hid hc
  have HN := Lib.hid he
  have hc24 : c ≤ 24 := by omega
  clear hc he
  go_enter Tryz.func39, Tryz.ntmps39
  go_wp2
  go_step3
  go_wp2_with fail
  refine (HENDS.out _ (by omega) (by omega)).mono ?_
  rintro e w' ⟨rfl, rfl⟩
  go_wp2_with fail
  clear hg
  refine (HR.out _ (by omega) (by rw [show (⟨#[0]⟩ : ByteArray).size = 1 from rfl]; omega)).mono ?_
  rintro e w1 ⟨rfl, hb1⟩
  have HB := Lib.hid hb1
  have hlt1 := hb1.size
  have HL := Lib.hid (low_str a c HC.out)
  have hsz := low_size a c HC.out
  generalize (⟨(Lib.repeatL (⟨#[0]⟩ : ByteArray).data.toList c).toArray⟩ : ByteArray) = Z at *
  clear hb1
  go_wp2
  generalize a ++ Z = L at *
  have hL : L.size = 24 := by
    have h := size_list L
    rw [HL.out, Km.low_length _ (by rw [size_list]; exact ha)] at h
    exact h.symm
  clear hsz hc24 HR HC
  go_step3
  go_wp2
  go_loop [23] (fun i => ∃ k : Nat, k ≤ 24 ∧ i = .int .i64 k ∧ NoneYet a.data.toList b.data.toList k) (fun i => 24 - (intOf i).toNat)
  case atStart => exact ⟨0, Nat.zero_le _, rfl, fun m hm => absurd hm (Nat.not_lt_zero _)⟩
  case round =>
    obtain ⟨k, hk, rfl, hnone⟩ := hrel
    have HNO := Lib.hid hnone
    clear hnone
    by_cases hlt : k < 24
    · have hx0 := low_at a L k HL.out (by rw [hL]; exact hlt)
      have HX := Lib.hid (Km.dg_lt a.data.toList k)
      have HH := Lib.hid (head_at a L k HL.out)
      have HCP := Lib.hid (Tryz.strings_CutPrefix b (L.extract 0 k))
      rw [HH.out] at HCP
      generalize hx : Km.dg a.data.toList k = x at *
      have g0 : (0 : Int) ≤ (k : Int) := by omega
      have g1 : (k : Int) ≤ 24 := by omega
      have g2 : (k : Int) < 24 := by omega
      have g3 : (0 : Int) ≤ (x : Int) := by omega
      have g4 : (x : Int) ≤ 255 := by have := HX.out; omega
      have HXX := Lib.hid hx
      clear hx
      rcases step_cases a b k with ⟨h1, h2⟩ | ⟨h1, rfl, h2⟩ | ⟨h1, h2, h3, h4, h5⟩ | ⟨h1, h2, h3, h4, h5⟩
      · rw [h1] at HCP
        have HM := Lib.hid h2
        clear h1 h2
        by_cases hok : x + 1 ≤ 255
        · have HOK := Lib.hid ((Km.okB_iff a.data.toList b.data.toList k).2 (by rw [HXX.out, HM.out]; exact hok))
          have HRET := Lib.hid (Km.betwIn_some hlt HOK.out HNO.out)
          have HKEY := Lib.hid (show Km.keyAt a.data.toList b.data.toList k = (Km.low a.data.toList).take k ++ [UInt8.ofNat ((x + 1 + 255) / 2)] by unfold Km.keyAt; rw [HXX.out, HM.out])
          have hq : (x + 1 + 255) / 2 < 256 ∧ ((x : Int) + 1 + ((255 : Nat) : Int)) / 2 = (((x + 1 + 255) / 2 : Nat) : Int) := ⟨by omega, by omega⟩
          have HQ := Lib.hid hq
          clear hq
          go_wp2_with fail
          refine (HCP.out _).mono ?_
          rintro e w2 ⟨rfl, hw2⟩
          obtain rfl : w1 = w2 := hw2.symm
          go_wp2_with (refine wpList_bytes rfl _ 9 106 5 rfl _ rfl Tryz.underlying9 Tryz.underlying106 Tryz.underlying5 ?b11 ?b21)
          case b11 => rw [← size_list, HH.out, List.length_take, Km.low_length _ (by rw [size_list]; exact ha)]; omega
          intro v1 w3 hv1 hbel hlt3
          have hbw := (HB.out.trans (hbel.mono hlt1)).alloc (Nat.le_trans hlt1 (Nat.le_of_lt hlt3)) (.cells #[.int .u8 (((x : Int) + 1 + ((255 : Nat) : Int)) / 2)] 5)
          have HV := Lib.hid (hv1.below ((Below.refl _ _).alloc (Nat.le_refl _) (.cells #[.int .u8 (((x : Int) + 1 + ((255 : Nat) : Int)) / 2)] 5)))
          rw [HL.out] at HV
          have HBW := Lib.hid hbw
          clear hv1 hbel hbw
          go_wp2_with (at_builtin; refine wpList_append_T rfl _ _ 106 rfl w1.heap.size 5 i0 Tryz.underlying106 hi hz0 hz1 hz2 _ _ rfl HV.out w3.heap.size 0 1 1 [UInt8.ofNat ((x + 1 + 255) / 2)] rfl rfl ?d11 (k + 1) ?d21 ?d41 ?d31 ?_)
          case d11 => exact one_cell _ _ _ _ HQ.out
          case d21 => rw [List.length_take, Km.low_length _ (by rw [size_list]; exact ha)]; simp; omega
          case d41 => omega
          case d31 => simp; omega
          intro p1 c1 w5 hbs hbel5
          have hcv := hbs.convN (P := Tryz.prog) (k + 1) (by rw [List.length_append, List.length_take, Km.low_length _ (by rw [size_list]; exact ha)]; simp; omega) c1 106 5 9 Tryz.underlying106 Tryz.underlying5 Tryz.underlying9
          have HE5 := Lib.hid (HBW.out.trans (hbel5.mono hlt1))
          clear hbs hbel5
          go_wp2
          rw [Exit.noGoto_ret]
          go_ret2
          exact ⟨by rw [HRET.out, HKEY.out]; rfl, HE5.out⟩
        · have HN2 := Lib.hid (none_succ HNO.out (by rw [← Bool.not_eq_true, Km.okB_iff, HXX.out, HM.out]; exact hok))
          have hok2 : ((255 : Nat) : Int) < (x : Int) + 1 := by omega
          clear hok
          go_wp2_with fail
          refine (HCP.out _).mono ?_
          rintro e w2 ⟨rfl, hw2⟩
          obtain rfl : w1 = w2 := hw2.symm
          go_wp2
          go_round
          case rel => exact ⟨k + 1, by omega, by go_num, HN2.out⟩
          case measure => simp [intOf]; omega
      · rw [h1] at HCP
        have HM := Lib.hid h2
        clear h1 h2
        by_cases hok : x + 1 ≤ 255
        · have HOK := Lib.hid ((Km.okB_iff a.data.toList ByteArray.empty.data.toList k).2 (by rw [HXX.out, HM.out]; exact hok))
          have HRET := Lib.hid (Km.betwIn_some hlt HOK.out HNO.out)
          have HKEY := Lib.hid (show Km.keyAt a.data.toList ByteArray.empty.data.toList k = (Km.low a.data.toList).take k ++ [UInt8.ofNat ((x + 1 + 255) / 2)] by unfold Km.keyAt; rw [HXX.out, HM.out])
          have hq : (x + 1 + 255) / 2 < 256 ∧ ((x : Int) + 1 + ((255 : Nat) : Int)) / 2 = (((x + 1 + 255) / 2 : Nat) : Int) := ⟨by omega, by omega⟩
          have HQ := Lib.hid hq
          clear hq
          go_wp2_with fail
          refine (HCP.out _).mono ?_
          rintro e w2 ⟨rfl, hw2⟩
          obtain rfl : w1 = w2 := hw2.symm
          go_wp2_with (refine wpList_bytes rfl _ 9 106 5 rfl _ rfl Tryz.underlying9 Tryz.underlying106 Tryz.underlying5 ?b12 ?b22)
          case b12 => rw [← size_list, HH.out, List.length_take, Km.low_length _ (by rw [size_list]; exact ha)]; omega
          intro v1 w3 hv1 hbel hlt3
          have hbw := (HB.out.trans (hbel.mono hlt1)).alloc (Nat.le_trans hlt1 (Nat.le_of_lt hlt3)) (.cells #[.int .u8 (((x : Int) + 1 + ((255 : Nat) : Int)) / 2)] 5)
          have HV := Lib.hid (hv1.below ((Below.refl _ _).alloc (Nat.le_refl _) (.cells #[.int .u8 (((x : Int) + 1 + ((255 : Nat) : Int)) / 2)] 5)))
          rw [HL.out] at HV
          have HBW := Lib.hid hbw
          clear hv1 hbel hbw
          go_wp2_with (at_builtin; refine wpList_append_T rfl _ _ 106 rfl w1.heap.size 5 i0 Tryz.underlying106 hi hz0 hz1 hz2 _ _ rfl HV.out w3.heap.size 0 1 1 [UInt8.ofNat ((x + 1 + 255) / 2)] rfl rfl ?d12 (k + 1) ?d22 ?d42 ?d32 ?_)
          case d12 => exact one_cell _ _ _ _ HQ.out
          case d22 => rw [List.length_take, Km.low_length _ (by rw [size_list]; exact ha)]; simp; omega
          case d42 => omega
          case d32 => simp; omega
          intro p1 c1 w5 hbs hbel5
          have hcv := hbs.convN (P := Tryz.prog) (k + 1) (by rw [List.length_append, List.length_take, Km.low_length _ (by rw [size_list]; exact ha)]; simp; omega) c1 106 5 9 Tryz.underlying106 Tryz.underlying5 Tryz.underlying9
          have HE5 := Lib.hid (HBW.out.trans (hbel5.mono hlt1))
          clear hbs hbel5
          go_wp2
          rw [Exit.noGoto_ret]
          go_ret2
          exact ⟨by rw [HRET.out, HKEY.out]; rfl, HE5.out⟩
        · have HN2 := Lib.hid (none_succ HNO.out (by rw [← Bool.not_eq_true, Km.okB_iff, HXX.out, HM.out]; exact hok))
          have hok2 : ((255 : Nat) : Int) < (x : Int) + 1 := by omega
          clear hok
          go_wp2_with fail
          refine (HCP.out _).mono ?_
          rintro e w2 ⟨rfl, hw2⟩
          obtain rfl : w1 = w2 := hw2.symm
          go_wp2
          go_round
          case rel => exact ⟨k + 1, by omega, by go_num, HN2.out⟩
          case measure => simp [intOf]; omega
      · obtain ⟨R, hR, hRs, hkb, hR0⟩ := rest_at a b k ha hlt HN.out h1 h3
        rw [h1, hR] at HCP
        have HM := Lib.hid h5
        have HY := Lib.hid (Km.dg_lt b.data.toList k)
        generalize Km.dg b.data.toList k = y at *
        obtain ⟨n, hn⟩ : ∃ n : Nat, R.size = n + 2 := ⟨R.size - 2, by omega⟩
        have g5 : (0 : Int) ≤ (y : Int) := by omega
        have g6 : (y : Int) ≤ 255 := by have := HY.out; omega
        clear h1 hR hRs hkb h3 h4 h5
        have hR1 := hR0 (by omega)
        clear hR0
        by_cases hok : x + 1 ≤ y
        · have HOK := Lib.hid ((Km.okB_iff a.data.toList b.data.toList k).2 (by rw [HXX.out, HM.out]; exact hok))
          have HRET := Lib.hid (Km.betwIn_some hlt HOK.out HNO.out)
          have HKEY := Lib.hid (show Km.keyAt a.data.toList b.data.toList k = (Km.low a.data.toList).take k ++ [UInt8.ofNat ((x + 1 + y) / 2)] by unfold Km.keyAt; rw [HXX.out, HM.out])
          have hq : (x + 1 + y) / 2 < 256 ∧ ((x : Int) + 1 + (y : Int)) / 2 = (((x + 1 + y) / 2 : Nat) : Int) := ⟨by omega, by omega⟩
          have HQ := Lib.hid hq
          clear hq
          go_wp2_with fail
          refine (HCP.out _).mono ?_
          rintro e w2 ⟨rfl, hw2⟩
          obtain rfl : w1 = w2 := hw2.symm
          go_wp2_with (refine wpList_bytes rfl _ 9 106 5 rfl _ rfl Tryz.underlying9 Tryz.underlying106 Tryz.underlying5 ?b13 ?b23)
          case b13 => rw [← size_list, HH.out, List.length_take, Km.low_length _ (by rw [size_list]; exact ha)]; omega
          intro v1 w3 hv1 hbel hlt3
          have hbw := (HB.out.trans (hbel.mono hlt1)).alloc (Nat.le_trans hlt1 (Nat.le_of_lt hlt3)) (.cells #[.int .u8 (((x : Int) + 1 + (y : Int)) / 2)] 5)
          have HV := Lib.hid (hv1.below ((Below.refl _ _).alloc (Nat.le_refl _) (.cells #[.int .u8 (((x : Int) + 1 + (y : Int)) / 2)] 5)))
          rw [HL.out] at HV
          have HBW := Lib.hid hbw
          clear hv1 hbel hbw
          go_wp2_with (at_builtin; refine wpList_append_T rfl _ _ 106 rfl w1.heap.size 5 i0 Tryz.underlying106 hi hz0 hz1 hz2 _ _ rfl HV.out w3.heap.size 0 1 1 [UInt8.ofNat ((x + 1 + y) / 2)] rfl rfl ?d13 (k + 1) ?d23 ?d43 ?d33 ?_)
          case d13 => exact one_cell _ _ _ _ HQ.out
          case d23 => rw [List.length_take, Km.low_length _ (by rw [size_list]; exact ha)]; simp; omega
          case d43 => omega
          case d33 => simp; omega
          intro p1 c1 w5 hbs hbel5
          have hcv := hbs.convN (P := Tryz.prog) (k + 1) (by rw [List.length_append, List.length_take, Km.low_length _ (by rw [size_list]; exact ha)]; simp; omega) c1 106 5 9 Tryz.underlying106 Tryz.underlying5 Tryz.underlying9
          have HE5 := Lib.hid (HBW.out.trans (hbel5.mono hlt1))
          clear hbs hbel5
          go_wp2
          rw [Exit.noGoto_ret]
          go_ret2
          exact ⟨by rw [HRET.out, HKEY.out]; rfl, HE5.out⟩
        · have HN2 := Lib.hid (none_succ HNO.out (by rw [← Bool.not_eq_true, Km.okB_iff, HXX.out, HM.out]; exact hok))
          have hok2 : (y : Int) < (x : Int) + 1 := by omega
          clear hok
          go_wp2_with fail
          refine (HCP.out _).mono ?_
          rintro e w2 ⟨rfl, hw2⟩
          obtain rfl : w1 = w2 := hw2.symm
          go_wp2
          go_round
          case rel => exact ⟨k + 1, by omega, by go_num, HN2.out⟩
          case measure => simp [intOf]; omega
      · obtain ⟨R, hR, hRs, hkb, hR0⟩ := rest_at a b k ha hlt HN.out h1 h3
        rw [h1, hR] at HCP
        have hpos : 0 < Km.dg b.data.toList k := by
          have h6 := (Km.ends_frac HN.out h3).1
          rw [size_list, show b.size - 1 = k from by omega] at h6
          exact h6
        have HM := Lib.hid h5
        have HY := Lib.hid (Km.dg_lt b.data.toList k)
        generalize Km.dg b.data.toList k = y0 at *
        obtain ⟨y, rfl⟩ : ∃ y : Nat, y0 = y + 1 := ⟨y0 - 1, by omega⟩
        rw [Nat.add_sub_cancel] at HM
        have hn : R.size = 1 := by omega
        have g5 : (0 : Int) ≤ (y : Int) := by omega
        have g6 : (y : Int) ≤ 254 := by have := HY.out; omega
        clear h1 hR hRs hkb h3 h4 h5 hpos
        have hR1 := hR0 (by omega)
        clear hR0
        by_cases hok : x + 1 ≤ y
        · have HOK := Lib.hid ((Km.okB_iff a.data.toList b.data.toList k).2 (by rw [HXX.out, HM.out]; exact hok))
          have HRET := Lib.hid (Km.betwIn_some hlt HOK.out HNO.out)
          have HKEY := Lib.hid (show Km.keyAt a.data.toList b.data.toList k = (Km.low a.data.toList).take k ++ [UInt8.ofNat ((x + 1 + y) / 2)] by unfold Km.keyAt; rw [HXX.out, HM.out])
          have hq : (x + 1 + y) / 2 < 256 ∧ ((x : Int) + 1 + (y : Int)) / 2 = (((x + 1 + y) / 2 : Nat) : Int) := ⟨by omega, by omega⟩
          have HQ := Lib.hid hq
          clear hq
          go_wp2_with fail
          refine (HCP.out _).mono ?_
          rintro e w2 ⟨rfl, hw2⟩
          obtain rfl : w1 = w2 := hw2.symm
          go_wp2_with (refine wpList_bytes rfl _ 9 106 5 rfl _ rfl Tryz.underlying9 Tryz.underlying106 Tryz.underlying5 ?b14 ?b24)
          case b14 => rw [← size_list, HH.out, List.length_take, Km.low_length _ (by rw [size_list]; exact ha)]; omega
          intro v1 w3 hv1 hbel hlt3
          have hbw := (HB.out.trans (hbel.mono hlt1)).alloc (Nat.le_trans hlt1 (Nat.le_of_lt hlt3)) (.cells #[.int .u8 (((x : Int) + 1 + (y : Int)) / 2)] 5)
          have HV := Lib.hid (hv1.below ((Below.refl _ _).alloc (Nat.le_refl _) (.cells #[.int .u8 (((x : Int) + 1 + (y : Int)) / 2)] 5)))
          rw [HL.out] at HV
          have HBW := Lib.hid hbw
          clear hv1 hbel hbw
          go_wp2_with (at_builtin; refine wpList_append_T rfl _ _ 106 rfl w1.heap.size 5 i0 Tryz.underlying106 hi hz0 hz1 hz2 _ _ rfl HV.out w3.heap.size 0 1 1 [UInt8.ofNat ((x + 1 + y) / 2)] rfl rfl ?d14 (k + 1) ?d24 ?d44 ?d34 ?_)
          case d14 => exact one_cell _ _ _ _ HQ.out
          case d24 => rw [List.length_take, Km.low_length _ (by rw [size_list]; exact ha)]; simp; omega
          case d44 => omega
          case d34 => simp; omega
          intro p1 c1 w5 hbs hbel5
          have hcv := hbs.convN (P := Tryz.prog) (k + 1) (by rw [List.length_append, List.length_take, Km.low_length _ (by rw [size_list]; exact ha)]; simp; omega) c1 106 5 9 Tryz.underlying106 Tryz.underlying5 Tryz.underlying9
          have HE5 := Lib.hid (HBW.out.trans (hbel5.mono hlt1))
          clear hbs hbel5
          go_wp2
          rw [Exit.noGoto_ret]
          go_ret2
          exact ⟨by rw [HRET.out, HKEY.out]; rfl, HE5.out⟩
        · have HN2 := Lib.hid (none_succ HNO.out (by rw [← Bool.not_eq_true, Km.okB_iff, HXX.out, HM.out]; exact hok))
          have hok2 : (y : Int) < (x : Int) + 1 := by omega
          clear hok
          go_wp2_with fail
          refine (HCP.out _).mono ?_
          rintro e w2 ⟨rfl, hw2⟩
          obtain rfl : w1 = w2 := hw2.symm
          go_wp2
          go_round
          case rel => exact ⟨k + 1, by omega, by go_num, HN2.out⟩
          case measure => simp [intOf]; omega
    · obtain rfl : k = 24 := by omega
      have HRET := Lib.hid (Km.betwIn_none HNO.out)
      go_wp2
      try rw [Exit.noGoto_ret]
      go_ret2
      exact ⟨by rw [HRET.out]; rfl, HB.out⟩

theorem ends_sizes {a b : ByteArray} (h : Km.endsB a.data.toList b.data.toList = true) : a.size ≤ 24 ∧ b.size ≤ 24 := by
  have := Km.ends_len h
  rwa [size_list, size_list] at this

set_option maxRecDepth 100000 in
set_option maxHeartbeats 2000000 in
theorem between_any (a b : ByteArray) (w : World) (ha : a.size ≤ 140737488355328) (hb : b.size ≤ 140737488355328) : Calls Tryz.prog 39 #[.string a, .string b] w fun e w' => e = .returned (.tuple #[.string (strB (Km.betw a.data.toList b.data.toList).1), .int .i64 (Km.betw a.data.toList b.data.toList).2]) ∧ Below w.heap.size w w' := by
  cases he : Km.endsB a.data.toList b.data.toList
  · have HE := ends_any a b
    rw [he] at HE
    have HENDS := Lib.hid HE
    have HB := Lib.hid (show Km.betw a.data.toList b.data.toList = ([], 1) by unfold Km.betw; rw [if_neg (by rw [he]; simp)])
    clear HE he
    go_enter Tryz.func39, Tryz.ntmps39
    go_wp2
    go_step3
    go_wp2_with fail
    refine (HENDS.out _ ha hb).mono ?_
    rintro e w' ⟨rfl, rfl⟩
    go_wp2
    rw [Exit.noGoto_ret]
    go_ret2
    exact ⟨by rw [HB.out]; rfl, Below.refl _ _⟩
  · rw [show Km.betw a.data.toList b.data.toList = Km.betwIn a.data.toList b.data.toList from if_pos he]
    obtain ⟨h1, h2⟩ := ends_sizes he
    exact between_in a b w h1 h2 he

end Go.Proofs.YtilkokhapcgolaaGreat
