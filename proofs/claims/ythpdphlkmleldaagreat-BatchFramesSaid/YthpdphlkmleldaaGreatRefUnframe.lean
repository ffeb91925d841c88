/-
  THE REFERENCE's Unframe: the same answer as wire.Unframe's, of any slice of bytes.
-/
import Derived.Test.YthpdphlkmleldaaGreatGB
import Derived.Test.YthpdphlkmleldaaGreatRef
namespace Go.Proofs.YthpdphlkmleldaaGreat
open Go.RowKit

theorem numR_two (l : List UInt8) : numR l 1048576 = (if (numR l 281474976710655).2.2 ≠ 0 then (0, 0, (numR l 281474976710655).2.2) else if 1048576 < (numR l 281474976710655).1 then (0, 0, 21) else numR l 281474976710655) := by
  have hv : 6 < by8 l 0 ∨ Wm.val ((l.drop 1).take (by8 l 0)) ≤ 281474976710655 := by
    by_cases h : 6 < by8 l 0
    · exact Or.inl h
    · right
      have a := Wm.val_lt ((l.drop 1).take (by8 l 0))
      have b : ((l.drop 1).take (by8 l 0)).length ≤ 6 := by rw [List.length_take]; omega
      have c := Nat.lt_of_lt_of_le a (Nat.le_trans (Nat.pow_le_pow_right (by decide) b) (show 256 ^ 6 ≤ 281474976710656 by decide))
      omega
  unfold numR
  by_cases h1 : l.length = 0
  · simp [h1]
  rw [if_neg h1, if_neg h1]
  by_cases h2 : 6 < by8 l 0
  · simp [h2]
  rw [if_neg h2, if_neg h2]
  by_cases h3 : 0 < by8 l 0 ∧ 1 < l.length ∧ by8 l 1 = 0
  · rw [if_pos h3, if_pos h3]; simp
  rw [if_neg h3, if_neg h3]
  by_cases h4 : l.length < by8 l 0 + 1
  · rw [if_pos h4, if_pos h4]; simp
  rw [if_neg h4, if_neg h4, if_neg (show ¬ 281474976710655 < Wm.val ((l.drop 1).take (by8 l 0)) by omega)]
  simp

theorem val4 (kk : List UInt8) (x : Nat) (h : kk.length = 4) (hx : x < 4294967296) : (kk == Wm.be 4 x) = (Wm.val kk == x) := by
  rw [Bool.eq_iff_iff, beq_iff_eq, beq_iff_eq]
  constructor
  · intro e
    rw [e, Wm.val_be]
    exact Nat.mod_eq_of_lt (by simpa using hx)
  · intro e
    rw [← e, ← h, Wm.be_val]

/-- what the reference answers (the same) -/
theorem refSum_at (p : Option Addr) (n c : Nat) (l : List UInt8) (w : World) (hn : l.length = n) (h : Bs w p l) (hl : l.length ≤ maxLen) :
    Calls Tryz.prog 55 #[.slice p n c] w fun e w' => e = .returned (.int .i64 (Wm.crc l)) ∧ w = w' := by
  subst hn
  exact refSum_any p c l w h hl

set_option maxRecDepth 100000 in
set_option maxHeartbeats 400000 in
theorem refUnframe_zero (p : Option Addr) (c : Nat) (w : World) : Calls Tryz.prog 28 #[.slice p 0 c] w (Unfr 5 w (unfR [])) := by
  have HF := unfr_err (E := 5) (w := w) (r := unfR []) (e := 20) rfl
  go_enter Tryz.func28, Tryz.ntmps28
  go_wp2
  go_ret3
  exact HF

set_option maxRecDepth 100000 in
set_option maxHeartbeats 800000 in
theorem refUnframe_some (b o : Nat) (c : Nat) (l : List UInt8) (w : World) (h : Bs w (some ⟨b, o, none⟩) l) (hl : l.length ≤ 4611686018427387904) (h0 : 0 < l.length) (hc : l.length ≤ c) :
    Calls Tryz.prog 28 #[.slice (some ⟨b, o, none⟩) l.length c] w (Unfr 5 w (unfR l)) := by
  obtain ⟨i0, hi, hz0, hz1, hz2⟩ := info_parts info_u8
  have hz : (l.length == 0) = false := by rw [beq_eq_false_iff_ne]; omega
  have c0 := h.get 0 h0
  rw [Nat.add_zero] at c0
  have k256 := by8_lt l 0
  by_cases hm : by8 l 0 = 93
  · have t0 : ((by8 l 0 : Int) != 93) = false := by rw [hm]; rfl
    have HU : unfR l = (if (numR (l.drop 1) 1048576).2.2 ≠ 0 then ([], 0, (numR (l.drop 1) 1048576).2.2)
      else if l.length < (numR (l.drop 1) 1048576).2.1 + 1 + ((numR (l.drop 1) 1048576).1 + 4) then ([], 0, 20)
      else if ((l.drop ((numR (l.drop 1) 1048576).2.1 + 1 + (numR (l.drop 1) 1048576).1)).take 4 == Wm.be 4 (Wm.crc ((l.drop ((numR (l.drop 1) 1048576).2.1 + 1)).take (numR (l.drop 1) 1048576).1))) = false then ([], 0, 22)
      else ((l.drop ((numR (l.drop 1) 1048576).2.1 + 1)).take (numR (l.drop 1) 1048576).1, (numR (l.drop 1) 1048576).2.1 + 1 + (numR (l.drop 1) 1048576).1 + 4, 0)) := by
      show unfR l = _
      unfold unfR
      rw [if_neg (by omega), if_neg (by omega)]
    have NS := numR_small (l.drop 1) 281474976710655
    have HN := refNumber_any (some ⟨b, o, none⟩) c 1 l w h (by unfold maxLen; omega)
    unfold NumAns at HN
    rw [numR_two (l.drop 1)] at HU
    rcases hr : numR (l.drop 1) 281474976710655 with ⟨n, s, e⟩
    rw [hr] at HU NS HN
    have hdl : (l.drop 1).length = l.length - 1 := by simp
    rw [hdl] at NS
    clear hr hm hdl
    dsimp only at HU NS HN
    have HNh := Lib.hid HN
    clear HN
    generalize by8 l 0 = k at *
    by_cases he : e = 0
    · subst he
      obtain ⟨ns7, nsM, nsL⟩ := NS
      obtain ⟨ns1, ns2⟩ := nsL rfl
      rw [show (if (0 : Nat) ≠ 0 then ((0 : Nat), (0 : Nat), (0 : Nat)) else if 1048576 < n then (0, 0, 21) else (n, s, 0)) = (if 1048576 < n then (0, 0, 21) else (n, s, 0)) from if_neg (by simp)] at HU
      clear nsL
      by_cases hbig : 1048576 < n
      · have HF := unfr_err (E := 5) (w := w) (r := unfR l) (e := 21) (by rw [HU, if_pos hbig]; rfl)
        clear HU
        go_enter Tryz.func28, Tryz.ntmps28
        go_wp2_with fail
        refine HNh.out.mono ?_
        rintro e w' ⟨rfl, rfl⟩
        go_wp2
        go_ret3
        exact HF
      · rw [if_neg hbig] at HU
        dsimp only at HU
        rw [if_neg (show ¬ ((0 : Nat) ≠ 0) by simp)] at HU
        by_cases hsh : l.length < s + 1 + (n + 4)
        · have HF := unfr_err (E := 5) (w := w) (r := unfR l) (e := 20) (by rw [HU, if_pos hsh])
          have tl : ((l.length : Int) - (1 + (s : Int)) < (n : Int) + 4) := by omega
          clear HU
          go_enter Tryz.func28, Tryz.ntmps28
          go_wp2_with fail
          refine HNh.out.mono ?_
          rintro e w' ⟨rfl, rfl⟩
          go_wp2
          go_ret3
          exact HF
        · rw [if_neg hsh] at HU
          have hc2 : ¬ c = 1 + s := by omega
          have hml : ((l.drop (s + 1)).take n).length = n := by simp; omega
          have hbs2 : Bs w (some ⟨b, o + (1 + s), none⟩) ((l.drop (s + 1)).take n) := fun h0 => ⟨b, o + (1 + s), rfl, fun i hi => by
            have := h.get (s + 1 + i) (by omega)
            rw [by8_take_drop _ _ _ _ (by omega), ← this, show o + (1 + s) + i = o + (s + 1 + i) from by omega]⟩
          have hkl : ((l.drop (s + 1 + n)).take 4).length = 4 := by simp; omega
          have hck : ∀ i, i < 4 → w.cell? ⟨b, o + (1 + s + n + i), none⟩ = some (.int .u8 (by8 ((l.drop (s + 1 + n)).take 4) i : Nat)) := by
            intro i hi
            rw [show o + (1 + s + n + i) = o + (s + 1 + n + i) from by omega, h.get (s + 1 + n + i) (by omega), by8_take_drop _ _ _ _ hi]
          rw [val4 _ _ hkl (Wm.crc_lt _)] at HU
          have HUh := Lib.hid HU
          clear HU
          generalize (l.drop (s + 1 + n)).take 4 = kk at *
          generalize (l.drop (s + 1)).take n = mm at *
          subst hml
          have HCK := Lib.hid hck
          have HKL := Lib.hid hkl
          have HO0 := Lib.hid (Own.lit (E := 5) w #[] [] rfl (by decide))
          have hb0 : Below w.heap.size w (w.alloc (.cells #[] 5)) := (Below.refl _ _).alloc (Nat.le_refl _) _
          have HB2 := Lib.hid (hbs2.kept hb0)
          have HH := Lib.hid h
          have C0 := Lib.hid c0
          clear hck hkl hbs2 h
          go_enter Tryz.func28, Tryz.ntmps28
          go_wp2_with fail
          refine HNh.out.mono ?_
          rintro e w' ⟨rfl, rfl⟩
          clear c0
          go_wp2_with (at_builtin; refine wpList_append_bsn rfl _ _ 25 rfl w.heap.size 5 i0 Tryz.underlying25 hi hz0 hz1 hz2 _ _ rfl HO0.out (some ⟨b, o + (1 + s), none⟩) _ (c - (1 + s)) mm rfl ?b0 HB2.out (by simp) ?b1 ?b2 ?_)
          case b0 => omega
          case b1 => simp; omega
          case b2 => simp
          intro v1 w1 hown1 hbel1 hgrow1 hnil1
          clear hgrow1 hnil1
          have hown1' : Own 5 w1 w.heap.size v1 mm := hown1
          have HO1 := Lib.hid hown1'
          obtain ⟨p1, c1, rfl, hbs1, -⟩ := hown1'.bs
          have hbw := hb0.trans hbel1
          have HB1 := Lib.hid hbs1
          have hcell1 : ∀ i, i < 4 → w1.cell? ⟨b, o + (1 + s + mm.length + i), none⟩ = some (.int .u8 (by8 kk i : Nat)) := by
            intro i hi
            have := HCK.out i hi
            rw [hbw.cell (cell_lt this)]
            exact this
          have HC1 := Lib.hid hcell1
          clear hown1 hbs1 hbel1 hb0 hcell1
          go_wp2
          go_loop [10, 11] (fun t i => ∃ j : Nat, j ≤ 4 ∧ i = .int .i64 j ∧ t = .int .i64 (Wm.val (kk.take j))) (fun _ i => 4 - (intOf i).toNat)
          case atStart => exact ⟨0, Nat.zero_le _, rfl, rfl⟩
          case round =>
            obtain ⟨j, hj, rfl, rfl⟩ := hrel
            by_cases hlt : j < 4
            · have cj := HC1.out j hlt
              have hxl := by8_lt kk j
              have hjl : (kk.take j).length ≤ 3 := by rw [List.length_take]; omega
              have hv3 : Wm.val (kk.take j) < 16777216 := Nat.lt_of_lt_of_le (Wm.val_lt _) (Nat.le_trans (Nat.pow_le_pow_right (by decide) hjl) (show 256 ^ 3 ≤ 16777216 by decide))
              have HS : Hid (Wm.val (kk.take (j + 1)) = Wm.val (kk.take j) * 256 + by8 kk j) := by
                have hjm : j < kk.length := by rw [HKL.out]; exact hlt
                show Wm.val (kk.take (j + 1)) = Wm.val (kk.take j) * 256 + by8 kk j
                rw [take_snoc kk j hjm, Wm.val_snoc, by8_get kk j hjm]
              clear hjl
              generalize Wm.val (kk.take j) = v at *
              generalize by8 kk j = x at *
              go_wp2
              go_round
              case rel => exact ⟨j + 1, by omega, by go_num, by rw [HS.out]; go_num⟩
              case measure => simp [intOf]; omega
            · obtain rfl : j = 4 := by omega
              have e : kk.take 4 = kk := List.take_of_length_le (by rw [HKL.out]; omega)
              rw [e]
              clear e
              have HU := HUh.out
              have hvk : Wm.val kk < 4294967296 := Nat.lt_of_lt_of_le (Wm.val_lt kk) (by rw [HKL.out]; decide)
              have hcl := Wm.crc_lt mm
              have HSUM := Lib.hid (refSum_at p1 mm.length c1 mm w1 rfl HB1.out (by unfold maxLen; omega))
              by_cases hq : Wm.val kk = Wm.crc mm
              · have tq : ((Wm.val kk : Int) != (Wm.crc mm : Int)) = false := by rw [hq, bne_self_eq_false]
                rw [if_neg (by rw [hq]; simp)] at HU
                have HF : Unfr 5 w (unfR l) (.returned (.tuple #[.slice p1 mm.length c1, .int .i64 (1 + (s : Int) + (mm.length : Int) + 4), .int .i64 (0 : Int)])) w1 := by
                  rw [HU]
                  refine ⟨_, ?_, HO1.out, hbw⟩
                  rw [show (1 + (s : Int) + (mm.length : Int) + 4) = ((s + 1 + mm.length + 4 : Nat) : Int) from by omega]
                  rfl
                clear HU hq
                generalize Wm.val kk = x at *
                generalize Wm.crc mm = y at *
                go_wp2_with fail
                refine HSUM.out.mono ?_
                rintro e w' ⟨rfl, rfl⟩
                go_wp2
                go_ret3
                exact HF
              · have tq : ((Wm.val kk : Int) != (Wm.crc mm : Int)) = true := by rw [bne_iff_ne]; omega
                rw [if_pos (by rw [beq_eq_false_iff_ne]; exact hq)] at HU
                have HF : Unfr 5 w (unfR l) (.returned (.tuple #[.slice none 0 0, .int .i64 0, .int .i64 (22 : Int)])) w1 := by
                  rw [HU]
                  exact ⟨_, rfl, Own.nil _ _ _, hbw⟩
                clear HU hq
                generalize Wm.val kk = x at *
                generalize Wm.crc mm = y at *
                go_wp2_with fail
                refine HSUM.out.mono ?_
                rintro e w' ⟨rfl, rfl⟩
                go_wp2
                go_ret3
                exact HF
    · have HF := unfr_err (E := 5) (w := w) (r := unfR l) (e := e) (by rw [HU, if_pos he]; simp [he])
      have te : ((e : Int) != 0) = true := by rw [bne_iff_ne]; omega
      clear HU NS he
      go_enter Tryz.func28, Tryz.ntmps28
      go_wp2_with fail
      refine HNh.out.mono ?_
      rintro e w' ⟨rfl, rfl⟩
      go_wp2
      go_ret3
      exact HF
  · have HF := unfr_err (E := 5) (w := w) (r := unfR l) (e := 21) (by unfold unfR; rw [if_neg (by omega), if_pos hm])
    have t0 : ((by8 l 0 : Int) != 93) = true := by rw [bne_iff_ne]; omega
    clear hm
    generalize by8 l 0 = k at *
    go_enter Tryz.func28, Tryz.ntmps28
    go_wp2
    go_ret3
    exact HF

/-- WHAT THE REFERENCE's Unframe ANSWERS. -/
theorem refUnframe_any (p : Option Addr) (n c : Nat) (l : List UInt8) (w : World) (hn : l.length = n) (h : Bs w p l) (hl : l.length ≤ 4611686018427387904) (hc : l.length ≤ c) :
    Calls Tryz.prog 28 #[.slice p n c] w (Unfr 5 w (unfR l)) := by
  subst hn
  rcases Nat.eq_zero_or_pos l.length with h0 | h0
  · obtain rfl : l = [] := List.eq_nil_of_length_eq_zero h0
    exact refUnframe_zero p c w
  · obtain ⟨b, o, rfl, -⟩ := h h0
    exact refUnframe_some b o c l w h hl h0 hc

end Go.Proofs.YthpdphlkmleldaaGreat
