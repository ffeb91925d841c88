/-
  THE REFERENCE's WRITING: ref.Num, ref.Text, ref.Frame: new memory with the document's bytes, nil where there are none.
-/
import Derived.Test.YthpdphlkmleldaaGreatGA
namespace Go.Proofs.YthpdphlkmleldaaGreat
open Go.RowKit

theorem be_cons (j n : Nat) : Wm.be (j + 1) n = UInt8.ofNat (n / 256 ^ j % 256) :: Wm.be j n := by
  induction j generalizing n with
  | zero => simp [Wm.be]
  | succ j ih =>
    rw [Wm.be, ih, Wm.be, Nat.div_div_eq_div_mul, Nat.pow_succ, Nat.mul_comm 256]
    simp

/-- bytes: new memory; nothing below it has turned -/
def Made (E : TypeId) (w : World) (l : List UInt8) (e : Ending) (w' : World) : Prop :=
  ∃ v, e = .returned v ∧ Own E w' w.heap.size v l ∧ Below w.heap.size w w'

set_option maxRecDepth 100000 in
set_option maxHeartbeats 1000000 in
theorem refNum_any (n : Int) (w : World) : Calls Tryz.prog 61 #[.int .i64 n] w (Made 5 w (numW n).1) := by
  obtain ⟨i0, hi, hz0, hz1, hz2⟩ := info_parts info_u8
  by_cases h0 : n < 0
  · have hf := Lib.hid (show numW n = ([], 30) by unfold numW; rw [if_neg (by omega)])
    go_enter Tryz.func61, Tryz.ntmps61
    go_wp2
    go_ret
    rw [hf.out]
    exact ⟨_, rfl, Own.nil _ _ _, Below.refl _ _⟩
  · by_cases h1 : 281474976710655 < n
    · have hf := Lib.hid (show numW n = ([], 30) by unfold numW; rw [if_neg (by omega)])
      go_enter Tryz.func61, Tryz.ntmps61
      go_wp2
      go_ret
      rw [hf.out]
      exact ⟨_, rfl, Own.nil _ _ _, Below.refl _ _⟩
    · obtain ⟨m, rfl⟩ := Int.eq_ofNat_of_zero_le (show 0 ≤ n by omega)
      have hf := Lib.hid (show numW (m : Int) = (Wm.numB m, 0) by unfold numW; rw [if_pos (by omega), Int.toNat_natCast])
      go_enter Tryz.func61, Tryz.ntmps61
      go_wp2
      go_loopw [0, 3] (fun q v wr => ∃ j : Nat, q = .int .i64 (m / 256 ^ j : Nat) ∧ j ≤ 6 ∧ Wm.nlen m = j + Wm.nlen (m / 256 ^ j) ∧ Own 5 wr w.heap.size v (Wm.be j m) ∧ Below w.heap.size w wr) (fun q _ _ => (intOf q).toNat)
      case atStart => exact ⟨0, by simp, by omega, by simp, Own.nil _ _ _, Below.refl _ _⟩
      case round =>
        obtain ⟨j, rfl, hj, hnl, hown, hbw⟩ := hrel
        have hsz := hbw.size
        have hle := Wm.nlen_le m
        have hqm : m / 256 ^ j ≤ m := Nat.div_le_self _ _
        have hbe : (Wm.be j m).length = j := Wm.be_length j m
        obtain ⟨p, c, rfl, hbs, hc, hcm, hpn, -⟩ := hown.bs
        by_cases hq : m / 256 ^ j = 0
        · have hjm : Wm.nlen m = j := by rw [hnl, hq]; rfl
          have hfin : Hid (UInt8.ofNat j :: Wm.be j m = Wm.numB m) := by show UInt8.ofNat j :: Wm.be j m = Wm.numB m; unfold Wm.numB; rw [hjm]
          rw [hq]
          clear hnl hqm hq hjm hle hown
          generalize hys : Wm.be j m = ys at *
          have HYS := Lib.hid hys
          have HBE := Lib.hid hbe
          have hyl : ys.length ≤ 6 := by omega
          have HO := Lib.hid (Own.base (Own.lit (E := 5) wr #[.int .u8 (ys.length : Int)] [UInt8.ofNat j] (by simp [vals, hbe]; omega) (by simp [maxLen])) hsz)
          have HB := Lib.hid (hbs.kept (Below.alloc (Below.refl wr.heap.size wr) (Nat.le_refl _) (.cells #[.int .u8 (ys.length : Int)] 5)))
          have hbw2 := hbw.alloc hsz (.cells #[.int .u8 (ys.length : Int)] 5)
          clear hys hbe hbs hbw
          go_wp2_with (at_builtin; refine wpList_append_bs rfl _ _ 25 rfl w.heap.size 5 i0 Tryz.underlying25 hi hz0 hz1 hz2 _ _ rfl HO.out p c ys rfl HB.out hpn ?b1 ?b2 ?_)
          case b1 => simp; omega
          case b2 => simp; omega
          intro v1 w1 hown1 hbel1 hgrow1 hnil1
          clear hgrow1 hnil1
          go_wp2
          go_ret
          rw [hf.out]
          rw [show (Wm.numB m, 0).fst = UInt8.ofNat j :: ys from hfin.out.symm]
          exact ⟨_, rfl, hown1, hbw2.trans hbel1⟩
        · have hqs : Wm.nlen (m / 256 ^ j) = Wm.nlen (m / 256 ^ j / 256) + 1 := Wm.nlen_step _ hq (Nat.lt_of_le_of_lt hqm (by omega))
          have hdd : m / 256 ^ j / 256 = m / 256 ^ (j + 1) := by rw [Nat.div_div_eq_div_mul, Nat.pow_succ]
          have hnl2 : Hid (Wm.nlen m = j + 1 + Wm.nlen (m / 256 ^ (j + 1))) := by show Wm.nlen m = j + 1 + Wm.nlen (m / 256 ^ (j + 1)); rw [← hdd]; omega
          have hj5 : j ≤ 5 := by omega
          have hcons : Hid (Wm.be (j + 1) m = UInt8.ofNat (m / 256 ^ j % 256) :: Wm.be j m) := be_cons j m
          have HDD := Lib.hid hdd
          have hq1 : 1 ≤ m / 256 ^ j := Nat.pos_of_ne_zero hq
          clear hnl hqs hdd hle hown hq
          generalize m / 256 ^ j = q at *
          generalize Wm.be j m = ys at *
          have hyl : ys.length ≤ 6 := by omega
          have HO := Lib.hid (Own.base (Own.lit (E := 5) wr #[.int .u8 ((q : Int) % 256)] [UInt8.ofNat (q % 256)] (by simp [vals]) (by simp [maxLen])) hsz)
          have HB := Lib.hid (hbs.kept (Below.alloc (Below.refl wr.heap.size wr) (Nat.le_refl _) (.cells #[.int .u8 ((q : Int) % 256)] 5)))
          have hbw2 := hbw.alloc hsz (.cells #[.int .u8 ((q : Int) % 256)] 5)
          clear hbe hbs hbw
          go_wp2_with (at_builtin; refine wpList_append_bs rfl _ _ 25 rfl w.heap.size 5 i0 Tryz.underlying25 hi hz0 hz1 hz2 _ _ rfl HO.out p c ys rfl HB.out hpn ?c1 ?c2 ?_)
          case c1 => simp; omega
          case c2 => simp; omega
          intro v1 w1 hown1 hbel1 hgrow1 hnil1
          clear hgrow1 hnil1
          go_wp2
          go_roundw
          case rel => exact ⟨j + 1, by rw [← HDD.out]; go_num, by omega, hnl2.out, by rw [hcons.out]; exact hown1, hbw2.trans hbel1⟩
          case measure => simp [intOf]; omega

set_option maxRecDepth 100000 in
set_option maxHeartbeats 400000 in
theorem refText_any (s : ByteArray) (w : World) (hs : s.size ≤ maxLen) : Calls Tryz.prog 89 #[.string s] w (Made 5 w (textW s.data.toList).1) := by
  unfold maxLen at hs
  have hsl : s.data.toList.length = s.size := by rw [Array.length_toList]; rfl
  obtain ⟨i0, hi, hz0, hz1, hz2⟩ := info_parts info_u8
  by_cases h1 : 1048576 < s.size
  · have hf := Lib.hid (show textW s.data.toList = ([], 6) by unfold textW; rw [if_neg (by omega)])
    clear hsl
    go_enter Tryz.func89, Tryz.ntmps89
    go_wp2
    go_ret
    rw [hf.out]
    exact ⟨_, rfl, Own.nil _ _ _, Below.refl _ _⟩
  · have hf := Lib.hid (show textW s.data.toList = (Wm.numB s.size ++ s.data.toList, 0) by unfold textW; rw [if_pos (by omega), hsl])
    have hn : numW (s.size : Int) = (Wm.numB s.size, 0) := by unfold numW; rw [if_pos (by omega), Int.toNat_natCast]
    have hN := Lib.hid (hn ▸ refNum_any (s.size : Int) w)
    clear hsl hn
    go_enter Tryz.func89, Tryz.ntmps89
    go_wp2_with fail
    refine hN.out.mono ?_
    rintro e w1 ⟨v1, rfl, hown, hbw⟩
    have hsz := hbw.size
    have hown' : Own 5 w1 w.heap.size v1 (Wm.numB s.size) := hown
    clear hown
    have hnl := numB_small s.size
    go_wp2_with (at_builtin; refine wpList_append_str rfl _ _ 25 9 rfl w.heap.size 5 i0 Tryz.underlying25 Tryz.underlying9 hi hz0 hz1 hz2 _ (Wm.numB s.size) rfl hown' s rfl ?c1 ?c2 ?_)
    case c1 => omega
    case c2 => exact hsz
    intro v2 w2 hown2 hbel2 hnil2
    clear hnil2
    go_wp2
    go_ret
    rw [hf.out]
    exact ⟨_, rfl, hown2, hbw.trans hbel2⟩

set_option maxRecDepth 100000 in
set_option maxHeartbeats 400000 in
theorem refFrame_any (p : Option Addr) (c : Nat) (l : List UInt8) (w : World) (h : Bs w p l) (hl : l.length ≤ maxLen) (hpn : p = none → c = 0) :
    Calls Tryz.prog 32 #[.slice p l.length c] w (Made 5 w (frameW l).1) := by
  unfold maxLen at hl
  obtain ⟨i0, hi, hz0, hz1, hz2⟩ := info_parts info_u8
  by_cases h1 : 1048576 < l.length
  · have hf := Lib.hid (show frameW l = ([], 6) by unfold frameW; rw [if_neg (by omega)])
    go_enter Tryz.func32, Tryz.ntmps32
    go_wp2
    go_ret
    rw [hf.out]
    exact ⟨_, rfl, Own.nil _ _ _, Below.refl _ _⟩
  · have hf := Lib.hid (show (frameW l).1 = 93 :: (Wm.numB l.length ++ (l ++ Wm.be 4 (Wm.crc l))) by unfold frameW; rw [if_pos (by omega)]; simp [Wm.frameB])
    have hn : numW (l.length : Int) = (Wm.numB l.length, 0) := by unfold numW; rw [if_pos (by omega), Int.toNat_natCast]
    have H0 := Lib.hid h
    have hS := Lib.hid (refSum_any p c l w h (by unfold maxLen; omega))
    clear h
    have hnl := numB_small l.length
    have hown0 : Own 5 (w.alloc (.cells #[.int .u8 93] 5)) w.heap.size (.slice (some ⟨w.heap.size, 0, none⟩) 1 1) [93] := Own.lit w #[.int .u8 93] [93] rfl (by decide)
    have hb0 : Below w.heap.size w (w.alloc (.cells #[.int .u8 93] 5)) := (Below.refl _ _).alloc (Nat.le_refl _) _
    have HO0 := Lib.hid hown0
    have hN := Lib.hid (hn ▸ refNum_any (l.length : Int) (w.alloc (.cells #[.int .u8 93] 5)))
    have hcl := Wm.crc_lt l
    clear hown0 hn
    go_enter Tryz.func32, Tryz.ntmps32
    go_wp2_with fail
    refine hS.out.mono ?_
    rintro e w' ⟨rfl, rfl⟩
    generalize hX : Wm.crc l = x at *
    have HX := Lib.hid hX
    clear hX
    go_wp2_with fail
    refine hN.out.mono ?_
    rintro e w1 ⟨v1, rfl, hown1, hb1⟩
    have hbw1 := hb0.trans (Below.mono hb1 (by simp))
    have hs1 := hbw1.size
    have HO1 := Lib.hid (HO0.out.below hb1)
    obtain ⟨p1, c1, rfl, hbs1, hc1, hc1', hpn1, -⟩ := Own.bs (l := Wm.numB l.length) hown1
    have HBS1 := Lib.hid hbs1
    clear hb0 hb1 hown1 hbs1
    generalize hnb : Wm.numB l.length = nb at *
    have HNB := Lib.hid hnb
    clear hnb
    go_wp2_with (at_builtin; refine wpList_append_bs rfl _ _ 25 rfl w.heap.size 5 i0 Tryz.underlying25 hi hz0 hz1 hz2 _ _ rfl HO1.out p1 c1 nb rfl HBS1.out hpn1 ?b1 ?b2 ?_)
    case b1 => simp; omega
    case b2 => exact hs1
    intro v2 w2 hown2 hbel2 hgrow2 hnil2
    clear hgrow2 hnil2
    have hbw2 := hbw1.trans hbel2
    have hs2 := hbw2.size
    have HB2 := Lib.hid (H0.out.kept hbw2)
    have HO2 := Lib.hid hown2
    clear hbel2 hbw1 hown2
    go_wp2_with (at_builtin; refine wpList_append_bs rfl _ _ 25 rfl w.heap.size 5 i0 Tryz.underlying25 hi hz0 hz1 hz2 _ _ rfl HO2.out p c l rfl HB2.out hpn ?d1 ?d2 ?_)
    case d1 => simp; omega
    case d2 => exact hs2
    intro v3 w3 hown3 hbel3 hgrow3 hnil3
    clear hgrow3 hnil3
    have hbw3 := hbw2.trans hbel3
    have hs3 := hbw3.size
    have HO3 := Lib.hid (hown3.alloc (.cells #[.int .u8 ((x : Int) / 16777216), .int .u8 ((x : Int) / 65536 % 256), .int .u8 ((x : Int) / 256 % 256), .int .u8 ((x : Int) % 256)] 5))
    have hlit : #[Value.int .u8 ((x : Int) / 16777216), .int .u8 ((x : Int) / 65536 % 256), .int .u8 ((x : Int) / 256 % 256), .int .u8 ((x : Int) % 256)].toList = vals (Wm.be 4 x) := by
      rw [be4]
      have e1 : ((x : Int) / 16777216) = ((x / 16777216 % 256 : Nat) : Int) := by omega
      have e2 : ((x : Int) / 65536 % 256) = ((x / 65536 % 256 : Nat) : Int) := by omega
      have e3 : ((x : Int) / 256 % 256) = ((x / 256 % 256 : Nat) : Int) := by omega
      have e4 : ((x : Int) % 256) = ((x % 256 : Nat) : Int) := by omega
      rw [e1, e2, e3, e4]
      simp [vals]
    obtain ⟨p4, c4, e4, hbs4, -, -, hpn4, -⟩ := (Own.lit (E := 5) w3 _ (Wm.be 4 x) hlit (by simp [Wm.be_length, maxLen])).bs
    have hbw4 := hbw3.alloc hs3 (.cells #[.int .u8 ((x : Int) / 16777216), .int .u8 ((x : Int) / 65536 % 256), .int .u8 ((x : Int) / 256 % 256), .int .u8 ((x : Int) % 256)] 5)
    rw [Wm.be_length] at e4
    simp only [Value.slice.injEq, true_and] at e4
    obtain ⟨rfl, rfl⟩ := e4
    have HB4 := Lib.hid hbs4
    have h44 : (Wm.be 4 x).length = 4 := Wm.be_length 4 x
    generalize Wm.be 4 x = t at *
    clear hlit hbs4 hown3 hbel3 hbw3 hbw2 hpn4
    obtain ⟨t0, t1, t2, t3, rfl⟩ : ∃ a b c d, t = [a, b, c, d] := by
      match t, h44 with
      | [a, b, c, d], _ => exact ⟨a, b, c, d, rfl⟩
    clear h44
    go_wp2_with (at_builtin; refine wpList_append_bs rfl _ _ 25 rfl w.heap.size 5 i0 Tryz.underlying25 hi hz0 hz1 hz2 _ _ rfl HO3.out (some ⟨w3.heap.size, 0, none⟩) 4 [t0, t1, t2, t3] rfl HB4.out (by simp) ?f1 ?f2 ?_)
    case f1 => simp; omega
    case f2 => simp; omega
    intro v4 w4 hown4 hbel4 hgrow4 hnil4
    clear hgrow4 hnil4
    go_wp2
    go_ret
    rw [hf.out]
    exact ⟨_, rfl, hown4, hbw4.trans hbel4⟩

end Go.Proofs.YthpdphlkmleldaaGreat
