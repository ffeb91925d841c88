/-
  THE REFERENCE's WRITING: ref.Num, ref.Text, ref.Frame: new memory with the document's bytes, nil where there are none.
-/
import Derived.Test.YtcmjjkkbocekbaaFrame
namespace Go.Proofs.Ytcmjjkkbocekbaa
open Go.RowKit

theorem be_cons (j n : Nat) : Wm.be (j + 1) n = UInt8.ofNat (n / 256 ^ j % 256) :: Wm.be j n := by
  induction j generalizing n with
  | zero => simp [Wm.be]
  | succ j ih =>
    rw [Wm.be, ih, Wm.be, Nat.div_div_eq_div_mul, Nat.pow_succ, Nat.mul_comm 256]
    simp

/-- bytes: new memory; nothing below it has turned -/
def Made (E : TypeId) (w : World) (l : List UInt8) (e : Ending) (w' : World) : Prop :=
  ∃ v, e = .returned v ∧ Own E w' w.heap.size v l ∧ Below w.heap.size w w'

set_option maxRecDepth 100000 in
set_option maxHeartbeats 1000000 in
theorem refNum_any (n : Int) (w : World) : Calls Try.prog 33 #[.int .i64 n] w (Made 5 w (numW n).1) := by
  obtain ⟨i0, hi, hz0, hz1, hz2⟩ := info_parts info_u8
  by_cases h0 : n < 0
  · have hf := Lib.hid (show numW n = ([], 30) by unfold numW; rw [if_neg (by omega)])
    go_enter Try.func33, Try.ntmps33
    go_wp2
    go_ret
    rw [hf.out]
    exact ⟨_, rfl, Own.nil _ _ _, Below.refl _ _⟩
  · by_cases h1 : 281474976710655 < n
    · have hf := Lib.hid (show numW n = ([], 30) by unfold numW; rw [if_neg (by omega)])
      go_enter Try.func33, Try.ntmps33
      go_wp2
      go_ret
      rw [hf.out]
      exact ⟨_, rfl, Own.nil _ _ _, Below.refl _ _⟩
    · obtain ⟨m, rfl⟩ := Int.eq_ofNat_of_zero_le (show 0 ≤ n by omega)
      have hf := Lib.hid (show numW (m : Int) = (Wm.numB m, 0) by unfold numW; rw [if_pos (by omega), Int.toNat_natCast])
      go_enter Try.func33, Try.ntmps33
      go_wp2
      go_loopw [0, 3] (fun q v wr => ∃ j : Nat, q = .int .i64 (m / 256 ^ j : Nat) ∧ j ≤ 6 ∧ Wm.nlen m = j + Wm.nlen (m / 256 ^ j) ∧ Own 5 wr w.heap.size v (Wm.be j m) ∧ Below w.heap.size w wr) (fun q _ _ => (intOf q).toNat)
      case atStart => exact ⟨0, by simp, by omega, by simp, Own.nil _ _ _, Below.refl _ _⟩
      case round =>
        obtain ⟨j, rfl, hj, hnl, hown, hbw⟩ := hrel
        have hsz := hbw.size
        have hle := Wm.nlen_le m
        have hqm : m / 256 ^ j ≤ m := Nat.div_le_self _ _
        have hbe : (Wm.be j m).length = j := Wm.be_length j m
        obtain ⟨p, c, rfl, hbs, hc, hcm, hpn, -⟩ := hown.bs
        by_cases hq : m / 256 ^ j = 0
        · have hjm : Wm.nlen m = j := by rw [hnl, hq]; rfl
          have hfin : Hid (UInt8.ofNat j :: Wm.be j m = Wm.numB m) := by show UInt8.ofNat j :: Wm.be j m = Wm.numB m; unfold Wm.numB; rw [hjm]
          rw [hq]
          clear hnl hqm hq hjm hle hown
          generalize hys : Wm.be j m = ys at *
          have HYS := Lib.hid hys
          have HBE := Lib.hid hbe
          have hyl : ys.length ≤ 6 := by omega
          have HO := Lib.hid (Own.base (Own.lit (E := 5) wr #[.int .u8 (ys.length : Int)] [UInt8.ofNat j] (by simp [vals, hbe]; omega) (by simp [maxLen])) hsz)
          have HB := Lib.hid (hbs.kept (Below.alloc (Below.refl wr.heap.size wr) (Nat.le_refl _) (.cells #[.int .u8 (ys.length : Int)] 5)))
          have hbw2 := hbw.alloc hsz (.cells #[.int .u8 (ys.length : Int)] 5)
          clear hys hbe hbs hbw
          go_wp2_with (at_builtin; refine wpList_append_bs rfl _ _ 24 rfl w.heap.size 5 i0 Try.underlying24 hi hz0 hz1 hz2 _ _ rfl HO.out p c ys rfl HB.out hpn ?b1 ?b2 ?_)
          case b1 => simp; omega
          case b2 => simp; omega
          intro v1 w1 hown1 hbel1 hgrow1 hnil1
          clear hgrow1 hnil1
          go_wp2
          go_ret
          rw [hf.out]
          rw [show (Wm.numB m, 0).fst = UInt8.ofNat j :: ys from hfin.out.symm]
          exact ⟨_, rfl, hown1, hbw2.trans hbel1⟩
        · have hqs : Wm.nlen (m / 256 ^ j) = Wm.nlen (m / 256 ^ j / 256) + 1 := Wm.nlen_step _ hq (Nat.lt_of_le_of_lt hqm (by omega))
          have hdd : m / 256 ^ j / 256 = m / 256 ^ (j + 1) := by rw [Nat.div_div_eq_div_mul, Nat.pow_succ]
          have hnl2 : Hid (Wm.nlen m = j + 1 + Wm.nlen (m / 256 ^ (j + 1))) := by show Wm.nlen m = j + 1 + Wm.nlen (m / 256 ^ (j + 1)); rw [← hdd]; omega
          have hj5 : j ≤ 5 := by omega
          have hcons : Hid (Wm.be (j + 1) m = UInt8.ofNat (m / 256 ^ j % 256) :: Wm.be j m) := be_cons j m
          have HDD := Lib.hid hdd
          have hq1 : 1 ≤ m / 256 ^ j := Nat.pos_of_ne_zero hq
          clear hnl hqs hdd hle hown hq
          generalize m / 256 ^ j = q at *
          generalize Wm.be j m = ys at *
          have hyl : ys.length ≤ 6 := by omega
          have HO := Lib.hid (Own.base (Own.lit (E := 5) wr #[.int .u8 ((q : Int) % 256)] [UInt8.ofNat (q % 256)] (by simp [vals]) (by simp [maxLen])) hsz)
          have HB := Lib.hid (hbs.kept (Below.alloc (Below.refl wr.heap.size wr) (Nat.le_refl _) (.cells #[.int .u8 ((q : Int) % 256)] 5)))
          have hbw2 := hbw.alloc hsz (.cells #[.int .u8 ((q : Int) % 256)] 5)
          clear hbe hbs hbw
          go_wp2_with (at_builtin; refine wpList_append_bs rfl _ _ 24 rfl w.heap.size 5 i0 Try.underlying24 hi hz0 hz1 hz2 _ _ rfl HO.out p c ys rfl HB.out hpn ?c1 ?c2 ?_)
          case c1 => simp; omega
          case c2 => simp; omega
          intro v1 w1 hown1 hbel1 hgrow1 hnil1
          clear hgrow1 hnil1
          go_wp2
          go_roundw
          case rel => exact ⟨j + 1, by rw [← HDD.out]; go_num, by omega, hnl2.out, by rw [hcons.out]; exact hown1, hbw2.trans hbel1⟩
          case measure => simp [intOf]; omega

end Go.Proofs.Ytcmjjkkbocekbaa
