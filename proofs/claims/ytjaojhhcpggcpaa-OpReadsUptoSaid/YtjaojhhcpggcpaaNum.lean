/-
  WRITING: addNum, Num, Text, sumBytes, Frame: new memory with the document's bytes.
-/
import Derived.Test.YtjaojhhcpggcpaaLen
import Derived.Test.YtjaojhhcpggcpaaSum
namespace Go.Proofs.Ytjaojhhcpggcpaa
open Go.RowKit

theorem bitLen_pos (n : Nat) (h0 : n ≠ 0) (h : n < 18446744073709551616) : 1 ≤ Lib.bitLen n := by
  rw [Lib.bitLen_half n h0 h]; omega

theorem nlen_bits (n : Nat) (h : n < 281474976710656) : (Lib.bitLen n + 7) / 8 = Wm.nlen n := by
  unfold Wm.nlen
  split
  · subst_vars; decide
  split
  · have a := bitLen_pos n (by omega) (by omega)
    have b := Lib.bitLen_le n 8 (by decide) (by omega)
    omega
  split
  · have a := bitLen_pos (n / 256) (by omega) (by omega)
    have b := Lib.bitLen_le (n / 256) 8 (by decide) (by omega)
    have c := Lib.bitLen_shift8 n (by omega) (by omega)
    omega
  split
  · have a := bitLen_pos (n / 65536) (by omega) (by omega)
    have b := Lib.bitLen_le (n / 65536) 8 (by decide) (by omega)
    have c := Lib.bitLen_shift16 n (by omega) (by omega)
    omega
  split
  · have a := bitLen_pos (n / 16777216) (by omega) (by omega)
    have b := Lib.bitLen_le (n / 16777216) 8 (by decide) (by omega)
    have c := Lib.bitLen_shift24 n (by omega) (by omega)
    omega
  split
  · have a := bitLen_pos (n / 4294967296) (by omega) (by omega)
    have b := Lib.bitLen_le (n / 4294967296) 8 (by decide) (by omega)
    have c := Lib.bitLen_shift32 n (by omega) (by omega)
    omega
  · have a := bitLen_pos (n / 1099511627776) (by omega) (by omega)
    have b := Lib.bitLen_le (n / 1099511627776) 8 (by decide) (by omega)
    have c := Lib.bitLen_shift40 n (by omega) (by omega)
    omega

set_option maxRecDepth 100000 in
set_option maxHeartbeats 400000 in
theorem len_any (x : Int) (w : World) (h0 : 0 ≤ x) (h1 : x ≤ 281474976710655) :
    Calls Try.prog 49 #[.int .u64 x] w fun e w' => e = .returned (.int .i64 (Lib.bitLen x.toNat)) ∧ w = w' := by
  go_enter Try.func49, Try.ntmps49
  go_wp2_with (go_at_call 52; refine (len64_any _ _ h0 h1).mono ?_; rintro e w' ⟨rfl, rfl⟩)
  go_ret
  exact ⟨rfl, rfl⟩

/-- a new block of one byte reads as that byte -/
theorem Bs.new1 (w : World) (x : Int) (c : UInt8) (E : TypeId) (h : x = (c.toNat : Int)) : Bs (w.alloc (.cells #[.int .u8 x] E)) (some ⟨w.heap.size, 0, none⟩) [c] := by
  intro _
  refine ⟨_, _, rfl, fun i hi => ?_⟩
  have : i = 0 := by simpa using hi
  subst this
  rw [World.cell?_alloc_at _ _ _ _ rfl, h]
  rfl

theorem low_byte (n : Nat) : ((UInt8.ofNat (n % 256)).toNat : Int) = (n : Int) % 256 := by simp

/-- the byte at place j of a number's bytes -/
theorem be_at (k n j : Nat) (h : j < k) : (Wm.be k n)[j]'(by rw [Wm.be_length]; exact h) = UInt8.ofNat (n / 256 ^ (k - 1 - j) % 256) := by
  have a := Wm.be_take k n (j + 1) (by omega)
  have b := Wm.be_take k n j (by omega)
  rw [take_snoc _ j (by rw [Wm.be_length]; exact h), b, Wm.be] at a
  have c := List.append_inj_right' a rfl
  simp only [List.cons.injEq, and_true] at c
  rw [c, show k - (j + 1) = k - 1 - j from by omega]

theorem shr_pow (n e : Nat) : (n : Int) / 2 ^ (8 * e) = ((n / 256 ^ e : Nat) : Int) := by
  rw [show (2 : Int) ^ (8 * e) = ((256 ^ e : Nat) : Int) from by rw [show (256 : Nat) = 2 ^ 8 from rfl, ← Nat.pow_mul]; exact_mod_cast rfl]
  exact_mod_cast rfl

set_option maxRecDepth 100000 in
set_option maxHeartbeats 1000000 in
theorem addNum_any (B : Nat) (v : Value) (xs : List UInt8) (n : Nat) (w : World) (hn : n < 281474976710656) (hown : Own 5 w B v xs) (hB : B ≤ w.heap.size) (hx : xs.length ≤ 1000000) :
    Calls Try.prog 39 #[v, .int .i64 n] w fun e w' => ∃ v', e = .returned v' ∧ Own 5 w' B v' (xs ++ Wm.numB n) ∧ Below B w w' ∧ v' ≠ .slice none 0 0 := by
  obtain ⟨i0, hi, hz0, hz1, hz2⟩ := info_parts info_u8
  have hk6 := Wm.nlen_le n
  have hb := Lib.bitLen_le n 48 (by decide) hn
  have hnl := nlen_bits n hn
  generalize hKe : Wm.nlen n = K at *
  have HK := Lib.hid hKe
  clear hKe
  go_enter Try.func39, Try.ntmps39
  go_wp2_with fail
  refine (len_any _ _ (by omega) (by omega)).mono ?_
  rintro e w' ⟨rfl, rfl⟩
  rw [Int.toNat_natCast]
  generalize Lib.bitLen n = bl at *
  have hK : ((bl : Int) + 7) / 8 = (K : Int) := by omega
  clear hnl
  have hbs := Bs.new1 w (K : Int) (UInt8.ofNat K) 5 (by simp; omega)
  have hown1 := hown.alloc (.cells #[.int .u8 (K : Int)] 5)
  go_wp2_with (at_builtin; refine wpList_append_bs rfl _ _ 31 rfl B 5 i0 Try.underlying31 hi hz0 hz1 hz2 _ xs rfl hown1 (some ⟨w.heap.size, 0, none⟩) 1 [UInt8.ofNat K] rfl hbs ?b0 ?b1 ?b2 ?_)
  case b0 => simp
  case b1 => simp; omega
  case b2 => simp; omega
  intro v1 w1 hown2 hbel hgrow hnil
  have HV1 := Lib.hid hnil
  have hbw : Below B w w1 := ((Below.refl B w).alloc hB _).trans hbel
  clear hbs hown1 hgrow hnil hbel hown hK
  go_wp2
  go_loopw [0, 6] (fun v i wr => ∃ j : Nat, j ≤ K ∧ i = .int .i64 ((K : Int) - 1 - j) ∧ Own 5 wr B v (xs ++ UInt8.ofNat K :: (Wm.be K n).take j) ∧ Below B w wr ∧ v ≠ .slice none 0 0) (fun _ i _ => (intOf i + 1).toNat)
  case atStart => exact ⟨0, Nat.zero_le _, by simp, hown2, hbw, HV1.out⟩
  case round =>
    obtain ⟨j, hj, rfl, hown3, hbw3, hv3⟩ := hrel
    have HV3 := Lib.hid hv3
    clear hv3
    have hB3 : B ≤ wr.heap.size := Nat.le_trans hB hbw3.size
    by_cases hlt : j < K
    · obtain ⟨r, hr⟩ : ∃ r, K = r + 1 + j := ⟨K - 1 - j, by omega⟩
      rw [show (((K : Nat) : Int) - 1 - (j : Int)) = (r : Int) from by omega]
      have hr6 : r ≤ 5 := by omega
      have HS : Hid ((Wm.be K n).take (j + 1) = (Wm.be K n).take j ++ [UInt8.ofNat (n / 256 ^ r % 256)]) := by
        show (Wm.be K n).take (j + 1) = (Wm.be K n).take j ++ [UInt8.ofNat (n / 256 ^ r % 256)]
        rw [take_snoc _ j (by rw [Wm.be_length]; exact hlt), be_at K n j hlt, show K - 1 - j = r from by omega]
      have HR := Lib.hid hr
      clear hr
      have hbs := Bs.new1 wr ((n : Int) / 2 ^ (8 * r) % 256) (UInt8.ofNat (n / 256 ^ r % 256)) 5 (by rw [shr_pow, low_byte])
      have hown4 := hown3.alloc (.cells #[.int .u8 ((n : Int) / 2 ^ (8 * r) % 256)] 5)
      have hlen : (xs ++ UInt8.ofNat K :: (Wm.be K n).take j).length ≤ 1000007 := by simp; omega
      generalize hys : xs ++ UInt8.ofNat K :: (Wm.be K n).take j = ys at *
      have HYS := Lib.hid hys
      clear hys
      go_wp2_with (at_builtin; refine wpList_append_bs rfl _ _ 31 rfl B 5 i0 Try.underlying31 hi hz0 hz1 hz2 _ ys rfl hown4 (some ⟨wr.heap.size, 0, none⟩) 1 [UInt8.ofNat (n / 256 ^ r % 256)] rfl hbs ?c0 ?c1 ?c2 ?_)
      case c0 => simp
      case c1 => simp; omega
      case c2 => simp; omega
      intro v5 w5 hown5 hbel5 hgrow5 hnil5
      have HV5 := Lib.hid hnil5
      have hbw5 : Below B w w5 := (hbw3.alloc hB3 _).trans hbel5
      have hown6 : Own 5 w5 B v5 (xs ++ UInt8.ofNat K :: (Wm.be K n).take (j + 1)) := by
        rw [HS.out]
        rw [← HYS.out] at hown5
        simpa using hown5
      clear hbs hown3 hown4 hown5 hbel5 hgrow5 hnil5 hbw3 hbw
      go_wp2
      go_roundw
      case rel => exact ⟨j + 1, by omega, by rw [show ((K : Int) - 1 - ((j + 1 : Nat) : Int)) = (r : Int) - 1 from by have := HR.out; omega], hown6, hbw5, HV5.out⟩
      case measure => simp [intOf]
    · obtain rfl : j = K := by omega
      have e : (Wm.be j n).take j = Wm.be j n := List.take_of_length_le (by rw [Wm.be_length]; omega)
      rw [e] at hown3
      have hfin : Hid (UInt8.ofNat j :: Wm.be j n = Wm.numB n) := by show UInt8.ofNat j :: Wm.be j n = Wm.numB n; unfold Wm.numB; rw [HK.out]
      clear e
      go_wp2
      go_ret
      rw [hfin.out] at hown3
      exact ⟨_, rfl, hown3, hbw3, HV3.out⟩
/-- what Num answers: the bytes, the error -/
def numW (n : Int) : List UInt8 × Nat := if 0 ≤ n ∧ n ≤ 281474976710655 then (Wm.numB n.toNat, 0) else ([], 30)

/-- bytes and an error: new memory; nothing below it has turned -/
def Wrote (E : TypeId) (w : World) (r : List UInt8 × Nat) (e : Ending) (w' : World) : Prop :=
  ∃ v, e = .returned (.tuple #[v, .int .i64 (r.2 : Int)]) ∧ Own E w' w.heap.size v r.1 ∧ Below w.heap.size w w'

set_option maxRecDepth 100000 in
set_option maxHeartbeats 400000 in
theorem num_any (n : Int) (w : World) : Calls Try.prog 22 #[.int .i64 n] w (Wrote 5 w (numW n)) := by
  by_cases h0 : n < 0
  · have hf := Lib.hid (show numW n = ([], 30) by unfold numW; rw [if_neg (by omega)])
    go_enter Try.func22, Try.ntmps22
    go_wp2
    go_ret2
    rw [hf.out]
    exact ⟨_, rfl, Own.nil _ _ _, Below.refl _ _⟩
  · by_cases h1 : 281474976710655 < n
    · have hf := Lib.hid (show numW n = ([], 30) by unfold numW; rw [if_neg (by omega)])
      go_enter Try.func22, Try.ntmps22
      go_wp2
      go_ret2
      rw [hf.out]
      exact ⟨_, rfl, Own.nil _ _ _, Below.refl _ _⟩
    · obtain ⟨m, rfl⟩ := Int.eq_ofNat_of_zero_le (show 0 ≤ n by omega)
      have hf := Lib.hid (show numW (m : Int) = (Wm.numB m, 0) by unfold numW; rw [if_pos (by omega), Int.toNat_natCast])
      go_enter Try.func22, Try.ntmps22
      go_wp2_with fail
      refine (addNum_any w.heap.size _ [] m w (by omega) (Own.nil _ _ _) (Nat.le_refl _) (by simp)).mono ?_
      rintro e w1 ⟨v1, rfl, hown, hbw, hv⟩
      clear hv
      go_wp2
      go_ret2
      rw [hf.out]
      exact ⟨_, rfl, hown, hbw⟩

/-- what Text answers -/
def textW (s : List UInt8) : List UInt8 × Nat := if s.length ≤ 1048576 then (Wm.numB s.length ++ s, 0) else ([], 6)

theorem numB_small (n : Nat) : (Wm.numB n).length ≤ 7 := by rw [Wm.numB_length]; have := Wm.nlen_le n; omega

set_option maxRecDepth 100000 in
set_option maxHeartbeats 400000 in
theorem text_any (s : ByteArray) (w : World) (hs : s.size ≤ maxLen) : Calls Try.prog 24 #[.string s] w (Wrote 5 w (textW s.data.toList)) := by
  unfold maxLen at hs
  have hsl : s.data.toList.length = s.size := by rw [Array.length_toList]; rfl
  obtain ⟨i0, hi, hz0, hz1, hz2⟩ := info_parts info_u8
  by_cases h1 : 1048576 < s.size
  · have hf := Lib.hid (show textW s.data.toList = ([], 6) by unfold textW; rw [if_neg (by omega)])
    clear hsl
    go_enter Try.func24, Try.ntmps24
    go_wp2
    go_ret2
    rw [hf.out]
    exact ⟨_, rfl, Own.nil _ _ _, Below.refl _ _⟩
  · have hf := Lib.hid (show textW s.data.toList = (Wm.numB s.size ++ s.data.toList, 0) by unfold textW; rw [if_pos (by omega), hsl])
    clear hsl
    go_enter Try.func24, Try.ntmps24
    go_wp2_with fail
    refine (addNum_any w.heap.size _ [] s.size w (by omega) (Own.nil _ _ _) (Nat.le_refl _) (by simp)).mono ?_
    rintro e w1 ⟨v1, rfl, hown, hbw, hv⟩
    clear hv
    have hsz := hbw.size
    go_wp2_with (at_builtin; refine wpList_append_str rfl _ _ 31 9 rfl w.heap.size 5 i0 Try.underlying31 Try.underlying9 hi hz0 hz1 hz2 _ ([] ++ Wm.numB s.size) rfl hown s rfl ?c1 ?c2 ?_)
    case c1 => have := numB_small s.size; simp; omega
    case c2 => exact hsz
    intro v2 w2 hown2 hbel2 hnil2
    clear hnil2
    go_wp2
    go_ret2
    rw [hf.out]
    exact ⟨_, rfl, hown2, hbw.trans hbel2⟩

end Go.Proofs.Ytjaojhhcpggcpaa
