/-
  FRAMES: sumBytes, Frame, bytes.Clone, bytes.Equal.
-/
import Derived.Test.YtdedlghimeomcaaNum
namespace Go.Proofs.Ytdedlghimeomcaa
open Go.RowKit

theorem be4 (n : Nat) : Wm.be 4 n = [UInt8.ofNat (n / 16777216 % 256), UInt8.ofNat (n / 65536 % 256), UInt8.ofNat (n / 256 % 256), UInt8.ofNat (n % 256)] := by
  simp [Wm.be, Nat.div_div_eq_div_mul]

/-- a literal row of the call's own -/
theorem Own.lit {E : TypeId} (w : World) (cs : Array Value) (l : List UInt8) (h : cs.toList = vals l) (hm : l.length ≤ maxLen) : Own E (w.alloc (.cells cs E)) w.heap.size (.slice (some ⟨w.heap.size, 0, none⟩) l.length l.length) l := by
  unfold Own
  rw [← h]
  refine World.ownsRow_lit w cs l.length (Nat.le_refl _) hm ?_
  rw [← Array.length_toList, h, vals_length, Nat.mul_one]

set_option maxHeartbeats 400000 in
theorem sumBytes_any (p : Option Addr) (c : Nat) (l : List UInt8) (w : World) (h : Bs w p l) (hl : l.length ≤ maxLen) :
    Calls Try.prog 31 #[.slice p l.length c] w fun e w' => ∃ v, e = .returned v ∧ Own 5 w' w.heap.size v (Wm.be 4 (Wm.crc l)) ∧ Below w.heap.size w w' := by
  have hc := Wm.crc_lt l
  go_enter Try.func31, Try.ntmps31
  go_wp2_with fail
  refine (sum_any _ _ l _ h hl).mono ?_
  rintro e w' ⟨rfl, rfl⟩
  generalize hn : Wm.crc l = n at *
  have HN := Lib.hid hn
  clear hn
  go_wp2
  go_ret
  refine ⟨_, rfl, Own.lit w _ _ ?_ (by simp [Wm.be_length, maxLen]), (Below.refl _ _).alloc (Nat.le_refl _) _⟩
  rw [HN.out, be4]
  have e1 : ((n : Int) / 16777216) = ((n / 16777216 % 256 : Nat) : Int) := by omega
  have e2 : ((n : Int) / 65536 % 256) = ((n / 65536 % 256 : Nat) : Int) := by omega
  have e3 : ((n : Int) / 256 % 256) = ((n / 256 % 256 : Nat) : Int) := by omega
  have e4 : ((n : Int) % 256) = ((n % 256 : Nat) : Int) := by omega
  rw [e1, e2, e3, e4]
  simp [vals]

/-- what Frame answers -/
def frameW (l : List UInt8) : List UInt8 × Nat := if l.length ≤ 1048576 then (Wm.frameB l, 0) else ([], 6)

set_option maxHeartbeats 400000 in
theorem frame_any (p : Option Addr) (c : Nat) (l : List UInt8) (w : World) (h : Bs w p l) (hl : l.length ≤ maxLen) (hpn : p = none → c = 0) :
    Calls Try.prog 14 #[.slice p l.length c] w (Wrote 5 w (frameW l)) := by
  unfold maxLen at hl
  obtain ⟨i0, hi, hz0, hz1, hz2⟩ := info_parts info_u8
  by_cases h1 : 1048576 < l.length
  · have hf := Lib.hid (show frameW l = ([], 6) by unfold frameW; rw [if_neg (by omega)])
    go_enter Try.func14, Try.ntmps14
    go_wp2
    go_ret2
    rw [hf.out]
    exact ⟨_, rfl, Own.nil _ _ _, Below.refl _ _⟩
  · have hf := Lib.hid (show frameW l = (Wm.frameB l, 0) by unfold frameW; rw [if_pos (by omega)])
    have H0 := Lib.hid h
    clear h
    have hnl := numB_small l.length
    have hown0 : Own 5 (w.alloc (.cells #[.int .u8 93] 5)) w.heap.size (.slice (some ⟨w.heap.size, 0, none⟩) 1 1) [93] := Own.lit w #[.int .u8 93] [93] rfl (by decide)
    have hb0 : Below w.heap.size w (w.alloc (.cells #[.int .u8 93] 5)) := (Below.refl _ _).alloc (Nat.le_refl _) _
    have HO0 := Lib.hid hown0
    clear hown0
    go_enter Try.func14, Try.ntmps14
    go_wp2_with fail
    refine (addNum_any w.heap.size _ [93] l.length _ (by omega) HO0.out (by simp) (by simp)).mono ?_
    rintro e w1 ⟨v1, rfl, hown1, hb1, hv1⟩
    clear hv1
    have hbw1 := hb0.trans hb1
    have hs1 := hbw1.size
    have HB1 := Lib.hid (H0.out.kept hbw1)
    clear hb0 hb1
    go_wp2_with (at_builtin; refine wpList_append_bs rfl _ _ 22 rfl w.heap.size 5 i0 Try.underlying22 hi hz0 hz1 hz2 _ ([93] ++ Wm.numB l.length) rfl hown1 p c l rfl HB1.out hpn ?b1 ?b2 ?_)
    case b1 => simp; omega
    case b2 => exact hs1
    intro v2 w2 hown2 hbel2 hgrow2 hnil2
    clear hgrow2 hnil2
    have hbw2 := hbw1.trans hbel2
    have hs2 := hbw2.size
    have HB2 := H0.out.kept hbw2
    clear hown1 hbel2 HB1 hbw1
    go_wp2_with fail
    refine (sumBytes_any p c l w2 HB2 (by unfold maxLen; omega)).mono ?_
    rintro e w3 ⟨v3, rfl, hown3, hb3⟩
    have hown2' := hown2.below hb3
    have hbw3 := hbw2.trans (hb3.mono hs2)
    have hs3 := hbw3.size
    obtain ⟨p3, c3, hv3, hbs3, hc3, hc3', hpn3, -⟩ := hown3.bs
    subst hv3
    have ht4 : (Wm.be 4 (Wm.crc l)).length ≤ 4 := by rw [Wm.be_length]; omega
    generalize hte : Wm.be 4 (Wm.crc l) = t at *
    have HT := Lib.hid hte
    clear hte
    clear hown2 hbw2 hb3 HB2
    go_wp2_with (at_builtin; refine wpList_append_bs rfl _ _ 22 rfl w.heap.size 5 i0 Try.underlying22 hi hz0 hz1 hz2 _ _ rfl hown2' p3 c3 t rfl hbs3 hpn3 ?c1 ?c2 ?_)
    case c1 => simp; omega
    case c2 => exact hs3
    intro v4 w4 hown4 hbel4 hgrow4 hnil4
    clear hgrow4 hnil4
    go_wp2
    go_ret2
    rw [hf.out]
    rw [← HT.out] at hown4
    refine ⟨_, rfl, ?_, hbw3.trans hbel4⟩
    rw [show (Wm.frameB l, 0).fst = 93 :: (Wm.numB l.length ++ (l ++ Wm.be 4 (Wm.crc l))) from by simp [Wm.frameB]]
    exact hown4

theorem strB_tl (l : List UInt8) : (strB l).toList = l := by rw [ByteArray.toList_eq, strB_toList]

/-- bytes.Equal -/
theorem equal_any (p q : Option Addr) (c d : Nat) (l m : List UInt8) (b : Bool) (w : World) (h : Bs w p l) (k : Bs w q m) (hb : (l == m) = b) :
    Calls Try.prog 34 #[.slice p l.length c, .slice q m.length d] w fun e w' => e = .returned (.bool b) ∧ w = w' := by
  have k1 := h.conv (P := Try.prog) c 22 5 9 Try.underlying22 Try.underlying5 Try.underlying9
  have k2 := k.conv (P := Try.prog) d 22 5 9 Try.underlying22 Try.underlying5 Try.underlying9
  have ht : ((strB l).toList == (strB m).toList) = b := by rw [strB_tl, strB_tl]; exact hb
  clear h k hb
  generalize strB l = s at *
  generalize strB m = t at *
  go_enter Try.func34, Try.ntmps34
  go_wp2
  go_ret
  exact ⟨rfl, rfl⟩

theorem equal_at (p q : Option Addr) (n k c d : Nat) (l m : List UInt8) (b : Bool) (w : World) (hn : l.length = n) (hk : m.length = k) (h : Bs w p l) (h2 : Bs w q m) (hb : (l == m) = b) :
    Calls Try.prog 34 #[.slice p n c, .slice q k d] w fun e w' => e = .returned (.bool b) ∧ w = w' := by
  subst hn hk
  exact equal_any p q c d l m b w h h2 hb

set_option maxHeartbeats 400000 in
/-- bytes.Clone: nil of nil; else new memory, not nil -/
theorem clone_any (p : Option Addr) (c : Nat) (l : List UInt8) (w : World) (h : Bs w p l) (hl : l.length ≤ 140737488355328) (hpn : p = none → c = 0 ∧ l = []) :
    Calls Try.prog 33 #[.slice p l.length c] w fun e w' => ∃ v, e = .returned v ∧ Own 5 w' w.heap.size v l ∧ Below w.heap.size w w' ∧ (v = .slice none 0 0 ↔ p = none) := by
  obtain ⟨i0, hi, hz0, hz1, hz2⟩ := info_parts info_u8
  have q22 : ∀ (w : World) (a : Option Addr) (n c n' c' : Nat), (binOp .eql 22 (.slice a n c) (.slice none n' c')).run Try.prog w = .ok (.bool a.isNone) w := fun w a n c n' c' => Lib.run_eql_slice_nil w _ _ a n c n' c' Try.underlying22
  cases p with
  | none =>
    obtain ⟨rfl, rfl⟩ := hpn rfl
    go_enter Try.func33, Try.ntmps33
    go_wp2
    go_ret
    exact ⟨_, rfl, Own.nil _ _ _, Below.refl _ _, by simp⟩
  | some a =>
    clear hpn
    have hown0 : Own 5 (w.alloc (.cells #[] 5)) w.heap.size (.slice (some ⟨w.heap.size, 0, none⟩) 0 0) [] := Own.lit w #[] [] rfl (by decide)
    have hb0 : Below w.heap.size w (w.alloc (.cells #[] 5)) := (Below.refl _ _).alloc (Nat.le_refl _) _
    have HO := Lib.hid hown0
    have HB := Lib.hid (h.kept hb0)
    clear hown0 h
    go_enter Try.func33, Try.ntmps33
    go_wp2_with (at_builtin; refine wpList_append_bs rfl _ _ 22 rfl w.heap.size 5 i0 Try.underlying22 hi hz0 hz1 hz2 _ _ rfl HO.out (some a) c l rfl HB.out (by simp) ?b1 ?b2 ?_)
    case b1 => simp; omega
    case b2 => simp
    intro v1 w1 hown hbel hgrow hnil
    have HN := Lib.hid hnil
    clear hgrow hnil
    go_wp2
    go_ret
    refine ⟨_, rfl, hown, hb0.trans hbel, ?_⟩
    exact ⟨fun e => absurd e HN.out, fun e => by simp at e⟩

end Go.Proofs.Ytdedlghimeomcaa
