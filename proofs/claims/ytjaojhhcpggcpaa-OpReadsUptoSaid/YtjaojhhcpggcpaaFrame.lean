/-
  FRAMES: sumBytes, Frame, bytes.Clone, bytes.Equal.
-/
import Derived.Test.YtjaojhhcpggcpaaNum
namespace Go.Proofs.Ytjaojhhcpggcpaa
open Go.RowKit

theorem be4 (n : Nat) : Wm.be 4 n = [UInt8.ofNat (n / 16777216 % 256), UInt8.ofNat (n / 65536 % 256), UInt8.ofNat (n / 256 % 256), UInt8.ofNat (n % 256)] := by
  simp [Wm.be, Nat.div_div_eq_div_mul]

/-- a literal row of the call's own -/
theorem Own.lit {E : TypeId} (w : World) (cs : Array Value) (l : List UInt8) (h : cs.toList = vals l) (hm : l.length ≤ maxLen) : Own E (w.alloc (.cells cs E)) w.heap.size (.slice (some ⟨w.heap.size, 0, none⟩) l.length l.length) l := by
  unfold Own
  rw [← h]
  refine World.ownsRow_lit w cs l.length (Nat.le_refl _) hm ?_
  rw [← Array.length_toList, h, vals_length, Nat.mul_one]

/-- what Frame answers -/
def frameW (l : List UInt8) : List UInt8 × Nat := if l.length ≤ 1048576 then (Wm.frameB l, 0) else ([], 6)

theorem strB_tl (l : List UInt8) : (strB l).toList = l := by rw [ByteArray.toList_eq, strB_toList]

set_option maxRecDepth 100000 in
set_option maxHeartbeats 400000 in
set_option maxRecDepth 100000 in
/-- bytes.Clone: nil of nil; else new memory, not nil -/
theorem clone_any (p : Option Addr) (c : Nat) (l : List UInt8) (w : World) (h : Bs w p l) (hl : l.length ≤ 140737488355328) (hpn : p = none → c = 0 ∧ l = []) :
    Calls Try.prog 29 #[.slice p l.length c] w fun e w' => ∃ v, e = .returned v ∧ Own 5 w' w.heap.size v l ∧ Below w.heap.size w w' ∧ (v = .slice none 0 0 ↔ p = none) := by
  obtain ⟨i0, hi, hz0, hz1, hz2⟩ := info_parts info_u8
  have q22 : ∀ (w : World) (a : Option Addr) (n c n' c' : Nat), (binOp .eql 31 (.slice a n c) (.slice none n' c')).run Try.prog w = .ok (.bool a.isNone) w := fun w a n c n' c' => Lib.run_eql_slice_nil w _ _ a n c n' c' Try.underlying31
  cases p with
  | none =>
    obtain ⟨rfl, rfl⟩ := hpn rfl
    go_enter Try.func29, Try.ntmps29
    go_wp2
    go_ret
    exact ⟨_, rfl, Own.nil _ _ _, Below.refl _ _, by simp⟩
  | some a =>
    clear hpn
    have hown0 : Own 5 (w.alloc (.cells #[] 5)) w.heap.size (.slice (some ⟨w.heap.size, 0, none⟩) 0 0) [] := Own.lit w #[] [] rfl (by decide)
    have hb0 : Below w.heap.size w (w.alloc (.cells #[] 5)) := (Below.refl _ _).alloc (Nat.le_refl _) _
    have HO := Lib.hid hown0
    have HB := Lib.hid (h.kept hb0)
    clear hown0 h
    go_enter Try.func29, Try.ntmps29
    go_wp2_with (at_builtin; refine wpList_append_bs rfl _ _ 31 rfl w.heap.size 5 i0 Try.underlying31 hi hz0 hz1 hz2 _ _ rfl HO.out (some a) c l rfl HB.out (by simp) ?b1 ?b2 ?_)
    case b1 => simp; omega
    case b2 => simp
    intro v1 w1 hown hbel hgrow hnil
    have HN := Lib.hid hnil
    clear hgrow hnil
    go_wp2
    go_ret
    refine ⟨_, rfl, hown, hb0.trans hbel, ?_⟩
    exact ⟨fun e => absurd e HN.out, fun e => by simp at e⟩

end Go.Proofs.Ytjaojhhcpggcpaa
