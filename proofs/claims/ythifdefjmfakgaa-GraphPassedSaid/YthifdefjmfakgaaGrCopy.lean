/-
  slices.Clone of a graph's lines and of what takes them back: a row of its own.
  No conditions but sizes.
-/
import Derived.Test.YthifdefjmfakgaaG4
import Derived.Test.YthifdefjmfakgaaGZ
namespace Go.Proofs.Ythifdefjmfakgaa
open Go.RowKit
open Tm (Sp Tr has put cut kids)

/-- what slices.Clone leaves -/
def Rowed (E : TypeId) (n : Nat) (xs : List Value) (w : World) (e : Ending) (w' : World) : Prop := ∃ p c, e = .returned (.slice p n c) ∧ w'.ownsRow w.heap.size E 1 (.slice p n c) n xs ∧ Below w.heap.size w w'

set_option maxRecDepth 100000 in
set_option maxHeartbeats 2000000 in
theorem copyL_any (p : Option Addr) (cap n : Nat) (xs : List Value) (w : World) (hn : xs.length = n) (h : Rd w p xs) (hpn : p = none → cap = 0) (h1 : ∀ u ∈ xs, u.oneCell' = true) (hl : n ≤ 5000) :
    Calls Try.prog 30 #[.slice p n cap] w (Rowed 78 n xs w) := by
  obtain ⟨i0, hi, hz0, hz1, hz2⟩ := lineR.info
  have qT : ∀ (w : World) (a : Option Addr) (n c n' c' : Nat), (binOp .eql 67 (.slice a n c) (.slice none n' c')).run Try.prog w = .ok (.bool a.isNone) w := fun w a n c n' c' => Lib.run_eql_slice_nil w _ _ a n c n' c' lineR.und
  cases p with
  | none =>
    obtain rfl : xs = [] := by
      cases xs with
      | nil => rfl
      | cons u us => obtain ⟨_, _, e, _⟩ := h (by simp); cases e
    obtain rfl : 0 = n := hn
    have HE := Lib.hid (show Rowed 78 0 [] w (.returned (.slice none 0 0)) w from ⟨none, 0, rfl, World.ownsRow_nil _ _ _ _, Below.refl _ _⟩)
    clear h hpn
    go_enter Try.func30, Try.ntmps30
    go_wp2
    go_ret
    exact HE.out
  | some a =>
    have hb : Below w.heap.size w (w.alloc (.cells #[] 78)) := (Below.refl _ _).alloc (Nat.le_refl _) _
    have HR := Lib.hid (h.below hb)
    have HB := Lib.hid hb
    have HO := Lib.hid (World.ownsRow_lit (base := w.heap.size) (e := 78) (size := 1) w #[] 0 (Nat.le_refl _) (by simp [maxLen]) (by simp))
    have H1 := Lib.hid h1
    have HN := Lib.hid hn
    clear h hb hpn h1 hn
    go_enter Try.func30, Try.ntmps30
    go_wp2_with (at_builtin; refine wpList_append_k rfl _ _ 67 rfl w.heap.size 78 i0 _ 1 8 lineR.und hi hz0 hz1 (by decide) hz2 (by decide) lineR.zc _ 0 [] rfl HO.out _ n cap xs rfl (by rw [Nat.mul_one]; exact HN.out) HR.out (fun e => by cases e) H1.out (by omega) (by simp) ?_)
    intro p' c' w1 ho1 hg1 _
    have hbw := HB.out.grown hg1 (by simp) (fun k hk => by cases hk; exact Nat.le_refl _)
    have HE := Lib.hid (show Rowed 78 n xs w (.returned (.slice p' n c')) w1 from ⟨p', c', rfl, by simpa using ho1, hbw⟩)
    clear ho1 hg1 hbw
    go_wp2
    go_ret
    exact HE.out

set_option maxRecDepth 100000 in
set_option maxHeartbeats 2000000 in
theorem copyU_any (p : Option Addr) (cap n : Nat) (xs : List Value) (w : World) (hn : xs.length = n) (h : Rd w p xs) (hpn : p = none → cap = 0) (h1 : ∀ u ∈ xs, u.oneCell' = true) (hl : n ≤ 5000) :
    Calls Try.prog 31 #[.slice p n cap] w (Rowed 84 n xs w) := by
  obtain ⟨i0, hi, hz0, hz1, hz2⟩ := fnR.info
  have qT : ∀ (w : World) (a : Option Addr) (n c n' c' : Nat), (binOp .eql 68 (.slice a n c) (.slice none n' c')).run Try.prog w = .ok (.bool a.isNone) w := fun w a n c n' c' => Lib.run_eql_slice_nil w _ _ a n c n' c' fnR.und
  cases p with
  | none =>
    obtain rfl : xs = [] := by
      cases xs with
      | nil => rfl
      | cons u us => obtain ⟨_, _, e, _⟩ := h (by simp); cases e
    obtain rfl : 0 = n := hn
    have HE := Lib.hid (show Rowed 84 0 [] w (.returned (.slice none 0 0)) w from ⟨none, 0, rfl, World.ownsRow_nil _ _ _ _, Below.refl _ _⟩)
    clear h hpn
    go_enter Try.func31, Try.ntmps31
    go_wp2
    go_ret
    exact HE.out
  | some a =>
    have hb : Below w.heap.size w (w.alloc (.cells #[] 84)) := (Below.refl _ _).alloc (Nat.le_refl _) _
    have HR := Lib.hid (h.below hb)
    have HB := Lib.hid hb
    have HO := Lib.hid (World.ownsRow_lit (base := w.heap.size) (e := 84) (size := 1) w #[] 0 (Nat.le_refl _) (by simp [maxLen]) (by simp))
    have H1 := Lib.hid h1
    have HN := Lib.hid hn
    clear h hb hpn h1 hn
    go_enter Try.func31, Try.ntmps31
    go_wp2_with (at_builtin; refine wpList_append_k rfl _ _ 68 rfl w.heap.size 84 i0 _ 1 8 fnR.und hi hz0 hz1 (by decide) hz2 (by decide) fnR.zc _ 0 [] rfl HO.out _ n cap xs rfl (by rw [Nat.mul_one]; exact HN.out) HR.out (fun e => by cases e) H1.out (by omega) (by simp) ?_)
    intro p' c' w1 ho1 hg1 _
    have hbw := HB.out.grown hg1 (by simp) (fun k hk => by cases hk; exact Nat.le_refl _)
    have HE := Lib.hid (show Rowed 84 n xs w (.returned (.slice p' n c')) w1 from ⟨p', c', rfl, by simpa using ho1, hbw⟩)
    clear ho1 hg1 hbw
    go_wp2
    go_ret
    exact HE.out
end Go.Proofs.Ythifdefjmfakgaa
