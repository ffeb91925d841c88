/-
  THE PROGRAM's Spread.
  No conditions but sizes.
-/
import Derived.Test.YtdgcdepepfgkoaaKHalve
import Derived.Laws.EntriesVeiled
namespace Go.Proofs.Ytdgcdepepfgkoaa
open Go.RowKit

/-- what Spread leaves: a row of keys, and an error's number -/
def Sp (w : World) (r : List (List UInt8) × Int) (e : Ending) (w' : World) : Prop :=
  Below w.heap.size w w' ∧ ∃ p c, e = .returned (.tuple #[.slice p r.1.length c, .int .i64 r.2]) ∧ Rd w' p (vstr (r.1.map strB))
theorem Rd.nil (w : World) (p : Option Addr) : Rd w p [] := fun h => absurd h (Nat.lt_irrefl 0)
theorem Sp.bad {w w' : World} {x : Int} (hb : Below w.heap.size w w') : Sp w ([], x) (.returned (.tuple #[.slice none 0 0, .int .i64 x])) w' := ⟨hb, none, 0, rfl, Rd.nil _ _⟩

/-- where Spread begins -/
def spW (w : World) : World := (w.alloc (.cells #[.slice none 0 0] 32)).alloc (.cells #[.func (.func 27) #[] #[.pointer (some ⟨w.heap.size + 1, 0, none⟩), .pointer (some ⟨w.heap.size, 0, none⟩)]] 48)
theorem spW_size (w : World) : (spW w).heap.size = w.heap.size + 2 := by simp [spW]
theorem spW_below (w : World) : Below w.heap.size w (spW w) := ((Below.refl _ _).alloc (Nat.le_refl _) _).alloc (by simp) _
theorem spW_state (w : World) : HState w.heap.size (w.heap.size + 2) (w.heap.size + 1) w.heap.size [] (spW w) := by
  refine ⟨?_, ?_, ⟨_, ?_, OwnS.nil _ _ _⟩, by rw [spW_size]; exact Nat.le_refl _, by omega, by omega, by omega, by omega, Nat.le_refl _⟩
  · unfold spW
    rw [World.cell?_alloc_at _ _ _ _ (by simp)]
    rfl
  · unfold spW
    rw [World.frozen?_alloc_past _ _ _ (by simp)]
    exact World.frozen?_alloc_at _ _ _ _ rfl
  · unfold spW
    rw [World.cell?_alloc_past _ _ _ (by simp), World.cell?_alloc_at _ _ _ _ rfl]
    rfl

set_option maxRecDepth 100000 in
set_option maxHeartbeats 8000000 in
theorem spread_any (a b : ByteArray) (n : Int) (w : World) (ha : a.size ≤ 140737488355328) (hb : b.size ≤ 140737488355328) :
    Calls Try.prog 17 #[.string a, .string b, .int .i64 n] w (Sp w (Km.spread n a.data.toList b.data.toList)) := by
  have HEN := ends_any a b
  by_cases hn0 : n < 0
  · have HS := Lib.hid (Km.spread_bad (n := n) (a := a.data.toList) (b := b.data.toList) (Or.inl hn0))
    rw [HS.out]
    go_enter Try.func17, Try.ntmps17
    go_wp2_with fail
    go_ret2
    exact Sp.bad (Below.refl _ _)
  · by_cases hn1 : 64 < n
    · have HS := Lib.hid (Km.spread_bad (n := n) (a := a.data.toList) (b := b.data.toList) (Or.inr (Or.inl hn1)))
      rw [HS.out]
      go_enter Try.func17, Try.ntmps17
      go_wp2_with fail
      go_ret2
      exact Sp.bad (Below.refl _ _)
    · cases he : Km.endsB a.data.toList b.data.toList
      · rw [he] at HEN
        have HE := Lib.hid (fun w => HEN w ha hb)
        have HS := Lib.hid (Km.spread_bad (n := n) (a := a.data.toList) (b := b.data.toList) (Or.inr (Or.inr he)))
        rw [HS.out]
        clear HEN he
        go_enter Try.func17, Try.ntmps17
        go_wp2_with fail
        refine (HE.out _).mono ?_
        rintro e w' ⟨rfl, rfl⟩
        go_wp2_with fail
        go_ret2
        exact Sp.bad (Below.refl _ _)
      · rw [he] at HEN
        have HE := Lib.hid (fun w => HEN w ha hb)
        obtain ⟨m, rfl⟩ := Int.eq_ofNat_of_zero_le (show 0 ≤ n by omega)
        have hm : m ≤ 64 := by omega
        have HEE := Lib.hid he
        clear HEN he hn0 hn1
        go_enter Try.func17, Try.ntmps17
        go_wp2_with fail
        refine (HE.out _).mono ?_
        rintro e w' ⟨rfl, rfl⟩
        go_wp2_with fail
        have HH := Lib.hid (halve_any w.heap.size (w.heap.size + 2) (w.heap.size + 1) w.heap.size m a b [] (spW w) hm (by simp; omega) HEE.out (spW_state w))
        refine HH.out.mono ?_
        rintro e w1 ⟨hb1, ⟨l, hl, rfl, hst⟩ | ⟨hl, rfl⟩⟩
        · have HB := Lib.hid ((spW_below w).trans hb1)
          have HS := Lib.hid (Km.spread_some hm HEE.out hl)
          obtain ⟨v, hv, hown⟩ := hst.2.2.1
          rw [List.nil_append] at hown
          obtain ⟨p, c, rfl, hrd, -⟩ := hown.rd
          rw [List.length_map] at hv
          have HRD := Lib.hid hrd
          clear hb1 hl hst hown hrd HH
          go_wp2_with fail
          go_ret2
          rw [HS.out]
          exact ⟨HB.out, p, c, rfl, HRD.out⟩
        · have HB := Lib.hid ((spW_below w).trans hb1)
          have HS := Lib.hid (Km.spread_none hm HEE.out hl)
          clear hb1 hl HH
          go_wp2_with fail
          go_ret2
          rw [HS.out]
          exact Sp.bad HB.out

end Go.Proofs.Ytdgcdepepfgkoaa
