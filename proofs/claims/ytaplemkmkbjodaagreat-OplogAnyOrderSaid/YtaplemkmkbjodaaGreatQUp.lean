/-
  heap.up: the item at j goes up until it stands ahead of none of those above it.
  No conditions but sizes.
-/
import Derived.Test.YtaplemkmkbjodaaGreatQMeth
namespace Go.Proofs.YtaplemkmkbjodaaGreat
open Go.RowKit

/-- what up leaves -/
def Upped (c g cap : Nat) (d : List Qm.It) (w : World) (e : Ending) (w' : World) : Prop :=
  e = .returned (.tuple #[]) ∧ ∃ d', HR w' c g cap d' ∧ d'.Perm d ∧ Qm.HeapF d' d'.length 0 ∧ Turns (fun k => k = g) w w'
/-- in the loop -/
structure URel (c g cap : Nat) (d : List Qm.It) (w : World) (k : Nat) (d' : List Qm.It) (wr : World) : Prop where
  lt : k < d.length
  hr : HR wr c g cap d'
  perm : d'.Perm d
  up : Qm.UpI d' d.length k
  turns : Turns (fun k => k = g) w wr
theorem URel.below {c g cap : Nat} {d : List Qm.It} {w : World} {k : Nat} {d' : List Qm.It} {wr w' : World} (h : URel c g cap d w k d' wr) (hb : Below wr.heap.size wr w') : URel c g cap d w k d' w' :=
  ⟨h.lt, h.hr.below hb, h.perm, h.up, h.turns.trans (Turns.of_below hb)⟩
theorem URel.stop {c g cap : Nat} {d : List Qm.It} {w : World} {k : Nat} {d' : List Qm.It} {wr : World} (h : URel c g cap d w k d' wr) (hc : 0 < k → ¬ Qm.ltI (Qm.itAt d' k) (Qm.itAt d' ((k - 1) / 2))) :
    Upped c g cap d w (.returned (.tuple #[])) wr := ⟨rfl, d', h.hr, h.perm, by rw [h.perm.length_eq]; exact h.up.stop hc, h.turns⟩
theorem URel.step {c g cap : Nat} {d : List Qm.It} {w : World} {k : Nat} {d' : List Qm.It} {wr w' : World} (h : URel c g cap d w k d' wr) (hk0 : 0 < k)
    (hlt : Qm.ltI (Qm.itAt d' k) (Qm.itAt d' ((k - 1) / 2))) (hr : HR w' c g cap (Qm.sw d' ((k - 1) / 2) k)) (ht : Turns (fun k => k = g) wr w') : URel c g cap d w ((k - 1) / 2) (Qm.sw d' ((k - 1) / 2) k) w' := by
  have hl := h.perm.length_eq
  have hk := h.lt
  exact ⟨by omega, hr, (Qm.sw_perm (by omega) (by omega)).trans h.perm, h.up.step (by omega) hk hk0 hlt, h.turns.trans (ht.mono fun _ _ h => Or.inl h)⟩

set_option maxRecDepth 100000 in
set_option maxHeartbeats 4000000 in
theorem up_any (c g cap : Nat) (d : List Qm.It) (j : Nat) (w : World) (h : HR w c g cap d) (hj : j < d.length) (hU : Qm.UpI d d.length j) :
    Calls Tryz.prog 118 #[.iface 140 (.pointer (some ⟨c, 0, none⟩)), .int .i64 (j : Int)] w (Upped c g cap d w) := by
  have hlen := h.len
  have HS := Lib.hid (show URel c g cap d w j d w from ⟨hj, h, List.Perm.refl _, hU, Turns.refl _ _⟩)
  clear h hU
  go_enter Tryz.func118, Tryz.ntmps118
  go_wp2
  go_loopw [1] (fun x wr => ∃ (k : Nat) (d' : List Qm.It), x = .int .i64 (k : Int) ∧ URel c g cap d w k d' wr) (fun x _ => (intOf x).toNat)
  case atStart => exact ⟨j, d, rfl, HS.out⟩
  case round =>
    obtain ⟨k, d', rfl, hR⟩ := hrel
    have HR0 := Lib.hid hR
    have hk := hR.lt
    have hl := hR.perm.length_eq
    have hd2 := hR.hr.len
    have m0 := meth_less hR.hr.cell
    clear HS
    rcases Nat.eq_zero_or_pos k with rfl | h0
    · clear hR
      go_wp2
      go_end0
      exact HR0.out.stop fun h => absurd h (Nat.lt_irrefl 0)
    · obtain ⟨p, hp⟩ : ∃ p : Nat, p = (k - 1) / 2 := ⟨_, rfl⟩
      have pk : ((k : Int) - 1) / 2 = (p : Int) := by omega
      have pk2 : ((k : Int) - 1).tdiv 2 = (p : Int) := by rw [Int.tdiv_eq_ediv_of_nonneg (by omega)]; exact pk
      have t1 : ((p : Int) == (k : Int)) = false := by rw [beq_eq_false_iff_ne]; omega
      have hpl : p < d'.length := by omega
      have hkl : k < d'.length := by omega
      have hpk : p < k := by omega
      have hp2 : p ≤ 2000 := by omega
      have hk2 : k ≤ 2000 := by omega
      have L0 := less_any c g cap d' k p wr hR.hr hkl hpl
      have HL0 := Lib.hid L0
      have HP := Lib.hid hp
      clear hR L0 hp hl
      by_cases hb : Qm.ltI (Qm.itAt d' k) (Qm.itAt d' p)
      · have hbt : decide (Qm.ltI (Qm.itAt d' k) (Qm.itAt d' p)) = true := decide_eq_true hb
        rw [hbt] at HL0
        have HB := Lib.hid hb
        clear hbt hb
        go_wp2_with fail
        refine HL0.out.mono ?_
        rintro e w2 ⟨rfl, hb2⟩
        have HR2 := Lib.hid (HR0.out.below hb2)
        have ms := meth_swap HR2.out.hr.cell
        have HSW := Lib.hid (swap_any c g cap d' p k w2 HR2.out.hr hpl hkl)
        clear hb2
        go_wp2_with fail
        refine HSW.out.mono ?_
        rintro e w3 ⟨rfl, hr3, ht3⟩
        have HR3 := Lib.hid (HR2.out.step (by omega) (by rw [← HP.out]; exact HB.out) (by rw [← HP.out]; exact hr3) ht3)
        clear hr3 ht3
        go_wp2
        go_roundw
        case rel => exact ⟨(k - 1) / 2, _, by rw [HP.out], HR3.out⟩
        case measure => simp [intOf]; omega
      · have hbt : decide (Qm.ltI (Qm.itAt d' k) (Qm.itAt d' p)) = false := decide_eq_false hb
        rw [hbt] at HL0
        have HB := Lib.hid hb
        clear hbt hb
        go_wp2_with fail
        refine HL0.out.mono ?_
        rintro e w2 ⟨rfl, hb2⟩
        have HR2 := Lib.hid (HR0.out.below hb2)
        clear hb2
        go_wp2
        go_end0
        exact HR2.out.stop fun _ => by rw [← HP.out]; exact HB.out

end Go.Proofs.YtaplemkmkbjodaaGreat
