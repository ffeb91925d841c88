/-
  heap.down: the item at i goes down until it stands behind none of those below it.
  No conditions but sizes.
-/
import Derived.Test.YtaplemkmkbjodaaGreatQMeth
namespace Go.Proofs.YtaplemkmkbjodaaGreat
open Go.RowKit

/-- what down leaves -/
def Downed (c g cap n lo : Nat) (d : List Qm.It) (w : World) (e : Ending) (w' : World) : Prop :=
  ∃ b d', e = .returned (.bool b) ∧ HR w' c g cap d' ∧ d'.Perm d ∧ (∀ m, n ≤ m → Qm.itAt d' m = Qm.itAt d m) ∧ Qm.HeapF d' n lo ∧ Turns (fun k => k = g) w w'
/-- in the loop -/
structure DRel (c g cap n lo : Nat) (d : List Qm.It) (w : World) (k : Nat) (d' : List Qm.It) (wr : World) : Prop where
  le : k ≤ n
  lok : lo ≤ k
  hr : HR wr c g cap d'
  perm : d'.Perm d
  tail : ∀ m, n ≤ m → Qm.itAt d' m = Qm.itAt d m
  down : Qm.DownI d' n lo k
  turns : Turns (fun k => k = g) w wr
theorem turns_more {g : Nat} {a b c : World} (h : Turns (fun k => k = g) a b) (k : Turns (fun k => k = g) b c) : Turns (fun k => k = g) a c := h.trans (k.mono fun _ _ h => Or.inl h)
theorem DRel.below {c g cap n lo : Nat} {d : List Qm.It} {w : World} {k : Nat} {d' : List Qm.It} {wr w' : World} (h : DRel c g cap n lo d w k d' wr) (hb : Below wr.heap.size wr w') : DRel c g cap n lo d w k d' w' :=
  ⟨h.le, h.lok, h.hr.below hb, h.perm, h.tail, h.down, turns_more h.turns (Turns.of_below hb)⟩
theorem DRel.len {c g cap n lo : Nat} {d : List Qm.It} {w : World} {k : Nat} {d' : List Qm.It} {wr : World} (h : DRel c g cap n lo d w k d' wr) (hn : n ≤ d.length) : n ≤ d'.length := by
  rw [h.perm.length_eq]; exact hn
theorem DRel.stop {c g cap n lo : Nat} {d : List Qm.It} {w : World} {k : Nat} {d' : List Qm.It} {wr : World} (h : DRel c g cap n lo d w k d' wr) (b : Bool) (hc : ∀ m, 0 < m → m < n → (m - 1) / 2 = k → ¬ Qm.ltI (Qm.itAt d' m) (Qm.itAt d' k)) :
    Downed c g cap n lo d w (.returned (.bool b)) wr := ⟨b, d', rfl, h.hr, h.perm, h.tail, h.down.stop hc, h.turns⟩
/-- j, the smaller child, goes up -/
theorem DRel.step {c g cap n lo : Nat} {d : List Qm.It} {w : World} {k j : Nat} {d' : List Qm.It} {wr w' : World} (h : DRel c g cap n lo d w k d' wr) (hn : n ≤ d.length) (hj : j < n) (hj0 : 0 < j) (hjk : (j - 1) / 2 = k)
    (hlt : Qm.ltI (Qm.itAt d' j) (Qm.itAt d' k)) (hc : ∀ m, 0 < m → m < n → (m - 1) / 2 = k → ¬ Qm.ltI (Qm.itAt d' m) (Qm.itAt d' j))
    (hr : HR w' c g cap (Qm.sw d' k j)) (ht : Turns (fun k => k = g) wr w') : DRel c g cap n lo d w j (Qm.sw d' k j) w' := by
  have hl := h.len hn
  refine ⟨by omega, by have := h.lok; omega, hr, (Qm.sw_perm (by omega) (by omega)).trans h.perm, fun m hm => ?_, h.down.step hl hj hj0 hjk h.lok hlt hc, turns_more h.turns ht⟩
  rw [Qm.sw_at (by omega) (by omega), if_neg (by omega), if_neg (by omega)]
  exact h.tail m hm

set_option maxRecDepth 100000 in
set_option maxHeartbeats 4000000 in
theorem down_any (c g cap : Nat) (d : List Qm.It) (i n : Nat) (w : World) (h : HR w c g cap d) (hn : n ≤ d.length) (hi : i ≤ n) (hD : Qm.DownI d n i i) :
    Calls Tryz.prog 101 #[.iface 140 (.pointer (some ⟨c, 0, none⟩)), .int .i64 (i : Int), .int .i64 (n : Int)] w (Downed c g cap n i d w) := by
  have hlen := h.len
  have HS := Lib.hid (show DRel c g cap n i d w i d w from ⟨hi, Nat.le_refl _, h, List.Perm.refl _, fun _ _ => rfl, hD, Turns.refl _ _⟩)
  clear h hD
  go_enter Tryz.func101, Tryz.ntmps101
  go_wp2
  go_loopw [7] (fun x wr => ∃ (k : Nat) (d' : List Qm.It), x = .int .i64 (k : Int) ∧ DRel c g cap n i d w k d' wr) (fun x _ => n - (intOf x).toNat)
  case atStart => exact ⟨i, d, rfl, HS.out⟩
  case round =>
    obtain ⟨k, d', rfl, hR⟩ := hrel
    have HR0 := Lib.hid hR
    have hkn := hR.le
    have hdl := hR.len hn
    have hd2 := hR.hr.len
    clear HS
    have n1 : decide (2 * (k : Int) + 1 < 0) = false := decide_eq_false (by omega)
    by_cases h1 : 2 * k + 1 < n
    · have m0 := meth_less hR.hr.cell
      have t1 : decide ((n : Int) ≤ 2 * (k : Int) + 1) = false := decide_eq_false (by omega)
      by_cases h2 : 2 * k + 2 < n
      · have t2 : decide (2 * (k : Int) + 1 + 1 < (n : Int)) = true := decide_eq_true (by omega)
        have L0 := less_any c g cap d' (2 * k + 2) (2 * k + 1) wr hR.hr (by omega) (by omega)
        rw [show ((2 * k + 2 : Nat) : Int) = 2 * (k : Int) + 1 + 1 from by omega, show ((2 * k + 1 : Nat) : Int) = 2 * (k : Int) + 1 from by omega] at L0
        have HL0 := Lib.hid L0
        clear hR L0
        by_cases hb : Qm.ltI (Qm.itAt d' (2 * k + 2)) (Qm.itAt d' (2 * k + 1))
        · have hbt : decide (Qm.ltI (Qm.itAt d' (2 * k + 2)) (Qm.itAt d' (2 * k + 1))) = true := decide_eq_true hb
          rw [hbt] at HL0
          have HB := Lib.hid hb
          clear hbt hb
          go_wp2_with fail
          refine HL0.out.mono ?_
          rintro e w1 ⟨rfl, hb1⟩
          have HRW := Lib.hid (HR0.out.below hb1)
          have m1 := meth_less HRW.out.hr.cell
          clear hb1 HL0 m0
          have LL := less_any c g cap d' (2 * k + 2) k w1 HRW.out.hr (by omega) (by omega)
          rw [show ((2 * k + 2 : Nat) : Int) = 2 * (k : Int) + 1 + 1 from by omega] at LL
          have HLL := Lib.hid LL
          have HC : Hid (∀ m, 0 < m → m < n → (m - 1) / 2 = k → ¬ Qm.ltI (Qm.itAt d' m) (Qm.itAt d' (2 * k + 2))) := Lib.hid (fun m _ _ e => (by omega : m = 2 * k + 2 ∨ m = 2 * k + 1).elim (fun e => by rw [e]; exact Qm.ltI_irrefl _) (fun e => by rw [e]; exact Qm.ltI_asymm HB.out))
          clear LL
          by_cases hlt : Qm.ltI (Qm.itAt d' (2 * k + 2)) (Qm.itAt d' k)
          · have hbt : decide (Qm.ltI (Qm.itAt d' (2 * k + 2)) (Qm.itAt d' k)) = true := decide_eq_true hlt
            rw [hbt] at HLL
            have HLT := Lib.hid hlt
            clear hbt hlt
            go_wp2_with fail
            refine HLL.out.mono ?_
            rintro e w2 ⟨rfl, hb2⟩
            have HR2 := Lib.hid (HRW.out.below hb2)
            have ms := meth_swap HR2.out.hr.cell
            have SW := swap_any c g cap d' k (2 * k + 2) w2 HR2.out.hr (by omega) (by omega)
            rw [show ((2 * k + 2 : Nat) : Int) = 2 * (k : Int) + 1 + 1 from by omega] at SW
            have HSW := Lib.hid SW
            clear hb2 SW
            go_wp2_with fail
            refine HSW.out.mono ?_
            rintro e w3 ⟨rfl, hr3, ht3⟩
            have HR3 := Lib.hid (HR2.out.step (j := 2 * k + 2) hn (by omega) (by omega) (by omega) HLT.out HC.out hr3 ht3)
            clear hr3 ht3
            go_wp2
            go_roundw
            case rel => exact ⟨2 * k + 2, _, by go_num, HR3.out⟩
            case measure => simp [intOf]; omega
          · have hbt : decide (Qm.ltI (Qm.itAt d' (2 * k + 2)) (Qm.itAt d' k)) = false := decide_eq_false hlt
            rw [hbt] at HLL
            have HLT := Lib.hid hlt
            clear hbt hlt
            go_wp2_with fail
            refine HLL.out.mono ?_
            rintro e w2 ⟨rfl, hb2⟩
            have HR2 := Lib.hid (HRW.out.below hb2)
            clear hb2
            go_wp2
            go_ret
            exact HR2.out.stop _ (fun m a b e => Qm.leI_trans HLT.out (HC.out m a b e))
        · have hbt : decide (Qm.ltI (Qm.itAt d' (2 * k + 2)) (Qm.itAt d' (2 * k + 1))) = false := decide_eq_false hb
          rw [hbt] at HL0
          have HB := Lib.hid hb
          clear hbt hb
          go_wp2_with fail
          refine HL0.out.mono ?_
          rintro e w1 ⟨rfl, hb1⟩
          have HRW := Lib.hid (HR0.out.below hb1)
          have m1 := meth_less HRW.out.hr.cell
          clear hb1 HL0 m0
          have LL := less_any c g cap d' (2 * k + 1) k w1 HRW.out.hr (by omega) (by omega)
          rw [show ((2 * k + 1 : Nat) : Int) = 2 * (k : Int) + 1 from by omega] at LL
          have HLL := Lib.hid LL
          have HC : Hid (∀ m, 0 < m → m < n → (m - 1) / 2 = k → ¬ Qm.ltI (Qm.itAt d' m) (Qm.itAt d' (2 * k + 1))) := Lib.hid (fun m _ _ e => (by omega : m = 2 * k + 2 ∨ m = 2 * k + 1).elim (fun e => by rw [e]; exact HB.out) (fun e => by rw [e]; exact Qm.ltI_irrefl _))
          clear LL
          by_cases hlt : Qm.ltI (Qm.itAt d' (2 * k + 1)) (Qm.itAt d' k)
          · have hbt : decide (Qm.ltI (Qm.itAt d' (2 * k + 1)) (Qm.itAt d' k)) = true := decide_eq_true hlt
            rw [hbt] at HLL
            have HLT := Lib.hid hlt
            clear hbt hlt
            go_wp2_with fail
            refine HLL.out.mono ?_
            rintro e w2 ⟨rfl, hb2⟩
            have HR2 := Lib.hid (HRW.out.below hb2)
            have ms := meth_swap HR2.out.hr.cell
            have SW := swap_any c g cap d' k (2 * k + 1) w2 HR2.out.hr (by omega) (by omega)
            rw [show ((2 * k + 1 : Nat) : Int) = 2 * (k : Int) + 1 from by omega] at SW
            have HSW := Lib.hid SW
            clear hb2 SW
            go_wp2_with fail
            refine HSW.out.mono ?_
            rintro e w3 ⟨rfl, hr3, ht3⟩
            have HR3 := Lib.hid (HR2.out.step (j := 2 * k + 1) hn (by omega) (by omega) (by omega) HLT.out HC.out hr3 ht3)
            clear hr3 ht3
            go_wp2
            go_roundw
            case rel => exact ⟨2 * k + 1, _, by go_num, HR3.out⟩
            case measure => simp [intOf]; omega
          · have hbt : decide (Qm.ltI (Qm.itAt d' (2 * k + 1)) (Qm.itAt d' k)) = false := decide_eq_false hlt
            rw [hbt] at HLL
            have HLT := Lib.hid hlt
            clear hbt hlt
            go_wp2_with fail
            refine HLL.out.mono ?_
            rintro e w2 ⟨rfl, hb2⟩
            have HR2 := Lib.hid (HRW.out.below hb2)
            clear hb2
            go_wp2
            go_ret
            exact HR2.out.stop _ (fun m a b e => Qm.leI_trans HLT.out (HC.out m a b e))
      · have t2 : decide (2 * (k : Int) + 1 + 1 < (n : Int)) = false := decide_eq_false (by omega)
        have HRW := HR0
        clear hR
        have LL := less_any c g cap d' (2 * k + 1) k wr HRW.out.hr (by omega) (by omega)
        rw [show ((2 * k + 1 : Nat) : Int) = 2 * (k : Int) + 1 from by omega] at LL
        have HLL := Lib.hid LL
        have HC : Hid (∀ m, 0 < m → m < n → (m - 1) / 2 = k → ¬ Qm.ltI (Qm.itAt d' m) (Qm.itAt d' (2 * k + 1))) := Lib.hid (fun m _ _ e => by rw [(by omega : m = 2 * k + 1)]; exact Qm.ltI_irrefl _)
        clear LL
        by_cases hlt : Qm.ltI (Qm.itAt d' (2 * k + 1)) (Qm.itAt d' k)
        · have hbt : decide (Qm.ltI (Qm.itAt d' (2 * k + 1)) (Qm.itAt d' k)) = true := decide_eq_true hlt
          rw [hbt] at HLL
          have HLT := Lib.hid hlt
          clear hbt hlt
          go_wp2_with fail
          refine HLL.out.mono ?_
          rintro e w2 ⟨rfl, hb2⟩
          have HR2 := Lib.hid (HRW.out.below hb2)
          have ms := meth_swap HR2.out.hr.cell
          have SW := swap_any c g cap d' k (2 * k + 1) w2 HR2.out.hr (by omega) (by omega)
          rw [show ((2 * k + 1 : Nat) : Int) = 2 * (k : Int) + 1 from by omega] at SW
          have HSW := Lib.hid SW
          clear hb2 SW
          go_wp2_with fail
          refine HSW.out.mono ?_
          rintro e w3 ⟨rfl, hr3, ht3⟩
          have HR3 := Lib.hid (HR2.out.step (j := 2 * k + 1) hn (by omega) (by omega) (by omega) HLT.out HC.out hr3 ht3)
          clear hr3 ht3
          go_wp2
          go_roundw
          case rel => exact ⟨2 * k + 1, _, by go_num, HR3.out⟩
          case measure => simp [intOf]; omega
        · have hbt : decide (Qm.ltI (Qm.itAt d' (2 * k + 1)) (Qm.itAt d' k)) = false := decide_eq_false hlt
          rw [hbt] at HLL
          have HLT := Lib.hid hlt
          clear hbt hlt
          go_wp2_with fail
          refine HLL.out.mono ?_
          rintro e w2 ⟨rfl, hb2⟩
          have HR2 := Lib.hid (HRW.out.below hb2)
          clear hb2
          go_wp2
          go_ret
          exact HR2.out.stop _ (fun m a b e => Qm.leI_trans HLT.out (HC.out m a b e))
    · have t1 : decide ((n : Int) ≤ 2 * (k : Int) + 1) = true := decide_eq_true (by omega)
      clear hR
      go_wp2
      go_ret
      exact HR0.out.stop _ (fun m _ hm hk => by omega)

end Go.Proofs.YtaplemkmkbjodaaGreat
