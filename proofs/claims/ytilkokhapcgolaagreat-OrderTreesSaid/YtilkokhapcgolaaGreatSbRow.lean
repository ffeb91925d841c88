/-
  ROWS OF SIBLINGS: the program's isRow, the law's Own, long, fine, num.
  No conditions but sizes.
-/
import Derived.Test.YtilkokhapcgolaaGreatSbSort
import Derived.Deep.MidRow
import Derived.Deep.RegionHeld
namespace Go.Proofs.YtilkokhapcgolaaGreat
open Go.RowKit

theorem kept_cell {w W : World} (h : Below w.heap.size w W) {a : Addr} {v : Value} (hc : w.cell? a = some v) : W.cell? a = some v := by rw [Below.cell h (cell_lt hc)]; exact hc
theorem Rd.sbR {w : World} {b o : Nat} {l : List Sbm.Sib} (h : Rd w (some ⟨b, o, none⟩) (sbCells l)) (i : Nat) (hi : i < l.length) : w.rangeAt b (o + i * 3) (sbC (Sbm.sbOf l i)) := by
  intro j v hv
  obtain ⟨h0, h1, h2⟩ := h.sb i hi
  match j, hv with
  | 0, hv => rw [Nat.add_zero, h0]; exact hv
  | 1, hv => rw [h1]; exact hv
  | 2, hv => rw [h2]; exact hv
/-- a type of three cells in a struct -/
structure SbT (t : TypeId) : Prop where
  und : ∃ d, Tryz.prog.underlying t = some (.struct d)
  size : (Tryz.prog.info? t).map (·.size) = some 3
theorem sibT : SbT 54 := ⟨⟨_, Tryz.underlying54⟩, by kernel_rfl⟩
theorem exec_load_sib {t : TypeId} (V : SbT t) {c : Act} {o : Oper} {x : Operand} {w : World} (ho : o.op = .load t x) {b s i : Nat} (hx : c.eval x = .pointer (some ⟨b, s + i * 3, none⟩)) {l : List Sbm.Sib} (hrd : Rd w (some ⟨b, s, none⟩) (sbCells l)) (hi : i < l.length) :
    (execOp c.eval o).run Tryz.prog w = .ok (.value (sbV (Sbm.sbOf l i))) w := by
  obtain ⟨d, hu⟩ := V.und
  unfold execOp
  simp only [ho, hx, Sem.run_bind, run_loadAt_mid w b (s + i * 3) _ (sbC (Sbm.sbOf l i)) _ (hrd.sbR i hi) hu rfl V.size, Result.andThen_ok, Sem.run_pure]
  rfl

set_option maxRecDepth 100000 in
set_option maxHeartbeats 4000000 in
theorem isRow_any (p : Option Addr) (cap : Nat) (l : List Sbm.Sib) (w : World) (h : Rd w p (sbCells l)) (hl : l.length ≤ 5000) :
    Calls Tryz.prog 61 #[.slice p l.length cap] w fun e w' => e = .returned (.bool (decide (Sbm.Row l))) ∧ Below w.heap.size w w' := by
  have HR := Lib.hid h
  clear h
  go_enter Tryz.func61, Tryz.ntmps61
  go_wp2
  go_loopw [3] (fun i wr => ∃ k : Nat, i = .int .i64 ((k : Int) + 1) ∧ k ≤ l.length ∧ (∀ j, 0 < j → j ≤ k → j < l.length → Sbm.ltB (Sbm.sbOf l (j - 1)) (Sbm.sbOf l j)) ∧ Below w.heap.size w wr) (fun i _ => l.length + 5 - (intOf i).toNat)
  case atStart => exact ⟨0, rfl, Nat.zero_le _, fun j h0 h1 => absurd h0 (by omega), Below.refl _ _⟩
  case round =>
    obtain ⟨k, rfl, hkl, hrow, hb⟩ := hrel
    have HB := Lib.hid hb
    have HW := Lib.hid hrow
    clear hb hrow
    by_cases hlt : k + 1 < l.length
    · have d1 : decide ((k : Int) + 1 < (l.length : Int)) = true := decide_eq_true (by omega)
      have hk5 : k < 5000 := by omega
      have hkl0 : k < l.length := by omega
      have hkl1 : 0 ≤ (k : Int) + 1 := by omega
      have hkl2 : (k : Int) + 1 < (l.length : Int) := by omega
      have hwk : IntKind.i64.wrap (k : Int) = (k : Int) := wraps_i64 _ (by omega) (by omega)
      have HL0 := Lib.hid (show k < l.length by omega)
      have HL1 := Lib.hid hlt
      have HLT := Lib.hid hlt
      have HD := Lib.hid (show l.length ≤ 5000 from hl)
      obtain ⟨b, o, rfl, -⟩ := HR.out.addr (by rw [sbCells_length]; omega)
      cases hB : decide (Sbm.ltB (Sbm.sbOf l k) (Sbm.sbOf l (k + 1)))
      · have HA := Lib.hid (show decide (Sbm.Row l) = false from decide_eq_false fun hr => by
          have := of_decide_eq_false hB
          exact this (hr.lt (by omega) hlt))
        have HBF := Lib.hid (show ∀ W, Calls Tryz.prog 37 #[sbV (Sbm.sbOf l k), sbV (Sbm.sbOf l (k + 1))] W fun e w' => e = .returned (.bool false) ∧ Below W.heap.size W w' from fun W => by have h := before_sib (Sbm.sbOf l k) (Sbm.sbOf l (k + 1)) W; rwa [hB] at h)
        clear hB
        go_wp2
        refine wp_region_held_drew (S := fun W => Below w.heap.size w W) (by kernel_rfl) (Below.drew HB.out) (fun hS => ?_)
        refine wpAnyH_take (i := 0) (v := ?_) rfl (by kernel_rfl) (by kernel_rfl) (by kernel_rfl) (fun _ _ _ h => h) (Or.inl ⟨by kernel_rfl, ?_⟩) hS ?_
        rotate_left
        · intro W hSW
          go_simp
          all_goals with_reducible rfl
        refine wpAnyH_take (i := 1) (v := ?_) rfl (by kernel_rfl) (by kernel_rfl) (by kernel_rfl) (fun _ _ _ h => h) (Or.inl ⟨by kernel_rfl, ?_⟩) hS ?_
        rotate_left
        · intro W hSW
          go_simp
          all_goals with_reducible rfl
        refine wpAnyH_take (i := 2) (v := ?_) rfl (by kernel_rfl) (by kernel_rfl) (by kernel_rfl) (fun _ _ _ h => h) (Or.inl ⟨by kernel_rfl, ?_⟩) hS ?_
        rotate_left
        · intro W hSW
          go_simp
          all_goals with_reducible rfl
        refine wpAnyH_take (i := 3) (v := ?_) rfl (by kernel_rfl) (by kernel_rfl) (by kernel_rfl) (fun _ _ _ h => h) (Or.inl ⟨by kernel_rfl, ?_⟩) hS ?_
        rotate_left
        · intro W hSW
          go_simp
          all_goals with_reducible rfl
        go_simp
        refine wpAnyH_take (i := 4) (v := sbV (Sbm.sbOf l k)) rfl (by kernel_rfl) (by kernel_rfl) (by kernel_rfl) (fun _ _ _ h => h) (Or.inl ⟨by kernel_rfl, fun W hSW => exec_load_sib sibT rfl rfl (HR.out.below hSW) HL0.out⟩) hS ?_
        refine wpAnyH_take (i := 5) (v := ?_) rfl (by kernel_rfl) (by kernel_rfl) (by kernel_rfl) (fun _ _ _ h => h) (Or.inl ⟨by kernel_rfl, ?_⟩) hS ?_
        rotate_left
        · intro W hSW
          go_simp
          all_goals with_reducible rfl
        refine wpAnyH_take (i := 6) (v := ?_) rfl (by kernel_rfl) (by kernel_rfl) (by kernel_rfl) (fun _ _ _ h => h) (Or.inl ⟨by kernel_rfl, ?_⟩) hS ?_
        rotate_left
        · intro W hSW
          go_simp
          all_goals with_reducible rfl
        refine wpAnyH_take (i := 7) (v := ?_) rfl (by kernel_rfl) (by kernel_rfl) (by kernel_rfl) (fun _ _ _ h => h) (Or.inl ⟨by kernel_rfl, ?_⟩) hS ?_
        rotate_left
        · intro W hSW
          go_simp
          all_goals with_reducible rfl
        go_simp
        refine wpAnyH_take (i := 8) (v := sbV (Sbm.sbOf l (k + 1))) rfl (by kernel_rfl) (by kernel_rfl) (by kernel_rfl) (fun _ _ _ h => h) (Or.inl ⟨by kernel_rfl, fun W hSW => exec_load_sib sibT rfl rfl (HR.out.below hSW) HL1.out⟩) hS ?_
        go_simp
        refine wpAnyH_ready (rs := [9]) (by kernel_rfl) (by simp) ?_
        refine AllReadyH.cons rfl (fun K hK => ?_) AllReadyH.nil
        go_simp
        go_wp2_with ((go_at_call 37; refine (HBF.out _).mono ?_; rintro e wn ⟨rfl, hbn⟩))
        refine hK.out _ _ (hS.trans (hbn.mono hS.size)) (fun hS => ?_)
        clear hK K hbn
        refine wpAnyH_take (i := 10) (v := ?_) rfl (by kernel_rfl) (by kernel_rfl) (by kernel_rfl) (fun _ _ _ h => h) (Or.inl ⟨by kernel_rfl, ?_⟩) hS ?_
        rotate_left
        · intro W hSW
          go_simp
          all_goals with_reducible rfl
        go_simp
        refine wpAnyH_done (by kernel_rfl) ?_ _
        go_simp
        have HN := Lib.hid hS
        clear hS
        go_wp2
        go_ret
        rw [HA.out]
        exact ⟨rfl, HN.out⟩
      · have HNX := Lib.hid (show ∀ j, 0 < j → j ≤ k + 1 → j < l.length → Sbm.ltB (Sbm.sbOf l (j - 1)) (Sbm.sbOf l j) from fun j h0 h1 h2 => by
          by_cases e : j ≤ k
          · exact HW.out j h0 e h2
          · obtain rfl : j = k + 1 := by omega
            exact of_decide_eq_true hB)
        have HBF := Lib.hid (show ∀ W, Calls Tryz.prog 37 #[sbV (Sbm.sbOf l k), sbV (Sbm.sbOf l (k + 1))] W fun e w' => e = .returned (.bool true) ∧ Below W.heap.size W w' from fun W => by have h := before_sib (Sbm.sbOf l k) (Sbm.sbOf l (k + 1)) W; rwa [hB] at h)
        clear hB
        go_wp2
        refine wp_region_held_drew (S := fun W => Below w.heap.size w W) (by kernel_rfl) (Below.drew HB.out) (fun hS => ?_)
        refine wpAnyH_take (i := 0) (v := ?_) rfl (by kernel_rfl) (by kernel_rfl) (by kernel_rfl) (fun _ _ _ h => h) (Or.inl ⟨by kernel_rfl, ?_⟩) hS ?_
        rotate_left
        · intro W hSW
          go_simp
          all_goals with_reducible rfl
        refine wpAnyH_take (i := 1) (v := ?_) rfl (by kernel_rfl) (by kernel_rfl) (by kernel_rfl) (fun _ _ _ h => h) (Or.inl ⟨by kernel_rfl, ?_⟩) hS ?_
        rotate_left
        · intro W hSW
          go_simp
          all_goals with_reducible rfl
        refine wpAnyH_take (i := 2) (v := ?_) rfl (by kernel_rfl) (by kernel_rfl) (by kernel_rfl) (fun _ _ _ h => h) (Or.inl ⟨by kernel_rfl, ?_⟩) hS ?_
        rotate_left
        · intro W hSW
          go_simp
          all_goals with_reducible rfl
        refine wpAnyH_take (i := 3) (v := ?_) rfl (by kernel_rfl) (by kernel_rfl) (by kernel_rfl) (fun _ _ _ h => h) (Or.inl ⟨by kernel_rfl, ?_⟩) hS ?_
        rotate_left
        · intro W hSW
          go_simp
          all_goals with_reducible rfl
        go_simp
        refine wpAnyH_take (i := 4) (v := sbV (Sbm.sbOf l k)) rfl (by kernel_rfl) (by kernel_rfl) (by kernel_rfl) (fun _ _ _ h => h) (Or.inl ⟨by kernel_rfl, fun W hSW => exec_load_sib sibT rfl rfl (HR.out.below hSW) HL0.out⟩) hS ?_
        refine wpAnyH_take (i := 5) (v := ?_) rfl (by kernel_rfl) (by kernel_rfl) (by kernel_rfl) (fun _ _ _ h => h) (Or.inl ⟨by kernel_rfl, ?_⟩) hS ?_
        rotate_left
        · intro W hSW
          go_simp
          all_goals with_reducible rfl
        refine wpAnyH_take (i := 6) (v := ?_) rfl (by kernel_rfl) (by kernel_rfl) (by kernel_rfl) (fun _ _ _ h => h) (Or.inl ⟨by kernel_rfl, ?_⟩) hS ?_
        rotate_left
        · intro W hSW
          go_simp
          all_goals with_reducible rfl
        refine wpAnyH_take (i := 7) (v := ?_) rfl (by kernel_rfl) (by kernel_rfl) (by kernel_rfl) (fun _ _ _ h => h) (Or.inl ⟨by kernel_rfl, ?_⟩) hS ?_
        rotate_left
        · intro W hSW
          go_simp
          all_goals with_reducible rfl
        go_simp
        refine wpAnyH_take (i := 8) (v := sbV (Sbm.sbOf l (k + 1))) rfl (by kernel_rfl) (by kernel_rfl) (by kernel_rfl) (fun _ _ _ h => h) (Or.inl ⟨by kernel_rfl, fun W hSW => exec_load_sib sibT rfl rfl (HR.out.below hSW) HL1.out⟩) hS ?_
        go_simp
        refine wpAnyH_ready (rs := [9]) (by kernel_rfl) (by simp) ?_
        refine AllReadyH.cons rfl (fun K hK => ?_) AllReadyH.nil
        go_simp
        go_wp2_with ((go_at_call 37; refine (HBF.out _).mono ?_; rintro e wn ⟨rfl, hbn⟩))
        refine hK.out _ _ (hS.trans (hbn.mono hS.size)) (fun hS => ?_)
        clear hK K hbn
        refine wpAnyH_take (i := 10) (v := ?_) rfl (by kernel_rfl) (by kernel_rfl) (by kernel_rfl) (fun _ _ _ h => h) (Or.inl ⟨by kernel_rfl, ?_⟩) hS ?_
        rotate_left
        · intro W hSW
          go_simp
          all_goals with_reducible rfl
        go_simp
        refine wpAnyH_done (by kernel_rfl) ?_ _
        go_simp
        have HN := Lib.hid hS
        clear hS
        go_wp2
        go_roundw
        case rel => exact ⟨k + 1, by go_num, by omega, HNX.out, HN.out⟩
        case measure => simp [intOf]; omega
    · have d1 : decide ((k : Int) + 1 < (l.length : Int)) = false := decide_eq_false (by omega)
      have HA := Lib.hid (show decide (Sbm.Row l) = true from decide_eq_true (Sbm.row_of fun j h0 h1 => HW.out j h0 (by omega) h1))
      go_wp2
      go_ret
      rw [HA.out]
      exact ⟨rfl, HB.out⟩

theorem num11_any (n : Int) (w : World) : Calls Tryz.prog 17 #[.int .i64 n] w fun e w' => e = .returned (.int .i64 n) ∧ w = w' := by
  go_enter Tryz.func17, Tryz.ntmps17
  go_wp2
  go_ret
  exact ⟨rfl, rfl⟩

end Go.Proofs.YtilkokhapcgolaaGreat
