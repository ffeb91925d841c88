/-
  try: an op is tried: what it makes, and what takes it back.
  No conditions but sizes.
-/
import Derived.Test.YthifdefjmfakgaaGreatH6
import Derived.Test.YthifdefjmfakgaaGreatG9
namespace Go.Proofs.YthifdefjmfakgaaGreat
open Go.RowKit
open Tm (Sp Tr has put cut kids)

theorem exec_buildSp {c : Act} {o : Oper} {x y : Operand} (ho : o.op = .build 72 #[(0, x), (1, y)]) {w : World} (p : Qm.St) (k : ByteArray) (hx : c.eval x = snV p) (hy : c.eval y = .string k) :
    (execOp c.eval o).run Tryz.prog w = .ok (.value (spV (p, k))) w := by
  unfold execOp
  simp only [ho, hx, hy, List.map_toArray, List.map_cons, List.map_nil]
  go_simp
  rfl
theorem lnRef {x : Pm.Wr} : ∀ j v, [Value.int .i64 x.x.rt, .int .i64 x.x.rr][j]? = some v → (lnA x)[5 + j]? = some v := fun j v h => by
  match j, h with
  | 0, h => exact h
  | 1, h => exact h
theorem lnNode {x : Pm.Wr} : ∀ j v, [Value.int .i64 x.x.nt, .int .i64 x.x.nr][j]? = some v → (lnA x)[3 + j]? = some v := fun j v h => by
  match j, h with
  | 0, h => exact h
  | 1, h => exact h
theorem opT12 : AgT 43 12 := ⟨⟨_, Tryz.underlying43⟩, by kernel_rfl⟩
theorem lnOp {x : Pm.Wr} : ∀ j v, (opL x.x none 0)[j]? = some v → (lnA x)[2 + j]? = some v := fun j v h => by
  have : (lnA x)[2 + j]? = (opL x.x none 0)[j]? := by
    unfold lnA lnL
    rw [List.getElem?_toArray, List.getElem?_append_right (by simp), show 2 + j - [Value.int .i64 x.s.1, .int .i64 x.s.2].length = j from by simp]
  rw [this]; exact h
theorem Made.imp {X : Gx} {χ : Nat → Nat} {g g' : Gm.G} {J J' : World → (Nat → Nat) → Uk → Prop} {w w' : World} {e : Ending} (h : Made X χ g J w e w') (hg : g = g') (hJ : ∀ w χ u, J w χ u → J' w χ u) : Made X χ g' J' w e w' := by
  subst hg
  obtain ⟨u, X', χ', h1, h2, h3, h4, h5⟩ := h
  exact ⟨u, X', χ', h1, h2, h3, h4, hJ _ _ _ h5⟩
theorem Made.mkG {X X' : Gx} {χ χ' : Nat → Nat} {g : Gm.G} {J : World → (Nat → Nat) → Uk → Prop} {w w' : World} {u : Uk} (h2 : Core w' X' χ' g) (h3 : Like X X') (h4 : Goes w χ w' χ') (h5 : J w' χ' u) : Made X χ g J w (.returned (Uk.val u)) w' := ⟨u, X', χ', rfl, h2, h3, h4, h5⟩
/-- .. from a world ahead -/
theorem Made.ahead {X : Gx} {χ : Nat → Nat} {g : Gm.G} {J : World → (Nat → Nat) → Uk → Prop} {w0 w w' : World} {e : Ending} (h : Made X χ g J w e w') (hb : Below w0.heap.size w0 w) : Made X χ g J w0 e w' := by
  obtain ⟨u, X', χ', h1, h2, h3, h4, h5⟩ := h
  exact ⟨u, X', χ', h1, h2, h3, (Goes.of_below hb).trans h4, h5⟩
def Tried (X : Gx) (χ : Nat → Nat) (g : Gm.G) (x : Pm.Wr) : World → Ending → World → Prop := Made X χ (Gm.aft g x) (fun w' χ' u => UkOk w' χ' g x u)

set_option maxRecDepth 100000 in
set_option maxHeartbeats 4000000 in
theorem try_any {X : Gx} {χ : Nat → Nat} {g : Gm.G} {lb : Nat} (x : Pm.Wr) (w : World) (h : Core w X χ g) (hl : AgAt w lb (lnA x)) (hx : χ lb = 6) (hw : Gm.okX x = true) (hn : g.s x.s = none) (hd : ∃ e ∈ X.ls, e.1.s = x.s) :
    Calls Tryz.prog 67 #[ptV X.b, ptV lb] w (Tried X χ g x w) := by
  have HC := Lib.hid h
  have HL := Lib.hid hl
  have HLC := Lib.hid hx
  have HB := Lib.hid (Below.refl w.heap.size w)
  obtain ⟨k1, k2, k3⟩ := Gm.okX_iff.1 hw
  have HOK := Lib.hid (show Tm.okN x.s = true ∧ rightO x.x = true ∧ (x.x.k = 1 ∨ x.x.k = 2 ∨ x.x.k = 5) ∧ g.s x.s = none ∧ ∃ e ∈ X.ls, e.1.s = x.s from ⟨k1, k2, k3, hn, hd⟩)
  clear h hl hx hw hn hd k1 k2 k3
  go_enter Tryz.func67, Tryz.ntmps67
  go_upto_region 1 with fail
  have hbd := Below.drew (Below.refl w.heap.size w)
  replace HC := Lib.hid (HC.out.kept hbd)
  replace HL := Lib.hid (AgAt.kept HL.out hbd)
  replace HB := Lib.hid (HB.out.trans hbd)
  clear hbd
  refine wp_region_held_drew (S := fun W => Below w.drew.heap.size w.drew W) (by kernel_rfl) (Below.refl _ _) (fun hS => ?_)
  generalize w.drew = wd at *
  refine wpAnyH_take (i := 0) (v := ?_) rfl (by kernel_rfl) (by kernel_rfl) (by kernel_rfl) (fun _ _ _ h => h) (Or.inl ⟨by kernel_rfl, ?_⟩) hS ?_
  rotate_left
  · intro W hSW
    go_simp
    all_goals with_reducible rfl
  refine wpAnyH_take (i := 1) (v := ?_) rfl (by kernel_rfl) (by kernel_rfl) (by kernel_rfl) (fun _ _ _ h => h) (Or.inl ⟨by kernel_rfl, ?_⟩) hS ?_
  rotate_left
  · intro W hSW
    go_simp
    all_goals with_reducible rfl
  refine wpAnyH_take (i := 2) (v := ?_) rfl (by kernel_rfl) (by kernel_rfl) (by kernel_rfl) (fun _ _ _ h => h) (Or.inl ⟨by kernel_rfl, ?_⟩) hS ?_
  rotate_left
  · intro W hSW
    go_simp
    all_goals with_reducible rfl
  refine wpAnyH_take (i := 3) (v := ?_) rfl (by kernel_rfl) (by kernel_rfl) (by kernel_rfl) (fun _ _ _ h => h) (Or.inl ⟨by kernel_rfl, ?_⟩) hS ?_
  rotate_left
  · intro W hSW
    go_simp
    all_goals with_reducible rfl
  go_simp
  refine wpAnyH_take (i := 4) (v := snV (Gm.ref x.x)) rfl (by kernel_rfl) (by kernel_rfl) (by kernel_rfl) (fun _ _ _ h => h) (Or.inl ⟨by kernel_rfl, fun W hSW => exec_load_part stT rfl rfl [.int .i64 x.x.rt, .int .i64 x.x.rr] rfl (AgAt.kept HL.out hSW) lnRef⟩) hS ?_
  refine wpAnyH_take (i := 5) (v := ?_) rfl (by kernel_rfl) (by kernel_rfl) (by kernel_rfl) (fun _ _ _ h => h) (Or.inl ⟨by kernel_rfl, ?_⟩) hS ?_
  rotate_left
  · intro W hSW
    go_simp
    all_goals with_reducible rfl
  refine wpAnyH_take (i := 6) (v := ?_) rfl (by kernel_rfl) (by kernel_rfl) (by kernel_rfl) (fun _ _ _ h => h) (Or.inl ⟨by kernel_rfl, ?_⟩) hS ?_
  rotate_left
  · intro W hSW
    go_simp
    all_goals with_reducible rfl
  refine wpAnyH_take (i := 7) (v := ?_) rfl (by kernel_rfl) (by kernel_rfl) (by kernel_rfl) (fun _ _ _ h => h) (Or.inl ⟨by kernel_rfl, ?_⟩) hS ?_
  rotate_left
  · intro W hSW
    go_simp
    all_goals with_reducible rfl
  go_simp
  refine wpAnyH_take (i := 8) (v := ?_) rfl (by kernel_rfl) (by kernel_rfl) (by kernel_rfl) (fun _ _ _ h => h) (Or.inl ⟨by kernel_rfl, ?_⟩) hS ?_
  rotate_left
  · intro W hSW
    go_simp
    all_goals with_reducible rfl
  refine wpAnyH_take (i := 9) (v := ?_) rfl (by kernel_rfl) (by kernel_rfl) (by kernel_rfl) (fun _ _ _ h => h) (Or.inl ⟨by kernel_rfl, ?_⟩) hS ?_
  rotate_left
  · intro W hSW
    have y : W.cell? ⟨lb, 7, none⟩ = some (.string x.x.key) := (AgAt.cell (AgAt.kept HL.out hSW) 7).trans rfl
    go_simp
    all_goals with_reducible rfl
  go_simp
  refine wpAnyH_take (i := 10) (v := spV (Gm.ref x.x, x.x.key)) rfl (by kernel_rfl) (by kernel_rfl) (by kernel_rfl) (fun _ _ _ h => h) (Or.inl ⟨by kernel_rfl, fun W hSW => exec_buildSp rfl _ _ rfl rfl⟩) hS ?_
  go_simp
  refine wpAnyH_ready (rs := [11]) (by kernel_rfl) (by simp) ?_
  refine AllReadyH.cons rfl (fun K hK => ?_) AllReadyH.nil
  go_simp
  have hba := (Below.refl wd.heap.size wd).alloc (Nat.le_refl _) (.cells #[.int .i64 0, .int .i64 0, .string ⟨#[]⟩] 72)
  have HS0 := Lib.hid hS
  refine hK.out _ _ (hS.trans (hba.mono hS.size)) (fun hS => ?_)
  clear hK K hba
  refine wpAnyH_ready (rs := [12]) (by kernel_rfl) (by simp) ?_
  refine AllReadyH.cons rfl (fun K hK => ?_) AllReadyH.nil
  refine step_of (by kernel_rfl) ?_
  refine wp_store_newag spT _ _ rfl rfl _ (A := spA (Gm.ref x.x, x.x.key)) rfl rfl rfl (spA_one _) ?_
  intro w5 hv5 hb5
  have HV5 := Lib.hid hv5
  refine hK.out _ _ (HS0.out.trans (hb5.mono HS0.out.size)) (fun hS => ?_)
  clear hK K hv5 hb5
  refine wpAnyH_done (by kernel_rfl) ?_ _
  go_simp
  have HTB := HV5
  have HTC := Lib.hid (HC.out.zero (Nat.le_refl wd.heap.size))
  replace HC := Lib.hid (HC.out.kept hS)
  replace HL := Lib.hid (AgAt.kept HL.out hS)
  replace HB := Lib.hid (HB.out.trans (hS.mono HB.out.size))
  clear hS HS0 HV5
  generalize wd.heap.size = tb at *
  have yk : w5.cell? ⟨lb, 2, none⟩ = some (.int .i64 x.x.k) := (AgAt.cell HL.out 2).trans rfl
  by_cases hk : x.x.k = 1
  · have HK1 := Lib.hid hk
    have d1 : (x.x.k == 1) = true := by simpa using hk
    clear hk
    go_upto_region 3 with fail
    have hbd := Below.drew (Below.refl w5.heap.size w5)
    replace HC := Lib.hid (HC.out.kept hbd)
    replace HL := Lib.hid (AgAt.kept HL.out hbd)
    replace HTB := Lib.hid (AgAt.kept HTB.out hbd)
    replace HB := Lib.hid (HB.out.trans (hbd.mono HB.out.size))
    clear hbd
    refine wp_region_held_drew (S := fun W => AgAt W lb (lnA x) ∧ AgAt W tb (spA (Gm.ref x.x, x.x.key))) (by kernel_rfl) ⟨HL.out, HTB.out⟩ (fun hS => ?_)
    generalize w5.drew = we at *
    refine wpAnyH_take (i := 0) (v := ?_) rfl (by kernel_rfl) (by kernel_rfl) (by kernel_rfl) (fun _ _ _ h => h) (Or.inl ⟨by kernel_rfl, ?_⟩) hS ?_
    rotate_left
    · intro W hSW
      go_simp
      all_goals with_reducible rfl
    refine wpAnyH_take (i := 1) (v := ?_) rfl (by kernel_rfl) (by kernel_rfl) (by kernel_rfl) (fun _ _ _ h => h) (Or.inl ⟨by kernel_rfl, ?_⟩) hS ?_
    rotate_left
    · intro W hSW
      go_simp
      all_goals with_reducible rfl
    refine wpAnyH_take (i := 2) (v := ?_) rfl (by kernel_rfl) (by kernel_rfl) (by kernel_rfl) (fun _ _ _ h => h) (Or.inl ⟨by kernel_rfl, ?_⟩) hS ?_
    rotate_left
    · intro W hSW
      go_simp
      all_goals with_reducible rfl
    refine wpAnyH_take (i := 3) (v := ?_) rfl (by kernel_rfl) (by kernel_rfl) (by kernel_rfl) (fun _ _ _ h => h) (Or.inl ⟨by kernel_rfl, ?_⟩) hS ?_
    rotate_left
    · intro W hSW
      go_simp
      all_goals with_reducible rfl
    go_simp
    refine wpAnyH_take (i := 4) (v := snV x.s) rfl (by kernel_rfl) (by kernel_rfl) (by kernel_rfl) (fun _ _ _ h => h) (Or.inl ⟨by kernel_rfl, fun W hSW => exec_load_part stT rfl rfl [.int .i64 x.s.1, .int .i64 x.s.2] rfl hSW.1 lnS⟩) hS ?_
    go_simp
    refine wpAnyH_take (i := 5) (v := spV (Gm.ref x.x, x.x.key)) rfl (by kernel_rfl) (by kernel_rfl) (by kernel_rfl) (fun _ _ _ h => h) (Or.inl ⟨by kernel_rfl, fun W hSW => exec_load_ag spT rfl rfl rfl hSW.2⟩) hS ?_
    go_simp
    refine wpAnyH_ready (rs := [6]) (by kernel_rfl) (by simp) ?_
    refine AllReadyH.cons rfl (fun K hK => ?_) AllReadyH.nil
    go_simp
    go_wp2_with (go_at_call 110; refine (create_any x.s (Gm.ref x.x, x.x.key) _ HC.out HOK.out.1 (Gm.right_create HOK.out.2.1 HK1.out) (HOK.out.2.2.2.1) HOK.out.2.2.2.2).mono ?_; rintro e w9 ⟨u9, X9, χ9, rfl, hc9, hk9, hg9, hj9⟩)
    have HE := Lib.hid (Made.ahead (Made.mkG (J := fun w' χ' u => ∃ b, u = .cr b ∧ χ' b = 6 ∧ AgAt w' b (stA x.s)) (u := u9) hc9 hk9 hg9 hj9) HB.out)
    refine hK.out _ _ ⟨AgAt.block hS.1 (hg9.turns.block _ (AgAt.lt hS.1) (by rw [HLC.out]; decide)), AgAt.block hS.2 (hg9.turns.block _ (AgAt.lt hS.2) (by rw [HTC.out]; decide))⟩ (fun hS => ?_)
    clear hK K hc9 hk9 hg9 hj9
    refine wpAnyH_take (i := 7) (v := ?_) rfl (by kernel_rfl) (by kernel_rfl) (by kernel_rfl) (fun _ _ _ h => h) (Or.inl ⟨by kernel_rfl, ?_⟩) hS ?_
    rotate_left
    · intro W hSW
      go_simp
      all_goals with_reducible rfl
    go_simp
    refine wpAnyH_done (by kernel_rfl) ?_ _
    go_simp
    clear hS HC HL HTB HB
    go_wp2
    go_ret
    refine HE.out.imp ?_ ?_
    · exact (show Gm.aft g x = _ from by unfold Gm.aft Gm.tryG; rw [if_pos HK1.out]; rfl).symm
    · rintro w χ u ⟨b, rfl, h1, h2⟩
      exact ⟨HK1.out, h1, h2⟩
  · have HK1 := Lib.hid hk
    have d1 : (x.x.k == 1) = false := by simpa using hk
    clear hk
    obtain ⟨b1, hb1⟩ : ∃ b, b = Gm.has g (Gm.node x.x) := ⟨_, rfl⟩
    obtain ⟨b2, hb2⟩ : ∃ b, b = Gm.has g (Gm.ref x.x) := ⟨_, rfl⟩
    have HWN := Lib.hid (show StWf (Gm.node x.x) ∧ StWf (Gm.ref x.x) from by
      rcases HOK.out.2.2.1 with h | h | h
      · exact absurd h HK1.out
      · have r := Gm.right_move HOK.out.2.1 h
        exact ⟨okN_wf r.1, (rightSp_wf r.2).1⟩
      · have r := Gm.right_point HOK.out.2.1 h
        refine ⟨okN_wf r.1, ?_⟩
        rcases r.2 with h | h
        · exact okN_wf h
        · rw [h]; unfold StWf; decide)
    have HH1 := Lib.hid (fun (W : World) (hc : Core W X χ g) => show Calls Tryz.prog 61 #[.pointer (some ⟨X.P, 0, none⟩), snV (Gm.node x.x)] W fun e w' => e = .returned (.bool b1) ∧ Below W.heap.size W w' from by
      rw [hb1, ← hc.hasEq]; exact has_any _ W hc.tree HWN.out.1)
    have HH2 := Lib.hid (fun (W : World) (hc : Core W X χ g) => show Calls Tryz.prog 61 #[.pointer (some ⟨X.P, 0, none⟩), snV (Gm.ref x.x)] W fun e w' => e = .returned (.bool b2) ∧ Below W.heap.size W w' from by
      rw [hb2, ← hc.hasEq]; exact has_any _ W hc.tree HWN.out.2)
    have HB1 := Lib.hid hb1.symm
    have HB2 := Lib.hid hb2.symm
    clear hb1 hb2
    go_upto_region 4 with fail
    have hbd := Below.drew (Below.refl w5.heap.size w5)
    replace HC := Lib.hid (HC.out.kept hbd)
    replace HL := Lib.hid (AgAt.kept HL.out hbd)
    replace HTB := Lib.hid (AgAt.kept HTB.out hbd)
    replace HB := Lib.hid (HB.out.trans (hbd.mono HB.out.size))
    clear hbd
    refine wp_region_held_drew (S := fun W => Below w5.drew.heap.size w5.drew W) (by kernel_rfl) (Below.refl _ _) (fun hS => ?_)
    generalize w5.drew = we at *
    cases b1 with
    | false =>
      refine wpAnyH_take (i := 0) (v := ?_) rfl (by kernel_rfl) (by kernel_rfl) (by kernel_rfl) (fun _ _ _ h => h) (Or.inl ⟨by kernel_rfl, ?_⟩) hS ?_
      rotate_left
      · intro W hSW
        go_simp
        all_goals with_reducible rfl
      refine wpAnyH_take (i := 1) (v := ?_) rfl (by kernel_rfl) (by kernel_rfl) (by kernel_rfl) (fun _ _ _ h => h) (Or.inl ⟨by kernel_rfl, ?_⟩) hS ?_
      rotate_left
      · intro W hSW
        go_simp
        all_goals with_reducible rfl
      refine wpAnyH_take (i := 2) (v := ?_) rfl (by kernel_rfl) (by kernel_rfl) (by kernel_rfl) (fun _ _ _ h => h) (Or.inl ⟨by kernel_rfl, ?_⟩) hS ?_
      rotate_left
      · intro W hSW
        go_simp
        all_goals with_reducible rfl
      refine wpAnyH_take (i := 3) (v := ?_) rfl (by kernel_rfl) (by kernel_rfl) (by kernel_rfl) (fun _ _ _ h => h) (Or.inl ⟨by kernel_rfl, ?_⟩) hS ?_
      rotate_left
      · intro W hSW
        have y := (HC.out.kept hSW).cP
        go_simp
        all_goals with_reducible rfl
      go_simp
      refine wpAnyH_take (i := 4) (v := ?_) rfl (by kernel_rfl) (by kernel_rfl) (by kernel_rfl) (fun _ _ _ h => h) (Or.inl ⟨by kernel_rfl, ?_⟩) hS ?_
      rotate_left
      · intro W hSW
        go_simp
        all_goals with_reducible rfl
      refine wpAnyH_take (i := 5) (v := ?_) rfl (by kernel_rfl) (by kernel_rfl) (by kernel_rfl) (fun _ _ _ h => h) (Or.inl ⟨by kernel_rfl, ?_⟩) hS ?_
      rotate_left
      · intro W hSW
        go_simp
        all_goals with_reducible rfl
      refine wpAnyH_take (i := 6) (v := ?_) rfl (by kernel_rfl) (by kernel_rfl) (by kernel_rfl) (fun _ _ _ h => h) (Or.inl ⟨by kernel_rfl, ?_⟩) hS ?_
      rotate_left
      · intro W hSW
        go_simp
        all_goals with_reducible rfl
      refine wpAnyH_take (i := 7) (v := ?_) rfl (by kernel_rfl) (by kernel_rfl) (by kernel_rfl) (fun _ _ _ h => h) (Or.inl ⟨by kernel_rfl, ?_⟩) hS ?_
      rotate_left
      · intro W hSW
        go_simp
        all_goals with_reducible rfl
      go_simp
      refine wpAnyH_take (i := 8) (v := snV (Gm.node x.x)) rfl (by kernel_rfl) (by kernel_rfl) (by kernel_rfl) (fun _ _ _ h => h) (Or.inl ⟨by kernel_rfl, fun W hSW => exec_load_part stT rfl rfl [.int .i64 x.x.nt, .int .i64 x.x.nr] rfl (AgAt.kept HL.out hSW) lnNode⟩) hS ?_
      go_simp
      refine wpAnyH_ready (rs := [9]) (by kernel_rfl) (by simp) ?_
      refine AllReadyH.cons rfl (fun K hK => ?_) AllReadyH.nil
      go_simp
      go_wp2_with (go_at_call 61; refine (HH1.out _ (HC.out.kept hS)).mono ?_; rintro e w5 ⟨rfl, hb5⟩)
      refine hK.out _ _ (hS.trans (hb5.mono hS.size)) (fun hS => ?_)
      clear hK K hb5
      refine wpAnyH_take (i := 10) (v := ?_) rfl (by kernel_rfl) (by kernel_rfl) (by kernel_rfl) (fun _ _ _ h => h) (Or.inl ⟨by kernel_rfl, ?_⟩) hS ?_
      rotate_left
      · intro W hSW
        go_simp
        all_goals with_reducible rfl
      refine wpAnyH_take (i := 11) (v := ?_) rfl (by kernel_rfl) (by kernel_rfl) (by kernel_rfl) (fun _ _ _ h => h) (Or.inl ⟨by kernel_rfl, ?_⟩) hS ?_
      rotate_left
      · intro W hSW
        go_simp
        all_goals with_reducible rfl
      go_simp
      refine wpAnyH_take (i := 12) (v := undef) rfl (by kernel_rfl) (by kernel_rfl) (by kernel_rfl) (fun _ _ _ h => h) (Or.inr ⟨by kernel_rfl, rfl⟩) hS ?_
      go_simp
      refine wpAnyH_take (i := 13) (v := undef) rfl (by kernel_rfl) (by kernel_rfl) (by kernel_rfl) (fun _ _ _ h => h) (Or.inr ⟨by kernel_rfl, rfl⟩) hS ?_
      go_simp
      refine wpAnyH_take (i := 14) (v := undef) rfl (by kernel_rfl) (by kernel_rfl) (by kernel_rfl) (fun _ _ _ h => h) (Or.inr ⟨by kernel_rfl, rfl⟩) hS ?_
      go_simp
      refine wpAnyH_take (i := 15) (v := undef) rfl (by kernel_rfl) (by kernel_rfl) (by kernel_rfl) (fun _ _ _ h => h) (Or.inr ⟨by kernel_rfl, rfl⟩) hS ?_
      go_simp
      refine wpAnyH_take (i := 16) (v := undef) rfl (by kernel_rfl) (by kernel_rfl) (by kernel_rfl) (fun _ _ _ h => h) (Or.inr ⟨by kernel_rfl, rfl⟩) hS ?_
      go_simp
      refine wpAnyH_take (i := 17) (v := undef) rfl (by kernel_rfl) (by kernel_rfl) (by kernel_rfl) (fun _ _ _ h => h) (Or.inr ⟨by kernel_rfl, rfl⟩) hS ?_
      go_simp
      refine wpAnyH_take (i := 18) (v := undef) rfl (by kernel_rfl) (by kernel_rfl) (by kernel_rfl) (fun _ _ _ h => h) (Or.inr ⟨by kernel_rfl, rfl⟩) hS ?_
      go_simp
      refine wpAnyH_take (i := 19) (v := undef) rfl (by kernel_rfl) (by kernel_rfl) (by kernel_rfl) (fun _ _ _ h => h) (Or.inr ⟨by kernel_rfl, rfl⟩) hS ?_
      go_simp
      refine wpAnyH_take (i := 20) (v := undef) rfl (by kernel_rfl) (by kernel_rfl) (by kernel_rfl) (fun _ _ _ h => h) (Or.inr ⟨by kernel_rfl, rfl⟩) hS ?_
      go_simp
      refine wpAnyH_take (i := 21) (v := undef) rfl (by kernel_rfl) (by kernel_rfl) (by kernel_rfl) (fun _ _ _ h => h) (Or.inr ⟨by kernel_rfl, rfl⟩) hS ?_
      go_simp
      refine wpAnyH_take (i := 22) (v := undef) rfl (by kernel_rfl) (by kernel_rfl) (by kernel_rfl) (fun _ _ _ h => h) (Or.inr ⟨by kernel_rfl, rfl⟩) hS ?_
      refine wpAnyH_take (i := 23) (v := ?_) rfl (by kernel_rfl) (by kernel_rfl) (by kernel_rfl) (fun _ _ _ h => h) (Or.inl ⟨by kernel_rfl, ?_⟩) hS ?_
      rotate_left
      · intro W hSW
        go_simp
        all_goals with_reducible rfl
      refine wpAnyH_take (i := 24) (v := ?_) rfl (by kernel_rfl) (by kernel_rfl) (by kernel_rfl) (fun _ _ _ h => h) (Or.inl ⟨by kernel_rfl, ?_⟩) hS ?_
      rotate_left
      · intro W hSW
        go_simp
        all_goals with_reducible rfl
      go_simp
      refine wpAnyH_take (i := 25) (v := undef) rfl (by kernel_rfl) (by kernel_rfl) (by kernel_rfl) (fun _ _ _ h => h) (Or.inr ⟨by kernel_rfl, rfl⟩) hS ?_
      go_simp
      refine wpAnyH_take (i := 26) (v := undef) rfl (by kernel_rfl) (by kernel_rfl) (by kernel_rfl) (fun _ _ _ h => h) (Or.inr ⟨by kernel_rfl, rfl⟩) hS ?_
      go_simp
      refine wpAnyH_take (i := 27) (v := undef) rfl (by kernel_rfl) (by kernel_rfl) (by kernel_rfl) (fun _ _ _ h => h) (Or.inr ⟨by kernel_rfl, rfl⟩) hS ?_
      go_simp
      refine wpAnyH_take (i := 28) (v := undef) rfl (by kernel_rfl) (by kernel_rfl) (by kernel_rfl) (fun _ _ _ h => h) (Or.inr ⟨by kernel_rfl, rfl⟩) hS ?_
      go_simp
      refine wpAnyH_take (i := 29) (v := undef) rfl (by kernel_rfl) (by kernel_rfl) (by kernel_rfl) (fun _ _ _ h => h) (Or.inr ⟨by kernel_rfl, rfl⟩) hS ?_
      go_simp
      refine wpAnyH_take (i := 30) (v := undef) rfl (by kernel_rfl) (by kernel_rfl) (by kernel_rfl) (fun _ _ _ h => h) (Or.inr ⟨by kernel_rfl, rfl⟩) hS ?_
      refine wpAnyH_take (i := 31) (v := ?_) rfl (by kernel_rfl) (by kernel_rfl) (by kernel_rfl) (fun _ _ _ h => h) (Or.inl ⟨by kernel_rfl, ?_⟩) hS ?_
      rotate_left
      · intro W hSW
        go_simp
        all_goals with_reducible rfl
      refine wpAnyH_take (i := 32) (v := ?_) rfl (by kernel_rfl) (by kernel_rfl) (by kernel_rfl) (fun _ _ _ h => h) (Or.inl ⟨by kernel_rfl, ?_⟩) hS ?_
      rotate_left
      · intro W hSW
        go_simp
        all_goals with_reducible rfl
      go_simp
      refine wpAnyH_done (by kernel_rfl) ?_ _
      go_simp
      replace HC := Lib.hid (HC.out.kept hS)
      replace HB := Lib.hid (HB.out.trans (hS.mono HB.out.size))
      have HE3 := Lib.hid (show Gm.tryG g x = none from by unfold Gm.tryG; rw [if_neg HK1.out, if_pos (Or.inl HB1.out)])
      have HE1 := Lib.hid (show Core _ X χ (Gm.aft g x) from by unfold Gm.aft; rw [HE3.out]; exact HC.out)
      have HE2 := HB
      clear hS HC HL HTB HB HH1 HH2
      go_wp2
      go_ret
      exact ⟨.pass, X, χ, rfl, HE1.out, Like.refl X, Goes.of_below HE2.out, HE3.out⟩
    | true =>
      cases b2 with
      | false =>
        refine wpAnyH_take (i := 0) (v := ?_) rfl (by kernel_rfl) (by kernel_rfl) (by kernel_rfl) (fun _ _ _ h => h) (Or.inl ⟨by kernel_rfl, ?_⟩) hS ?_
        rotate_left
        · intro W hSW
          go_simp
          all_goals with_reducible rfl
        refine wpAnyH_take (i := 1) (v := ?_) rfl (by kernel_rfl) (by kernel_rfl) (by kernel_rfl) (fun _ _ _ h => h) (Or.inl ⟨by kernel_rfl, ?_⟩) hS ?_
        rotate_left
        · intro W hSW
          go_simp
          all_goals with_reducible rfl
        refine wpAnyH_take (i := 2) (v := ?_) rfl (by kernel_rfl) (by kernel_rfl) (by kernel_rfl) (fun _ _ _ h => h) (Or.inl ⟨by kernel_rfl, ?_⟩) hS ?_
        rotate_left
        · intro W hSW
          go_simp
          all_goals with_reducible rfl
        refine wpAnyH_take (i := 3) (v := ?_) rfl (by kernel_rfl) (by kernel_rfl) (by kernel_rfl) (fun _ _ _ h => h) (Or.inl ⟨by kernel_rfl, ?_⟩) hS ?_
        rotate_left
        · intro W hSW
          have y := (HC.out.kept hSW).cP
          go_simp
          all_goals with_reducible rfl
        go_simp
        refine wpAnyH_take (i := 4) (v := ?_) rfl (by kernel_rfl) (by kernel_rfl) (by kernel_rfl) (fun _ _ _ h => h) (Or.inl ⟨by kernel_rfl, ?_⟩) hS ?_
        rotate_left
        · intro W hSW
          go_simp
          all_goals with_reducible rfl
        refine wpAnyH_take (i := 5) (v := ?_) rfl (by kernel_rfl) (by kernel_rfl) (by kernel_rfl) (fun _ _ _ h => h) (Or.inl ⟨by kernel_rfl, ?_⟩) hS ?_
        rotate_left
        · intro W hSW
          go_simp
          all_goals with_reducible rfl
        refine wpAnyH_take (i := 6) (v := ?_) rfl (by kernel_rfl) (by kernel_rfl) (by kernel_rfl) (fun _ _ _ h => h) (Or.inl ⟨by kernel_rfl, ?_⟩) hS ?_
        rotate_left
        · intro W hSW
          go_simp
          all_goals with_reducible rfl
        refine wpAnyH_take (i := 7) (v := ?_) rfl (by kernel_rfl) (by kernel_rfl) (by kernel_rfl) (fun _ _ _ h => h) (Or.inl ⟨by kernel_rfl, ?_⟩) hS ?_
        rotate_left
        · intro W hSW
          go_simp
          all_goals with_reducible rfl
        go_simp
        refine wpAnyH_take (i := 8) (v := snV (Gm.node x.x)) rfl (by kernel_rfl) (by kernel_rfl) (by kernel_rfl) (fun _ _ _ h => h) (Or.inl ⟨by kernel_rfl, fun W hSW => exec_load_part stT rfl rfl [.int .i64 x.x.nt, .int .i64 x.x.nr] rfl (AgAt.kept HL.out hSW) lnNode⟩) hS ?_
        go_simp
        refine wpAnyH_ready (rs := [9]) (by kernel_rfl) (by simp) ?_
        refine AllReadyH.cons rfl (fun K hK => ?_) AllReadyH.nil
        go_simp
        go_wp2_with (go_at_call 61; refine (HH1.out _ (HC.out.kept hS)).mono ?_; rintro e w5 ⟨rfl, hb5⟩)
        refine hK.out _ _ (hS.trans (hb5.mono hS.size)) (fun hS => ?_)
        clear hK K hb5
        refine wpAnyH_take (i := 10) (v := ?_) rfl (by kernel_rfl) (by kernel_rfl) (by kernel_rfl) (fun _ _ _ h => h) (Or.inl ⟨by kernel_rfl, ?_⟩) hS ?_
        rotate_left
        · intro W hSW
          go_simp
          all_goals with_reducible rfl
        refine wpAnyH_take (i := 11) (v := ?_) rfl (by kernel_rfl) (by kernel_rfl) (by kernel_rfl) (fun _ _ _ h => h) (Or.inl ⟨by kernel_rfl, ?_⟩) hS ?_
        rotate_left
        · intro W hSW
          go_simp
          all_goals with_reducible rfl
        refine wpAnyH_take (i := 12) (v := ?_) rfl (by kernel_rfl) (by kernel_rfl) (by kernel_rfl) (fun _ _ _ h => h) (Or.inl ⟨by kernel_rfl, ?_⟩) hS ?_
        rotate_left
        · intro W hSW
          go_simp
          all_goals with_reducible rfl
        refine wpAnyH_take (i := 13) (v := ?_) rfl (by kernel_rfl) (by kernel_rfl) (by kernel_rfl) (fun _ _ _ h => h) (Or.inl ⟨by kernel_rfl, ?_⟩) hS ?_
        rotate_left
        · intro W hSW
          go_simp
          all_goals with_reducible rfl
        go_simp
        refine wpAnyH_take (i := 14) (v := ?_) rfl (by kernel_rfl) (by kernel_rfl) (by kernel_rfl) (fun _ _ _ h => h) (Or.inl ⟨by kernel_rfl, ?_⟩) hS ?_
        rotate_left
        · intro W hSW
          go_simp
          all_goals with_reducible rfl
        refine wpAnyH_take (i := 15) (v := ?_) rfl (by kernel_rfl) (by kernel_rfl) (by kernel_rfl) (fun _ _ _ h => h) (Or.inl ⟨by kernel_rfl, ?_⟩) hS ?_
        rotate_left
        · intro W hSW
          have y := (HC.out.kept hSW).cP
          go_simp
          all_goals with_reducible rfl
        refine wpAnyH_take (i := 16) (v := ?_) rfl (by kernel_rfl) (by kernel_rfl) (by kernel_rfl) (fun _ _ _ h => h) (Or.inl ⟨by kernel_rfl, ?_⟩) hS ?_
        rotate_left
        · intro W hSW
          go_simp
          all_goals with_reducible rfl
        refine wpAnyH_take (i := 17) (v := ?_) rfl (by kernel_rfl) (by kernel_rfl) (by kernel_rfl) (fun _ _ _ h => h) (Or.inl ⟨by kernel_rfl, ?_⟩) hS ?_
        rotate_left
        · intro W hSW
          go_simp
          all_goals with_reducible rfl
        go_simp
        refine wpAnyH_take (i := 18) (v := ?_) rfl (by kernel_rfl) (by kernel_rfl) (by kernel_rfl) (fun _ _ _ h => h) (Or.inl ⟨by kernel_rfl, ?_⟩) hS ?_
        rotate_left
        · intro W hSW
          go_simp
          all_goals with_reducible rfl
        refine wpAnyH_take (i := 19) (v := ?_) rfl (by kernel_rfl) (by kernel_rfl) (by kernel_rfl) (fun _ _ _ h => h) (Or.inl ⟨by kernel_rfl, ?_⟩) hS ?_
        rotate_left
        · intro W hSW
          go_simp
          all_goals with_reducible rfl
        go_simp
        refine wpAnyH_take (i := 20) (v := snV (Gm.ref x.x)) rfl (by kernel_rfl) (by kernel_rfl) (by kernel_rfl) (fun _ _ _ h => h) (Or.inl ⟨by kernel_rfl, fun W hSW => exec_load_part stT rfl rfl [.int .i64 x.x.rt, .int .i64 x.x.rr] rfl (AgAt.kept HL.out hSW) lnRef⟩) hS ?_
        go_simp
        refine wpAnyH_ready (rs := [21]) (by kernel_rfl) (by simp) ?_
        refine AllReadyH.cons rfl (fun K hK => ?_) AllReadyH.nil
        go_simp
        go_wp2_with (go_at_call 61; refine (HH2.out _ (HC.out.kept hS)).mono ?_; rintro e w6 ⟨rfl, hb5⟩)
        refine hK.out _ _ (hS.trans (hb5.mono hS.size)) (fun hS => ?_)
        clear hK K hb5
        refine wpAnyH_take (i := 22) (v := ?_) rfl (by kernel_rfl) (by kernel_rfl) (by kernel_rfl) (fun _ _ _ h => h) (Or.inl ⟨by kernel_rfl, ?_⟩) hS ?_
        rotate_left
        · intro W hSW
          go_simp
          all_goals with_reducible rfl
        refine wpAnyH_take (i := 23) (v := ?_) rfl (by kernel_rfl) (by kernel_rfl) (by kernel_rfl) (fun _ _ _ h => h) (Or.inl ⟨by kernel_rfl, ?_⟩) hS ?_
        rotate_left
        · intro W hSW
          go_simp
          all_goals with_reducible rfl
        refine wpAnyH_take (i := 24) (v := ?_) rfl (by kernel_rfl) (by kernel_rfl) (by kernel_rfl) (fun _ _ _ h => h) (Or.inl ⟨by kernel_rfl, ?_⟩) hS ?_
        rotate_left
        · intro W hSW
          go_simp
          all_goals with_reducible rfl
        go_simp
        refine wpAnyH_take (i := 25) (v := undef) rfl (by kernel_rfl) (by kernel_rfl) (by kernel_rfl) (fun _ _ _ h => h) (Or.inr ⟨by kernel_rfl, rfl⟩) hS ?_
        go_simp
        refine wpAnyH_take (i := 26) (v := undef) rfl (by kernel_rfl) (by kernel_rfl) (by kernel_rfl) (fun _ _ _ h => h) (Or.inr ⟨by kernel_rfl, rfl⟩) hS ?_
        go_simp
        refine wpAnyH_take (i := 27) (v := undef) rfl (by kernel_rfl) (by kernel_rfl) (by kernel_rfl) (fun _ _ _ h => h) (Or.inr ⟨by kernel_rfl, rfl⟩) hS ?_
        go_simp
        refine wpAnyH_take (i := 28) (v := undef) rfl (by kernel_rfl) (by kernel_rfl) (by kernel_rfl) (fun _ _ _ h => h) (Or.inr ⟨by kernel_rfl, rfl⟩) hS ?_
        go_simp
        refine wpAnyH_take (i := 29) (v := undef) rfl (by kernel_rfl) (by kernel_rfl) (by kernel_rfl) (fun _ _ _ h => h) (Or.inr ⟨by kernel_rfl, rfl⟩) hS ?_
        go_simp
        refine wpAnyH_take (i := 30) (v := undef) rfl (by kernel_rfl) (by kernel_rfl) (by kernel_rfl) (fun _ _ _ h => h) (Or.inr ⟨by kernel_rfl, rfl⟩) hS ?_
        refine wpAnyH_take (i := 31) (v := ?_) rfl (by kernel_rfl) (by kernel_rfl) (by kernel_rfl) (fun _ _ _ h => h) (Or.inl ⟨by kernel_rfl, ?_⟩) hS ?_
        rotate_left
        · intro W hSW
          go_simp
          all_goals with_reducible rfl
        refine wpAnyH_take (i := 32) (v := ?_) rfl (by kernel_rfl) (by kernel_rfl) (by kernel_rfl) (fun _ _ _ h => h) (Or.inl ⟨by kernel_rfl, ?_⟩) hS ?_
        rotate_left
        · intro W hSW
          go_simp
          all_goals with_reducible rfl
        go_simp
        refine wpAnyH_done (by kernel_rfl) ?_ _
        go_simp
        replace HC := Lib.hid (HC.out.kept hS)
        replace HB := Lib.hid (HB.out.trans (hS.mono HB.out.size))
        have HE3 := Lib.hid (show Gm.tryG g x = none from by unfold Gm.tryG; rw [if_neg HK1.out, if_pos (Or.inr (Or.inl HB2.out))])
        have HE1 := Lib.hid (show Core _ X χ (Gm.aft g x) from by unfold Gm.aft; rw [HE3.out]; exact HC.out)
        have HE2 := HB
        clear hS HC HL HTB HB HH1 HH2
        go_wp2
        go_ret
        exact ⟨.pass, X, χ, rfl, HE1.out, Like.refl X, Goes.of_below HE2.out, HE3.out⟩
      | true =>
        refine wpAnyH_take (i := 0) (v := ?_) rfl (by kernel_rfl) (by kernel_rfl) (by kernel_rfl) (fun _ _ _ h => h) (Or.inl ⟨by kernel_rfl, ?_⟩) hS ?_
        rotate_left
        · intro W hSW
          go_simp
          all_goals with_reducible rfl
        refine wpAnyH_take (i := 1) (v := ?_) rfl (by kernel_rfl) (by kernel_rfl) (by kernel_rfl) (fun _ _ _ h => h) (Or.inl ⟨by kernel_rfl, ?_⟩) hS ?_
        rotate_left
        · intro W hSW
          go_simp
          all_goals with_reducible rfl
        refine wpAnyH_take (i := 2) (v := ?_) rfl (by kernel_rfl) (by kernel_rfl) (by kernel_rfl) (fun _ _ _ h => h) (Or.inl ⟨by kernel_rfl, ?_⟩) hS ?_
        rotate_left
        · intro W hSW
          go_simp
          all_goals with_reducible rfl
        refine wpAnyH_take (i := 3) (v := ?_) rfl (by kernel_rfl) (by kernel_rfl) (by kernel_rfl) (fun _ _ _ h => h) (Or.inl ⟨by kernel_rfl, ?_⟩) hS ?_
        rotate_left
        · intro W hSW
          have y := (HC.out.kept hSW).cP
          go_simp
          all_goals with_reducible rfl
        go_simp
        refine wpAnyH_take (i := 4) (v := ?_) rfl (by kernel_rfl) (by kernel_rfl) (by kernel_rfl) (fun _ _ _ h => h) (Or.inl ⟨by kernel_rfl, ?_⟩) hS ?_
        rotate_left
        · intro W hSW
          go_simp
          all_goals with_reducible rfl
        refine wpAnyH_take (i := 5) (v := ?_) rfl (by kernel_rfl) (by kernel_rfl) (by kernel_rfl) (fun _ _ _ h => h) (Or.inl ⟨by kernel_rfl, ?_⟩) hS ?_
        rotate_left
        · intro W hSW
          go_simp
          all_goals with_reducible rfl
        refine wpAnyH_take (i := 6) (v := ?_) rfl (by kernel_rfl) (by kernel_rfl) (by kernel_rfl) (fun _ _ _ h => h) (Or.inl ⟨by kernel_rfl, ?_⟩) hS ?_
        rotate_left
        · intro W hSW
          go_simp
          all_goals with_reducible rfl
        refine wpAnyH_take (i := 7) (v := ?_) rfl (by kernel_rfl) (by kernel_rfl) (by kernel_rfl) (fun _ _ _ h => h) (Or.inl ⟨by kernel_rfl, ?_⟩) hS ?_
        rotate_left
        · intro W hSW
          go_simp
          all_goals with_reducible rfl
        go_simp
        refine wpAnyH_take (i := 8) (v := snV (Gm.node x.x)) rfl (by kernel_rfl) (by kernel_rfl) (by kernel_rfl) (fun _ _ _ h => h) (Or.inl ⟨by kernel_rfl, fun W hSW => exec_load_part stT rfl rfl [.int .i64 x.x.nt, .int .i64 x.x.nr] rfl (AgAt.kept HL.out hSW) lnNode⟩) hS ?_
        go_simp
        refine wpAnyH_ready (rs := [9]) (by kernel_rfl) (by simp) ?_
        refine AllReadyH.cons rfl (fun K hK => ?_) AllReadyH.nil
        go_simp
        go_wp2_with (go_at_call 61; refine (HH1.out _ (HC.out.kept hS)).mono ?_; rintro e w5 ⟨rfl, hb5⟩)
        refine hK.out _ _ (hS.trans (hb5.mono hS.size)) (fun hS => ?_)
        clear hK K hb5
        refine wpAnyH_take (i := 10) (v := ?_) rfl (by kernel_rfl) (by kernel_rfl) (by kernel_rfl) (fun _ _ _ h => h) (Or.inl ⟨by kernel_rfl, ?_⟩) hS ?_
        rotate_left
        · intro W hSW
          go_simp
          all_goals with_reducible rfl
        refine wpAnyH_take (i := 11) (v := ?_) rfl (by kernel_rfl) (by kernel_rfl) (by kernel_rfl) (fun _ _ _ h => h) (Or.inl ⟨by kernel_rfl, ?_⟩) hS ?_
        rotate_left
        · intro W hSW
          go_simp
          all_goals with_reducible rfl
        refine wpAnyH_take (i := 12) (v := ?_) rfl (by kernel_rfl) (by kernel_rfl) (by kernel_rfl) (fun _ _ _ h => h) (Or.inl ⟨by kernel_rfl, ?_⟩) hS ?_
        rotate_left
        · intro W hSW
          go_simp
          all_goals with_reducible rfl
        refine wpAnyH_take (i := 13) (v := ?_) rfl (by kernel_rfl) (by kernel_rfl) (by kernel_rfl) (fun _ _ _ h => h) (Or.inl ⟨by kernel_rfl, ?_⟩) hS ?_
        rotate_left
        · intro W hSW
          go_simp
          all_goals with_reducible rfl
        go_simp
        refine wpAnyH_take (i := 14) (v := ?_) rfl (by kernel_rfl) (by kernel_rfl) (by kernel_rfl) (fun _ _ _ h => h) (Or.inl ⟨by kernel_rfl, ?_⟩) hS ?_
        rotate_left
        · intro W hSW
          go_simp
          all_goals with_reducible rfl
        refine wpAnyH_take (i := 15) (v := ?_) rfl (by kernel_rfl) (by kernel_rfl) (by kernel_rfl) (fun _ _ _ h => h) (Or.inl ⟨by kernel_rfl, ?_⟩) hS ?_
        rotate_left
        · intro W hSW
          have y := (HC.out.kept hSW).cP
          go_simp
          all_goals with_reducible rfl
        refine wpAnyH_take (i := 16) (v := ?_) rfl (by kernel_rfl) (by kernel_rfl) (by kernel_rfl) (fun _ _ _ h => h) (Or.inl ⟨by kernel_rfl, ?_⟩) hS ?_
        rotate_left
        · intro W hSW
          go_simp
          all_goals with_reducible rfl
        refine wpAnyH_take (i := 17) (v := ?_) rfl (by kernel_rfl) (by kernel_rfl) (by kernel_rfl) (fun _ _ _ h => h) (Or.inl ⟨by kernel_rfl, ?_⟩) hS ?_
        rotate_left
        · intro W hSW
          go_simp
          all_goals with_reducible rfl
        go_simp
        refine wpAnyH_take (i := 18) (v := ?_) rfl (by kernel_rfl) (by kernel_rfl) (by kernel_rfl) (fun _ _ _ h => h) (Or.inl ⟨by kernel_rfl, ?_⟩) hS ?_
        rotate_left
        · intro W hSW
          go_simp
          all_goals with_reducible rfl
        refine wpAnyH_take (i := 19) (v := ?_) rfl (by kernel_rfl) (by kernel_rfl) (by kernel_rfl) (fun _ _ _ h => h) (Or.inl ⟨by kernel_rfl, ?_⟩) hS ?_
        rotate_left
        · intro W hSW
          go_simp
          all_goals with_reducible rfl
        go_simp
        refine wpAnyH_take (i := 20) (v := snV (Gm.ref x.x)) rfl (by kernel_rfl) (by kernel_rfl) (by kernel_rfl) (fun _ _ _ h => h) (Or.inl ⟨by kernel_rfl, fun W hSW => exec_load_part stT rfl rfl [.int .i64 x.x.rt, .int .i64 x.x.rr] rfl (AgAt.kept HL.out hSW) lnRef⟩) hS ?_
        go_simp
        refine wpAnyH_ready (rs := [21]) (by kernel_rfl) (by simp) ?_
        refine AllReadyH.cons rfl (fun K hK => ?_) AllReadyH.nil
        go_simp
        go_wp2_with (go_at_call 61; refine (HH2.out _ (HC.out.kept hS)).mono ?_; rintro e w6 ⟨rfl, hb5⟩)
        refine hK.out _ _ (hS.trans (hb5.mono hS.size)) (fun hS => ?_)
        clear hK K hb5
        refine wpAnyH_take (i := 22) (v := ?_) rfl (by kernel_rfl) (by kernel_rfl) (by kernel_rfl) (fun _ _ _ h => h) (Or.inl ⟨by kernel_rfl, ?_⟩) hS ?_
        rotate_left
        · intro W hSW
          go_simp
          all_goals with_reducible rfl
        refine wpAnyH_take (i := 23) (v := ?_) rfl (by kernel_rfl) (by kernel_rfl) (by kernel_rfl) (fun _ _ _ h => h) (Or.inl ⟨by kernel_rfl, ?_⟩) hS ?_
        rotate_left
        · intro W hSW
          go_simp
          all_goals with_reducible rfl
        refine wpAnyH_take (i := 24) (v := ?_) rfl (by kernel_rfl) (by kernel_rfl) (by kernel_rfl) (fun _ _ _ h => h) (Or.inl ⟨by kernel_rfl, ?_⟩) hS ?_
        rotate_left
        · intro W hSW
          go_simp
          all_goals with_reducible rfl
        refine wpAnyH_take (i := 25) (v := ?_) rfl (by kernel_rfl) (by kernel_rfl) (by kernel_rfl) (fun _ _ _ h => h) (Or.inl ⟨by kernel_rfl, ?_⟩) hS ?_
        rotate_left
        · intro W hSW
          go_simp
          all_goals with_reducible rfl
        go_simp
        refine wpAnyH_take (i := 26) (v := ?_) rfl (by kernel_rfl) (by kernel_rfl) (by kernel_rfl) (fun _ _ _ h => h) (Or.inl ⟨by kernel_rfl, ?_⟩) hS ?_
        rotate_left
        · intro W hSW
          go_simp
          all_goals with_reducible rfl
        refine wpAnyH_take (i := 27) (v := ?_) rfl (by kernel_rfl) (by kernel_rfl) (by kernel_rfl) (fun _ _ _ h => h) (Or.inl ⟨by kernel_rfl, ?_⟩) hS ?_
        rotate_left
        · intro W hSW
          go_simp
          all_goals with_reducible rfl
        refine wpAnyH_take (i := 28) (v := ?_) rfl (by kernel_rfl) (by kernel_rfl) (by kernel_rfl) (fun _ _ _ h => h) (Or.inl ⟨by kernel_rfl, ?_⟩) hS ?_
        rotate_left
        · intro W hSW
          go_simp
          all_goals with_reducible rfl
        go_simp
        refine wpAnyH_take (i := 29) (v := .agg (opA x.x none 0)) rfl (by kernel_rfl) (by kernel_rfl) (by kernel_rfl) (fun _ _ _ h => h) (Or.inl ⟨by kernel_rfl, fun W hSW => exec_load_part opT12 rfl rfl (opL x.x none 0) rfl (AgAt.kept HL.out hSW) lnOp⟩) hS ?_
        go_simp
        refine wpAnyH_ready (rs := [30]) (by kernel_rfl) (by simp) ?_
        refine AllReadyH.cons rfl (fun K hK => ?_) AllReadyH.nil
        go_simp
        go_wp2_with (go_at_call 111; refine (closes_any x.x _ (HC.out.kept hS) HB1.out HB2.out).mono ?_; rintro e w7 ⟨bc, rfl, hbc, hb7⟩)
        have HBC := Lib.hid hbc
        refine hK.out _ _ (hS.trans (hb7.mono hS.size)) (fun hS => ?_)
        clear hK K hb7 hbc
        refine wpAnyH_take (i := 31) (v := ?_) rfl (by kernel_rfl) (by kernel_rfl) (by kernel_rfl) (fun _ _ _ h => h) (Or.inl ⟨by kernel_rfl, ?_⟩) hS ?_
        rotate_left
        · intro W hSW
          go_simp
          all_goals with_reducible rfl
        refine wpAnyH_take (i := 32) (v := ?_) rfl (by kernel_rfl) (by kernel_rfl) (by kernel_rfl) (fun _ _ _ h => h) (Or.inl ⟨by kernel_rfl, ?_⟩) hS ?_
        rotate_left
        · intro W hSW
          go_simp
          all_goals with_reducible rfl
        go_simp
        refine wpAnyH_done (by kernel_rfl) ?_ _
        go_simp
        replace HC := Lib.hid (HC.out.kept hS)
        replace HL := Lib.hid (AgAt.kept HL.out hS)
        replace HTB := Lib.hid (AgAt.kept HTB.out hS)
        replace HB := Lib.hid (HB.out.trans (hS.mono HB.out.size))
        clear hS HH1 HH2
        cases bc with
        | true =>
          have HE3 := Lib.hid (show Gm.tryG g x = none from by unfold Gm.tryG; rw [if_neg HK1.out, if_pos (Or.inr (Or.inr (HBC.out.1 rfl)))])
          have HE1 := Lib.hid (show Core _ X χ (Gm.aft g x) from by unfold Gm.aft; rw [HE3.out]; exact HC.out)
          have HE2 := HB
          clear HC HL HTB HB
          go_wp2
          go_ret
          exact ⟨.pass, X, χ, rfl, HE1.out, Like.refl X, Goes.of_below HE2.out, HE3.out⟩
        | false =>
          have HCL := Lib.hid (show ¬ Gm.closes g x.x from fun h => by cases HBC.out.2 h)
          have HIF := Lib.hid (show ¬ (Gm.has g (Gm.node x.x) = false ∨ Gm.has g (Gm.ref x.x) = false ∨ Gm.closes g x.x) from fun h => by
            rcases h with h | h | h
            · rw [HB1.out] at h; cases h
            · rw [HB2.out] at h; cases h
            · exact HCL.out h)
          have yk : w7.cell? ⟨lb, 2, none⟩ = some (.int .i64 x.x.k) := (AgAt.cell HL.out 2).trans rfl
          by_cases hk : x.x.k = 2
          · have HK2 := Lib.hid hk
            have d2 : (x.x.k == 2) = true := by simpa using hk
            have HTE := Lib.hid (show Gm.tryG g x = some ⟨Gm.upd g.s (Gm.node x.x) (some (Gm.ref x.x, x.x.key)), g.m⟩ from by unfold Gm.tryG; rw [if_neg HK1.out, if_neg HIF.out, if_pos hk])
            have HTR := Lib.hid (show (⟨Gm.upd g.s (Gm.node x.x) (some (Gm.ref x.x, x.x.key)), g.m⟩ : Gm.G) = Gm.aft g x from by unfold Gm.aft; rw [HTE.out]; rfl)
            have HTS := Lib.hid (show (Gm.tryG g x).isSome = true from by rw [HTE.out]; rfl)
            obtain ⟨was, hwas⟩ := Option.isSome_iff_exists.1 (show (g.s (Gm.node x.x)).isSome = true from by rw [← Gm.has_node (Gm.right_move HOK.out.2.1 hk).1]; exact HB1.out)
            have HWAS := Lib.hid hwas
            have HNC := Lib.hid (show ¬ Gm.Rc (Gm.UpS g) (Gm.ref x.x) (Gm.node x.x) ∧ ¬ Gm.Rc (Gm.DnS g) (Gm.node x.x) (Gm.ref x.x) from by
              have h := HCL.out
              unfold Gm.closes at h
              rw [if_pos hk] at h
              exact ⟨fun h1 => h (Or.inl h1), fun h1 => h (Or.inr h1)⟩)
            clear hk hwas
            go_upto_region 7 with fail
            have hbd := Below.drew (Below.refl w7.heap.size w7)
            replace HC := Lib.hid (HC.out.kept hbd)
            replace HL := Lib.hid (AgAt.kept HL.out hbd)
            replace HTB := Lib.hid (AgAt.kept HTB.out hbd)
            replace HB := Lib.hid (HB.out.trans (hbd.mono HB.out.size))
            clear hbd
            refine wp_region_held_drew (S := fun W => AgAt W lb (lnA x) ∧ AgAt W tb (spA (Gm.ref x.x, x.x.key))) (by kernel_rfl) ⟨HL.out, HTB.out⟩ (fun hS => ?_)
            generalize w7.drew = wf at *
            refine wpAnyH_take (i := 0) (v := ?_) rfl (by kernel_rfl) (by kernel_rfl) (by kernel_rfl) (fun _ _ _ h => h) (Or.inl ⟨by kernel_rfl, ?_⟩) hS ?_
            rotate_left
            · intro W hSW
              go_simp
              all_goals with_reducible rfl
            refine wpAnyH_take (i := 1) (v := ?_) rfl (by kernel_rfl) (by kernel_rfl) (by kernel_rfl) (fun _ _ _ h => h) (Or.inl ⟨by kernel_rfl, ?_⟩) hS ?_
            rotate_left
            · intro W hSW
              go_simp
              all_goals with_reducible rfl
            refine wpAnyH_take (i := 2) (v := ?_) rfl (by kernel_rfl) (by kernel_rfl) (by kernel_rfl) (fun _ _ _ h => h) (Or.inl ⟨by kernel_rfl, ?_⟩) hS ?_
            rotate_left
            · intro W hSW
              go_simp
              all_goals with_reducible rfl
            refine wpAnyH_take (i := 3) (v := ?_) rfl (by kernel_rfl) (by kernel_rfl) (by kernel_rfl) (fun _ _ _ h => h) (Or.inl ⟨by kernel_rfl, ?_⟩) hS ?_
            rotate_left
            · intro W hSW
              go_simp
              all_goals with_reducible rfl
            go_simp
            refine wpAnyH_take (i := 4) (v := ?_) rfl (by kernel_rfl) (by kernel_rfl) (by kernel_rfl) (fun _ _ _ h => h) (Or.inl ⟨by kernel_rfl, ?_⟩) hS ?_
            rotate_left
            · intro W hSW
              go_simp
              all_goals with_reducible rfl
            go_simp
            refine wpAnyH_take (i := 5) (v := snV (Gm.node x.x)) rfl (by kernel_rfl) (by kernel_rfl) (by kernel_rfl) (fun _ _ _ h => h) (Or.inl ⟨by kernel_rfl, fun W hSW => exec_load_part stT rfl rfl [.int .i64 x.x.nt, .int .i64 x.x.nr] rfl hSW.1 lnNode⟩) hS ?_
            go_simp
            refine wpAnyH_take (i := 6) (v := spV (Gm.ref x.x, x.x.key)) rfl (by kernel_rfl) (by kernel_rfl) (by kernel_rfl) (fun _ _ _ h => h) (Or.inl ⟨by kernel_rfl, fun W hSW => exec_load_ag spT rfl rfl rfl hSW.2⟩) hS ?_
            go_simp
            refine wpAnyH_ready (rs := [7]) (by kernel_rfl) (by simp) ?_
            refine AllReadyH.cons rfl (fun K hK => ?_) AllReadyH.nil
            go_simp
            go_wp2_with (go_at_call 112; refine (gmove_any (Gm.node x.x) (Gm.ref x.x, x.x.key) was _ HC.out (Gm.right_move HOK.out.2.1 HK2.out).1 (Gm.right_move HOK.out.2.1 HK2.out).2 HWAS.out HB2.out HNC.out.1 HNC.out.2).mono ?_; rintro e w9 ⟨u9, X9, χ9, rfl, hc9, hk9, hg9, hj9⟩)
            have HE := Lib.hid (Made.ahead (Made.mkG (J := fun w' χ' u => ∃ b c, u = .mv b c was ∧ χ' b = 6 ∧ χ' c = 6 ∧ AgAt w' b (stA (Gm.node x.x)) ∧ AgAt w' c (spA was)) (u := u9) hc9 hk9 hg9 hj9) HB.out)
            refine hK.out _ _ ⟨AgAt.block hS.1 (hg9.turns.block _ (AgAt.lt hS.1) (by rw [HLC.out]; decide)), AgAt.block hS.2 (hg9.turns.block _ (AgAt.lt hS.2) (by rw [HTC.out]; decide))⟩ (fun hS => ?_)
            clear hK K hc9 hk9 hg9 hj9
            refine wpAnyH_take (i := 8) (v := ?_) rfl (by kernel_rfl) (by kernel_rfl) (by kernel_rfl) (fun _ _ _ h => h) (Or.inl ⟨by kernel_rfl, ?_⟩) hS ?_
            rotate_left
            · intro W hSW
              go_simp
              all_goals with_reducible rfl
            go_simp
            refine wpAnyH_done (by kernel_rfl) ?_ _
            go_simp
            clear hS HC HL HTB HB
            go_wp2
            go_ret
            refine HE.out.imp ?_ ?_
            · exact HTR.out
            · rintro w χ u ⟨b, c, rfl, h1, h2, h3, h4⟩
              exact ⟨HK2.out, HTS.out, h1, h2, h3, h4, HWAS.out⟩
          · have HK5 := Lib.hid (show x.x.k = 5 from by rcases HOK.out.2.2.1 with h | h | h; exact absurd h HK1.out; exact absurd h hk; exact h)
            have d2 : (x.x.k == 2) = false := by simpa using hk
            have HTE := Lib.hid (show Gm.tryG g x = some ⟨g.s, Gm.upd g.m (Gm.node x.x) (if Gm.ref x.x = (0, 0) then none else some (Gm.ref x.x))⟩ from by unfold Gm.tryG; rw [if_neg HK1.out, if_neg HIF.out, if_neg hk])
            have HTR := Lib.hid (show (⟨g.s, Gm.upd g.m (Gm.node x.x) (if Gm.ref x.x = (0, 0) then none else some (Gm.ref x.x))⟩ : Gm.G) = Gm.aft g x from by unfold Gm.aft; rw [HTE.out]; rfl)
            have HTS := Lib.hid (show (Gm.tryG g x).isSome = true from by rw [HTE.out]; rfl)
            have HGD := Lib.hid (HC.out.good.tried (Gm.okX_iff.2 ⟨HOK.out.1, HOK.out.2.1, HOK.out.2.2.1⟩) HOK.out.2.2.2.1 HTE.out)
            clear hk
            go_upto_region 8 with fail
            have hbd := Below.drew (Below.refl w7.heap.size w7)
            replace HC := Lib.hid (HC.out.kept hbd)
            replace HL := Lib.hid (AgAt.kept HL.out hbd)
            replace HTB := Lib.hid (AgAt.kept HTB.out hbd)
            replace HB := Lib.hid (HB.out.trans (hbd.mono HB.out.size))
            clear hbd
            refine wp_region_held_drew (S := fun W => AgAt W lb (lnA x) ∧ AgAt W tb (spA (Gm.ref x.x, x.x.key))) (by kernel_rfl) ⟨HL.out, HTB.out⟩ (fun hS => ?_)
            generalize w7.drew = wf at *
            refine wpAnyH_take (i := 0) (v := ?_) rfl (by kernel_rfl) (by kernel_rfl) (by kernel_rfl) (fun _ _ _ h => h) (Or.inl ⟨by kernel_rfl, ?_⟩) hS ?_
            rotate_left
            · intro W hSW
              go_simp
              all_goals with_reducible rfl
            refine wpAnyH_take (i := 1) (v := ?_) rfl (by kernel_rfl) (by kernel_rfl) (by kernel_rfl) (fun _ _ _ h => h) (Or.inl ⟨by kernel_rfl, ?_⟩) hS ?_
            rotate_left
            · intro W hSW
              go_simp
              all_goals with_reducible rfl
            refine wpAnyH_take (i := 2) (v := ?_) rfl (by kernel_rfl) (by kernel_rfl) (by kernel_rfl) (fun _ _ _ h => h) (Or.inl ⟨by kernel_rfl, ?_⟩) hS ?_
            rotate_left
            · intro W hSW
              go_simp
              all_goals with_reducible rfl
            refine wpAnyH_take (i := 3) (v := ?_) rfl (by kernel_rfl) (by kernel_rfl) (by kernel_rfl) (fun _ _ _ h => h) (Or.inl ⟨by kernel_rfl, ?_⟩) hS ?_
            rotate_left
            · intro W hSW
              go_simp
              all_goals with_reducible rfl
            go_simp
            refine wpAnyH_take (i := 4) (v := ?_) rfl (by kernel_rfl) (by kernel_rfl) (by kernel_rfl) (fun _ _ _ h => h) (Or.inl ⟨by kernel_rfl, ?_⟩) hS ?_
            rotate_left
            · intro W hSW
              go_simp
              all_goals with_reducible rfl
            go_simp
            refine wpAnyH_take (i := 5) (v := snV (Gm.node x.x)) rfl (by kernel_rfl) (by kernel_rfl) (by kernel_rfl) (fun _ _ _ h => h) (Or.inl ⟨by kernel_rfl, fun W hSW => exec_load_part stT rfl rfl [.int .i64 x.x.nt, .int .i64 x.x.nr] rfl hSW.1 lnNode⟩) hS ?_
            refine wpAnyH_take (i := 6) (v := ?_) rfl (by kernel_rfl) (by kernel_rfl) (by kernel_rfl) (fun _ _ _ h => h) (Or.inl ⟨by kernel_rfl, ?_⟩) hS ?_
            rotate_left
            · intro W hSW
              go_simp
              all_goals with_reducible rfl
            refine wpAnyH_take (i := 7) (v := ?_) rfl (by kernel_rfl) (by kernel_rfl) (by kernel_rfl) (fun _ _ _ h => h) (Or.inl ⟨by kernel_rfl, ?_⟩) hS ?_
            rotate_left
            · intro W hSW
              go_simp
              all_goals with_reducible rfl
            refine wpAnyH_take (i := 8) (v := ?_) rfl (by kernel_rfl) (by kernel_rfl) (by kernel_rfl) (fun _ _ _ h => h) (Or.inl ⟨by kernel_rfl, ?_⟩) hS ?_
            rotate_left
            · intro W hSW
              go_simp
              all_goals with_reducible rfl
            go_simp
            refine wpAnyH_take (i := 9) (v := ?_) rfl (by kernel_rfl) (by kernel_rfl) (by kernel_rfl) (fun _ _ _ h => h) (Or.inl ⟨by kernel_rfl, ?_⟩) hS ?_
            rotate_left
            · intro W hSW
              go_simp
              all_goals with_reducible rfl
            go_simp
            refine wpAnyH_take (i := 10) (v := snV (Gm.ref x.x)) rfl (by kernel_rfl) (by kernel_rfl) (by kernel_rfl) (fun _ _ _ h => h) (Or.inl ⟨by kernel_rfl, fun W hSW => exec_load_part stT rfl rfl [.int .i64 x.x.rt, .int .i64 x.x.rr] rfl hSW.1 lnRef⟩) hS ?_
            go_simp
            refine wpAnyH_ready (rs := [11]) (by kernel_rfl) (by simp) ?_
            refine AllReadyH.cons rfl (fun K hK => ?_) AllReadyH.nil
            go_simp
            go_wp2_with (go_at_call 113; refine (gpoint_any (Gm.node x.x) (Gm.ref x.x) _ HC.out (Gm.right_point HOK.out.2.1 HK5.out).1 (Gm.right_point HOK.out.2.1 HK5.out).2 HGD.out).mono ?_; rintro e w9 ⟨u9, X9, χ9, rfl, hc9, hk9, hg9, hj9⟩)
            have HE := Lib.hid (Made.ahead (Made.mkG (J := fun w' χ' u => ∃ b c was, u = .pt b c was ∧ χ' b = 6 ∧ χ' c = 6 ∧ AgAt w' b (stA (Gm.node x.x)) ∧ AgAt w' c (stA was) ∧ (g.m (Gm.node x.x)).getD (0, 0) = was) (u := u9) hc9 hk9 hg9 hj9) HB.out)
            refine hK.out _ _ ⟨AgAt.block hS.1 (hg9.turns.block _ (AgAt.lt hS.1) (by rw [HLC.out]; decide)), AgAt.block hS.2 (hg9.turns.block _ (AgAt.lt hS.2) (by rw [HTC.out]; decide))⟩ (fun hS => ?_)
            clear hK K hc9 hk9 hg9 hj9
            refine wpAnyH_take (i := 12) (v := ?_) rfl (by kernel_rfl) (by kernel_rfl) (by kernel_rfl) (fun _ _ _ h => h) (Or.inl ⟨by kernel_rfl, ?_⟩) hS ?_
            rotate_left
            · intro W hSW
              go_simp
              all_goals with_reducible rfl
            go_simp
            refine wpAnyH_done (by kernel_rfl) ?_ _
            go_simp
            clear hS HC HL HTB HB
            go_wp2
            go_ret
            refine HE.out.imp ?_ ?_
            · exact HTR.out
            · rintro w χ u ⟨b, c, was, rfl, h1, h2, h3, h4, h5⟩
              exact ⟨HK5.out, HTS.out, h1, h2, h3, h4, h5⟩
end Go.Proofs.YthifdefjmfakgaaGreat
