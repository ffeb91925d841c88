/-
  WHAT TAKES BACK: the functions that create, move and point leave.
  No conditions but sizes.
-/
import Derived.Test.YthifdefjmfakgaaGreatH8
import Derived.Test.YthifdefjmfakgaaGreatG1
import Derived.Test.YthifdefjmfakgaaGreatTMove
namespace Go.Proofs.YthifdefjmfakgaaGreat
open Go.RowKit
open Tm (Sp Tr has put cut kids)

/-- all but the tree and the masters is as it was -/
structure Like (X X' : Gx) : Prop where
  lk : X'.lk = X.lk
  b : X'.b = X.b
  po : X'.po = X.po
  ls : X'.ls = X.ls
  pu : X'.pu = X.pu
  us : X'.us = X.us
theorem Like.refl (X : Gx) : Like X X := ⟨rfl, rfl, rfl, rfl, rfl, rfl⟩
theorem Like.trans {X Y Z : Gx} (h : Like X Y) (k : Like Y Z) : Like X Z := ⟨k.lk.trans h.lk, k.b.trans h.b, k.po.trans h.po, k.ls.trans h.ls, k.pu.trans h.pu, k.us.trans h.us⟩
/-- a block that had no colour is shared -/
def shared (χ : Nat → Nat) (b : Nat) : Nat → Nat := fun k => if k = b then 6 else χ k
theorem shared_self {χ : Nat → Nat} {b : Nat} : shared χ b b = 6 := if_pos rfl
theorem shared_old {χ : Nat → Nat} {b k : Nat} (h : χ k ≠ 0) (hb : χ b = 0 ∨ χ b = 6) : shared χ b k = χ k := by
  unfold shared
  split
  · next e =>
    subst e
    rcases hb with hb | hb
    · exact absurd hb h
    · exact hb.symm
  · rfl
theorem Core.share {w : World} {X : Gx} {χ : Nat → Nat} {g : Gm.G} (h : Core w X χ g) {b : Nat} (hb : χ b = 0 ∨ χ b = 6) (hl : b < w.heap.size) : Core w X (shared χ b) g :=
  h.recol (fun k hk => shared_old hk hb) fun k hk => by
    unfold shared at hk
    split at hk
    · next e => rw [e]; exact hl
    · exact h.lt k hk
theorem Goes.share {w w' : World} {χ χ' : Nat → Nat} (h : Goes w χ w' χ') {b : Nat} (hb : w.heap.size ≤ b) : Goes w χ w' (shared χ' b) :=
  ⟨h.turns, fun k hk => (if_neg (by omega)).trans (h.keep k hk)⟩
/-- what such a function leaves -/
def Undone (X : Gx) (χ : Nat → Nat) (g : Gm.G) (w : World) (e : Ending) (w' : World) : Prop := e = .returned (.tuple #[]) ∧ ∃ X' χ', Core w' X' χ' g ∧ Like X X' ∧ Goes w χ w' χ'
theorem Core.b4 {w : World} {X : Gx} {χ : Nat → Nat} {g : Gm.G} (h : Core w X χ g) : ¬ (fun k => χ k = 4) X.b := by show ¬ χ X.b = 4; rw [h.cb]; decide
theorem Core.b5 {w : World} {X : Gx} {χ : Nat → Nat} {g : Gm.G} (h : Core w X χ g) : ¬ (fun k => χ k = 5) X.b := by show ¬ χ X.b = 5; rw [h.cb]; decide
theorem Core.spw {w : World} {X : Gx} {χ : Nat → Nat} {g : Gm.G} (h : Core w X χ g) {n : Qm.St} {s : Sp} (hs : Tm.look X.T n = some s) : StWf s.1 := h.par _ (Tm.look_mem hs)
theorem Core.mw {w : World} {X : Gx} {χ : Nat → Nat} {g : Gm.G} (h : Core w X χ g) (a c : Qm.St) (hl : lookL X.L a = some c) : StWf c := by
  rw [h.hm] at hl
  obtain ⟨s, hs⟩ := Option.isSome_iff_exists.1 (h.good.mas _ _ hl).2
  exact okN_wf (h.good.node _ _ hs).1

set_option maxRecDepth 100000 in
set_option maxHeartbeats 4000000 in
theorem undoCr_any {X : Gx} {χ : Nat → Nat} {g : Gm.G} {nb : Nat} (n : Qm.St) (sp : Sp) (w : World) (h : Core w X χ ⟨Gm.upd g.s n (some sp), g.m⟩) (gd : Gm.Good g) (hn : Tm.okN n = true) (h3 : g.s n = none) (h4 : Gm.has g sp.1 = true) (hb : AgAt w nb (stA n)) (hx : χ nb = 6) :
    Calls Tryz.prog 140 #[ptV X.b, ptV nb] w (Undone X χ g w) := by
  have HC := Lib.hid h
  have HN := Lib.hid hb
  have HGD := Lib.hid gd
  have HOK := Lib.hid (And.intro hn (And.intro h3 h4))
  have HX := Lib.hid hx
  clear h gd hn h3 h4 hb hx
  go_enter Tryz.func140, Tryz.ntmps140
  have hbd := Below.drew (Below.refl w.heap.size w)
  have HG0 := Lib.hid (Goes.of_below (χ := χ) hbd)
  replace HC := Lib.hid (HC.out.kept hbd)
  replace HN := Lib.hid (AgAt.kept HN.out hbd)
  refine wp_region_held_drew (S := fun W => AgAt W X.b X.cells ∧ AgAt W nb (stA n)) (by kernel_rfl) ⟨HC.out.at_, HN.out⟩ (fun hS => ?_)
  clear hbd
  generalize w.drew = wd at *
  refine wpAnyH_take (i := 0) (v := ?_) rfl (by kernel_rfl) (by kernel_rfl) (by kernel_rfl) (fun _ _ _ h => h) (Or.inl ⟨by kernel_rfl, ?_⟩) hS ?_
  rotate_left
  · intro W hSW
    go_simp
    all_goals with_reducible rfl
  refine wpAnyH_take (i := 1) (v := ?_) rfl (by kernel_rfl) (by kernel_rfl) (by kernel_rfl) (fun _ _ _ h => h) (Or.inl ⟨by kernel_rfl, ?_⟩) hS ?_
  rotate_left
  · intro W hSW
    go_simp
    all_goals with_reducible rfl
  refine wpAnyH_take (i := 2) (v := ?_) rfl (by kernel_rfl) (by kernel_rfl) (by kernel_rfl) (fun _ _ _ h => h) (Or.inl ⟨by kernel_rfl, ?_⟩) hS ?_
  rotate_left
  · intro W hSW
    go_simp
    all_goals with_reducible rfl
  refine wpAnyH_take (i := 3) (v := ?_) rfl (by kernel_rfl) (by kernel_rfl) (by kernel_rfl) (fun _ _ _ h => h) (Or.inl ⟨by kernel_rfl, ?_⟩) hS ?_
  rotate_left
  · intro W hSW
    have y : W.cell? ⟨X.b, 4, none⟩ = some (ptV X.P) := (AgAt.cell hSW.1 4).trans rfl
    go_simp
    all_goals with_reducible rfl
  go_simp
  refine wpAnyH_take (i := 4) (v := snV n) rfl (by kernel_rfl) (by kernel_rfl) (by kernel_rfl) (fun _ _ _ h => h) (Or.inl ⟨by kernel_rfl, fun W hSW => exec_load_ag stT rfl rfl rfl hSW.2⟩) hS ?_
  go_simp
  refine wpAnyH_ready (rs := [5]) (by kernel_rfl) (by simp) ?_
  refine AllReadyH.cons rfl (fun K hK => ?_) AllReadyH.nil
  go_simp
  go_wp2_with (go_at_call 141; refine (drop_any n _ HC.out.tree (okN_wf HOK.out.1) (fun s hs => HC.out.spw hs)).mono ?_; rintro e w5 ⟨rfl, C5, hl5, ht5⟩)
  have HE := Lib.hid (show Undone X χ g w (.returned (.tuple #[])) w5 from by
    obtain ⟨z, e1, e2, e3⟩ := Gm.drop_eq HGD.out HC.out.tk HOK.out.1 HC.out.hs HOK.out.2.1 HOK.out.2.2
    rw [e1] at hl5
    exact ⟨rfl, _, _, HC.out.tree' (g' := g) hl5 ht5 e3 e2 rfl HGD.out (fun m hm => HC.out.dom m (by
      show (Gm.upd g.s n (some sp) m).isSome = true
      unfold Gm.upd
      split
      · rfl
      · exact hm)), ⟨rfl, rfl, rfl, rfl, rfl, rfl⟩, HG0.out.trans (goes_grown ht5 (by decide) (by decide))⟩)
  refine hK.out _ _ ⟨AgAt.block hS.1 (ht5.block _ (AgAt.lt hS.1) HC.out.b4), AgAt.block hS.2 (ht5.block _ (AgAt.lt hS.2) (by show ¬ χ nb = 4; rw [HX.out]; decide))⟩ (fun hS => ?_)
  clear hK K hl5 ht5
  refine wpAnyH_done (by kernel_rfl) ?_ _
  go_simp
  clear hS
  go_wp2
  go_end0
  exact HE.out

set_option maxRecDepth 100000 in
set_option maxHeartbeats 4000000 in
theorem undoMv_any {X : Gx} {χ : Nat → Nat} {g : Gm.G} {nb cb : Nat} (n : Qm.St) (sp was : Sp) (w : World) (h : Core w X χ ⟨Gm.upd g.s n (some sp), g.m⟩) (gd : Gm.Good g) (h3 : g.s n = some was) (hb : AgAt w nb (stA n)) (hc : AgAt w cb (spA was)) (hx : χ nb = 6) (hy : χ cb = 6) :
    Calls Tryz.prog 143 #[ptV X.b, ptV nb, ptV cb] w (Undone X χ g w) := by
  have HC := Lib.hid h
  have HN := Lib.hid hb
  have HCB := Lib.hid hc
  have HGD := Lib.hid gd
  have HOK := Lib.hid h3
  have HX := Lib.hid (And.intro hx hy)
  clear h gd h3 hb hc hx hy
  go_enter Tryz.func143, Tryz.ntmps143
  have hbd := Below.drew (Below.refl w.heap.size w)
  have HG0 := Lib.hid (Goes.of_below (χ := χ) hbd)
  replace HC := Lib.hid (HC.out.kept hbd)
  replace HN := Lib.hid (AgAt.kept HN.out hbd)
  replace HCB := Lib.hid (AgAt.kept HCB.out hbd)
  refine wp_region_held_drew (S := fun W => AgAt W X.b X.cells ∧ AgAt W nb (stA n) ∧ AgAt W cb (spA was)) (by kernel_rfl) ⟨HC.out.at_, HN.out, HCB.out⟩ (fun hS => ?_)
  clear hbd
  generalize w.drew = wd at *
  refine wpAnyH_take (i := 0) (v := ?_) rfl (by kernel_rfl) (by kernel_rfl) (by kernel_rfl) (fun _ _ _ h => h) (Or.inl ⟨by kernel_rfl, ?_⟩) hS ?_
  rotate_left
  · intro W hSW
    go_simp
    all_goals with_reducible rfl
  refine wpAnyH_take (i := 1) (v := ?_) rfl (by kernel_rfl) (by kernel_rfl) (by kernel_rfl) (fun _ _ _ h => h) (Or.inl ⟨by kernel_rfl, ?_⟩) hS ?_
  rotate_left
  · intro W hSW
    go_simp
    all_goals with_reducible rfl
  refine wpAnyH_take (i := 2) (v := ?_) rfl (by kernel_rfl) (by kernel_rfl) (by kernel_rfl) (fun _ _ _ h => h) (Or.inl ⟨by kernel_rfl, ?_⟩) hS ?_
  rotate_left
  · intro W hSW
    go_simp
    all_goals with_reducible rfl
  refine wpAnyH_take (i := 3) (v := ?_) rfl (by kernel_rfl) (by kernel_rfl) (by kernel_rfl) (fun _ _ _ h => h) (Or.inl ⟨by kernel_rfl, ?_⟩) hS ?_
  rotate_left
  · intro W hSW
    have y : W.cell? ⟨X.b, 4, none⟩ = some (ptV X.P) := (AgAt.cell hSW.1 4).trans rfl
    go_simp
    all_goals with_reducible rfl
  go_simp
  refine wpAnyH_take (i := 4) (v := snV n) rfl (by kernel_rfl) (by kernel_rfl) (by kernel_rfl) (fun _ _ _ h => h) (Or.inl ⟨by kernel_rfl, fun W hSW => exec_load_ag stT rfl rfl rfl hSW.2.1⟩) hS ?_
  go_simp
  refine wpAnyH_take (i := 5) (v := spV was) rfl (by kernel_rfl) (by kernel_rfl) (by kernel_rfl) (fun _ _ _ h => h) (Or.inl ⟨by kernel_rfl, fun W hSW => exec_load_ag spT rfl rfl rfl hSW.2.2⟩) hS ?_
  go_simp
  refine wpAnyH_ready (rs := [6]) (by kernel_rfl) (by simp) ?_
  refine AllReadyH.cons rfl (fun K hK => ?_) AllReadyH.nil
  go_simp
  go_wp2_with (go_at_call 142; refine (move_any n was _ HC.out.tree (okN_wf (HGD.out.node _ _ HOK.out).1) (rightSp_wf (HGD.out.node _ _ HOK.out).2.1).1 (rightSp_wf (HGD.out.node _ _ HOK.out).2.1).2 HC.out.tk HC.out.par).mono ?_; rintro e w5 ⟨rfl, C5, hl5, ht5⟩)
  have HE := Lib.hid (show Undone X χ g w (.returned (.tuple #[])) w5 from by
    obtain ⟨z, e1, e2, e3⟩ := Gm.back_eq HGD.out HC.out.tk HC.out.hs HOK.out
    rw [e1] at hl5
    exact ⟨rfl, _, _, HC.out.tree' (g' := g) hl5 ht5 e3 e2 rfl HGD.out (fun m hm => HC.out.dom m (by
      show (Gm.upd g.s n (some sp) m).isSome = true
      unfold Gm.upd
      split
      · rfl
      · exact hm)), ⟨rfl, rfl, rfl, rfl, rfl, rfl⟩, HG0.out.trans (goes_grown ht5 (by decide) (by decide))⟩)
  refine hK.out _ _ ⟨AgAt.block hS.1 (ht5.block _ (AgAt.lt hS.1) HC.out.b4), AgAt.block hS.2.1 (ht5.block _ (AgAt.lt hS.2.1) (by show ¬ χ nb = 4; rw [HX.out.1]; decide)), AgAt.block hS.2.2 (ht5.block _ (AgAt.lt hS.2.2) (by show ¬ χ cb = 4; rw [HX.out.2]; decide))⟩ (fun hS => ?_)
  clear hK K hl5 ht5
  refine wpAnyH_done (by kernel_rfl) ?_ _
  go_simp
  clear hS
  go_wp2
  go_end0
  exact HE.out

theorem turned_eq {X : Gx} {g : Gm.G} (hm : ∀ m, lookL X.L m = g.m m) (n q m : Qm.St) : lookL (turnL X.L n q) m = Gm.upd g.m n (if q = (0, 0) then none else some q) m := by
  rw [lookL_turn, hm]
  rfl
set_option maxRecDepth 100000 in
set_option maxHeartbeats 4000000 in
theorem undoPt_any {X : Gx} {χ : Nat → Nat} {g : Gm.G} {nb cb : Nat} {mo : Option Qm.St} (n was : Qm.St) (w : World) (h : Core w X χ ⟨g.s, Gm.upd g.m n mo⟩) (gd : Gm.Good g) (hn : Tm.okN n = true) (h3 : (g.m n).getD (0, 0) = was) (hb : AgAt w nb (stA n)) (hc : AgAt w cb (stA was)) :
    Calls Tryz.prog 144 #[ptV X.b, ptV nb, ptV cb] w (Undone X χ g w) := by
  have HC := Lib.hid h
  have HN := Lib.hid hb
  have HCB := Lib.hid hc
  have HGD := Lib.hid gd
  have HWN := Lib.hid (okN_wf hn)
  have HWS := Lib.hid (show g.m n = (if was = (0, 0) then none else some was) ∧ StWf was from by
    cases e : g.m n with
    | none =>
      have : was = (0, 0) := by rw [← h3, e]; rfl
      rw [if_pos this]
      exact ⟨rfl, by rw [this]; unfold StWf; decide⟩
    | some m =>
      have h5 : m = was := by rw [← h3, e]; rfl
      obtain ⟨s, hs⟩ := Option.isSome_iff_exists.1 (gd.mas _ _ e).2
      have h6 := (gd.node _ _ hs).1
      rw [h5] at h6
      rw [if_neg (fun h0 => by rw [h0] at h6; exact absurd h6 (by decide)), h5]
      exact ⟨rfl, okN_wf h6⟩)
  clear h gd hn h3 hb hc
  go_enter Tryz.func144, Tryz.ntmps144
  go_wp2_with (first | (refine wpList_load_ag stT (by kernel_rfl) _ rfl _ rfl (A := stA n) rfl HN.out ?_) | (refine wpList_load_ag stT (by kernel_rfl) _ rfl _ rfl (A := stA was) rfl HCB.out ?_))
  refine (turn_any n was _ HC.out.ms HC.out.at_ rfl rfl HC.out.b5 HWN.out HWS.out.2 HC.out.mw).mono ?_
  rintro e w5 ⟨rfl, D5, hl5, ht5⟩
  have HE := Lib.hid (show Undone X χ g w (.returned (.tuple #[])) w5 from ⟨rfl, _, _, HC.out.ms' (g' := g) hl5 ht5 (fun m => by
    rw [turned_eq HC.out.hm, ← HWS.out.1]
    show Gm.upd (Gm.upd g.m n mo) n (g.m n) m = g.m m
    rw [Gm.upd_upd, Gm.upd_was rfl]) rfl HGD.out, ⟨rfl, rfl, rfl, rfl, rfl, rfl⟩, goes_grown ht5 (by decide) (by decide)⟩)
  clear hl5 ht5
  go_wp2
  go_end0
  exact HE.out
end Go.Proofs.YthifdefjmfakgaaGreat
