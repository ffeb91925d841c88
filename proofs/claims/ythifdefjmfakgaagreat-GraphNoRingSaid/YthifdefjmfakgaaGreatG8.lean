/-
  A GRAPH's LOOKS: Reaches.
  No conditions but sizes.
  What the law's knows asks for, plainly: four ops, what they make of it.
  No conditions.
-/
import Derived.Test.YthifdefjmfakgaaGreatGrAsk
import Derived.Test.YthifdefjmfakgaaGreatGrPut
namespace Go.Proofs.YthifdefjmfakgaaGreat
open Go.RowKit
open Tm (Sp Tr has put cut kids)

/-- steps lead there, between two that there are -/
def Gm.Leads (g : Gm.G) (up : Bool) (n m : Qm.St) : Prop := Gm.has g n = true ∧ Gm.has g m = true ∧ Gm.Rc (stepR g up) n m
set_option maxRecDepth 100000 in
set_option maxHeartbeats 4000000 in
theorem greach_any {gg : Nat} {ops : List Pm.Wr} {χ : Nat → Nat} (n m : Qm.St) (up : Bool) (w : World) (h : Gra w gg ops χ) (hn : StWf n) (hm : StWf m) : Calls Tryz.prog 25 #[ptV gg, snV n, snV m, .bool up] w fun e w' => ∃ b, e = .returned (.bool b) ∧ (b = true ↔ Gm.Leads (Gm.run ops) up n m) ∧ Left gg ops χ w w' := by
  have h1 : ∀ (w : World) (o : Obj), Below w.heap.size w (w.alloc o) := fun w o => (Below.refl _ _).alloc (Nat.le_refl _) _
  have hb := ((h1 w (.cells (stA n) 35)).trans ((h1 (w.alloc (.cells (stA n) 35)) (.cells (stA m) 35)).mono (by simp))).drew
  have HB0 := Lib.hid (((AgAt.new w (stA n) 35).kept (h1 _ (.cells (stA m) 35))).kept (Below.drew (Below.refl _ _)))
  have HB1 := Lib.hid (show AgAt ((w.alloc (.cells (stA n) 35)).alloc (.cells (stA m) 35)).drew (w.heap.size + 1) (stA m) from by
    have := AgAt.new (w.alloc (.cells (stA n) 35)) (stA m) 35
    rw [show (w.alloc (.cells (stA n) 35)).heap.size = w.heap.size + 1 from by simp] at this
    exact this.kept (Below.drew (Below.refl _ _)))
  have HC := Lib.hid (h.kept hb)
  have HB := Lib.hid hb
  have HZ := Lib.hid (show χ w.heap.size = 0 ∧ χ (w.heap.size + 1) = 0 from by obtain ⟨⟨X, h1, h2, h3, h4⟩, -⟩ := h; exact ⟨h2.toCore.zero (Nat.le_refl _), h2.toCore.zero (by omega)⟩)
  have HGZ := Lib.hid h.gz
  obtain ⟨ib1, hib1⟩ : ∃ b, b = Gm.has (Gm.run ops) n := ⟨_, rfl⟩
  obtain ⟨ib2, hib2⟩ : ∃ b, b = Gm.has (Gm.run ops) m := ⟨_, rfl⟩
  have HIB1 := Lib.hid hib1
  have HIB2 := Lib.hid hib2
  have HH1 := Lib.hid (fun (W : World) (χ : Nat → Nat) (hc : Gra W gg ops χ) => show Calls Tryz.prog 24 #[ptV gg, snV n] W fun e w' => e = .returned (.bool ib1) ∧ Left gg ops χ W w' from by
    rw [hib1]; exact ghas_any n W hc hn)
  have HH2 := Lib.hid (fun (W : World) (χ : Nat → Nat) (hc : Gra W gg ops χ) => show Calls Tryz.prog 24 #[ptV gg, snV m] W fun e w' => e = .returned (.bool ib2) ∧ Left gg ops χ W w' from by
    rw [hib2]; exact ghas_any m W hc hm)
  clear h hb hn hm hib1 hib2 h1
  go_enter Tryz.func25, Tryz.ntmps25
  go_upto_region 1 with fail
  refine wp_region_held_drew (S := fun W => AgAt W w.heap.size (stA n) ∧ AgAt W (w.heap.size + 1) (stA m)) (by kernel_rfl) ⟨HB0.out, HB1.out⟩ (fun hS => ?_)
  generalize ((w.alloc (.cells (stA n) 35)).alloc (.cells (stA m) 35)).drew = wd at *
  have HLT := Lib.hid (And.intro (AgAt.lt HB0.out) (AgAt.lt HB1.out))
  clear HB0 HB1
  have HGO := Lib.hid (Goes.refl wd χ)
  cases ib1 with
  | false =>
    refine wpAnyH_take (i := 0) (v := ?_) rfl (by kernel_rfl) (by kernel_rfl) (by kernel_rfl) (fun _ _ _ h => h) (Or.inl ⟨by kernel_rfl, ?_⟩) hS ?_
    rotate_left
    · intro W hSW
      go_simp
      all_goals with_reducible rfl
    go_simp
    refine wpAnyH_take (i := 1) (v := snV n) rfl (by kernel_rfl) (by kernel_rfl) (by kernel_rfl) (fun _ _ _ h => h) (Or.inl ⟨by kernel_rfl, fun W hSW => exec_load_ag stT rfl rfl rfl hSW.1⟩) hS ?_
    go_simp
    refine wpAnyH_ready (rs := [2]) (by kernel_rfl) (by simp) ?_
    refine AllReadyH.cons rfl (fun K hK => ?_) AllReadyH.nil
    go_simp
    go_wp2_with (go_at_call 24; refine (HH1.out _ _ HC.out).mono ?_; rintro e w2 ⟨rfl, χ1, hg1, hgo1⟩)
    have hz := show χ w.heap.size = 0 ∧ χ (w.heap.size + 1) = 0 from ⟨(HGO.out.keep _ HLT.out.1).trans HZ.out.1, (HGO.out.keep _ HLT.out.2).trans HZ.out.2⟩
    have hs := And.intro (hS.1.block (hgo1.turns.block _ (AgAt.lt hS.1) (by rw [hz.1]; decide))) (hS.2.block (hgo1.turns.block _ (AgAt.lt hS.2) (by rw [hz.2]; decide)))
    refine hK.out _ _ hs (fun hS => ?_)
    replace HC := Lib.hid hg1
    replace HGO := Lib.hid (HGO.out.trans hgo1)
    clear hK K hg1 hgo1 hs hz HH1
    refine wpAnyH_take (i := 3) (v := ?_) rfl (by kernel_rfl) (by kernel_rfl) (by kernel_rfl) (fun _ _ _ h => h) (Or.inl ⟨by kernel_rfl, ?_⟩) hS ?_
    rotate_left
    · intro W hSW
      go_simp
      all_goals with_reducible rfl
    go_simp
    refine wpAnyH_take (i := 4) (v := undef) rfl (by kernel_rfl) (by kernel_rfl) (by kernel_rfl) (fun _ _ _ h => h) (Or.inr ⟨by kernel_rfl, rfl⟩) hS ?_
    go_simp
    refine wpAnyH_take (i := 5) (v := undef) rfl (by kernel_rfl) (by kernel_rfl) (by kernel_rfl) (fun _ _ _ h => h) (Or.inr ⟨by kernel_rfl, rfl⟩) hS ?_
    go_simp
    refine wpAnyH_take (i := 6) (v := undef) rfl (by kernel_rfl) (by kernel_rfl) (by kernel_rfl) (fun _ _ _ h => h) (Or.inr ⟨by kernel_rfl, rfl⟩) hS ?_
    refine wpAnyH_take (i := 7) (v := ?_) rfl (by kernel_rfl) (by kernel_rfl) (by kernel_rfl) (fun _ _ _ h => h) (Or.inl ⟨by kernel_rfl, ?_⟩) hS ?_
    rotate_left
    · intro W hSW
      go_simp
      all_goals with_reducible rfl
    refine wpAnyH_take (i := 8) (v := ?_) rfl (by kernel_rfl) (by kernel_rfl) (by kernel_rfl) (fun _ _ _ h => h) (Or.inl ⟨by kernel_rfl, ?_⟩) hS ?_
    rotate_left
    · intro W hSW
      go_simp
      all_goals with_reducible rfl
    go_simp
    refine wpAnyH_take (i := 9) (v := undef) rfl (by kernel_rfl) (by kernel_rfl) (by kernel_rfl) (fun _ _ _ h => h) (Or.inr ⟨by kernel_rfl, rfl⟩) hS ?_
    go_simp
    refine wpAnyH_take (i := 10) (v := undef) rfl (by kernel_rfl) (by kernel_rfl) (by kernel_rfl) (fun _ _ _ h => h) (Or.inr ⟨by kernel_rfl, rfl⟩) hS ?_
    go_simp
    refine wpAnyH_take (i := 11) (v := undef) rfl (by kernel_rfl) (by kernel_rfl) (by kernel_rfl) (fun _ _ _ h => h) (Or.inr ⟨by kernel_rfl, rfl⟩) hS ?_
    go_simp
    refine wpAnyH_take (i := 12) (v := undef) rfl (by kernel_rfl) (by kernel_rfl) (by kernel_rfl) (fun _ _ _ h => h) (Or.inr ⟨by kernel_rfl, rfl⟩) hS ?_
    go_simp
    refine wpAnyH_take (i := 13) (v := undef) rfl (by kernel_rfl) (by kernel_rfl) (by kernel_rfl) (fun _ _ _ h => h) (Or.inr ⟨by kernel_rfl, rfl⟩) hS ?_
    go_simp
    refine wpAnyH_take (i := 14) (v := undef) rfl (by kernel_rfl) (by kernel_rfl) (by kernel_rfl) (fun _ _ _ h => h) (Or.inr ⟨by kernel_rfl, rfl⟩) hS ?_
    refine wpAnyH_take (i := 15) (v := ?_) rfl (by kernel_rfl) (by kernel_rfl) (by kernel_rfl) (fun _ _ _ h => h) (Or.inl ⟨by kernel_rfl, ?_⟩) hS ?_
    rotate_left
    · intro W hSW
      go_simp
      all_goals with_reducible rfl
    refine wpAnyH_take (i := 16) (v := ?_) rfl (by kernel_rfl) (by kernel_rfl) (by kernel_rfl) (fun _ _ _ h => h) (Or.inl ⟨by kernel_rfl, ?_⟩) hS ?_
    rotate_left
    · intro W hSW
      go_simp
      all_goals with_reducible rfl
    go_simp
    refine wpAnyH_done (by kernel_rfl) ?_ _
    go_simp
    have HE := Lib.hid (show ∃ b', Ending.returned (.bool false) = .returned (.bool b') ∧ (b' = true ↔ Gm.Leads (Gm.run ops) up n m) ∧ Left gg ops χ w w2 from
      ⟨false, rfl, ⟨fun h => (by cases h), fun h => by first | exact absurd (HIB1.out.trans h.1) (by decide) | exact absurd (HIB2.out.trans h.2.1) (by decide)⟩, _, HC.out, (Goes.of_below HB.out).trans HGO.out⟩)
    clear hS HC HGO HB
    go_wp2
    go_ret
    exact HE.out
  | true =>
    cases ib2 with
    | false =>
      refine wpAnyH_take (i := 0) (v := ?_) rfl (by kernel_rfl) (by kernel_rfl) (by kernel_rfl) (fun _ _ _ h => h) (Or.inl ⟨by kernel_rfl, ?_⟩) hS ?_
      rotate_left
      · intro W hSW
        go_simp
        all_goals with_reducible rfl
      go_simp
      refine wpAnyH_take (i := 1) (v := snV n) rfl (by kernel_rfl) (by kernel_rfl) (by kernel_rfl) (fun _ _ _ h => h) (Or.inl ⟨by kernel_rfl, fun W hSW => exec_load_ag stT rfl rfl rfl hSW.1⟩) hS ?_
      go_simp
      refine wpAnyH_ready (rs := [2]) (by kernel_rfl) (by simp) ?_
      refine AllReadyH.cons rfl (fun K hK => ?_) AllReadyH.nil
      go_simp
      go_wp2_with (go_at_call 24; refine (HH1.out _ _ HC.out).mono ?_; rintro e w2 ⟨rfl, χ1, hg1, hgo1⟩)
      have hz := show χ w.heap.size = 0 ∧ χ (w.heap.size + 1) = 0 from ⟨(HGO.out.keep _ HLT.out.1).trans HZ.out.1, (HGO.out.keep _ HLT.out.2).trans HZ.out.2⟩
      have hs := And.intro (hS.1.block (hgo1.turns.block _ (AgAt.lt hS.1) (by rw [hz.1]; decide))) (hS.2.block (hgo1.turns.block _ (AgAt.lt hS.2) (by rw [hz.2]; decide)))
      refine hK.out _ _ hs (fun hS => ?_)
      replace HC := Lib.hid hg1
      replace HGO := Lib.hid (HGO.out.trans hgo1)
      clear hK K hg1 hgo1 hs hz HH1
      refine wpAnyH_take (i := 3) (v := ?_) rfl (by kernel_rfl) (by kernel_rfl) (by kernel_rfl) (fun _ _ _ h => h) (Or.inl ⟨by kernel_rfl, ?_⟩) hS ?_
      rotate_left
      · intro W hSW
        go_simp
        all_goals with_reducible rfl
      refine wpAnyH_take (i := 4) (v := ?_) rfl (by kernel_rfl) (by kernel_rfl) (by kernel_rfl) (fun _ _ _ h => h) (Or.inl ⟨by kernel_rfl, ?_⟩) hS ?_
      rotate_left
      · intro W hSW
        go_simp
        all_goals with_reducible rfl
      go_simp
      refine wpAnyH_take (i := 5) (v := snV m) rfl (by kernel_rfl) (by kernel_rfl) (by kernel_rfl) (fun _ _ _ h => h) (Or.inl ⟨by kernel_rfl, fun W hSW => exec_load_ag stT rfl rfl rfl hSW.2⟩) hS ?_
      go_simp
      refine wpAnyH_ready (rs := [6]) (by kernel_rfl) (by simp) ?_
      refine AllReadyH.cons rfl (fun K hK => ?_) AllReadyH.nil
      go_simp
      go_wp2_with (go_at_call 24; refine (HH2.out _ _ HC.out).mono ?_; rintro e w3 ⟨rfl, χ2, hg2, hgo2⟩)
      have hz := show χ1 w.heap.size = 0 ∧ χ1 (w.heap.size + 1) = 0 from ⟨(HGO.out.keep _ HLT.out.1).trans HZ.out.1, (HGO.out.keep _ HLT.out.2).trans HZ.out.2⟩
      have hs := And.intro (hS.1.block (hgo2.turns.block _ (AgAt.lt hS.1) (by rw [hz.1]; decide))) (hS.2.block (hgo2.turns.block _ (AgAt.lt hS.2) (by rw [hz.2]; decide)))
      refine hK.out _ _ hs (fun hS => ?_)
      replace HC := Lib.hid hg2
      replace HGO := Lib.hid (HGO.out.trans hgo2)
      clear hK K hg2 hgo2 hs hz HH2
      refine wpAnyH_take (i := 7) (v := ?_) rfl (by kernel_rfl) (by kernel_rfl) (by kernel_rfl) (fun _ _ _ h => h) (Or.inl ⟨by kernel_rfl, ?_⟩) hS ?_
      rotate_left
      · intro W hSW
        go_simp
        all_goals with_reducible rfl
      refine wpAnyH_take (i := 8) (v := ?_) rfl (by kernel_rfl) (by kernel_rfl) (by kernel_rfl) (fun _ _ _ h => h) (Or.inl ⟨by kernel_rfl, ?_⟩) hS ?_
      rotate_left
      · intro W hSW
        go_simp
        all_goals with_reducible rfl
      go_simp
      refine wpAnyH_take (i := 9) (v := undef) rfl (by kernel_rfl) (by kernel_rfl) (by kernel_rfl) (fun _ _ _ h => h) (Or.inr ⟨by kernel_rfl, rfl⟩) hS ?_
      go_simp
      refine wpAnyH_take (i := 10) (v := undef) rfl (by kernel_rfl) (by kernel_rfl) (by kernel_rfl) (fun _ _ _ h => h) (Or.inr ⟨by kernel_rfl, rfl⟩) hS ?_
      go_simp
      refine wpAnyH_take (i := 11) (v := undef) rfl (by kernel_rfl) (by kernel_rfl) (by kernel_rfl) (fun _ _ _ h => h) (Or.inr ⟨by kernel_rfl, rfl⟩) hS ?_
      go_simp
      refine wpAnyH_take (i := 12) (v := undef) rfl (by kernel_rfl) (by kernel_rfl) (by kernel_rfl) (fun _ _ _ h => h) (Or.inr ⟨by kernel_rfl, rfl⟩) hS ?_
      go_simp
      refine wpAnyH_take (i := 13) (v := undef) rfl (by kernel_rfl) (by kernel_rfl) (by kernel_rfl) (fun _ _ _ h => h) (Or.inr ⟨by kernel_rfl, rfl⟩) hS ?_
      go_simp
      refine wpAnyH_take (i := 14) (v := undef) rfl (by kernel_rfl) (by kernel_rfl) (by kernel_rfl) (fun _ _ _ h => h) (Or.inr ⟨by kernel_rfl, rfl⟩) hS ?_
      refine wpAnyH_take (i := 15) (v := ?_) rfl (by kernel_rfl) (by kernel_rfl) (by kernel_rfl) (fun _ _ _ h => h) (Or.inl ⟨by kernel_rfl, ?_⟩) hS ?_
      rotate_left
      · intro W hSW
        go_simp
        all_goals with_reducible rfl
      refine wpAnyH_take (i := 16) (v := ?_) rfl (by kernel_rfl) (by kernel_rfl) (by kernel_rfl) (fun _ _ _ h => h) (Or.inl ⟨by kernel_rfl, ?_⟩) hS ?_
      rotate_left
      · intro W hSW
        go_simp
        all_goals with_reducible rfl
      go_simp
      refine wpAnyH_done (by kernel_rfl) ?_ _
      go_simp
      have HE := Lib.hid (show ∃ b', Ending.returned (.bool false) = .returned (.bool b') ∧ (b' = true ↔ Gm.Leads (Gm.run ops) up n m) ∧ Left gg ops χ w w3 from
        ⟨false, rfl, ⟨fun h => (by cases h), fun h => by first | exact absurd (HIB1.out.trans h.1) (by decide) | exact absurd (HIB2.out.trans h.2.1) (by decide)⟩, _, HC.out, (Goes.of_below HB.out).trans HGO.out⟩)
      clear hS HC HGO HB
      go_wp2
      go_ret
      exact HE.out
    | true =>
      refine wpAnyH_take (i := 0) (v := ?_) rfl (by kernel_rfl) (by kernel_rfl) (by kernel_rfl) (fun _ _ _ h => h) (Or.inl ⟨by kernel_rfl, ?_⟩) hS ?_
      rotate_left
      · intro W hSW
        go_simp
        all_goals with_reducible rfl
      go_simp
      refine wpAnyH_take (i := 1) (v := snV n) rfl (by kernel_rfl) (by kernel_rfl) (by kernel_rfl) (fun _ _ _ h => h) (Or.inl ⟨by kernel_rfl, fun W hSW => exec_load_ag stT rfl rfl rfl hSW.1⟩) hS ?_
      go_simp
      refine wpAnyH_ready (rs := [2]) (by kernel_rfl) (by simp) ?_
      refine AllReadyH.cons rfl (fun K hK => ?_) AllReadyH.nil
      go_simp
      go_wp2_with (go_at_call 24; refine (HH1.out _ _ HC.out).mono ?_; rintro e w2 ⟨rfl, χ1, hg1, hgo1⟩)
      have hz := show χ w.heap.size = 0 ∧ χ (w.heap.size + 1) = 0 from ⟨(HGO.out.keep _ HLT.out.1).trans HZ.out.1, (HGO.out.keep _ HLT.out.2).trans HZ.out.2⟩
      have hs := And.intro (hS.1.block (hgo1.turns.block _ (AgAt.lt hS.1) (by rw [hz.1]; decide))) (hS.2.block (hgo1.turns.block _ (AgAt.lt hS.2) (by rw [hz.2]; decide)))
      refine hK.out _ _ hs (fun hS => ?_)
      replace HC := Lib.hid hg1
      replace HGO := Lib.hid (HGO.out.trans hgo1)
      clear hK K hg1 hgo1 hs hz HH1
      refine wpAnyH_take (i := 3) (v := ?_) rfl (by kernel_rfl) (by kernel_rfl) (by kernel_rfl) (fun _ _ _ h => h) (Or.inl ⟨by kernel_rfl, ?_⟩) hS ?_
      rotate_left
      · intro W hSW
        go_simp
        all_goals with_reducible rfl
      refine wpAnyH_take (i := 4) (v := ?_) rfl (by kernel_rfl) (by kernel_rfl) (by kernel_rfl) (fun _ _ _ h => h) (Or.inl ⟨by kernel_rfl, ?_⟩) hS ?_
      rotate_left
      · intro W hSW
        go_simp
        all_goals with_reducible rfl
      go_simp
      refine wpAnyH_take (i := 5) (v := snV m) rfl (by kernel_rfl) (by kernel_rfl) (by kernel_rfl) (fun _ _ _ h => h) (Or.inl ⟨by kernel_rfl, fun W hSW => exec_load_ag stT rfl rfl rfl hSW.2⟩) hS ?_
      go_simp
      refine wpAnyH_ready (rs := [6]) (by kernel_rfl) (by simp) ?_
      refine AllReadyH.cons rfl (fun K hK => ?_) AllReadyH.nil
      go_simp
      go_wp2_with (go_at_call 24; refine (HH2.out _ _ HC.out).mono ?_; rintro e w3 ⟨rfl, χ2, hg2, hgo2⟩)
      have hz := show χ1 w.heap.size = 0 ∧ χ1 (w.heap.size + 1) = 0 from ⟨(HGO.out.keep _ HLT.out.1).trans HZ.out.1, (HGO.out.keep _ HLT.out.2).trans HZ.out.2⟩
      have hs := And.intro (hS.1.block (hgo2.turns.block _ (AgAt.lt hS.1) (by rw [hz.1]; decide))) (hS.2.block (hgo2.turns.block _ (AgAt.lt hS.2) (by rw [hz.2]; decide)))
      refine hK.out _ _ hs (fun hS => ?_)
      replace HC := Lib.hid hg2
      replace HGO := Lib.hid (HGO.out.trans hgo2)
      clear hK K hg2 hgo2 hs hz HH2
      refine wpAnyH_take (i := 7) (v := ?_) rfl (by kernel_rfl) (by kernel_rfl) (by kernel_rfl) (fun _ _ _ h => h) (Or.inl ⟨by kernel_rfl, ?_⟩) hS ?_
      rotate_left
      · intro W hSW
        go_simp
        all_goals with_reducible rfl
      refine wpAnyH_take (i := 8) (v := ?_) rfl (by kernel_rfl) (by kernel_rfl) (by kernel_rfl) (fun _ _ _ h => h) (Or.inl ⟨by kernel_rfl, ?_⟩) hS ?_
      rotate_left
      · intro W hSW
        go_simp
        all_goals with_reducible rfl
      refine wpAnyH_take (i := 9) (v := ?_) rfl (by kernel_rfl) (by kernel_rfl) (by kernel_rfl) (fun _ _ _ h => h) (Or.inl ⟨by kernel_rfl, ?_⟩) hS ?_
      rotate_left
      · intro W hSW
        go_simp
        all_goals with_reducible rfl
      go_simp
      refine wpAnyH_take (i := 11) (v := snV n) rfl (by kernel_rfl) (by kernel_rfl) (by kernel_rfl) (fun _ _ _ h => h) (Or.inl ⟨by kernel_rfl, fun W hSW => exec_load_ag stT rfl rfl rfl hSW.1⟩) hS ?_
      go_simp
      refine wpAnyH_take (i := 12) (v := snV m) rfl (by kernel_rfl) (by kernel_rfl) (by kernel_rfl) (fun _ _ _ h => h) (Or.inl ⟨by kernel_rfl, fun W hSW => exec_load_ag stT rfl rfl rfl hSW.2⟩) hS ?_
      refine wpAnyH_take (i := 13) (v := ?_) rfl (by kernel_rfl) (by kernel_rfl) (by kernel_rfl) (fun _ _ _ h => h) (Or.inl ⟨by kernel_rfl, ?_⟩) hS ?_
      rotate_left
      · intro W hSW
        go_simp
        all_goals with_reducible rfl
      go_simp
      refine wpAnyH_ready (rs := [10]) (by kernel_rfl) (by simp) ?_
      refine AllReadyH.cons rfl (fun K hK => ?_) AllReadyH.nil
      go_simp
      go_wp2_with (go_at_call 31; refine (gnow_any _ HC.out).mono ?_; rintro e w4 ⟨X, χ4, rfl, hg, hf, hl, ho, ha, hgg, hgo⟩)
      have HCO := Lib.hid (show Core w4 X χ4 (Gm.run ops) from by rw [← ho]; exact hg.full hf)
      have HGR := Lib.hid (show Gra w4 gg ops χ4 from by rw [← ho]; exact gra_of hg hl ha (by rw [hgg]; exact HC.out.gz))
      have hz := show χ2 w.heap.size = 0 ∧ χ2 (w.heap.size + 1) = 0 from ⟨(HGO.out.keep _ HLT.out.1).trans HZ.out.1, (HGO.out.keep _ HLT.out.2).trans HZ.out.2⟩
      have hs := And.intro (hS.1.block (hgo.turns.block _ (AgAt.lt hS.1) (by rw [hz.1]; decide))) (hS.2.block (hgo.turns.block _ (AgAt.lt hS.2) (by rw [hz.2]; decide)))
      refine hK.out _ _ hs (fun hS => ?_)
      replace HGO := Lib.hid (HGO.out.trans hgo)
      clear hK K hg hf hl ho ha hgg hgo hs hz HC
      refine wpAnyH_ready (rs := [14]) (by kernel_rfl) (by simp) ?_
      refine AllReadyH.cons rfl (fun K hK => ?_) AllReadyH.nil
      go_simp
      go_wp2_with (go_at_call 62; refine (reach_any n m up w4 HCO.out HIB1.out.symm HIB2.out.symm).mono ?_; rintro e w5 ⟨b, rfl, hb5, hbb5⟩)
      have HE := Lib.hid (show ∃ b', Ending.returned (.bool b) = .returned (.bool b') ∧ (b' = true ↔ Gm.Leads (Gm.run ops) up n m) ∧ Left gg ops χ w w5 from
        ⟨b, rfl, ⟨fun h => ⟨HIB1.out.symm, HIB2.out.symm, hb5.1 h⟩, fun h => hb5.2 h.2.2⟩, χ4, HGR.out.kept hbb5, ((Goes.of_below HB.out).trans HGO.out).trans (Goes.of_below hbb5)⟩)
      refine hK.out _ _ ⟨hS.1.kept hbb5, hS.2.kept hbb5⟩ (fun hS => ?_)
      clear hK K hb5 hbb5 HCO HGR HGO
      refine wpAnyH_take (i := 15) (v := ?_) rfl (by kernel_rfl) (by kernel_rfl) (by kernel_rfl) (fun _ _ _ h => h) (Or.inl ⟨by kernel_rfl, ?_⟩) hS ?_
      rotate_left
      · intro W hSW
        go_simp
        all_goals with_reducible rfl
      refine wpAnyH_take (i := 16) (v := ?_) rfl (by kernel_rfl) (by kernel_rfl) (by kernel_rfl) (fun _ _ _ h => h) (Or.inl ⟨by kernel_rfl, ?_⟩) hS ?_
      rotate_left
      · intro W hSW
        go_simp
        all_goals with_reducible rfl
      go_simp
      refine wpAnyH_done (by kernel_rfl) ?_ _
      go_simp
      clear hS HB
      go_wp2
      go_ret
      exact HE.out
end Go.Proofs.YthifdefjmfakgaaGreat

namespace Go.Proofs.YthifdefjmfakgaaGreat.Gm
open Go.Proofs.YthifdefjmfakgaaGreat

def kx1 : Pm.Wr := ⟨(1, 0), ⟨1, 0, 0, 0, 0, ⟨#[97]⟩, [], 0, 0, 0, ⟨#[]⟩, false⟩⟩
def kx2 : Pm.Wr := ⟨(2, 0), ⟨1, 0, 0, 0, 0, ⟨#[98]⟩, [], 0, 0, 0, ⟨#[]⟩, false⟩⟩
def kx5 : Pm.Wr := ⟨(5, 0), ⟨2, 2, 0, 1, 0, ⟨#[99]⟩, [], 0, 0, 0, ⟨#[]⟩, false⟩⟩
def kx9 : Pm.Wr := ⟨(9, 0), ⟨2, 1, 0, 2, 0, ⟨#[99]⟩, [], 0, 0, 0, ⟨#[]⟩, false⟩⟩
def kg1 : G := ⟨upd nil.s (1, 0) (some ((0, 0), ⟨#[97]⟩)), nil.m⟩
def kg2 : G := ⟨upd kg1.s (2, 0) (some ((0, 0), ⟨#[98]⟩)), nil.m⟩
def kg5 : G := ⟨upd kg2.s (2, 0) (some ((1, 0), ⟨#[99]⟩)), nil.m⟩
theorem k_try1 : tryG nil kx1 = some kg1 := by
  unfold tryG
  rw [if_pos (show kx1.x.k = 1 from rfl), if_pos (has_top (show Tm.top (ref kx1.x) = true from top_root))]
  rfl
theorem k_try2 : tryG kg1 kx2 = some kg2 := by
  unfold tryG
  rw [if_pos (show kx2.x.k = 1 from rfl), if_pos (has_top (show Tm.top (ref kx2.x) = true from top_root))]
  rfl
theorem kg2_s {x : Qm.St} {v : Tm.Sp} (h : kg2.s x = some v) : v.1 = (0, 0) ∧ (x = (1, 0) ∨ x = (2, 0)) := by
  unfold kg2 kg1 at h
  dsimp only at h
  by_cases h2 : x = (2, 0)
  · subst h2; rw [upd_self] at h; cases h; exact ⟨rfl, Or.inr rfl⟩
  · rw [upd_ne h2] at h
    by_cases h1 : x = (1, 0)
    · subst h1; rw [upd_self] at h; cases h; exact ⟨rfl, Or.inl rfl⟩
    · rw [upd_ne h1] at h; cases h
theorem kg2_open {a b : Qm.St} (hne : b ≠ a) (hb : b ≠ (0, 0)) : ¬ (Rc (UpS kg2) a b ∨ Rc (DnS kg2) b a) := by
  rintro (h | h)
  · have h1 := h.closed (V := fun x => x = a ∨ x = (0, 0)) (Or.inl rfl) (fun x y hx hs => by
      rcases hs with ⟨k, hs⟩ | hs
      · exact Or.inr (kg2_s hs).1
      · cases hs)
    rcases h1 with h1 | h1
    · exact hne h1
    · exact hb h1
  · have h1 := h.closed (V := fun x => x = b) rfl (fun x y hx hs => by
      rcases hs with ⟨k, hs⟩ | hs
      · exact absurd ((show x = b from hx).symm.trans (kg2_s hs).1) hb
      · cases hs)
    exact hne (show a = b from h1).symm
theorem kg2_1 : kg2.s (1, 0) = some ((0, 0), ⟨#[97]⟩) := rfl
theorem kg2_2 : kg2.s (2, 0) = some ((0, 0), ⟨#[98]⟩) := rfl
theorem k_has1 : has kg2 (1, 0) = true := by unfold has; rw [kg2_1]; rfl
theorem k_has2 : has kg2 (2, 0) = true := by unfold has; rw [kg2_2]; rfl
theorem k_try9 : (tryG kg2 kx9).isSome = true := by
  unfold tryG
  rw [if_neg (show ¬ kx9.x.k = 1 from by decide), if_neg ?_, if_pos (show kx9.x.k = 2 from rfl)]
  · rfl
  · rintro (h | h | h)
    · rw [show node kx9.x = (1, 0) from rfl, k_has1] at h; cases h
    · rw [show ref kx9.x = (2, 0) from rfl, k_has2] at h; cases h
    · unfold closes at h
      rw [if_pos (show kx9.x.k = 2 from rfl)] at h
      exact kg2_open (a := (2, 0)) (b := (1, 0)) (by decide) (by decide) h
theorem k_try5 : tryG kg2 kx5 = some kg5 := by
  unfold tryG
  rw [if_neg (show ¬ kx5.x.k = 1 from by decide), if_neg ?_, if_pos (show kx5.x.k = 2 from rfl)]
  · rfl
  · rintro (h | h | h)
    · rw [show node kx5.x = (2, 0) from rfl, k_has2] at h; cases h
    · rw [show ref kx5.x = (1, 0) from rfl, k_has1] at h; cases h
    · unfold closes at h
      rw [if_pos (show kx5.x.k = 2 from rfl)] at h
      exact kg2_open (a := (1, 0)) (b := (2, 0)) (by decide) (by decide) h
theorem kg5_2 : kg5.s (2, 0) = some ((1, 0), ⟨#[99]⟩) := rfl
theorem kg5_1 : kg5.s (1, 0) = some ((0, 0), ⟨#[97]⟩) := rfl
theorem k_up : Rc (UpS kg5) (2, 0) (1, 0) := Rc.one (Or.inl ⟨_, kg5_2⟩)
theorem k_try95 : tryG kg5 kx9 = none := by
  unfold tryG
  rw [if_neg (show ¬ kx9.x.k = 1 from by decide), if_pos]
  refine Or.inr (Or.inr ?_)
  unfold closes
  rw [if_pos (show kx9.x.k = 2 from rfl)]
  exact Or.inl k_up
theorem k_run2 : run [kx1, kx2] = kg2 := by
  show aft (aft nil kx1) kx2 = _
  unfold aft
  rw [k_try1, Option.getD_some, k_try2, Option.getD_some]
theorem k_run5 : run [kx1, kx2, kx5] = kg5 := by
  show aft (run [kx1, kx2]) kx5 = _
  unfold aft
  rw [k_run2, k_try5, Option.getD_some]
theorem k_run : run [kx1, kx2, kx5, kx9] = kg5 := by
  show aft (run [kx1, kx2, kx5]) kx9 = _
  unfold aft
  rw [k_run5, k_try95, Option.getD_none]
theorem k_ins1 : insE [] kx1 = 0 ∧ insN [] kx1 = 0 ∧ insO [] kx1 = [kx1] := ⟨by decide, by decide, by rfl⟩
theorem k_ins2 : insE [kx1] kx2 = 0 ∧ insN [kx1] kx2 = 0 ∧ insO [kx1] kx2 = [kx1, kx2] := ⟨by decide, by decide, by rfl⟩
theorem k_ins9 : insE [kx1, kx2] kx9 = 0 ∧ insN [kx1, kx2] kx9 = 0 ∧ insO [kx1, kx2] kx9 = [kx1, kx2, kx9] := ⟨by decide, by decide, by rfl⟩
theorem k_ins5 : insE [kx1, kx2, kx9] kx5 = 0 ∧ insN [kx1, kx2, kx9] kx5 = 1 ∧ insO [kx1, kx2, kx9] kx5 = [kx1, kx2, kx5, kx9] := ⟨by decide, by decide, by rfl⟩
theorem k_did : Did [kx1, kx2, kx9] (9, 0) := ⟨2, kx9, rfl, rfl, by rw [show [kx1, kx2, kx9].take 2 = [kx1, kx2] from rfl, k_run2]; exact k_try9⟩
theorem k_ops : Ops [kx1, kx2, kx5, kx9] := ⟨by decide, by decide⟩
theorem k_not : ¬ Did [kx1, kx2, kx5, kx9] (9, 0) := fun h => by
  have h1 := (did_at k_ops (i := 3) (x := kx9) rfl).1 h
  rw [show [kx1, kx2, kx5, kx9].take 3 = [kx1, kx2, kx5] from rfl, k_run5, k_try95] at h1
  cases h1
theorem k_leads : Leads (run [kx1, kx2, kx5, kx9]) true (2, 0) (1, 0) := by
  rw [k_run]
  exact ⟨by unfold has; rw [kg5_2]; rfl, by unfold has; rw [kg5_1]; rfl, k_up⟩
end Go.Proofs.YthifdefjmfakgaaGreat.Gm
