/-
  A GRAPH's LOOKS: Ref.
  No conditions but sizes.
-/
import Derived.Test.YthifdefjmfakgaaGreatGrAsk
namespace Go.Proofs.YthifdefjmfakgaaGreat
open Go.RowKit
open Tm (Sp Tr has put cut kids)

theorem wp_valueG {w : World} {o : Oper} {a : Act} {K : Act → World → Prop} {Q : Exit → Act → World → Prop} {v : Value} (hr : (execOp a.eval o).run Tryz.prog w = .ok (.value v) w) (h : K (a.put o.dst v) w) : Oper.wp Tryz.prog o a w K Q := by
  unfold Oper.wp
  rw [hr]
  exact h
set_option maxRecDepth 100000 in
set_option maxHeartbeats 4000000 in
theorem gref_any {gg : Nat} {ops : List Pm.Wr} {χ : Nat → Nat} (s : Qm.St) (w : World) (h : Gra w gg ops χ) (hn : StWf s) : Calls Tryz.prog 23 #[ptV gg, snV s] w fun e w' => e = .returned (.tuple #[snV (((Gm.run ops).m s).getD (0, 0)), .bool ((Gm.run ops).m s).isSome]) ∧ Left gg ops χ w w' := by
  have h1 : ∀ (w : World) (o : Obj), Below w.heap.size w (w.alloc o) := fun w o => (Below.refl _ _).alloc (Nat.le_refl _) _
  have hb := ((h1 w (.cells (stA s) 35)).trans ((h1 (w.alloc (.cells (stA s) 35)) (.cells #[.int .i64 0, .int .i64 0] 35)).mono (by simp)))
  have HB0 := Lib.hid ((AgAt.new w (stA s) 35).kept (h1 _ (.cells #[.int .i64 0, .int .i64 0] 35)))
  have HB1 := Lib.hid (show AgAt ((w.alloc (.cells (stA s) 35)).alloc (.cells #[.int .i64 0, .int .i64 0] 35)) (w.heap.size + 1) #[.int .i64 0, .int .i64 0] from by
    have := AgAt.new (w.alloc (.cells (stA s) 35)) #[.int .i64 0, .int .i64 0] 35
    rw [show (w.alloc (.cells (stA s) 35)).heap.size = w.heap.size + 1 from by simp] at this
    exact this)
  have HC := Lib.hid (h.kept hb)
  have HB := Lib.hid hb
  have HZ := Lib.hid (show χ w.heap.size = 0 ∧ ∀ k, w.heap.size ≤ k → χ k = 0 from by obtain ⟨⟨X, h1, h2, h3, h4⟩, -⟩ := h; exact ⟨h2.toCore.zero (Nat.le_refl _), fun k hk => h2.toCore.zero hk⟩)
  have HGZ := Lib.hid h.gz
  have HGL := Lib.hid h.lt
  have HWN := Lib.hid hn
  have hgb : ∃ b, AgAt ((w.alloc (.cells (stA s) 35)).alloc (.cells #[.int .i64 0, .int .i64 0] 35)) gg #[ptV b] := by
    obtain ⟨⟨X, h1, -⟩, -⟩ := h
    exact ⟨_, h1.kept hb⟩
  obtain ⟨b0, hgb⟩ := hgb
  have HGB := Lib.hid hgb
  obtain ⟨ib, hib⟩ : ∃ b, b = ((Gm.run ops).m s).isSome := ⟨_, rfl⟩
  obtain ⟨va, hva⟩ : ∃ v, v = ((Gm.run ops).m s).getD (0, 0) := ⟨_, rfl⟩
  have HLK := Lib.hid (fun (W : World) (X : Gx) (χ : Nat → Nat) (hc : Core W X χ (Gm.run ops)) => show (Instr.lookup 89 (.map (some X.M3)) (snV s) true).run Tryz.prog W = .ok (.tuple #[snV va, .bool ib]) W from by
    rw [hib, hva, ← hc.hm]; exact hc.ms.look1 s HWN.out)
  rw [← hib, ← hva]
  clear h hb hgb hn hib hva h1
  go_enter Tryz.func23, Tryz.ntmps23
  go_upto_region 3 with (go_at_call 30; refine (gours_any _ HGB.out).mono ?_; rintro e w1 ⟨rfl, rfl⟩)
  generalize (w.alloc (.cells (stA s) 35)).alloc (.cells #[.int .i64 0, .int .i64 0] 35) = w1 at *
  have hbd := Below.drew (Below.refl w1.heap.size w1)
  replace HC := Lib.hid (HC.out.kept hbd)
  replace HB0 := Lib.hid (AgAt.kept HB0.out hbd)
  replace HB1 := Lib.hid (AgAt.kept HB1.out hbd)
  replace HB := Lib.hid (HB.out.trans (hbd.mono HB.out.size))
  refine wp_region_held_drew (S := fun W => AgAt W w.heap.size (stA s)) (by kernel_rfl) HB0.out (fun hS => ?_)
  clear hbd HB0 HGB
  generalize w1.drew = wd at *
  refine wpAnyH_take (i := 0) (v := ?_) rfl (by kernel_rfl) (by kernel_rfl) (by kernel_rfl) (fun _ _ _ h => h) (Or.inl ⟨by kernel_rfl, ?_⟩) hS ?_
  rotate_left
  · intro W hSW
    go_simp
    all_goals with_reducible rfl
  go_simp
  refine wpAnyH_take (i := 5) (v := snV s) rfl (by kernel_rfl) (by kernel_rfl) (by kernel_rfl) (fun _ _ _ h => h) (Or.inl ⟨by kernel_rfl, fun W hSW => exec_load_ag stT rfl rfl rfl hSW⟩) hS ?_
  go_simp
  refine wpAnyH_ready (rs := [1, 10]) (by kernel_rfl) (by simp) ?_
  refine AllReadyH.cons rfl (fun K hK => ?_) (AllReadyH.cons rfl (fun K hK => ?_) AllReadyH.nil)
  · go_simp
    go_wp2_with (go_at_call 31; refine (gnow_any _ HC.out).mono ?_; rintro e w5 ⟨X, χ1, rfl, hg, hf, hl, ho, ha, hgg, hgo⟩)
    have HND := Lib.hid (nowd_of HB.out HGZ.out hg hf hl ho ha hgg hgo)
    have hs5 := hS.block (hgo.turns.block _ (AgAt.lt hS) (by rw [HZ.out.1]; decide))
    have HZ1 := Lib.hid ((hgo.keep _ (AgAt.lt HB1.out)).trans (HZ.out.2 (w.heap.size + 1) (by omega)))
    replace HB1 := Lib.hid (HB1.out.block (hgo.turns.block _ (AgAt.lt HB1.out) (by rw [HZ.out.2 _ (by omega)]; decide)))
    refine hK.out _ _ hs5 (fun hS => ?_)
    clear hK K hg hf hl ho ha hgg hgo hs5 HC HB HGZ
    refine wpAnyH_take (i := 2) (v := ?_) rfl (by kernel_rfl) (by kernel_rfl) (by kernel_rfl) (fun _ _ _ h => h) (Or.inl ⟨by kernel_rfl, ?_⟩) hS ?_
    rotate_left
    · intro W hSW
      go_simp
      all_goals with_reducible rfl
    refine wpAnyH_take (i := 3) (v := ?_) rfl (by kernel_rfl) (by kernel_rfl) (by kernel_rfl) (fun _ _ _ h => h) (Or.inl ⟨by kernel_rfl, ?_⟩) hS ?_
    rotate_left
    · intro W hSW
      go_simp
      all_goals with_reducible rfl
    go_simp
    refine wpAnyH_ready (rs := [4, 10]) (by kernel_rfl) (by simp) ?_
    refine AllReadyH.cons rfl (fun K hK => ?_) (AllReadyH.cons rfl (fun K hK => ?_) AllReadyH.nil)
    · have y5 := HND.out.core.c3
      go_simp
      refine hK.out _ _ hS (fun hS => ?_)
      clear hK K y5
      refine wpAnyH_ready (rs := [6, 10]) (by kernel_rfl) (by simp) ?_
      refine AllReadyH.cons rfl (fun K hK => ?_) (AllReadyH.cons rfl (fun K hK => ?_) AllReadyH.nil)
      · refine step_of (by kernel_rfl) ?_
        refine wp_valueG (exec_lookup rfl rfl rfl (HLK.out _ X χ1 HND.out.core)) ?_
        refine hK.out _ _ hS (fun hS => ?_)
        clear hK K
        refine wpAnyH_take (i := 7) (v := ?_) rfl (by kernel_rfl) (by kernel_rfl) (by kernel_rfl) (fun _ _ _ h => h) (Or.inl ⟨by kernel_rfl, ?_⟩) hS ?_
        rotate_left
        · intro W hSW
          go_simp
          all_goals with_reducible rfl
        refine wpAnyH_take (i := 8) (v := ?_) rfl (by kernel_rfl) (by kernel_rfl) (by kernel_rfl) (fun _ _ _ h => h) (Or.inl ⟨by kernel_rfl, ?_⟩) hS ?_
        rotate_left
        · intro W hSW
          go_simp
          all_goals with_reducible rfl
        refine wpAnyH_take (i := 9) (v := ?_) rfl (by kernel_rfl) (by kernel_rfl) (by kernel_rfl) (fun _ _ _ h => h) (Or.inl ⟨by kernel_rfl, ?_⟩) hS ?_
        rotate_left
        · intro W hSW
          go_simp
          all_goals with_reducible rfl
        go_simp
        refine wpAnyH_ready (rs := [10]) (by kernel_rfl) (by simp) ?_
        refine AllReadyH.cons rfl (fun K hK => ?_) AllReadyH.nil
        go_simp
        have hba := (Below.refl w5.heap.size w5).alloc (Nat.le_refl _) (.cells #[.int .i64 0, .int .i64 0] 35)
        have HQ := Lib.hid (AgAt.new w5 #[.int .i64 0, .int .i64 0] 35)
        have HQW := Lib.hid (show w.heap.size + 1 < w5.heap.size from AgAt.lt HB1.out)
        have HQZ := Lib.hid (HND.out.core.zero (Nat.le_refl w5.heap.size))
        replace HND := Lib.hid (HND.out.kept hba)
        replace HB1 := Lib.hid (AgAt.kept HB1.out hba)
        refine hK.out _ _ (hS.kept hba) (fun hS => ?_)
        clear hK K hba
        generalize w5.alloc (.cells #[.int .i64 0, .int .i64 0] 35) = wa at *
        refine wpAnyH_ready (rs := [11]) (by kernel_rfl) (by simp) ?_
        refine AllReadyH.cons rfl (fun K hK => ?_) AllReadyH.nil
        refine step_of (by kernel_rfl) ?_
        refine wp_store_agG stT _ _ rfl w5.heap.size rfl _ HQ.out rfl rfl rfl (stA_one _ _) ?_
        intro w7 hv7 hk7 hs7 hb7
        have HV7 := Lib.hid hv7
        have HE7 := Lib.hid (HND.out.turned HQZ.out (by have := HQW.out; omega) HGL.out (turns_of_store hk7 hs7 hb7))
        have HB7 := Lib.hid (HB1.out.block (hk7 _ (by have := HQW.out; omega)))
        have HZ7 := HZ1
        refine hK.out _ _ (AgAt.block hS (hk7 _ (by have := HQW.out; omega))) (fun hS => ?_)
        clear hK K hv7 hk7 hs7 hb7 HND HB1 HQ
        refine wpAnyH_take (i := 12) (v := ?_) rfl (by kernel_rfl) (by kernel_rfl) (by kernel_rfl) (fun _ _ _ h => h) (Or.inl ⟨by kernel_rfl, ?_⟩) hS ?_
        rotate_left
        · intro W hSW
          go_simp
          all_goals with_reducible rfl
        go_simp
        refine wpAnyH_done (by kernel_rfl) ?_ _
        go_simp
        clear hS
        go_wp2_with (first | (refine wpList_load_ag stT (by kernel_rfl) _ rfl _ rfl (A := stA va) rfl HV7.out ?_) | (refine wpList_store_ag stT rfl _ _ rfl _ rfl _ HB7.out rfl rfl rfl (stA_one _ _) ?_; intro w8 hv8 hk8 hs8 hb8))
        refine bodyPost_ret (results_two stT _ rfl rfl hv8 rfl rfl) rfl ?_
        exact ⟨rfl, (HE7.out.turned HZ7.out (by omega) HGL.out (turns_of_store hk8 hs8 hb8)).left⟩
      · go_simp
        have hba := (Below.refl w5.heap.size w5).alloc (Nat.le_refl _) (.cells #[.int .i64 0, .int .i64 0] 35)
        have HQ := Lib.hid (AgAt.new w5 #[.int .i64 0, .int .i64 0] 35)
        have HQW := Lib.hid (show w.heap.size + 1 < w5.heap.size from AgAt.lt HB1.out)
        have HQZ := Lib.hid (HND.out.core.zero (Nat.le_refl w5.heap.size))
        replace HND := Lib.hid (HND.out.kept hba)
        replace HB1 := Lib.hid (AgAt.kept HB1.out hba)
        refine hK.out _ _ (hS.kept hba) (fun hS => ?_)
        clear hK K hba
        generalize w5.alloc (.cells #[.int .i64 0, .int .i64 0] 35) = wa at *
        refine wpAnyH_ready (rs := [6]) (by kernel_rfl) (by simp) ?_
        refine AllReadyH.cons rfl (fun K hK => ?_) AllReadyH.nil
        refine step_of (by kernel_rfl) ?_
        refine wp_valueG (exec_lookup rfl rfl rfl (HLK.out _ X χ1 HND.out.core)) ?_
        refine hK.out _ _ hS (fun hS => ?_)
        clear hK K
        refine wpAnyH_take (i := 7) (v := ?_) rfl (by kernel_rfl) (by kernel_rfl) (by kernel_rfl) (fun _ _ _ h => h) (Or.inl ⟨by kernel_rfl, ?_⟩) hS ?_
        rotate_left
        · intro W hSW
          go_simp
          all_goals with_reducible rfl
        refine wpAnyH_take (i := 8) (v := ?_) rfl (by kernel_rfl) (by kernel_rfl) (by kernel_rfl) (fun _ _ _ h => h) (Or.inl ⟨by kernel_rfl, ?_⟩) hS ?_
        rotate_left
        · intro W hSW
          go_simp
          all_goals with_reducible rfl
        refine wpAnyH_take (i := 9) (v := ?_) rfl (by kernel_rfl) (by kernel_rfl) (by kernel_rfl) (fun _ _ _ h => h) (Or.inl ⟨by kernel_rfl, ?_⟩) hS ?_
        rotate_left
        · intro W hSW
          go_simp
          all_goals with_reducible rfl
        go_simp
        refine wpAnyH_ready (rs := [11]) (by kernel_rfl) (by simp) ?_
        refine AllReadyH.cons rfl (fun K hK => ?_) AllReadyH.nil
        refine step_of (by kernel_rfl) ?_
        refine wp_store_agG stT _ _ rfl w5.heap.size rfl _ HQ.out rfl rfl rfl (stA_one _ _) ?_
        intro w7 hv7 hk7 hs7 hb7
        have HV7 := Lib.hid hv7
        have HE7 := Lib.hid (HND.out.turned HQZ.out (by have := HQW.out; omega) HGL.out (turns_of_store hk7 hs7 hb7))
        have HB7 := Lib.hid (HB1.out.block (hk7 _ (by have := HQW.out; omega)))
        have HZ7 := HZ1
        refine hK.out _ _ (AgAt.block hS (hk7 _ (by have := HQW.out; omega))) (fun hS => ?_)
        clear hK K hv7 hk7 hs7 hb7 HND HB1 HQ
        refine wpAnyH_take (i := 12) (v := ?_) rfl (by kernel_rfl) (by kernel_rfl) (by kernel_rfl) (fun _ _ _ h => h) (Or.inl ⟨by kernel_rfl, ?_⟩) hS ?_
        rotate_left
        · intro W hSW
          go_simp
          all_goals with_reducible rfl
        go_simp
        refine wpAnyH_done (by kernel_rfl) ?_ _
        go_simp
        clear hS
        go_wp2_with (first | (refine wpList_load_ag stT (by kernel_rfl) _ rfl _ rfl (A := stA va) rfl HV7.out ?_) | (refine wpList_store_ag stT rfl _ _ rfl _ rfl _ HB7.out rfl rfl rfl (stA_one _ _) ?_; intro w8 hv8 hk8 hs8 hb8))
        refine bodyPost_ret (results_two stT _ rfl rfl hv8 rfl rfl) rfl ?_
        exact ⟨rfl, (HE7.out.turned HZ7.out (by omega) HGL.out (turns_of_store hk8 hs8 hb8)).left⟩
    · go_simp
      have hba := (Below.refl w5.heap.size w5).alloc (Nat.le_refl _) (.cells #[.int .i64 0, .int .i64 0] 35)
      have HQ := Lib.hid (AgAt.new w5 #[.int .i64 0, .int .i64 0] 35)
      have HQW := Lib.hid (show w.heap.size + 1 < w5.heap.size from AgAt.lt HB1.out)
      have HQZ := Lib.hid (HND.out.core.zero (Nat.le_refl w5.heap.size))
      replace HND := Lib.hid (HND.out.kept hba)
      replace HB1 := Lib.hid (AgAt.kept HB1.out hba)
      refine hK.out _ _ (hS.kept hba) (fun hS => ?_)
      clear hK K hba
      generalize w5.alloc (.cells #[.int .i64 0, .int .i64 0] 35) = wa at *
      refine wpAnyH_ready (rs := [4]) (by kernel_rfl) (by simp) ?_
      refine AllReadyH.cons rfl (fun K hK => ?_) AllReadyH.nil
      have y5 := HND.out.core.c3
      go_simp
      refine hK.out _ _ hS (fun hS => ?_)
      clear hK K y5
      refine wpAnyH_ready (rs := [6]) (by kernel_rfl) (by simp) ?_
      refine AllReadyH.cons rfl (fun K hK => ?_) AllReadyH.nil
      refine step_of (by kernel_rfl) ?_
      refine wp_valueG (exec_lookup rfl rfl rfl (HLK.out _ X χ1 HND.out.core)) ?_
      refine hK.out _ _ hS (fun hS => ?_)
      clear hK K
      refine wpAnyH_take (i := 7) (v := ?_) rfl (by kernel_rfl) (by kernel_rfl) (by kernel_rfl) (fun _ _ _ h => h) (Or.inl ⟨by kernel_rfl, ?_⟩) hS ?_
      rotate_left
      · intro W hSW
        go_simp
        all_goals with_reducible rfl
      refine wpAnyH_take (i := 8) (v := ?_) rfl (by kernel_rfl) (by kernel_rfl) (by kernel_rfl) (fun _ _ _ h => h) (Or.inl ⟨by kernel_rfl, ?_⟩) hS ?_
      rotate_left
      · intro W hSW
        go_simp
        all_goals with_reducible rfl
      refine wpAnyH_take (i := 9) (v := ?_) rfl (by kernel_rfl) (by kernel_rfl) (by kernel_rfl) (fun _ _ _ h => h) (Or.inl ⟨by kernel_rfl, ?_⟩) hS ?_
      rotate_left
      · intro W hSW
        go_simp
        all_goals with_reducible rfl
      go_simp
      refine wpAnyH_ready (rs := [11]) (by kernel_rfl) (by simp) ?_
      refine AllReadyH.cons rfl (fun K hK => ?_) AllReadyH.nil
      refine step_of (by kernel_rfl) ?_
      refine wp_store_agG stT _ _ rfl w5.heap.size rfl _ HQ.out rfl rfl rfl (stA_one _ _) ?_
      intro w7 hv7 hk7 hs7 hb7
      have HV7 := Lib.hid hv7
      have HE7 := Lib.hid (HND.out.turned HQZ.out (by have := HQW.out; omega) HGL.out (turns_of_store hk7 hs7 hb7))
      have HB7 := Lib.hid (HB1.out.block (hk7 _ (by have := HQW.out; omega)))
      have HZ7 := HZ1
      refine hK.out _ _ (AgAt.block hS (hk7 _ (by have := HQW.out; omega))) (fun hS => ?_)
      clear hK K hv7 hk7 hs7 hb7 HND HB1 HQ
      refine wpAnyH_take (i := 12) (v := ?_) rfl (by kernel_rfl) (by kernel_rfl) (by kernel_rfl) (fun _ _ _ h => h) (Or.inl ⟨by kernel_rfl, ?_⟩) hS ?_
      rotate_left
      · intro W hSW
        go_simp
        all_goals with_reducible rfl
      go_simp
      refine wpAnyH_done (by kernel_rfl) ?_ _
      go_simp
      clear hS
      go_wp2_with (first | (refine wpList_load_ag stT (by kernel_rfl) _ rfl _ rfl (A := stA va) rfl HV7.out ?_) | (refine wpList_store_ag stT rfl _ _ rfl _ rfl _ HB7.out rfl rfl rfl (stA_one _ _) ?_; intro w8 hv8 hk8 hs8 hb8))
      refine bodyPost_ret (results_two stT _ rfl rfl hv8 rfl rfl) rfl ?_
      exact ⟨rfl, (HE7.out.turned HZ7.out (by omega) HGL.out (turns_of_store hk8 hs8 hb8)).left⟩
  · go_simp
    have hba := (Below.refl wd.heap.size wd).alloc (Nat.le_refl _) (.cells #[.int .i64 0, .int .i64 0] 35)
    have HQ := Lib.hid (AgAt.new wd #[.int .i64 0, .int .i64 0] 35)
    have HQW := Lib.hid (show w.heap.size + 1 < wd.heap.size from AgAt.lt HB1.out)
    replace HC := Lib.hid (HC.out.kept hba)
    replace HB := Lib.hid (HB.out.trans (hba.mono HB.out.size))
    replace HB1 := Lib.hid (AgAt.kept HB1.out hba)
    refine hK.out _ _ (hS.kept hba) (fun hS => ?_)
    clear hK K hba
    generalize wd.alloc (.cells #[.int .i64 0, .int .i64 0] 35) = wa at *
    refine wpAnyH_ready (rs := [1]) (by kernel_rfl) (by simp) ?_
    refine AllReadyH.cons rfl (fun K hK => ?_) AllReadyH.nil
    go_simp
    go_wp2_with (go_at_call 31; refine (gnow_any _ HC.out).mono ?_; rintro e w5 ⟨X, χ1, rfl, hg, hf, hl, ho, ha, hgg, hgo⟩)
    have HND := Lib.hid (nowd_of HB.out HGZ.out hg hf hl ho ha hgg hgo)
    have hs5 := hS.block (hgo.turns.block _ (AgAt.lt hS) (by rw [HZ.out.1]; decide))
    have HZ1 := Lib.hid ((hgo.keep _ (AgAt.lt HB1.out)).trans (HZ.out.2 (w.heap.size + 1) (by omega)))
    replace HB1 := Lib.hid (HB1.out.block (hgo.turns.block _ (AgAt.lt HB1.out) (by rw [HZ.out.2 _ (by omega)]; decide)))
    have HQZ := Lib.hid ((hgo.keep _ (AgAt.lt HQ.out)).trans (HZ.out.2 _ (by have := HQW.out; omega)))
    replace HQ := Lib.hid (HQ.out.block (hgo.turns.block _ (AgAt.lt HQ.out) (by rw [HZ.out.2 _ (by have := HQW.out; omega)]; decide)))
    refine hK.out _ _ hs5 (fun hS => ?_)
    clear hK K hg hf hl ho ha hgg hgo hs5 HC HB HGZ
    refine wpAnyH_take (i := 2) (v := ?_) rfl (by kernel_rfl) (by kernel_rfl) (by kernel_rfl) (fun _ _ _ h => h) (Or.inl ⟨by kernel_rfl, ?_⟩) hS ?_
    rotate_left
    · intro W hSW
      go_simp
      all_goals with_reducible rfl
    refine wpAnyH_take (i := 3) (v := ?_) rfl (by kernel_rfl) (by kernel_rfl) (by kernel_rfl) (fun _ _ _ h => h) (Or.inl ⟨by kernel_rfl, ?_⟩) hS ?_
    rotate_left
    · intro W hSW
      go_simp
      all_goals with_reducible rfl
    go_simp
    refine wpAnyH_ready (rs := [4]) (by kernel_rfl) (by simp) ?_
    refine AllReadyH.cons rfl (fun K hK => ?_) AllReadyH.nil
    have y5 := HND.out.core.c3
    go_simp
    refine hK.out _ _ hS (fun hS => ?_)
    clear hK K y5
    refine wpAnyH_ready (rs := [6]) (by kernel_rfl) (by simp) ?_
    refine AllReadyH.cons rfl (fun K hK => ?_) AllReadyH.nil
    refine step_of (by kernel_rfl) ?_
    refine wp_valueG (exec_lookup rfl rfl rfl (HLK.out _ X χ1 HND.out.core)) ?_
    refine hK.out _ _ hS (fun hS => ?_)
    clear hK K
    refine wpAnyH_take (i := 7) (v := ?_) rfl (by kernel_rfl) (by kernel_rfl) (by kernel_rfl) (fun _ _ _ h => h) (Or.inl ⟨by kernel_rfl, ?_⟩) hS ?_
    rotate_left
    · intro W hSW
      go_simp
      all_goals with_reducible rfl
    refine wpAnyH_take (i := 8) (v := ?_) rfl (by kernel_rfl) (by kernel_rfl) (by kernel_rfl) (fun _ _ _ h => h) (Or.inl ⟨by kernel_rfl, ?_⟩) hS ?_
    rotate_left
    · intro W hSW
      go_simp
      all_goals with_reducible rfl
    refine wpAnyH_take (i := 9) (v := ?_) rfl (by kernel_rfl) (by kernel_rfl) (by kernel_rfl) (fun _ _ _ h => h) (Or.inl ⟨by kernel_rfl, ?_⟩) hS ?_
    rotate_left
    · intro W hSW
      go_simp
      all_goals with_reducible rfl
    go_simp
    refine wpAnyH_ready (rs := [11]) (by kernel_rfl) (by simp) ?_
    refine AllReadyH.cons rfl (fun K hK => ?_) AllReadyH.nil
    refine step_of (by kernel_rfl) ?_
    refine wp_store_agG stT _ _ rfl wd.heap.size rfl _ HQ.out rfl rfl rfl (stA_one _ _) ?_
    intro w7 hv7 hk7 hs7 hb7
    have HV7 := Lib.hid hv7
    have HE7 := Lib.hid (HND.out.turned HQZ.out (by have := HQW.out; omega) HGL.out (turns_of_store hk7 hs7 hb7))
    have HB7 := Lib.hid (HB1.out.block (hk7 _ (by have := HQW.out; omega)))
    have HZ7 := HZ1
    refine hK.out _ _ (AgAt.block hS (hk7 _ (by have := HQW.out; omega))) (fun hS => ?_)
    clear hK K hv7 hk7 hs7 hb7 HND HB1 HQ
    refine wpAnyH_take (i := 12) (v := ?_) rfl (by kernel_rfl) (by kernel_rfl) (by kernel_rfl) (fun _ _ _ h => h) (Or.inl ⟨by kernel_rfl, ?_⟩) hS ?_
    rotate_left
    · intro W hSW
      go_simp
      all_goals with_reducible rfl
    go_simp
    refine wpAnyH_done (by kernel_rfl) ?_ _
    go_simp
    clear hS
    go_wp2_with (first | (refine wpList_load_ag stT (by kernel_rfl) _ rfl _ rfl (A := stA va) rfl HV7.out ?_) | (refine wpList_store_ag stT rfl _ _ rfl _ rfl _ HB7.out rfl rfl rfl (stA_one _ _) ?_; intro w8 hv8 hk8 hs8 hb8))
    refine bodyPost_ret (results_two stT _ rfl rfl hv8 rfl rfl) rfl ?_
    exact ⟨rfl, (HE7.out.turned HZ7.out (by omega) HGL.out (turns_of_store hk8 hs8 hb8)).left⟩
end Go.Proofs.YthifdefjmfakgaaGreat
