/-
  The program's Move.
  No conditions but sizes.
-/
import Derived.Test.YthifdefjmfakgaaGreatTWay
namespace Go.Proofs.YthifdefjmfakgaaGreat
open Go.RowKit
open Tm (Sp Tr has put cut kids)

set_option maxRecDepth 100000 in
set_option maxHeartbeats 8000000 in
theorem move_any {P M1 M2 : Nat} {T : Tr} {C : List Kid} {F : Nat → Prop} (n : Qm.St) (s : Sp) (w : World) (h : Lay w P M1 M2 T C F) (hn : StWf n) (hs : StWf s.1) (hk : s.2.size ≤ 140737488355328) (ok : Tm.Ok T) (hpar : ∀ e ∈ T, StWf e.2.1) :
    Calls Tryz.prog 142 #[.pointer (some ⟨P, 0, none⟩), snV n, spV s] w (Acted P M1 M2 F (Tm.moveT T n s).1 (.tuple #[.agg (spA (Tm.moveT T n s).2.1), .int .i64 (Tm.moveT T n s).2.2]) w) := by
  have h1 : ∀ (w : World) (o : Obj), Below w.heap.size w (w.alloc o) := fun w o => (Below.refl _ _).alloc (Nat.le_refl _) _
  have hz : ∀ (w : World) (o : Obj), (w.alloc o).heap.size = w.heap.size + 1 := fun w o => by simp
  obtain ⟨W1, hW1⟩ : ∃ W, W = ((w.alloc (.cells #[.int .i64 n.1, .int .i64 n.2] 35)).alloc (.cells (spA s) 72)).alloc (.cells #[.int .i64 0, .int .i64 0, .string ⟨#[]⟩] 72) := ⟨_, rfl⟩
  have HT := Lib.hid (show Below w.heap.size w W1 from by rw [hW1]; exact (h1 _ _).trans (((h1 _ _).mono (by simp)).trans ((h1 _ _).mono (by simp; omega))))
  have HB2 := Lib.hid (show AgAt W1 (w.heap.size + 1 + 1) #[.int .i64 0, .int .i64 0, .string ⟨#[]⟩] from by
    have := AgAt.new ((w.alloc (.cells #[.int .i64 n.1, .int .i64 n.2] 35)).alloc (.cells (spA s) 72)) #[.int .i64 0, .int .i64 0, .string ⟨#[]⟩] 72
    rw [hz, hz, ← hW1] at this
    exact this)
  have HB1 := Lib.hid (show AgAt W1 (w.heap.size + 1) (spA s) from by
    have := (AgAt.new (w.alloc (.cells #[.int .i64 n.1, .int .i64 n.2] 35)) (spA s) 72).kept (h1 _ (.cells #[.int .i64 0, .int .i64 0, .string ⟨#[]⟩] 72))
    rw [hz, ← hW1] at this
    exact this)
  have HB0 := Lib.hid (show AgAt W1 w.heap.size #[.int .i64 n.1, .int .i64 n.2] from by
    have := ((AgAt.new w #[.int .i64 n.1, .int .i64 n.2] 35).kept (h1 _ (.cells (spA s) 72))).kept (h1 _ (.cells #[.int .i64 0, .int .i64 0, .string ⟨#[]⟩] 72))
    rw [← hW1] at this
    exact this)
  have HL := Lib.hid (h.kept HT.out)
  have HWN := Lib.hid hn
  have HWS := Lib.hid hs
  have HKY := Lib.hid hk
  have HOK := Lib.hid ok
  have HPAR := Lib.hid hpar
  have HLT := Lib.hid h.lt
  obtain ⟨ib, hib⟩ : ∃ b, b = (Tm.look T n).isSome := ⟨_, rfl⟩
  obtain ⟨va, hva⟩ : ∃ s, s = (Tm.look T n).getD zS := ⟨_, rfl⟩
  obtain ⟨nb, hnb⟩ : ∃ b, b = okNode n.1 n.2 := ⟨_, rfl⟩
  obtain ⟨rb, hrb⟩ : ∃ b, b = Tm.rightSp s := ⟨_, rfl⟩
  obtain ⟨pb, hhb⟩ : ∃ b, b = has T s.1 := ⟨_, rfl⟩
  obtain ⟨wb, hwb⟩ : ∃ b, b = Tm.within T n s.1 := ⟨_, rfl⟩
  have HIB := Lib.hid hib
  have HVA := Lib.hid hva
  have HNB := Lib.hid hnb
  have HRB := Lib.hid hrb
  have HHB := Lib.hid hhb
  have HWB := Lib.hid hwb
  have HR1 := Lib.hid (fun (k1 : (Tm.okN n && Tm.rightSp s) = false) W (hW : Below w.heap.size w W) => show Acted P M1 M2 F (Tm.moveT T n s).1 (.tuple #[.agg (spA (Tm.moveT T n s).2.1), .int .i64 (Tm.moveT T n s).2.2]) w (.returned (.tuple #[.agg (spA zS), .int .i64 1])) W from by
    unfold Tm.moveT; rw [if_pos k1]; exact Acted.same h hW)
  have HR3 := Lib.hid (fun (k1 : ¬ (Tm.okN n && Tm.rightSp s) = false) (k2 : (Tm.look T n).isSome = false ∨ has T s.1 = false) W (hW : Below w.heap.size w W) => show Acted P M1 M2 F (Tm.moveT T n s).1 (.tuple #[.agg (spA (Tm.moveT T n s).2.1), .int .i64 (Tm.moveT T n s).2.2]) w (.returned (.tuple #[.agg (spA zS), .int .i64 3])) W from by
    unfold Tm.moveT
    rw [if_neg k1]
    cases hl : Tm.look T n with
    | none => exact Acted.same h hW
    | some s' =>
      have k3 : has T s.1 = false := k2.resolve_left (by rw [hl]; simp)
      dsimp only
      rw [if_pos k3]; exact Acted.same h hW)
  have HR41 := Lib.hid (fun (k1 : ¬ (Tm.okN n && Tm.rightSp s) = false) (k2 : (Tm.look T n).isSome = true) (k3 : has T s.1 = true) (k4 : Tm.within T n s.1 = true) W (hW : Below w.heap.size w W) => show Acted P M1 M2 F (Tm.moveT T n s).1 (.tuple #[.agg (spA (Tm.moveT T n s).2.1), .int .i64 (Tm.moveT T n s).2.2]) w (.returned (.tuple #[.agg (spA zS), .int .i64 41])) W from by
    obtain ⟨s', hl⟩ := Option.isSome_iff_exists.1 k2
    unfold Tm.moveT
    rw [if_neg k1, hl]
    dsimp only
    rw [if_neg (by rw [k3]; simp), if_pos k4]; exact Acted.same h hW)
  have HR0 := Lib.hid (fun (k1 : ¬ (Tm.okN n && Tm.rightSp s) = false) (k2 : (Tm.look T n).isSome = true) (k3 : has T s.1 = true) (k4 : Tm.within T n s.1 = false) w7 (hW : Below w.heap.size w w7) w8 (ht8 : Turns F w7 w8) (hz2 : w.heap.size + 1 + 1 < w8.heap.size) w9 C9 (hl9 : Lay w9 P M1 M2 (put (cut T n) n s) C9 (fun k => F k ∨ (w8.heap.size ≤ k ∧ k < w9.heap.size))) (ht9 : Turns F w8 w9) W (hb : Turns (fun k => k = w.heap.size + 1 + 1) w9 W) => show Acted P M1 M2 F (Tm.moveT T n s).1 (.tuple #[.agg (spA (Tm.moveT T n s).2.1), .int .i64 (Tm.moveT T n s).2.2]) w (.returned (.tuple #[.agg (spA ((Tm.look T n).getD zS)), .int .i64 0])) W from by
    obtain ⟨s', hl⟩ := Option.isSome_iff_exists.1 k2
    unfold Tm.moveT
    rw [if_neg k1, hl]
    dsimp only
    rw [if_neg (by rw [k3]; simp), if_neg (by rw [k4]; simp)]
    · have h3 := hl9.turns hb fun k hk hh => by
        rcases hk with hk | hk
        · have := h.lt k hk; omega
        · omega
      exact ⟨rfl, C9, h3.more (fun k hk => hk.imp id fun h => ⟨by omega, Nat.lt_of_lt_of_le h.2 hb.size⟩) (fun k hk => hk.elim (fun h1 => h3.lt k (Or.inl h1)) fun h => h.2), (Turns.of_below hW).trans ((ht8.mono fun k _ hk => Or.inl hk).trans ((ht9.mono fun k _ hk => Or.inl (Or.inl hk)).trans (hb.mono fun k _ hk => Or.inl (Or.inl (Or.inr (by omega))))))⟩)
  clear h hn hs hk ok hpar h1 hz hib hva hnb hrb hhb hwb
  go_enter Tryz.func142, Tryz.ntmps142
  go_wp2_with fail
  rw [← hW1]
  clear hW1
  refine (ours_any _ HL.out).mono ?_
  rintro e w1 ⟨rfl, rfl⟩
  go_wp2_with (refine wpList_load_ag stT (by kernel_rfl) _ rfl _ rfl (A := #[.int .i64 n.1, .int .i64 n.2]) rfl HB0.out ?_)
  refine (onode_any _ _ _).mono ?_
  rw [← HNB.out]
  rintro e w2 ⟨rfl, hb2⟩
  replace HL := Lib.hid (HL.out.kept hb2)
  replace HB0 := Lib.hid (AgAt.kept HB0.out hb2)
  replace HB1 := Lib.hid (AgAt.kept HB1.out hb2)
  replace HB2 := Lib.hid (AgAt.kept HB2.out hb2)
  replace HT := Lib.hid (HT.out.trans (hb2.mono HT.out.size))
  clear hb2
  cases nb with
  | false =>
    have HE := Lib.hid (HR1.out (by rw [show Tm.okN n = okNode n.1 n.2 from rfl, ← HNB.out]; rfl))
    clear HL HB0 HB1
    go_wp2_with (refine wpList_store_ag spT rfl _ _ rfl _ rfl _ HB2.out (A := spA zS) rfl rfl rfl (spA_one _) ?_; intro w6 hv6 hko6 hsz6 hbn6)
    refine bodyPost_ret (results_two spT _ rfl rfl hv6 rfl rfl) rfl ?_
    exact HE.out _ (hbn6 _ _ HT.out (by omega))
  | true =>
    go_wp2_with (refine wpList_load_ag spT (by kernel_rfl) _ rfl _ rfl (A := spA s) rfl HB1.out ?_)
    refine (rightSp_any s _ HKY.out).mono ?_
    rw [← HRB.out]
    rintro e w3 ⟨rfl, hb3⟩
    replace HL := Lib.hid (HL.out.kept hb3)
    replace HB0 := Lib.hid (AgAt.kept HB0.out hb3)
    replace HB1 := Lib.hid (AgAt.kept HB1.out hb3)
    replace HB2 := Lib.hid (AgAt.kept HB2.out hb3)
    replace HT := Lib.hid (HT.out.trans (hb3.mono HT.out.size))
    clear hb3
    cases rb with
    | false =>
      have HE := Lib.hid (HR1.out (by rw [← HRB.out, Bool.and_false]))
      clear HL HB0 HB1
      go_wp2_with (refine wpList_store_ag spT rfl _ _ rfl _ rfl _ HB2.out (A := spA zS) rfl rfl rfl (spA_one _) ?_; intro w6 hv6 hko6 hsz6 hbn6)
      refine bodyPost_ret (results_two spT _ rfl rfl hv6 rfl rfl) rfl ?_
      exact HE.out _ (hbn6 _ _ HT.out (by omega))
    | true =>
      replace HR1 := Lib.hid (show ¬ (Tm.okN n && Tm.rightSp s) = false from by rw [show Tm.okN n = okNode n.1 n.2 from rfl, ← HNB.out, ← HRB.out]; simp)
      go_upto_region 3 with fail
      have hbd := Below.drew (Below.refl w3.heap.size w3)
      replace HL := Lib.hid (HL.out.kept hbd)
      replace HB0 := Lib.hid (AgAt.kept HB0.out hbd)
      replace HB1 := Lib.hid (AgAt.kept HB1.out hbd)
      replace HB2 := Lib.hid (AgAt.kept HB2.out hbd)
      replace HT := Lib.hid (HT.out.trans (hbd.mono HT.out.size))
      refine wp_region_held_drew (S := fun W => AgAt W P #[.map (some M1), .map (some M2)] ∧ AgAt W w.heap.size #[.int .i64 n.1, .int .i64 n.2] ∧ SMap W M1 (spots T)) (by kernel_rfl) ⟨HL.out.at_, HB0.out, HL.out.spots⟩ (fun hS => ?_)
      clear hbd
      generalize w3.drew = w3 at *
      refine wpAnyH_take (i := 0) (v := ?_) rfl (by kernel_rfl) (by kernel_rfl) (by kernel_rfl) (fun _ _ _ h => h) (Or.inl ⟨by kernel_rfl, ?_⟩) hS ?_
      rotate_left
      · intro W hSW
        go_simp
        all_goals with_reducible rfl
      refine wpAnyH_take (i := 1) (v := ?_) rfl (by kernel_rfl) (by kernel_rfl) (by kernel_rfl) (fun _ _ _ h => h) (Or.inl ⟨by kernel_rfl, ?_⟩) hS ?_
      rotate_left
      · intro W hSW
        go_simp
        all_goals with_reducible rfl
      refine wpAnyH_take (i := 2) (v := ?_) rfl (by kernel_rfl) (by kernel_rfl) (by kernel_rfl) (fun _ _ _ h => h) (Or.inl ⟨by kernel_rfl, ?_⟩) hS ?_
      rotate_left
      · intro W hSW
        go_simp
        all_goals with_reducible rfl
      refine wpAnyH_take (i := 3) (v := ?_) rfl (by kernel_rfl) (by kernel_rfl) (by kernel_rfl) (fun _ _ _ h => h) (Or.inl ⟨by kernel_rfl, ?_⟩) hS ?_
      rotate_left
      · intro W hSW
        have y0 : W.cell? ⟨P, 0, none⟩ = some (.map (some M1)) := by rw [AgAt.cell hSW.1 0]; rfl
        go_simp
        all_goals with_reducible rfl
      go_simp
      refine wpAnyH_take (i := 4) (v := snV n) rfl (by kernel_rfl) (by kernel_rfl) (by kernel_rfl) (fun _ _ _ h => h) (Or.inl ⟨by kernel_rfl, fun W hSW => exec_load_ag stT rfl rfl rfl hSW.2.1⟩) hS ?_
      go_simp
      refine wpAnyH_take (i := 5) (v := .tuple #[.agg (spA va), .bool ib]) rfl (by kernel_rfl) (by kernel_rfl) (by kernel_rfl) (fun _ _ _ h => h) (Or.inl ⟨by kernel_rfl, fun W hSW => exec_lookup rfl rfl rfl ((hSW.2.2.lookOk mtSpots n HWN.out).trans (by rw [lk_spots, HIB.out, HVA.out]; cases Tm.look T n <;> rfl))⟩) hS ?_
      refine wpAnyH_take (i := 6) (v := ?_) rfl (by kernel_rfl) (by kernel_rfl) (by kernel_rfl) (fun _ _ _ h => h) (Or.inl ⟨by kernel_rfl, ?_⟩) hS ?_
      rotate_left
      · intro W hSW
        go_simp
        all_goals with_reducible rfl
      refine wpAnyH_take (i := 7) (v := ?_) rfl (by kernel_rfl) (by kernel_rfl) (by kernel_rfl) (fun _ _ _ h => h) (Or.inl ⟨by kernel_rfl, ?_⟩) hS ?_
      rotate_left
      · intro W hSW
        go_simp
        all_goals with_reducible rfl
      refine wpAnyH_take (i := 8) (v := ?_) rfl (by kernel_rfl) (by kernel_rfl) (by kernel_rfl) (fun _ _ _ h => h) (Or.inl ⟨by kernel_rfl, ?_⟩) hS ?_
      rotate_left
      · intro W hSW
        go_simp
        all_goals with_reducible rfl
      go_simp
      refine wpAnyH_ready (rs := [9]) (by kernel_rfl) (by simp) ?_
      refine AllReadyH.cons rfl (fun K hK => ?_) AllReadyH.nil
      refine step_of (by kernel_rfl) ?_
      refine wp_store_ag spT _ _ rfl _ rfl _ HB2.out (A := spA va) rfl rfl rfl (spA_one _) ?_
      intro w5 hv5 hko5 hsz5 hbn5
      have ht5 := stored_turns hko5 hsz5 hbn5
      have HV5 := Lib.hid hv5
      replace HL := Lib.hid (HL.out.turns ht5 fun k hk h => by have := HLT.out k hk; omega)
      replace HB0 := Lib.hid (AgAt.block HB0.out (hko5 _ (by omega)))
      replace HB1 := Lib.hid (AgAt.block HB1.out (hko5 _ (by omega)))
      replace HT := Lib.hid (hbn5 _ _ HT.out (by omega))
      refine hK.out _ _ ⟨AgAt.block hS.1 (hko5 _ (by have := HLT.out _ HL.out.fP; omega)), AgAt.block hS.2.1 (hko5 _ (by omega)), hS.2.2.block (hko5 _ (by have := HLT.out _ HL.out.f1; omega))⟩ (fun hS => ?_)
      clear hK K hv5 hko5 hsz5 hbn5 ht5
      refine wpAnyH_take (i := 10) (v := ?_) rfl (by kernel_rfl) (by kernel_rfl) (by kernel_rfl) (fun _ _ _ h => h) (Or.inl ⟨by kernel_rfl, ?_⟩) hS ?_
      rotate_left
      · intro W hSW
        go_simp
        all_goals with_reducible rfl
      go_simp
      refine wpAnyH_done (by kernel_rfl) ?_ _
      go_simp
      clear hS HB2
      cases ib with
      | false =>
        have HE := Lib.hid (HR3.out HR1.out (Or.inl HIB.out.symm))
        clear HL HB0 HB1
        go_wp2_with (refine wpList_store_ag spT rfl _ _ rfl _ rfl _ HV5.out (A := spA zS) rfl rfl rfl (spA_one _) ?_; intro w6 hv6 hko6 hsz6 hbn6)
        refine bodyPost_ret (results_two spT _ rfl rfl hv6 rfl rfl) rfl ?_
        exact HE.out _ (hbn6 _ _ HT.out (by omega))
      | true =>
        go_wp2_with (refine wpList_value (by kernel_rfl) (exec_load_part stT rfl rfl [.int .i64 s.1.1, .int .i64 s.1.2] rfl HB1.out spPar) ?_)
        refine (has_any s.1 _ HL.out HWS.out).mono ?_
        rw [← HHB.out]
        rintro e w6 ⟨rfl, hb6⟩
        replace HL := Lib.hid (HL.out.kept hb6)
        replace HB0 := Lib.hid (AgAt.kept HB0.out hb6)
        replace HB1 := Lib.hid (AgAt.kept HB1.out hb6)
        replace HV5 := Lib.hid (AgAt.kept HV5.out hb6)
        replace HT := Lib.hid (HT.out.trans (hb6.mono HT.out.size))
        clear hb6
        cases pb with
        | false =>
          have HE := Lib.hid (HR3.out HR1.out (Or.inr HHB.out.symm))
          clear HL HB0 HB1
          go_wp2_with (refine wpList_store_ag spT rfl _ _ rfl _ rfl _ HV5.out (A := spA zS) rfl rfl rfl (spA_one _) ?_; intro w6 hv6 hko6 hsz6 hbn6)
          refine bodyPost_ret (results_two spT _ rfl rfl hv6 rfl rfl) rfl ?_
          exact HE.out _ (hbn6 _ _ HT.out (by omega))
        | true =>
          go_wp2_with (first | (refine wpList_load_ag stT (by kernel_rfl) _ rfl _ rfl (A := #[.int .i64 n.1, .int .i64 n.2]) rfl HB0.out ?_) | (refine wpList_value (by kernel_rfl) (exec_load_part stT rfl rfl [.int .i64 s.1.1, .int .i64 s.1.2] rfl HB1.out spPar) ?_))
          refine (within_any n s.1 _ HL.out HWS.out HOK.out HPAR.out).mono ?_
          rw [← HWB.out]
          rintro e w7 ⟨rfl, hb7⟩
          replace HL := Lib.hid (HL.out.kept hb7)
          replace HB0 := Lib.hid (AgAt.kept HB0.out hb7)
          replace HB1 := Lib.hid (AgAt.kept HB1.out hb7)
          replace HV5 := Lib.hid (AgAt.kept HV5.out hb7)
          replace HT := Lib.hid (HT.out.trans (hb7.mono HT.out.size))
          clear hb7
          cases wb with
          | true =>
            have HE := Lib.hid (HR41.out HR1.out HIB.out.symm HHB.out.symm HWB.out.symm)
            clear HL HB0 HB1
            go_wp2_with (refine wpList_store_ag spT rfl _ _ rfl _ rfl _ HV5.out (A := spA zS) rfl rfl rfl (spA_one _) ?_; intro w6 hv6 hko6 hsz6 hbn6)
            refine bodyPost_ret (results_two spT _ rfl rfl hv6 rfl rfl) rfl ?_
            exact HE.out _ (hbn6 _ _ HT.out (by omega))
          | false =>
            have HLI := Lib.hid (show Calls Tryz.prog 161 #[.pointer (some ⟨P, 0, none⟩), snV n, .agg (spA va)] w7 (Lifted P M1 M2 T F n w7) from by
              obtain ⟨s', hs⟩ := Option.isSome_iff_exists.1 HIB.out.symm
              have : va = s' := by rw [HVA.out, hs]; rfl
              subst this
              exact lift_any n va _ HL.out (HPAR.out _ (Tm.look_mem hs)) hs)
            have HR0 := Lib.hid (HR0.out HR1.out HIB.out.symm HHB.out.symm HWB.out.symm _ HT.out)
            have HT7 := Lib.hid HT.out.size
            clear HL HT
            go_wp2_with (first | (refine wpList_load_ag stT (by kernel_rfl) _ rfl _ rfl (A := #[.int .i64 n.1, .int .i64 n.2]) rfl HB0.out ?_) | (refine wpList_load_ag spT (by kernel_rfl) _ rfl _ rfl (A := spA va) rfl HV5.out ?_))
            refine HLI.out.mono ?_
            rintro e w8 ⟨rfl, C8, hl8, ht8⟩
            have HL8 := Lib.hid hl8
            have HT8 := Lib.hid ht8
            have HB0' := Lib.hid (AgAt.block HB0.out (ht8.block _ (AgAt.lt HB0.out) fun h => by have := HLT.out _ h; omega))
            have HB1' := Lib.hid (AgAt.block HB1.out (ht8.block _ (AgAt.lt HB1.out) fun h => by have := HLT.out _ h; omega))
            have HV8 := Lib.hid (AgAt.block HV5.out (ht8.block _ (AgAt.lt HV5.out) fun h => by have := HLT.out _ h; omega))
            clear HLI hl8 ht8 HB0 HB1 HV5
            have HLA := Lib.hid (lay_any n s w8 HL8.out HWN.out HWS.out (by rw [Tm.look_cut, if_pos rfl]))
            go_wp2_with (first | (refine wpList_load_ag stT (by kernel_rfl) _ rfl _ rfl (A := #[.int .i64 n.1, .int .i64 n.2]) rfl HB0'.out ?_) | (refine wpList_load_ag spT (by kernel_rfl) _ rfl _ rfl (A := spA s) rfl HB1'.out ?_))
            refine HLA.out.mono ?_
            rintro e w9 ⟨rfl, C9, hl9, ht9⟩
            have HQ := Lib.hid (fun w10 (hb : Turns (fun k => k = w.heap.size + 1 + 1) w9 w10) => HR0.out _ HT8.out (AgAt.lt HV8.out) _ C9 hl9 ht9 w10 hb)
            have HV9 := Lib.hid (AgAt.block HV8.out (ht9.block _ (AgAt.lt HV8.out) fun h => by have := HLT.out _ h; omega))
            clear HLA hl9 ht9
            go_wp2_with (first | (refine wpList_load_ag spT (by kernel_rfl) _ rfl _ rfl (A := spA va) rfl HV9.out ?_) | (refine wpList_store_ag spT rfl _ _ rfl _ rfl _ HV9.out (A := spA va) rfl rfl rfl (spA_one _) ?_; intro w10 hv10 hko10 hsz10 hbn10))
            refine bodyPost_ret (results_two spT _ rfl rfl hv10 rfl rfl) rfl ?_
            rw [HVA.out]
            exact HQ.out _ (stored_turns hko10 hsz10 hbn10)
end Go.Proofs.YthifdefjmfakgaaGreat
