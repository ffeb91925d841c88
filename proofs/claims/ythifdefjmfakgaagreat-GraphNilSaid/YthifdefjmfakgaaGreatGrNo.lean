/-
  NO GRAPH, and one that nobody made: what each call answers.
  No conditions.
-/
import Derived.Test.YthifdefjmfakgaaGreatGrRef
import Derived.Test.YthifdefjmfakgaaGreatGrInsert
namespace Go.Proofs.YthifdefjmfakgaaGreat
open Go.RowKit
open Tm (Sp Tr has put cut kids)

def NoG (W : World) (v : Value) : Prop := v = .pointer none ∨ ∃ b, v = ptV b ∧ AgAt W b #[.pointer none]
theorem NoG.kept {W W' : World} {v : Value} (h : NoG W v) (hb : Below W.heap.size W W') : NoG W' v := by
  rcases h with h | ⟨b, h1, h2⟩
  · exact Or.inl h
  · exact Or.inr ⟨b, h1, h2.kept hb⟩
theorem bel_alloc (W : World) (o : Obj) : Below W.heap.size W (W.alloc o) := (Below.refl _ _).alloc (Nat.le_refl _) o
theorem bel_alloc2 (W : World) (o o' : Obj) : Below W.heap.size W ((W.alloc o).alloc o') := (bel_alloc W o).trans ((bel_alloc (W.alloc o) o').mono (bel_alloc W o).size)
theorem run_build_zsp (w : World) : (Instr.build 72 #[]).run Tryz.prog w = .ok (.agg (spA zS)) w := by kernel_rfl
theorem run_build_zst (w : World) : (Instr.build 35 #[]).run Tryz.prog w = .ok (.agg #[.int .i64 0, .int .i64 0]) w := by kernel_rfl

set_option maxRecDepth 100000 in
set_option maxHeartbeats 1000000 in
theorem nours_any (v : Value) (W : World) (h : NoG W v) : Calls Tryz.prog 30 #[v] W fun e w' => e = .returned (.bool false) ∧ W = w' := by
  rcases h with rfl | ⟨b, rfl, hb⟩
  · go_enter Tryz.func30, Tryz.ntmps30
    go_wp2
    go_ret
    exact ⟨rfl, rfl⟩
  · have y : W.cell? ⟨b, 0, none⟩ = some (.pointer none) := (AgAt.cell hb 0).trans rfl
    clear hb
    go_enter Tryz.func30, Tryz.ntmps30
    go_wp2
    go_ret
    exact ⟨rfl, rfl⟩

set_option maxRecDepth 100000 in
set_option maxHeartbeats 1000000 in
theorem ncount_any (v : Value) (W : World) (h : NoG W v) : Calls Tryz.prog 14 #[v] W fun e w' => e = .returned (.int .i64 0) ∧ Below W.heap.size W w' := by
  have HN := Lib.hid h
  clear h
  go_enter Tryz.func14, Tryz.ntmps14
  go_wp2_with fail
  refine (nours_any v _ HN.out).mono ?_
  rintro e w1 ⟨rfl, rfl⟩
  go_wp2
  go_ret
  exact ⟨rfl, Below.refl _ _⟩

set_option maxRecDepth 100000 in
set_option maxHeartbeats 1000000 in
theorem nnodes_any (v : Value) (W : World) (h : NoG W v) : Calls Tryz.prog 18 #[v] W fun e w' => e = .returned (.slice none 0 0) ∧ Below W.heap.size W w' := by
  have HN := Lib.hid h
  clear h
  go_enter Tryz.func18, Tryz.ntmps18
  go_wp2_with fail
  refine (nours_any v _ HN.out).mono ?_
  rintro e w1 ⟨rfl, rfl⟩
  go_wp2
  go_ret
  exact ⟨rfl, Below.refl _ _⟩

set_option maxRecDepth 100000 in
set_option maxHeartbeats 1000000 in
theorem nclone_any (v : Value) (W : World) (h : NoG W v) : Calls Tryz.prog 9 #[v] W fun e w' => e = .returned (.pointer none) ∧ Below W.heap.size W w' := by
  have HN := Lib.hid h
  clear h
  go_enter Tryz.func9, Tryz.ntmps9
  go_wp2_with fail
  refine (nours_any v _ HN.out).mono ?_
  rintro e w1 ⟨rfl, rfl⟩
  go_wp2
  go_ret
  exact ⟨rfl, Below.refl _ _⟩

set_option maxRecDepth 100000 in
set_option maxHeartbeats 1000000 in
theorem nrow_any (v : Value) (s : Qm.St) (W : World) (h : NoG W v) : Calls Tryz.prog 26 #[v, snV s] W fun e w' => e = .returned (.slice none 0 0) ∧ Below W.heap.size W w' := by
  have HN := Lib.hid h
  clear h
  go_enter Tryz.func26, Tryz.ntmps26
  go_wp2_with fail
  refine (nours_any v _ (HN.out.kept (bel_alloc _ _))).mono ?_
  rintro e w1 ⟨rfl, rfl⟩
  go_wp2
  go_ret
  exact ⟨rfl, bel_alloc _ _⟩

set_option maxRecDepth 100000 in
set_option maxHeartbeats 1000000 in
theorem nabove_any (v : Value) (s : Qm.St) (W : World) (h : NoG W v) : Calls Tryz.prog 27 #[v, snV s] W fun e w' => e = .returned (.slice none 0 0) ∧ Below W.heap.size W w' := by
  have HN := Lib.hid h
  clear h
  go_enter Tryz.func27, Tryz.ntmps27
  go_wp2_with fail
  refine (nours_any v _ (HN.out.kept (bel_alloc _ _))).mono ?_
  rintro e w1 ⟨rfl, rfl⟩
  go_wp2
  go_ret
  exact ⟨rfl, bel_alloc _ _⟩

set_option maxRecDepth 100000 in
set_option maxHeartbeats 1000000 in
theorem ndone_any (v : Value) (s : Qm.St) (W : World) (h : NoG W v) : Calls Tryz.prog 20 #[v, snV s] W fun e w' => e = .returned (.bool false) ∧ Below W.heap.size W w' := by
  have HN := Lib.hid h
  clear h
  go_enter Tryz.func20, Tryz.ntmps20
  go_wp2_with fail
  refine (nours_any v _ (HN.out.kept (bel_alloc _ _))).mono ?_
  rintro e w1 ⟨rfl, rfl⟩
  go_wp2
  go_ret
  exact ⟨rfl, bel_alloc _ _⟩

set_option maxRecDepth 100000 in
set_option maxHeartbeats 1000000 in
theorem nsame_any (v : Value) (u : Value) (W : World) (h : NoG W v) : Calls Tryz.prog 15 #[v, u] W fun e w' => e = .returned (.bool false) ∧ Below W.heap.size W w' := by
  have HN := Lib.hid h
  clear h
  go_enter Tryz.func15, Tryz.ntmps15
  go_wp2_with fail
  refine (nours_any v _ HN.out).mono ?_
  rintro e w1 ⟨rfl, rfl⟩
  go_wp2
  go_ret
  exact ⟨rfl, Below.refl _ _⟩

set_option maxRecDepth 100000 in
set_option maxHeartbeats 1000000 in
theorem nins_any (v : Value) (s : Qm.St) (x : Opp) (q : Option Addr) (c : Nat) (W : World) (h : NoG W v) : Calls Tryz.prog 10 #[v, snV s, .agg (opA x q c)] W fun e w' => e = .returned (.tuple #[.int .i64 0, .int .i64 1]) ∧ Below W.heap.size W w' := by
  have HN := Lib.hid h
  clear h
  go_enter Tryz.func10, Tryz.ntmps10
  go_wp2_with fail
  refine (nours_any v _ (HN.out.kept (bel_alloc2 _ _ _))).mono ?_
  rintro e w1 ⟨rfl, rfl⟩
  go_wp2
  go_ret2
  exact ⟨rfl, bel_alloc2 _ _ _⟩

set_option maxRecDepth 100000 in
set_option maxHeartbeats 1000000 in
theorem nspot_any (v : Value) (s : Qm.St) (W : World) (h : NoG W v) : Calls Tryz.prog 22 #[v, snV s] W fun e w' => e = .returned (.tuple #[.agg (spA zS), .bool false]) ∧ Below W.heap.size W w' := by
  have HN := Lib.hid h
  have HB1 := Lib.hid (show AgAt ((W.alloc (.cells (stA s) 35)).alloc (.cells (spA zS) 72)) (W.heap.size + 1) (spA zS) from by
    have := AgAt.new (W.alloc (.cells (stA s) 35)) (spA zS) 72
    rw [show (W.alloc (.cells (stA s) 35)).heap.size = W.heap.size + 1 from by simp] at this
    exact this)
  have hbz := run_build_zsp
  clear h
  go_enter Tryz.func22, Tryz.ntmps22
  go_wp2_with fail
  refine (nours_any v _ (HN.out.kept (bel_alloc2 _ _ _))).mono ?_
  rintro e w1 ⟨rfl, rfl⟩
  go_wp2
  refine bodyPost_ret (results_two spT _ rfl rfl HB1.out rfl rfl) rfl ?_
  exact ⟨rfl, bel_alloc2 _ _ _⟩

set_option maxRecDepth 100000 in
set_option maxHeartbeats 1000000 in
theorem nref_any (v : Value) (s : Qm.St) (W : World) (h : NoG W v) : Calls Tryz.prog 23 #[v, snV s] W fun e w' => e = .returned (.tuple #[.agg #[.int .i64 0, .int .i64 0], .bool false]) ∧ Below W.heap.size W w' := by
  have HN := Lib.hid h
  have HB1 := Lib.hid (show AgAt ((W.alloc (.cells (stA s) 35)).alloc (.cells (#[.int .i64 0, .int .i64 0] : Array Value) 35)) (W.heap.size + 1) (#[.int .i64 0, .int .i64 0] : Array Value) from by
    have := AgAt.new (W.alloc (.cells (stA s) 35)) (#[.int .i64 0, .int .i64 0] : Array Value) 35
    rw [show (W.alloc (.cells (stA s) 35)).heap.size = W.heap.size + 1 from by simp] at this
    exact this)
  have hbz := run_build_zst
  clear h
  go_enter Tryz.func23, Tryz.ntmps23
  go_wp2_with fail
  refine (nours_any v _ (HN.out.kept (bel_alloc2 _ _ _))).mono ?_
  rintro e w1 ⟨rfl, rfl⟩
  go_wp2_with (refine wpList_store_ag stT rfl _ _ rfl _ rfl _ HB1.out rfl rfl rfl (stA_one 0 0) ?_; intro w2 hv hko hsz hbn)
  have HE := Lib.hid (hbn _ _ (bel_alloc2 W _ _) (Nat.le_succ _))
  clear hko hsz hbn hbz HB1
  refine bodyPost_ret (results_two stT _ rfl rfl hv rfl rfl) rfl ?_
  exact ⟨rfl, HE.out⟩

set_option maxRecDepth 100000 in
set_option maxHeartbeats 2000000 in
theorem nhas_any (v : Value) (s : Qm.St) (W : World) (h : NoG W v) : Calls Tryz.prog 24 #[v, snV s] W fun e w' => e = .returned (.bool false) ∧ Below W.heap.size W w' := by
  have HB := Lib.hid (bel_alloc W (.cells (stA s) 35))
  have HN := Lib.hid (h.kept HB.out)
  clear h
  go_enter Tryz.func24, Tryz.ntmps24
  go_upto_region 1 with fail
  generalize W.alloc (.cells (stA s) 35) = w1 at *
  refine wp_region_held_drew (S := fun w' => Below w1.heap.size w1 w') (by kernel_rfl) (Below.drew (Below.refl _ _)) (fun hS => ?_)
  refine wpAnyH_take (i := 0) (v := ?_) rfl (by kernel_rfl) (by kernel_rfl) (by kernel_rfl) (fun _ _ _ h => h) (Or.inl ⟨by kernel_rfl, ?_⟩) hS ?_
  rotate_left
  · intro W hSW
    go_simp
    all_goals with_reducible rfl
  go_simp
  refine wpAnyH_ready (rs := [1]) (by kernel_rfl) (by simp) ?_
  refine AllReadyH.cons rfl (fun K hK => ?_) AllReadyH.nil
  go_simp
  go_wp2_with ((go_at_call 30; refine (nours_any v _ (HN.out.kept hS)).mono ?_; rintro e wn ⟨rfl, rfl⟩))
  refine hK.out _ _ hS (fun hS => ?_)
  clear hK K
  refine wpAnyH_take (i := 2) (v := ?_) rfl (by kernel_rfl) (by kernel_rfl) (by kernel_rfl) (fun _ _ _ h => h) (Or.inl ⟨by kernel_rfl, ?_⟩) hS ?_
  rotate_left
  · intro W hSW
    go_simp
    all_goals with_reducible rfl
  go_simp
  refine wpAnyH_take (i := 3) (v := undef) rfl (by kernel_rfl) (by kernel_rfl) (by kernel_rfl) (fun _ _ _ h => h) (Or.inr ⟨by kernel_rfl, rfl⟩) hS ?_
  go_simp
  refine wpAnyH_take (i := 4) (v := undef) rfl (by kernel_rfl) (by kernel_rfl) (by kernel_rfl) (fun _ _ _ h => h) (Or.inr ⟨by kernel_rfl, rfl⟩) hS ?_
  go_simp
  refine wpAnyH_take (i := 5) (v := undef) rfl (by kernel_rfl) (by kernel_rfl) (by kernel_rfl) (fun _ _ _ h => h) (Or.inr ⟨by kernel_rfl, rfl⟩) hS ?_
  go_simp
  refine wpAnyH_take (i := 6) (v := undef) rfl (by kernel_rfl) (by kernel_rfl) (by kernel_rfl) (fun _ _ _ h => h) (Or.inr ⟨by kernel_rfl, rfl⟩) hS ?_
  go_simp
  refine wpAnyH_take (i := 7) (v := undef) rfl (by kernel_rfl) (by kernel_rfl) (by kernel_rfl) (fun _ _ _ h => h) (Or.inr ⟨by kernel_rfl, rfl⟩) hS ?_
  go_simp
  refine wpAnyH_take (i := 8) (v := undef) rfl (by kernel_rfl) (by kernel_rfl) (by kernel_rfl) (fun _ _ _ h => h) (Or.inr ⟨by kernel_rfl, rfl⟩) hS ?_
  go_simp
  refine wpAnyH_take (i := 9) (v := undef) rfl (by kernel_rfl) (by kernel_rfl) (by kernel_rfl) (fun _ _ _ h => h) (Or.inr ⟨by kernel_rfl, rfl⟩) hS ?_
  refine wpAnyH_take (i := 10) (v := ?_) rfl (by kernel_rfl) (by kernel_rfl) (by kernel_rfl) (fun _ _ _ h => h) (Or.inl ⟨by kernel_rfl, ?_⟩) hS ?_
  rotate_left
  · intro W hSW
    go_simp
    all_goals with_reducible rfl
  refine wpAnyH_take (i := 11) (v := ?_) rfl (by kernel_rfl) (by kernel_rfl) (by kernel_rfl) (fun _ _ _ h => h) (Or.inl ⟨by kernel_rfl, ?_⟩) hS ?_
  rotate_left
  · intro W hSW
    go_simp
    all_goals with_reducible rfl
  go_simp
  refine wpAnyH_done (by kernel_rfl) ?_ _
  go_simp
  have HE := Lib.hid (HB.out.trans (hS.mono HB.out.size))
  clear hS
  go_wp2
  go_ret
  exact ⟨rfl, HE.out⟩

set_option maxRecDepth 100000 in
set_option maxHeartbeats 2000000 in
theorem nreach_any (v : Value) (n m : Qm.St) (up : Bool) (W : World) (h : NoG W v) : Calls Tryz.prog 25 #[v, snV n, snV m, .bool up] W fun e w' => e = .returned (.bool false) ∧ Below W.heap.size W w' := by
  have HB := Lib.hid (bel_alloc2 W (.cells (stA n) 35) (.cells (stA m) 35))
  have HA := Lib.hid ((AgAt.new W (stA n) 35).kept (bel_alloc _ (.cells (stA m) 35)))
  have HN := Lib.hid (h.kept HB.out)
  clear h
  go_enter Tryz.func25, Tryz.ntmps25
  go_upto_region 1 with fail
  generalize (W.alloc (.cells (stA n) 35)).alloc (.cells (stA m) 35) = w1 at *
  refine wp_region_held_drew (S := fun w' => Below w1.heap.size w1 w') (by kernel_rfl) (Below.drew (Below.refl _ _)) (fun hS => ?_)
  refine wpAnyH_take (i := 0) (v := ?_) rfl (by kernel_rfl) (by kernel_rfl) (by kernel_rfl) (fun _ _ _ h => h) (Or.inl ⟨by kernel_rfl, ?_⟩) hS ?_
  rotate_left
  · intro W hSW
    go_simp
    all_goals with_reducible rfl
  go_simp
  refine wpAnyH_take (i := 1) (v := snV n) rfl (by kernel_rfl) (by kernel_rfl) (by kernel_rfl) (fun _ _ _ h => h) (Or.inl ⟨by kernel_rfl, fun w' hSW => exec_load_ag stT rfl rfl rfl (HA.out.kept hSW)⟩) hS ?_
  go_simp
  refine wpAnyH_ready (rs := [2]) (by kernel_rfl) (by simp) ?_
  refine AllReadyH.cons rfl (fun K hK => ?_) AllReadyH.nil
  go_simp
  go_wp2_with ((go_at_call 24; refine (nhas_any v n _ (HN.out.kept hS)).mono ?_; rintro e wn ⟨rfl, hbn⟩))
  refine hK.out _ _ (hS.trans (hbn.mono hS.size)) (fun hS => ?_)
  clear hK K hbn
  refine wpAnyH_take (i := 3) (v := ?_) rfl (by kernel_rfl) (by kernel_rfl) (by kernel_rfl) (fun _ _ _ h => h) (Or.inl ⟨by kernel_rfl, ?_⟩) hS ?_
  rotate_left
  · intro W hSW
    go_simp
    all_goals with_reducible rfl
  go_simp
  refine wpAnyH_take (i := 4) (v := undef) rfl (by kernel_rfl) (by kernel_rfl) (by kernel_rfl) (fun _ _ _ h => h) (Or.inr ⟨by kernel_rfl, rfl⟩) hS ?_
  go_simp
  refine wpAnyH_take (i := 5) (v := undef) rfl (by kernel_rfl) (by kernel_rfl) (by kernel_rfl) (fun _ _ _ h => h) (Or.inr ⟨by kernel_rfl, rfl⟩) hS ?_
  go_simp
  refine wpAnyH_take (i := 6) (v := undef) rfl (by kernel_rfl) (by kernel_rfl) (by kernel_rfl) (fun _ _ _ h => h) (Or.inr ⟨by kernel_rfl, rfl⟩) hS ?_
  refine wpAnyH_take (i := 7) (v := ?_) rfl (by kernel_rfl) (by kernel_rfl) (by kernel_rfl) (fun _ _ _ h => h) (Or.inl ⟨by kernel_rfl, ?_⟩) hS ?_
  rotate_left
  · intro W hSW
    go_simp
    all_goals with_reducible rfl
  refine wpAnyH_take (i := 8) (v := ?_) rfl (by kernel_rfl) (by kernel_rfl) (by kernel_rfl) (fun _ _ _ h => h) (Or.inl ⟨by kernel_rfl, ?_⟩) hS ?_
  rotate_left
  · intro W hSW
    go_simp
    all_goals with_reducible rfl
  go_simp
  refine wpAnyH_take (i := 9) (v := undef) rfl (by kernel_rfl) (by kernel_rfl) (by kernel_rfl) (fun _ _ _ h => h) (Or.inr ⟨by kernel_rfl, rfl⟩) hS ?_
  go_simp
  refine wpAnyH_take (i := 10) (v := undef) rfl (by kernel_rfl) (by kernel_rfl) (by kernel_rfl) (fun _ _ _ h => h) (Or.inr ⟨by kernel_rfl, rfl⟩) hS ?_
  go_simp
  refine wpAnyH_take (i := 11) (v := undef) rfl (by kernel_rfl) (by kernel_rfl) (by kernel_rfl) (fun _ _ _ h => h) (Or.inr ⟨by kernel_rfl, rfl⟩) hS ?_
  go_simp
  refine wpAnyH_take (i := 12) (v := undef) rfl (by kernel_rfl) (by kernel_rfl) (by kernel_rfl) (fun _ _ _ h => h) (Or.inr ⟨by kernel_rfl, rfl⟩) hS ?_
  go_simp
  refine wpAnyH_take (i := 13) (v := undef) rfl (by kernel_rfl) (by kernel_rfl) (by kernel_rfl) (fun _ _ _ h => h) (Or.inr ⟨by kernel_rfl, rfl⟩) hS ?_
  go_simp
  refine wpAnyH_take (i := 14) (v := undef) rfl (by kernel_rfl) (by kernel_rfl) (by kernel_rfl) (fun _ _ _ h => h) (Or.inr ⟨by kernel_rfl, rfl⟩) hS ?_
  refine wpAnyH_take (i := 15) (v := ?_) rfl (by kernel_rfl) (by kernel_rfl) (by kernel_rfl) (fun _ _ _ h => h) (Or.inl ⟨by kernel_rfl, ?_⟩) hS ?_
  rotate_left
  · intro W hSW
    go_simp
    all_goals with_reducible rfl
  refine wpAnyH_take (i := 16) (v := ?_) rfl (by kernel_rfl) (by kernel_rfl) (by kernel_rfl) (fun _ _ _ h => h) (Or.inl ⟨by kernel_rfl, ?_⟩) hS ?_
  rotate_left
  · intro W hSW
    go_simp
    all_goals with_reducible rfl
  go_simp
  refine wpAnyH_done (by kernel_rfl) ?_ _
  go_simp
  have HE := Lib.hid (HB.out.trans (hS.mono HB.out.size))
  clear hS
  go_wp2
  go_ret
  exact ⟨rfl, HE.out⟩
end Go.Proofs.YthifdefjmfakgaaGreat
