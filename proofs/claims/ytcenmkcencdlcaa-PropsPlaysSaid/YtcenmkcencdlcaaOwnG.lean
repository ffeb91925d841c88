/-
  THE LAW's Own, with what it owns: the copy's Path may be written.
  No conditions but sizes.
-/
import Derived.Test.YtcenmkcencdlcaaGL
import Derived.Test.YtcenmkcencdlcaaGJ
namespace Go.Proofs.Ytcenmkcencdlcaa
open Go.RowKit

/-- what Own leaves, and that its Path is its own -/
def OwnedG (w : World) (x : Opp) (e : Ending) (w' : World) : Prop := ∃ q c, e = .returned (.agg (opA x q c)) ∧ Pa w' x q c ∧ Below w.heap.size w w' ∧ (∀ a, q = some a → w.heap.size ≤ a.block) ∧ ∃ B, w.heap.size ≤ B ∧ OwnP w' B (.slice q x.path.length c) x.path

set_option maxRecDepth 100000 in
set_option maxHeartbeats 4000000 in
theorem ownG_any (x : Opp) (q : Option Addr) (c : Nat) (w : World) (ha : Pa w x q c) (hl : x.path.length ≤ 5000) : Calls Try.prog 10 #[.agg (opA x q c)] w (OwnedG w x) := by
  obtain ⟨i0, hi, hz0, hz1, hz2⟩ := info_parts oinfo_st
  have HST := Lib.hid (OwS.start w x q c ha #[.int .i64 0, .int .i64 0, .int .i64 0, .int .i64 0, .int .i64 0, .string ⟨#[]⟩, .slice none 0 0, .int .i64 0, .int .i64 0, .int .i64 0, .string ⟨#[]⟩, .bool false] rfl)
  clear ha
  go_enter Try.func10, Try.ntmps10
  go_upto_region 1 with fail
  refine wp_region_held_drew (S := OwS w w.heap.size x q c) (by kernel_rfl) HST.out (fun hS => ?_)
  clear HST
  generalize ((w.alloc (.cells (opA x q c) 38)).alloc (.cells #[.int .i64 0, .int .i64 0, .int .i64 0, .int .i64 0, .int .i64 0, .string ⟨#[]⟩, .slice none 0 0, .int .i64 0, .int .i64 0, .int .i64 0, .string ⟨#[]⟩, .bool false] 36)).drew = W0 at *
  have HS0 := Lib.hid hS
  refine wpAnyH_take (i := 0) (v := ?_) rfl (by kernel_rfl) (by kernel_rfl) (by kernel_rfl) (fun _ _ _ h => h) (Or.inl ⟨by kernel_rfl, ?_⟩) hS ?_
  rotate_left
  · intro W hSW
    go_simp
    all_goals with_reducible rfl
  refine wpAnyH_take (i := 1) (v := ?_) rfl (by kernel_rfl) (by kernel_rfl) (by kernel_rfl) (fun _ _ _ h => h) (Or.inl ⟨by kernel_rfl, ?_⟩) hS ?_
  rotate_left
  · intro W hSW
    obtain ⟨x0, x1, x2, x3, x4, x5, x6, x7, x8, x9, x10, x11⟩ := hSW.op.cells
    go_simp
    all_goals with_reducible rfl
  refine wpAnyH_take (i := 2) (v := ?_) rfl (by kernel_rfl) (by kernel_rfl) (by kernel_rfl) (fun _ _ _ h => h) (Or.inl ⟨by kernel_rfl, ?_⟩) hS ?_
  rotate_left
  · intro W hSW
    go_simp
    all_goals with_reducible rfl
  refine wpAnyH_take (i := 3) (v := ?_) rfl (by kernel_rfl) (by kernel_rfl) (by kernel_rfl) (fun _ _ _ h => h) (Or.inl ⟨by kernel_rfl, ?_⟩) hS ?_
  rotate_left
  · intro W hSW
    obtain ⟨x0, x1, x2, x3, x4, x5, x6, x7, x8, x9, x10, x11⟩ := hSW.op.cells
    go_simp
    all_goals with_reducible rfl
  go_simp
  refine wpAnyH_take (i := 4) (v := ?_) rfl (by kernel_rfl) (by kernel_rfl) (by kernel_rfl) (fun _ _ _ h => h) (Or.inl ⟨by kernel_rfl, ?_⟩) hS ?_
  rotate_left
  · intro W hSW
    go_simp
    all_goals with_reducible rfl
  refine wpAnyH_take (i := 5) (v := ?_) rfl (by kernel_rfl) (by kernel_rfl) (by kernel_rfl) (fun _ _ _ h => h) (Or.inl ⟨by kernel_rfl, ?_⟩) hS ?_
  rotate_left
  · intro W hSW
    obtain ⟨x0, x1, x2, x3, x4, x5, x6, x7, x8, x9, x10, x11⟩ := hSW.op.cells
    go_simp
    all_goals with_reducible rfl
  refine wpAnyH_take (i := 6) (v := ?_) rfl (by kernel_rfl) (by kernel_rfl) (by kernel_rfl) (fun _ _ _ h => h) (Or.inl ⟨by kernel_rfl, ?_⟩) hS ?_
  rotate_left
  · intro W hSW
    go_simp
    all_goals with_reducible rfl
  refine wpAnyH_take (i := 7) (v := ?_) rfl (by kernel_rfl) (by kernel_rfl) (by kernel_rfl) (fun _ _ _ h => h) (Or.inl ⟨by kernel_rfl, ?_⟩) hS ?_
  rotate_left
  · intro W hSW
    obtain ⟨x0, x1, x2, x3, x4, x5, x6, x7, x8, x9, x10, x11⟩ := hSW.op.cells
    go_simp
    all_goals with_reducible rfl
  go_simp
  refine wpAnyH_take (i := 9) (v := ?_) rfl (by kernel_rfl) (by kernel_rfl) (by kernel_rfl) (fun _ _ _ h => h) (Or.inl ⟨by kernel_rfl, ?_⟩) hS ?_
  rotate_left
  · intro W hSW
    go_simp
    all_goals with_reducible rfl
  refine wpAnyH_take (i := 10) (v := ?_) rfl (by kernel_rfl) (by kernel_rfl) (by kernel_rfl) (fun _ _ _ h => h) (Or.inl ⟨by kernel_rfl, ?_⟩) hS ?_
  rotate_left
  · intro W hSW
    obtain ⟨x0, x1, x2, x3, x4, x5, x6, x7, x8, x9, x10, x11⟩ := hSW.op.cells
    go_simp
    all_goals with_reducible rfl
  refine wpAnyH_take (i := 12) (v := ?_) rfl (by kernel_rfl) (by kernel_rfl) (by kernel_rfl) (fun _ _ _ h => h) (Or.inl ⟨by kernel_rfl, ?_⟩) hS ?_
  rotate_left
  · intro W hSW
    go_simp
    all_goals with_reducible rfl
  refine wpAnyH_take (i := 13) (v := ?_) rfl (by kernel_rfl) (by kernel_rfl) (by kernel_rfl) (fun _ _ _ h => h) (Or.inl ⟨by kernel_rfl, ?_⟩) hS ?_
  rotate_left
  · intro W hSW
    obtain ⟨x0, x1, x2, x3, x4, x5, x6, x7, x8, x9, x10, x11⟩ := hSW.op.cells
    go_simp
    all_goals with_reducible rfl
  go_simp
  refine wpAnyH_take (i := 14) (v := ?_) rfl (by kernel_rfl) (by kernel_rfl) (by kernel_rfl) (fun _ _ _ h => h) (Or.inl ⟨by kernel_rfl, ?_⟩) hS ?_
  rotate_left
  · intro W hSW
    go_simp
    all_goals with_reducible rfl
  refine wpAnyH_take (i := 15) (v := ?_) rfl (by kernel_rfl) (by kernel_rfl) (by kernel_rfl) (fun _ _ _ h => h) (Or.inl ⟨by kernel_rfl, ?_⟩) hS ?_
  rotate_left
  · intro W hSW
    obtain ⟨x0, x1, x2, x3, x4, x5, x6, x7, x8, x9, x10, x11⟩ := hSW.op.cells
    go_simp
    all_goals with_reducible rfl
  refine wpAnyH_take (i := 16) (v := ?_) rfl (by kernel_rfl) (by kernel_rfl) (by kernel_rfl) (fun _ _ _ h => h) (Or.inl ⟨by kernel_rfl, ?_⟩) hS ?_
  rotate_left
  · intro W hSW
    go_simp
    all_goals with_reducible rfl
  refine wpAnyH_take (i := 17) (v := ?_) rfl (by kernel_rfl) (by kernel_rfl) (by kernel_rfl) (fun _ _ _ h => h) (Or.inl ⟨by kernel_rfl, ?_⟩) hS ?_
  rotate_left
  · intro W hSW
    obtain ⟨x0, x1, x2, x3, x4, x5, x6, x7, x8, x9, x10, x11⟩ := hSW.op.cells
    go_simp
    all_goals with_reducible rfl
  go_simp
  refine wpAnyH_ready (rs := [8]) (by kernel_rfl) (by simp) ?_
  refine AllReadyH.cons rfl (fun K hK => ?_) AllReadyH.nil
  go_simp
  refine hK.out _ _ (hS.kept ((Below.refl _ _).alloc (Nat.le_refl _) _)) (fun hS => ?_)
  clear hK K
  refine wpAnyH_ready (rs := [11]) (by kernel_rfl) (by simp) ?_
  refine AllReadyH.cons rfl (fun K hK => ?_) AllReadyH.nil
  refine step_append_kL (by kernel_rfl) _ _ 23 rfl W0.heap.size 32 i0 _ 2 16 Try.underlying23 hi hz0 hz1 (by decide) hz2 (by decide) rfl _ 0 [] rfl (World.ownsRow_lit (base := W0.heap.size) (e := 32) (size := 2) W0 #[] 0 (Nat.le_refl _) (by simp [maxLen]) (by simp)) _ x.path.length c (stCells x.path) rfl (by rw [stCells_length]) hS.paw.rd hS.pa.nil stCells_one (by omega) (by simp) ?_
  intro p2 c2 w2 ho2 hg2
  rw [Nat.zero_add, List.nil_append] at ho2
  have HS2 := Lib.hid (HS0.out.kept (Below.grown ((Below.refl W0.heap.size W0).alloc (Nat.le_refl _) (.cells #[] 32)) hg2 (by simp) (fun k hk => by cases hk; exact Nat.le_refl _)))
  have HO2 := Lib.hid (show OwnP w2 W0.heap.size (.slice p2 x.path.length c2) x.path from ho2)
  have HNW := Lib.hid (show ∀ a, p2 = some a → w.heap.size ≤ a.block from by
    obtain ⟨p', c', e, -, -, -, -, h4⟩ := own_rd HO2.out
    cases e
    intro a ha
    have := (h4 a ha).1
    have := HS0.out.below.size
    omega)
  clear ho2 hg2
  refine hK.out _ _ HS2.out (fun hS => ?_)
  clear hK K hS
  rw [Nat.zero_add]
  refine wpAnyH_take (i := 18) (v := ?_) rfl (by kernel_rfl) (by kernel_rfl) (by kernel_rfl) (fun _ _ _ h => h) (Or.inl ⟨by kernel_rfl, ?_⟩) HS2.out ?_
  rotate_left
  · intro W hSW
    go_simp
    all_goals with_reducible rfl
  obtain ⟨A, TT, hA, hAs⟩ := HS2.out.res
  go_simp
  refine wpAnyH_ready (rs := [19]) (by kernel_rfl) (by simp) ?_
  refine AllReadyH.cons rfl (fun K hK => ?_) AllReadyH.nil
  refine step_store_op otP (by kernel_rfl) _ _ rfl (w.heap.size + 1) rfl TT A hA hAs x p2 c2 rfl ?_
  intro w3 hv3 hko hsz hbn
  have HS3 := Lib.hid (HS2.out.stored hv3 hko hbn)
  have HP3 := Lib.hid (HO2.out.paStored HS0.out.lt hko)
  have HG3 := Lib.hid (show ∃ B, w.heap.size ≤ B ∧ OwnP w3 B (.slice p2 x.path.length c2) x.path from ⟨_, by have := HS0.out.below.size; omega, (stored_turns hko hsz hbn).own HO2.out (fun g hg hh => by have h1 := (World.ownsRow.lt HO2.out g hg).1; have h2 := HS0.out.lt; omega)⟩)
  clear hko hsz hbn
  refine hK.out _ _ HS3.out (fun hS => ?_)
  clear hK K hS
  refine wpAnyH_done (by kernel_rfl) ?_ _
  go_simp
  go_wp2
  exact bodyPost_ret (results_op otP _ rfl hv3 rfl) rfl ⟨p2, c2, rfl, HP3.out, HS3.out.below, HNW.out, HG3.out⟩
end Go.Proofs.Ytcenmkcencdlcaa
