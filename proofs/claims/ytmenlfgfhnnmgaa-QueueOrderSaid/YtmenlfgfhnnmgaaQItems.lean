/-
  Items of the law: the document's items as the program's.
  No conditions but sizes.
-/
import Derived.Test.YtmenlfgfhnnmgaaQSearch
import Derived.Test.YtmenlfgfhnnmgaaQNew
namespace Go.Proofs.Ytmenlfgfhnnmgaa
open Go.RowKit

/-- what Items leaves -/
def Itemed (l : List Qm.It) (w : World) (e : Ending) (w' : World) : Prop :=
  ∃ p c, e = .returned (.slice p l.length c) ∧ w'.ownsRow w.heap.size 40 3 (.slice p l.length c) l.length (itCells l) ∧ Below w.heap.size w w'
theorem take_item {l : List Qm.It} {k : Nat} (h : k < l.length) : l.take (k + 1) = l.take k ++ [Qm.itAt l k] := by
  rw [List.take_succ_eq_append_getElem h]
  simp [Qm.itAt, List.getD, h]

set_option maxRecDepth 100000 in
set_option maxHeartbeats 4000000 in
theorem items_any (p : Option Addr) (cap : Nat) (l : List Qm.It) (w : World) (h : Rd w p (itCells l)) (hl : l.length ≤ 2000) :
    Calls Try.prog 10 #[.slice p l.length cap] w (Itemed l w) := by
  obtain ⟨i0, hi, hz0, hz1, hz2⟩ := info_parts info_item
  have HR := Lib.hid h
  clear h
  go_enter Try.func10, Try.ntmps10
  go_wp2
  go_loopw [3, 4] (fun v i wr => ∃ (k : Nat) (p' : Option Addr) (c' : Nat), k ≤ l.length ∧ i = .int .i64 (k : Int) ∧ v = .slice p' k c' ∧ wr.ownsRow w.heap.size 40 3 (.slice p' k c') k (itCells (l.take k)) ∧ Below w.heap.size w wr) (fun _ i _ => l.length - (intOf i).toNat)
  case atStart => exact ⟨0, none, 0, Nat.zero_le _, rfl, rfl, World.ownsRow_nil _ _ _ _, Below.refl _ _⟩
  case round =>
    obtain ⟨k, p', c', hk, rfl, rfl, ho, hb⟩ := hrel
    have HO := Lib.hid ho
    have HB := Lib.hid hb
    clear ho hb
    by_cases hlt : k < l.length
    · obtain ⟨b, o, rfl, -⟩ := HR.out.addr (by rw [itCells_length]; omega)
      obtain ⟨x0, x1, x2⟩ := HR.out.it k hlt
      have HTK := Lib.hid (take_item hlt)
      generalize Qm.itAt l k = x at *
      obtain ⟨⟨t, r⟩, g⟩ := x
      dsimp only at x0 x1 x2
      have HAL := Lib.hid (show Below wr.heap.size wr (wr.alloc (.cells #[.int .i64 t, .int .i64 r, .int .i64 g] 40)).drew from ((Below.refl _ _).alloc (Nat.le_refl _) _).drew)
      have HRD := Lib.hid (show Rd (wr.alloc (.cells #[.int .i64 t, .int .i64 r, .int .i64 g] 40)).drew (some ⟨wr.heap.size, 0, none⟩) (itCells [((t, r), g)]) from rd_one wr ((t, r), g) 40)
      go_wp2
      refine wp_region_held_drew (S := Bel w) (by kernel_rfl) (Below.drew HB.out) (fun hS => ?_)
      refine wpAnyH_take (i := 0) (v := ?_) rfl (by kernel_rfl) (by kernel_rfl) (by kernel_rfl) (fun _ _ _ h => h) (Or.inl ⟨by kernel_rfl, ?_⟩) hS ?_
      rotate_left
      · intro W hSW
        go_simp
        all_goals with_reducible rfl
      refine wpAnyH_take (i := 1) (v := ?_) rfl (by kernel_rfl) (by kernel_rfl) (by kernel_rfl) (fun _ _ _ h => h) (Or.inl ⟨by kernel_rfl, ?_⟩) hS ?_
      rotate_left
      · intro W hSW
        go_simp
        all_goals with_reducible rfl
      refine wpAnyH_take (i := 2) (v := ?_) rfl (by kernel_rfl) (by kernel_rfl) (by kernel_rfl) (fun _ _ _ h => h) (Or.inl ⟨by kernel_rfl, ?_⟩) hS ?_
      rotate_left
      · intro W hSW
        go_simp
        all_goals with_reducible rfl
      refine wpAnyH_take (i := 3) (v := ?_) rfl (by kernel_rfl) (by kernel_rfl) (by kernel_rfl) (fun _ _ _ h => h) (Or.inl ⟨by kernel_rfl, ?_⟩) hS ?_
      rotate_left
      · intro W hSW
        go_simp
        all_goals with_reducible rfl
      refine wpAnyH_take (i := 4) (v := ?_) rfl (by kernel_rfl) (by kernel_rfl) (by kernel_rfl) (fun _ _ _ h => h) (Or.inl ⟨by kernel_rfl, ?_⟩) hS ?_
      rotate_left
      · intro W hSW
        go_simp
        all_goals with_reducible rfl
      refine wpAnyH_take (i := 5) (v := ?_) rfl (by kernel_rfl) (by kernel_rfl) (by kernel_rfl) (fun _ _ _ h => h) (Or.inl ⟨by kernel_rfl, ?_⟩) hS ?_
      rotate_left
      · intro W hSW
        have x0' := hSW.get x0
        have x1' := hSW.get x1
        go_simp
        all_goals with_reducible rfl
      refine wpAnyH_take (i := 6) (v := ?_) rfl (by kernel_rfl) (by kernel_rfl) (by kernel_rfl) (fun _ _ _ h => h) (Or.inl ⟨by kernel_rfl, ?_⟩) hS ?_
      rotate_left
      · intro W hSW
        go_simp
        all_goals with_reducible rfl
      refine wpAnyH_take (i := 7) (v := ?_) rfl (by kernel_rfl) (by kernel_rfl) (by kernel_rfl) (fun _ _ _ h => h) (Or.inl ⟨by kernel_rfl, ?_⟩) hS ?_
      rotate_left
      · intro W hSW
        go_simp
        all_goals with_reducible rfl
      refine wpAnyH_take (i := 8) (v := ?_) rfl (by kernel_rfl) (by kernel_rfl) (by kernel_rfl) (fun _ _ _ h => h) (Or.inl ⟨by kernel_rfl, ?_⟩) hS ?_
      rotate_left
      · intro W hSW
        go_simp
        all_goals with_reducible rfl
      refine wpAnyH_take (i := 9) (v := ?_) rfl (by kernel_rfl) (by kernel_rfl) (by kernel_rfl) (fun _ _ _ h => h) (Or.inl ⟨by kernel_rfl, ?_⟩) hS ?_
      rotate_left
      · intro W hSW
        go_simp
        all_goals with_reducible rfl
      refine wpAnyH_take (i := 10) (v := ?_) rfl (by kernel_rfl) (by kernel_rfl) (by kernel_rfl) (fun _ _ _ h => h) (Or.inl ⟨by kernel_rfl, ?_⟩) hS ?_
      rotate_left
      · intro W hSW
        have x2' := hSW.get x2
        go_simp
        all_goals with_reducible rfl
      refine wpAnyH_take (i := 11) (v := ?_) rfl (by kernel_rfl) (by kernel_rfl) (by kernel_rfl) (fun _ _ _ h => h) (Or.inl ⟨by kernel_rfl, ?_⟩) hS ?_
      rotate_left
      · intro W hSW
        go_simp
        all_goals with_reducible rfl
      refine wpAnyH_ready (rs := [12]) (by kernel_rfl) (by simp) ?_
      refine AllReadyH.cons rfl (fun K hK => ?_) AllReadyH.nil
      go_simp
      refine hK.out _ _ (hS.trans ((Below.refl _ _).alloc (Nat.le_refl _) _)) (fun hS => ?_)
      clear hK K
      refine wpAnyH_ready (rs := [13]) (by kernel_rfl) (by simp) ?_
      refine AllReadyH.cons rfl (fun K hK => ?_) AllReadyH.nil
      refine step_append_k (by kernel_rfl) _ _ 27 rfl w.heap.size 40 i0 _ 3 24 Try.underlying27 hi hz0 hz1 (by decide) hz2 (by decide) rfl _ k (itCells (l.take k)) rfl ((Turns.of_below (F := fun _ => False) HAL.out).own HO.out (fun _ _ h => h)) _ 1 1 (itCells [((t, r), g)]) rfl rfl HRD.out (fun e => by cases e) itCells_one (by omega) (Below.size hS) ?_
      intro p2 c2 w2 ho2 hg2 _
      have HB2 := Lib.hid (Below.grown hS hg2 (Below.size hS) (fun j hj => (World.ownsRow.lt HO.out j hj).1))
      have HO2 := Lib.hid ho2
      clear ho2 hg2
      refine hK.out _ _ HB2.out (fun hS => ?_)
      clear hK K hS
      refine wpAnyH_take (i := 14) (v := ?_) rfl (by kernel_rfl) (by kernel_rfl) (by kernel_rfl) (fun _ _ _ h => h) (Or.inl ⟨by kernel_rfl, ?_⟩) HB2.out ?_
      rotate_left
      · intro W hSW
        go_simp
        all_goals with_reducible rfl
      refine wpAnyH_done (by kernel_rfl) ?_ _
      go_simp
      go_wp2
      go_roundw
      case rel => exact ⟨k + 1, p2, c2, by omega, by go_num, rfl, by have h := HO2.out; rw [← itCells_append] at h; rw [HTK.out]; exact h, HB2.out⟩
      case measure => simp [intOf]; omega
    · obtain rfl : k = l.length := by omega
      rw [List.take_length] at HO
      go_wp2
      go_ret
      exact ⟨p', c', rfl, HO.out, HB.out⟩

end Go.Proofs.Ytmenlfgfhnnmgaa
