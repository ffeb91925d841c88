/-
  The law VectorBack, walked.
  No conditions.
-/
import Derived.Test.YtcmjjkkbocekbaaVTk
import Derived.Test.YtcmjjkkbocekbaaVe6
import Derived.Test.YtcmjjkkbocekbaaRows2
import Derived.Test.YtcmjjkkbocekbaaVYes
import Derived.Deep.DeepCutAuto
namespace Go.Proofs.Ytcmjjkkbocekbaa
open Go.RowKit

theorem uptoR_most {l m : List UInt8} {n : Nat} {most : Int} (h : uptoR l 281474976710655 = (n, m, 0)) (hm : (n : Int) ≤ most) : uptoR l most = (n, m, 0) := by
  unfold uptoR at h ⊢
  by_cases h1 : (numR l 281474976710655).2.2 ≠ 0
  · rw [if_pos h1] at h; simp only [Prod.mk.injEq] at h; exact absurd h.2.2 h1
  · rw [if_neg h1] at h ⊢
    by_cases h2 : (281474976710655 : Int) < ((numR l 281474976710655).1 : Int)
    · rw [if_pos h2] at h; simp at h
    · rw [if_neg h2] at h
      simp only [Prod.mk.injEq] at h
      rw [if_neg (by omega)]
      simp [h]
/-- the bytes of d numbers from k on -/
def tailB (a : Nat → Int) : Nat → Nat → List UInt8
  | _, 0 => []
  | k, d + 1 => Wm.numB (a k).toNat ++ tailB a (k + 1) d
theorem body_tail (a : Nat → Int) (d : Nat) : ∀ k, bodyB a (k + d) = bodyB a k ++ tailB a k d := by
  induction d with
  | zero => intro k; simp [tailB]
  | succ d ih =>
    intro k
    rw [show k + (d + 1) = (k + 1) + d by omega, ih (k + 1), bodyB, tailB, List.append_assoc]
theorem usedTo_congr {a b : Nat → Int} (k : Nat) (h : ∀ i, i < k → a i = b i) : usedTo a k = usedTo b k := by
  induction k with
  | zero => rfl
  | succ k ih => rw [usedTo, usedTo, h k (by omega), ih fun i hi => h i (by omega)]
theorem takeS_back {a : Nat → Int} (hr : vRight a = true) (n : Nat) (hn : n ≤ 16) (more : List UInt8) : ∀ k, k ≤ n → takeS (bodyB a n ++ more) 0 k = (fun j => if j < k then a j else 0, tailB a k (n - k) ++ more, 0) := by
  intro k
  induction k with
  | zero =>
    intro _
    have := body_tail a n 0
    rw [Nat.zero_add] at this
    rw [takeS, this]
    simp [bodyB]
  | succ k ih =>
    intro hk
    have ihk := ih (by omega)
    rw [takeS_ok (by rw [ihk]), ihk]
    have e : n - k = (n - (k + 1)) + 1 := by omega
    have hb := vRight_iff.1 hr k (by omega)
    have hu : uptoR (tailB a k (n - k) ++ more) 512 = ((a k).toNat, tailB a (k + 1) (n - (k + 1)) ++ more, 0) := by
      rw [e, tailB, List.append_assoc]
      exact uptoR_most (uptoR_back _ _ (by omega)) (by omega)
    simp only [hu]
    rw [Prod.mk.injEq]
    refine ⟨funext fun j => ?_, rfl⟩
    by_cases e1 : j = k
    · subst e1; simp; omega
    · have e2 : (j < k + 1) = (j < k) := by simp only [eq_iff_iff]; omega
      simp [e1, e2]
theorem takeV_back {a : Nat → Int} (hr : vRight a = true) (more : List UInt8) : ∃ v, takeV (vBytes a ++ more) = (v, more, 0) ∧ ∀ i, i < 16 → v i = a i := by
  have hu := usedF_le a
  have h1 : uptoR (vBytes a ++ more) 16 = (usedF a, bodyB a (usedF a) ++ more, 0) := by
    rw [vBytes, List.append_assoc]
    exact uptoR_most (uptoR_back _ _ (by omega)) (by omega)
  have h2 := takeS_back hr (usedF a) hu more (usedF a) (Nat.le_refl _)
  have hv : ∀ i, i < 16 → (if i < usedF a then a i else 0) = a i := fun i hi => by
    by_cases e : i < usedF a
    · rw [if_pos e]
    · rw [if_neg e]; exact (usedTo_ge a 16 i (by unfold usedF at e; omega) hi).symm
  refine ⟨fun j => if j < usedF a then a j else 0, ?_, hv⟩
  rw [takeV, h1]
  dsimp only
  rw [h2, Nat.sub_self]
  unfold takeE
  rw [if_neg (by simp), if_pos]
  · rfl
  · exact usedTo_congr 16 hv

set_option maxRecDepth 100000 in
set_option maxHeartbeats 4000000 in
theorem back_bad (a : Nat → Int) (w : World) (hr : vRight a = false) : Calls Try.prog 4 #[.agg (vecA a)] w (Yes w) := by
  have V1 := VAt.new w a 23
  have HB0 := Lib.hid ((Below.refl w.heap.size w).alloc (Nat.le_refl _) (.cells (vecA a) 23))
  have HP := Lib.hid (fun W => put_any a W)
  have HRT := Lib.hid (fun W => right_any a W)
  rw [hr] at HRT
  rw [show vPut a = ([], 1) from by unfold vPut; rw [if_neg (by simp [hr])]] at HP
  clear hr
  go_enter Try.func4, Try.ntmps4
  go_upto_region 1 with (fail)
  obtain ⟨wx, hwx⟩ : ∃ wx : World, wx = w.alloc (.cells (vecA a) 23) := ⟨_, rfl⟩
  rw [← hwx] at HB0 V1 ⊢
  clear hwx
  go_wp2_with (first | (refine wpList_load_vec vtR rfl _ rfl _ rfl _ (by assumption) ?_) | (refine wpList_store_new vtP rfl _ _ rfl rfl a rfl ?_; intro wn hvn hbn; have HB1 := Lib.hid (HB0.out.trans (hbn.mono HB0.out.size)); have X1 := hvn; clear V1) | (refine wpList_load_vec vtP rfl _ rfl _ rfl _ (by assumption) ?_))
  refine (HP.out _).mono ?_
  rintro e w2 ⟨v2, rfl, hown, hb2⟩
  try dsimp only at hown
  have HB2 := Lib.hid (HB1.out.trans (hb2.mono HB1.out.size))
  have HX := Lib.hid (X1.kept hb2)
  have HOW := Lib.hid hown
  clear hb2 X1
  obtain ⟨p2, c2, rfl, -⟩ := hown.bs
  clear hown
  have X1 := HX.out
  go_wp2_with fail
  refine (lawnum_any _ _).mono ?_
  rintro e w' ⟨rfl, rfl⟩
  go_wp2_with (refine wpList_load_vec vtP rfl _ rfl _ rfl _ (by assumption) ?_)
  refine (HRT.out _).mono ?_
  rintro e w3 ⟨rfl, hb3⟩
  have HB3 := Lib.hid (HB2.out.trans (hb3.mono HB2.out.size))
  clear hb3 X1
  go_wp2_with fail
  refine (vknows_any _).mono ?_
  rintro e w4 ⟨rfl, hb4⟩
  have HB4 := Lib.hid (HB3.out.trans (hb4.mono HB3.out.size))
  clear hb4
  go_wp2
  go_ret
  exact ⟨rfl, HB4.out⟩

set_option maxRecDepth 100000 in
set_option maxHeartbeats 4000000 in
theorem back_good (a : Nat → Int) (w : World) (hr : vRight a = true) : Calls Try.prog 4 #[.agg (vecA a)] w (Yes w) := by
  have V1 := VAt.new w a 23
  have HB0 := Lib.hid ((Below.refl w.heap.size w).alloc (Nat.le_refl _) (.cells (vecA a) 23))
  have HP := Lib.hid (fun W => put_any a W)
  obtain ⟨v, hv0, hveq⟩ := takeV_back hr []
  rw [List.append_nil] at hv0
  have HTB := Lib.hid hv0
  have HEQ := Lib.hid (eqv_iff.2 hveq)
  have HLN := Lib.hid (show (vBytes a).length ≤ 140737488355328 from by
    have h1 := bodyB_len a (usedF a)
    have h2 := numB_small (usedF a)
    have h3 := usedF_le a
    rw [vBytes, List.length_append]; omega)
  rw [show vPut a = (vBytes a, 0) from by unfold vPut; rw [if_pos hr]] at HP
  clear hr hv0 hveq
  go_enter Try.func4, Try.ntmps4
  go_upto_region 1 with (fail)
  obtain ⟨wx, hwx⟩ : ∃ wx : World, wx = w.alloc (.cells (vecA a) 23) := ⟨_, rfl⟩
  rw [← hwx] at HB0 V1 ⊢
  clear hwx
  go_wp2_with (first | (refine wpList_load_vec vtR rfl _ rfl _ rfl _ (by assumption) ?_) | (refine wpList_store_new vtP rfl _ _ rfl rfl a rfl ?_; intro wn hvn hbn; have HB1 := Lib.hid (HB0.out.trans (hbn.mono HB0.out.size)); have X1 := hvn; clear V1) | (refine wpList_load_vec vtP rfl _ rfl _ rfl _ (by assumption) ?_))
  refine (HP.out _).mono ?_
  rintro e w2 ⟨v2, rfl, hown, hb2⟩
  try dsimp only at hown
  have HB2 := Lib.hid (HB1.out.trans (hb2.mono HB1.out.size))
  have HX := Lib.hid (X1.kept hb2)
  have HOW := Lib.hid hown
  clear hb2 X1
  obtain ⟨p2, c2, rfl, hbs, -, -, hpn, -⟩ := hown.bs
  have HOP := Lib.hid (open_any p2 c2 (vBytes a) w2 hbs HLN.out)
  have HPN := Lib.hid (show p2 = none → c2 = 0 ∧ vBytes a = [] from fun hp => by
    obtain ⟨b', o', e, -⟩ := hbs (by rw [vBytes, List.length_append, Wm.numB_length]; omega)
    rw [hp] at e; cases e)
  clear hown hbs hpn
  go_wp2_with fail
  refine (lawnum_any _ _).mono ?_
  rintro e w' ⟨rfl, rfl⟩
  go_wp2_with fail
  refine (HOP.out HPN.out).mono ?_
  rintro e w3 ⟨bR, rfl, hrd, hb3⟩
  have HRD := Lib.hid (hrd.kept ((Below.refl _ _).drew))
  have HRB := Lib.hid hrd.1
  have HS0 := Lib.hid (show Bel w2 w3.drew from Below.drew hb3)
  clear hrd hb3
  go_wp2
  refine wp_region_held_drew (S := Bel w2) (by kernel_rfl) (HS0.out) (fun hS => ?_)
  refine wpAnyH_take (i := 0) (v := ?_) rfl (by kernel_rfl) (by kernel_rfl) (by kernel_rfl) (fun _ _ _ h => h) (Or.inl ⟨by kernel_rfl, ?_⟩) hS ?_
  rotate_left
  · intro W hSW
    go_simp
    all_goals with_reducible rfl
  refine wpAnyH_take (i := 2) (v := .agg (vecA _)) rfl (by kernel_rfl) (by kernel_rfl) (by kernel_rfl) (fun _ _ _ h => h) (Or.inl ⟨by kernel_rfl, fun W hSW => exec_load_vec vtP rfl rfl (HX.out.bel hSW)⟩) hS ?_
  refine wpAnyH_ready (rs := [1]) (by kernel_rfl) (by simp) ?_
  refine AllReadyH.cons rfl (fun K hK => ?_) AllReadyH.nil
  go_simp
  go_wp2_with ((go_at_call 12; refine (take_any w2.heap.size bR (vBytes a) _ HRD.out).mono ?_; rintro e wt ⟨rfl, hrT, hoT⟩))
  rw [HTB.out] at hrT ⊢
  have HRT := Lib.hid hrT
  refine hK.out _ _ (hoT.below hS HRB.out (by have := Below.size hS; exact this)) (fun hS => ?_)
  clear hK K hrT hoT
  refine wpAnyH_take (i := 3) (v := ?_) rfl (by kernel_rfl) (by kernel_rfl) (by kernel_rfl) (fun _ _ _ h => h) (Or.inl ⟨by kernel_rfl, ?_⟩) hS ?_
  rotate_left
  · intro W hSW
    have hEq := vtP.eq W v a
    rw [HEQ.out] at hEq
    go_simp
    all_goals with_reducible rfl
  refine wpAnyH_take (i := 4) (v := ?_) rfl (by kernel_rfl) (by kernel_rfl) (by kernel_rfl) (fun _ _ _ h => h) (Or.inl ⟨by kernel_rfl, ?_⟩) hS ?_
  rotate_left
  · intro W hSW
    go_simp
    all_goals with_reducible rfl
  refine wpAnyH_take (i := 5) (v := ?_) rfl (by kernel_rfl) (by kernel_rfl) (by kernel_rfl) (fun _ _ _ h => h) (Or.inl ⟨by kernel_rfl, ?_⟩) hS ?_
  rotate_left
  · intro W hSW
    go_simp
    all_goals with_reducible rfl
  refine wpAnyH_ready (rs := [6]) (by kernel_rfl) (by simp) ?_
  refine AllReadyH.cons rfl (fun K hK => ?_) AllReadyH.nil
  go_simp
  go_wp2_with ((go_at_call 30; refine (done_any w2.heap.size bR [] 0 _ HRT.out).mono ?_; rintro e wd ⟨rfl, rfl⟩))
  refine hK.out _ _ hS (fun hS => ?_)
  clear hK K
  refine wpAnyH_ready (rs := [7]) (by kernel_rfl) (by simp) ?_
  refine AllReadyH.cons rfl (fun K hK => ?_) AllReadyH.nil
  go_simp
  go_wp2_with ((go_at_call 7; refine (lawnum_any _ _).mono ?_; rintro e wd ⟨rfl, rfl⟩))
  refine hK.out _ _ hS (fun hS => ?_)
  clear hK K
  refine wpAnyH_take (i := 8) (v := ?_) rfl (by kernel_rfl) (by kernel_rfl) (by kernel_rfl) (fun _ _ _ h => h) (Or.inl ⟨by kernel_rfl, ?_⟩) hS ?_
  rotate_left
  · intro W hSW
    go_simp
    all_goals with_reducible rfl
  refine wpAnyH_take (i := 9) (v := ?_) rfl (by kernel_rfl) (by kernel_rfl) (by kernel_rfl) (fun _ _ _ h => h) (Or.inl ⟨by kernel_rfl, ?_⟩) hS ?_
  rotate_left
  · intro W hSW
    go_simp
    all_goals with_reducible rfl
  refine wpAnyH_take (i := 10) (v := ?_) rfl (by kernel_rfl) (by kernel_rfl) (by kernel_rfl) (fun _ _ _ h => h) (Or.inl ⟨by kernel_rfl, ?_⟩) hS ?_
  rotate_left
  · intro W hSW
    go_simp
    all_goals with_reducible rfl
  refine wpAnyH_ready (rs := [11]) (by kernel_rfl) (by simp) ?_
  refine AllReadyH.cons rfl (fun K hK => ?_) AllReadyH.nil
  go_simp
  go_wp2_with ((go_at_call 29; refine (vknows_any _).mono ?_; rintro e wn ⟨rfl, hbn⟩))
  refine hK.out _ _ (hS.trans hbn) (fun hS => ?_)
  clear hK K
  refine wpAnyH_take (i := 12) (v := ?_) rfl (by kernel_rfl) (by kernel_rfl) (by kernel_rfl) (fun _ _ _ h => h) (Or.inl ⟨by kernel_rfl, ?_⟩) hS ?_
  rotate_left
  · intro W hSW
    go_simp
    all_goals with_reducible rfl
  refine wpAnyH_take (i := 13) (v := ?_) rfl (by kernel_rfl) (by kernel_rfl) (by kernel_rfl) (fun _ _ _ h => h) (Or.inl ⟨by kernel_rfl, ?_⟩) hS ?_
  rotate_left
  · intro W hSW
    go_simp
    all_goals with_reducible rfl
  refine wpAnyH_done (by kernel_rfl) ?_ _
  have HE := Lib.hid (HB2.out.trans (Below.mono hS HB2.out.size))
  go_wp2
  go_ret
  exact ⟨rfl, HE.out⟩

theorem vectorBack_walk (a : Nat → Int) (w : World) : Calls Try.prog 4 #[.agg (vecA a)] w (Yes w) := by
  rcases Bool.eq_false_or_eq_true (vRight a) with h | h
  · exact back_good a w h
  · exact back_bad a w h
end Go.Proofs.Ytcmjjkkbocekbaa
