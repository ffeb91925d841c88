/-
  THE DOCUMENT's Right over ops: the same answer as the program's.
  No conditions but sizes.
-/
import Derived.Test.YtcenmkcencdlcaaRoRightA
namespace Go.Proofs.Ytcenmkcencdlcaa
open Go.RowKit

set_option maxRecDepth 100000 in
set_option maxHeartbeats 4000000 in
theorem rright4_any (x : Opp) (q : Option Addr) (c : Nat) (w : World) (hs : Sz x) (ha : Pa w x q c) (hk : x.k = 4) : Calls Try.prog 34 #[.agg (opA x q c)] w fun e w' => e = .returned (.bool (rightO x)) ∧ Below w.heap.size w w' := by
  have HX := Lib.hid (OpAt.new w x q c 38)
  have HB := Lib.hid ((Below.refl w.heap.size w).alloc (Nat.le_refl _) (.cells (opA x q c) 38))
  have HA := Lib.hid (ha.kept HB.out)
  have HSK := Lib.hid (show x.key.size ≤ 140737488355328 from hs.key)
  have HSV := Lib.hid (show x.vt.size ≤ 4611686018427387904 from hs.val)
  have HSP := Lib.hid (show x.path.length ≤ 4611686018427387904 from hs.path)
  clear ha hs
  have HK := Lib.hid hk
  have HNA := Lib.hid (fun W => rnamed4_any x q c W hk)
  have HEX := Lib.hid (fun h => fit4_expr (x := x) hk h)
  have HNO := Lib.hid (fun h => fit4_no (x := x) hk h)
  have HSM := Lib.hid (fun W (hp : Pa W x q c) => rsame_any ({ Opp.zero with k := 4, nt := x.nt, nr := x.nr, on := x.on } : Opp) x none q 0 c W (Nat.zero_le _) (Pa.none _ _ rfl) hp)
  clear hk
  generalize hss : sameO ({ Opp.zero with k := 4, nt := x.nt, nr := x.nr, on := x.on } : Opp) x = ss at *
  clear hss
  cases ss with
  | false =>
    have HR := Lib.hid (HNO.out rfl)
    go_enter Try.func34, Try.ntmps34
    go_upto_region 1 with fail
    refine wp_region_held_drew (S := Bel (w.alloc (.cells (opA x q c) 38))) (by kernel_rfl) (Bel.start (w.alloc (.cells (opA x q c) 38))) (fun hS => ?_)
    refine wpAnyH_take (i := 0) (v := .agg (opA _ _ _)) rfl (by kernel_rfl) (by kernel_rfl) (by kernel_rfl) (fun _ _ _ h => h) (Or.inl ⟨by kernel_rfl, fun W hSW => exec_load_op otR rfl rfl (HX.out.bel hSW)⟩) hS ?_
    refine wpAnyH_take (i := 2) (v := .agg (opA _ _ _)) rfl (by kernel_rfl) (by kernel_rfl) (by kernel_rfl) (fun _ _ _ h => h) (Or.inl ⟨by kernel_rfl, fun W hSW => exec_load_op otR rfl rfl (HX.out.bel hSW)⟩) hS ?_
    refine wpAnyH_ready (rs := [1]) (by kernel_rfl) (by simp) ?_
    refine AllReadyH.cons rfl (fun K hK => ?_) AllReadyH.nil
    go_simp
    go_wp2_with ((go_at_call 52; refine (HNA.out _).mono ?_; rintro e wn ⟨rfl, hbn⟩))
    refine hK.out _ _ (hS.trans hbn) (fun hS => ?_)
    clear hK K
    refine wpAnyH_ready (rs := [3]) (by kernel_rfl) (by simp) ?_
    refine AllReadyH.cons rfl (fun K hK => ?_) AllReadyH.nil
    go_simp
    go_wp2_with ((go_at_call 51; refine (HSM.out _ (HA.out.bel hS)).mono ?_; rintro e wn ⟨rfl, hbn⟩))
    refine hK.out _ _ (hS.trans hbn) (fun hS => ?_)
    clear hK K
    refine wpAnyH_take (i := 4) (v := ?_) rfl (by kernel_rfl) (by kernel_rfl) (by kernel_rfl) (fun _ _ _ h => h) (Or.inl ⟨by kernel_rfl, ?_⟩) hS ?_
    rotate_left
    · intro W hSW
      go_simp
      all_goals with_reducible rfl
    go_simp
    have HS := Lib.hid hS
    refine wpAnyH_done (by kernel_rfl) ?_ _
    go_wp2
    go_ret
    exact ⟨ret_b HR.out.symm, HB.out.trans (Below.mono HS.out HB.out.size)⟩
  | true =>
    have HE := Lib.hid (HEX.out rfl)
    clear HEX HNO
    go_enter Try.func34, Try.ntmps34
    go_upto_region 1 with fail
    refine wp_region_held_drew (S := Bel (w.alloc (.cells (opA x q c) 38))) (by kernel_rfl) (Bel.start (w.alloc (.cells (opA x q c) 38))) (fun hS => ?_)
    refine wpAnyH_take (i := 0) (v := .agg (opA _ _ _)) rfl (by kernel_rfl) (by kernel_rfl) (by kernel_rfl) (fun _ _ _ h => h) (Or.inl ⟨by kernel_rfl, fun W hSW => exec_load_op otR rfl rfl (HX.out.bel hSW)⟩) hS ?_
    refine wpAnyH_take (i := 2) (v := .agg (opA _ _ _)) rfl (by kernel_rfl) (by kernel_rfl) (by kernel_rfl) (fun _ _ _ h => h) (Or.inl ⟨by kernel_rfl, fun W hSW => exec_load_op otR rfl rfl (HX.out.bel hSW)⟩) hS ?_
    refine wpAnyH_ready (rs := [1]) (by kernel_rfl) (by simp) ?_
    refine AllReadyH.cons rfl (fun K hK => ?_) AllReadyH.nil
    go_simp
    go_wp2_with ((go_at_call 52; refine (HNA.out _).mono ?_; rintro e wn ⟨rfl, hbn⟩))
    refine hK.out _ _ (hS.trans hbn) (fun hS => ?_)
    clear hK K
    refine wpAnyH_ready (rs := [3]) (by kernel_rfl) (by simp) ?_
    refine AllReadyH.cons rfl (fun K hK => ?_) AllReadyH.nil
    go_simp
    go_wp2_with ((go_at_call 51; refine (HSM.out _ (HA.out.bel hS)).mono ?_; rintro e wn ⟨rfl, hbn⟩))
    refine hK.out _ _ (hS.trans hbn) (fun hS => ?_)
    clear hK K
    refine wpAnyH_take (i := 4) (v := ?_) rfl (by kernel_rfl) (by kernel_rfl) (by kernel_rfl) (fun _ _ _ h => h) (Or.inl ⟨by kernel_rfl, ?_⟩) hS ?_
    rotate_left
    · intro W hSW
      go_simp
      all_goals with_reducible rfl
    go_simp
    have HS := Lib.hid hS
    refine wpAnyH_done (by kernel_rfl) ?_ _
    replace HX := Lib.hid (HX.out.bel HS.out)
    replace HA := Lib.hid (HA.out.bel HS.out)
    replace HB := Lib.hid (HB.out.trans (Below.mono HS.out HB.out.size))
    clear HS
    obtain ⟨x0, x1, x2, x3, x4, x5, x6, x7, x8, x9, x10, x11⟩ := HX.out.cells
    rw [HK.out] at x0
    cases hkey : Km.rightB x.key.data.toList with
    | false =>
      have HKK := Lib.hid hkey
      go_wp2_with fail
      refine (rkRight_any x.key _ HSK.out).mono ?_
      rw [HKK.out]
      rintro e w1 ⟨rfl, rfl⟩
      go_wp2_with fail
      refine (refVright8_any x.p x.vk x.vn x.vt _ HSV.out).mono ?_
      rintro e w3 ⟨rfl, hb3⟩
      replace HX := Lib.hid (HX.out.kept hb3)
      replace HA := Lib.hid (HA.out.kept hb3)
      replace HB := Lib.hid (HB.out.trans (hb3.mono HB.out.size))
      clear hb3
      clear x0 x1 x2 x3 x4 x5 x6 x7 x8 x9 x10 x11
      obtain ⟨x0, x1, x2, x3, x4, x5, x6, x7, x8, x9, x10, x11⟩ := HX.out.cells
      rw [HK.out] at x0
      go_wp2_with fail
      refine (rnode_any x.nt x.nr _).mono ?_
      cases hnd : okNode x.nt x.nr with
      | false =>
        have HND := Lib.hid hnd
        rintro e w4 ⟨rfl, hb4⟩
        replace HX := Lib.hid (HX.out.kept hb4)
        replace HA := Lib.hid (HA.out.kept hb4)
        replace HB := Lib.hid (HB.out.trans (hb4.mono HB.out.size))
        clear hb4
        have HR := Lib.hid (HE.out.trans (show _ = false from by rw [HND.out] <;> rfl))
        clear x0 x1 x2 x3 x4 x5 x6 x7 x8 x9 x10 x11
        obtain ⟨x0, x1, x2, x3, x4, x5, x6, x7, x8, x9, x10, x11⟩ := HX.out.cells
        rw [HK.out] at x0
        go_wp2
        go_ret
        exact ⟨ret_b HR.out.symm, HB.out⟩
      | true =>
        have HND := Lib.hid hnd
        rintro e w4 ⟨rfl, hb4⟩
        replace HX := Lib.hid (HX.out.kept hb4)
        replace HA := Lib.hid (HA.out.kept hb4)
        replace HB := Lib.hid (HB.out.trans (hb4.mono HB.out.size))
        clear hb4
        clear x0 x1 x2 x3 x4 x5 x6 x7 x8 x9 x10 x11
        obtain ⟨x0, x1, x2, x3, x4, x5, x6, x7, x8, x9, x10, x11⟩ := HX.out.cells
        rw [HK.out] at x0
        have HR := Lib.hid (HE.out.trans HND.out)
        go_wp2
        go_ret
        exact ⟨ret_b HR.out.symm, HB.out⟩
    | true =>
      have HKK := Lib.hid hkey
      go_wp2_with fail
      refine (rkRight_any x.key _ HSK.out).mono ?_
      rw [HKK.out]
      rintro e w1 ⟨rfl, rfl⟩
      go_wp2_with fail
      refine (rplace_any x.rt x.rr _).mono ?_
      rintro e w2 ⟨rfl, hb2⟩
      replace HX := Lib.hid (HX.out.kept hb2)
      replace HA := Lib.hid (HA.out.kept hb2)
      replace HB := Lib.hid (HB.out.trans (hb2.mono HB.out.size))
      clear hb2
      clear x0 x1 x2 x3 x4 x5 x6 x7 x8 x9 x10 x11
      obtain ⟨x0, x1, x2, x3, x4, x5, x6, x7, x8, x9, x10, x11⟩ := HX.out.cells
      rw [HK.out] at x0
      go_wp2_with fail
      refine (refVright8_any x.p x.vk x.vn x.vt _ HSV.out).mono ?_
      rintro e w3 ⟨rfl, hb3⟩
      replace HX := Lib.hid (HX.out.kept hb3)
      replace HA := Lib.hid (HA.out.kept hb3)
      replace HB := Lib.hid (HB.out.trans (hb3.mono HB.out.size))
      clear hb3
      clear x0 x1 x2 x3 x4 x5 x6 x7 x8 x9 x10 x11
      obtain ⟨x0, x1, x2, x3, x4, x5, x6, x7, x8, x9, x10, x11⟩ := HX.out.cells
      rw [HK.out] at x0
      go_wp2_with fail
      refine (rnode_any x.nt x.nr _).mono ?_
      cases hnd : okNode x.nt x.nr with
      | false =>
        have HND := Lib.hid hnd
        rintro e w4 ⟨rfl, hb4⟩
        replace HX := Lib.hid (HX.out.kept hb4)
        replace HA := Lib.hid (HA.out.kept hb4)
        replace HB := Lib.hid (HB.out.trans (hb4.mono HB.out.size))
        clear hb4
        have HR := Lib.hid (HE.out.trans (show _ = false from by rw [HND.out] <;> rfl))
        clear x0 x1 x2 x3 x4 x5 x6 x7 x8 x9 x10 x11
        obtain ⟨x0, x1, x2, x3, x4, x5, x6, x7, x8, x9, x10, x11⟩ := HX.out.cells
        rw [HK.out] at x0
        go_wp2
        go_ret
        exact ⟨ret_b HR.out.symm, HB.out⟩
      | true =>
        have HND := Lib.hid hnd
        rintro e w4 ⟨rfl, hb4⟩
        replace HX := Lib.hid (HX.out.kept hb4)
        replace HA := Lib.hid (HA.out.kept hb4)
        replace HB := Lib.hid (HB.out.trans (hb4.mono HB.out.size))
        clear hb4
        clear x0 x1 x2 x3 x4 x5 x6 x7 x8 x9 x10 x11
        obtain ⟨x0, x1, x2, x3, x4, x5, x6, x7, x8, x9, x10, x11⟩ := HX.out.cells
        rw [HK.out] at x0
        have HR := Lib.hid (HE.out.trans HND.out)
        go_wp2
        go_ret
        exact ⟨ret_b HR.out.symm, HB.out⟩
set_option maxRecDepth 100000 in
set_option maxHeartbeats 4000000 in
theorem rright5_any (x : Opp) (q : Option Addr) (c : Nat) (w : World) (hs : Sz x) (ha : Pa w x q c) (hk : x.k = 5) : Calls Try.prog 34 #[.agg (opA x q c)] w fun e w' => e = .returned (.bool (rightO x)) ∧ Below w.heap.size w w' := by
  have HX := Lib.hid (OpAt.new w x q c 38)
  have HB := Lib.hid ((Below.refl w.heap.size w).alloc (Nat.le_refl _) (.cells (opA x q c) 38))
  have HA := Lib.hid (ha.kept HB.out)
  have HSK := Lib.hid (show x.key.size ≤ 140737488355328 from hs.key)
  have HSV := Lib.hid (show x.vt.size ≤ 4611686018427387904 from hs.val)
  have HSP := Lib.hid (show x.path.length ≤ 4611686018427387904 from hs.path)
  clear ha hs
  have HK := Lib.hid hk
  have HNA := Lib.hid (fun W => rnamed5_any x q c W hk)
  have HEX := Lib.hid (fun h => fit5_expr (x := x) hk h)
  have HNO := Lib.hid (fun h => fit5_no (x := x) hk h)
  have HSM := Lib.hid (fun W (hp : Pa W x q c) => rsame_any ({ Opp.zero with k := 5, nt := x.nt, nr := x.nr, rt := x.rt, rr := x.rr } : Opp) x none q 0 c W (Nat.zero_le _) (Pa.none _ _ rfl) hp)
  clear hk
  generalize hss : sameO ({ Opp.zero with k := 5, nt := x.nt, nr := x.nr, rt := x.rt, rr := x.rr } : Opp) x = ss at *
  clear hss
  cases ss with
  | false =>
    have HR := Lib.hid (HNO.out rfl)
    go_enter Try.func34, Try.ntmps34
    go_upto_region 1 with fail
    refine wp_region_held_drew (S := Bel (w.alloc (.cells (opA x q c) 38))) (by kernel_rfl) (Bel.start (w.alloc (.cells (opA x q c) 38))) (fun hS => ?_)
    refine wpAnyH_take (i := 0) (v := .agg (opA _ _ _)) rfl (by kernel_rfl) (by kernel_rfl) (by kernel_rfl) (fun _ _ _ h => h) (Or.inl ⟨by kernel_rfl, fun W hSW => exec_load_op otR rfl rfl (HX.out.bel hSW)⟩) hS ?_
    refine wpAnyH_take (i := 2) (v := .agg (opA _ _ _)) rfl (by kernel_rfl) (by kernel_rfl) (by kernel_rfl) (fun _ _ _ h => h) (Or.inl ⟨by kernel_rfl, fun W hSW => exec_load_op otR rfl rfl (HX.out.bel hSW)⟩) hS ?_
    refine wpAnyH_ready (rs := [1]) (by kernel_rfl) (by simp) ?_
    refine AllReadyH.cons rfl (fun K hK => ?_) AllReadyH.nil
    go_simp
    go_wp2_with ((go_at_call 52; refine (HNA.out _).mono ?_; rintro e wn ⟨rfl, hbn⟩))
    refine hK.out _ _ (hS.trans hbn) (fun hS => ?_)
    clear hK K
    refine wpAnyH_ready (rs := [3]) (by kernel_rfl) (by simp) ?_
    refine AllReadyH.cons rfl (fun K hK => ?_) AllReadyH.nil
    go_simp
    go_wp2_with ((go_at_call 51; refine (HSM.out _ (HA.out.bel hS)).mono ?_; rintro e wn ⟨rfl, hbn⟩))
    refine hK.out _ _ (hS.trans hbn) (fun hS => ?_)
    clear hK K
    refine wpAnyH_take (i := 4) (v := ?_) rfl (by kernel_rfl) (by kernel_rfl) (by kernel_rfl) (fun _ _ _ h => h) (Or.inl ⟨by kernel_rfl, ?_⟩) hS ?_
    rotate_left
    · intro W hSW
      go_simp
      all_goals with_reducible rfl
    go_simp
    have HS := Lib.hid hS
    refine wpAnyH_done (by kernel_rfl) ?_ _
    go_wp2
    go_ret
    exact ⟨ret_b HR.out.symm, HB.out.trans (Below.mono HS.out HB.out.size)⟩
  | true =>
    have HE := Lib.hid (HEX.out rfl)
    clear HEX HNO
    go_enter Try.func34, Try.ntmps34
    go_upto_region 1 with fail
    refine wp_region_held_drew (S := Bel (w.alloc (.cells (opA x q c) 38))) (by kernel_rfl) (Bel.start (w.alloc (.cells (opA x q c) 38))) (fun hS => ?_)
    refine wpAnyH_take (i := 0) (v := .agg (opA _ _ _)) rfl (by kernel_rfl) (by kernel_rfl) (by kernel_rfl) (fun _ _ _ h => h) (Or.inl ⟨by kernel_rfl, fun W hSW => exec_load_op otR rfl rfl (HX.out.bel hSW)⟩) hS ?_
    refine wpAnyH_take (i := 2) (v := .agg (opA _ _ _)) rfl (by kernel_rfl) (by kernel_rfl) (by kernel_rfl) (fun _ _ _ h => h) (Or.inl ⟨by kernel_rfl, fun W hSW => exec_load_op otR rfl rfl (HX.out.bel hSW)⟩) hS ?_
    refine wpAnyH_ready (rs := [1]) (by kernel_rfl) (by simp) ?_
    refine AllReadyH.cons rfl (fun K hK => ?_) AllReadyH.nil
    go_simp
    go_wp2_with ((go_at_call 52; refine (HNA.out _).mono ?_; rintro e wn ⟨rfl, hbn⟩))
    refine hK.out _ _ (hS.trans hbn) (fun hS => ?_)
    clear hK K
    refine wpAnyH_ready (rs := [3]) (by kernel_rfl) (by simp) ?_
    refine AllReadyH.cons rfl (fun K hK => ?_) AllReadyH.nil
    go_simp
    go_wp2_with ((go_at_call 51; refine (HSM.out _ (HA.out.bel hS)).mono ?_; rintro e wn ⟨rfl, hbn⟩))
    refine hK.out _ _ (hS.trans hbn) (fun hS => ?_)
    clear hK K
    refine wpAnyH_take (i := 4) (v := ?_) rfl (by kernel_rfl) (by kernel_rfl) (by kernel_rfl) (fun _ _ _ h => h) (Or.inl ⟨by kernel_rfl, ?_⟩) hS ?_
    rotate_left
    · intro W hSW
      go_simp
      all_goals with_reducible rfl
    go_simp
    have HS := Lib.hid hS
    refine wpAnyH_done (by kernel_rfl) ?_ _
    replace HX := Lib.hid (HX.out.bel HS.out)
    replace HA := Lib.hid (HA.out.bel HS.out)
    replace HB := Lib.hid (HB.out.trans (Below.mono HS.out HB.out.size))
    clear HS
    obtain ⟨x0, x1, x2, x3, x4, x5, x6, x7, x8, x9, x10, x11⟩ := HX.out.cells
    rw [HK.out] at x0
    cases hkey : Km.rightB x.key.data.toList with
    | false =>
      have HKK := Lib.hid hkey
      go_wp2_with fail
      refine (rkRight_any x.key _ HSK.out).mono ?_
      rw [HKK.out]
      rintro e w1 ⟨rfl, rfl⟩
      go_wp2_with fail
      refine (refVright8_any x.p x.vk x.vn x.vt _ HSV.out).mono ?_
      rintro e w3 ⟨rfl, hb3⟩
      replace HX := Lib.hid (HX.out.kept hb3)
      replace HA := Lib.hid (HA.out.kept hb3)
      replace HB := Lib.hid (HB.out.trans (hb3.mono HB.out.size))
      clear hb3
      clear x0 x1 x2 x3 x4 x5 x6 x7 x8 x9 x10 x11
      obtain ⟨x0, x1, x2, x3, x4, x5, x6, x7, x8, x9, x10, x11⟩ := HX.out.cells
      rw [HK.out] at x0
      go_wp2_with fail
      refine (rnode_any x.nt x.nr _).mono ?_
      cases hnd : okNode x.nt x.nr with
      | false =>
        have HND := Lib.hid hnd
        rintro e w4 ⟨rfl, hb4⟩
        replace HX := Lib.hid (HX.out.kept hb4)
        replace HA := Lib.hid (HA.out.kept hb4)
        replace HB := Lib.hid (HB.out.trans (hb4.mono HB.out.size))
        clear hb4
        have HR := Lib.hid (HE.out.trans (show _ = false from by rw [HND.out] <;> rfl))
        clear x0 x1 x2 x3 x4 x5 x6 x7 x8 x9 x10 x11
        obtain ⟨x0, x1, x2, x3, x4, x5, x6, x7, x8, x9, x10, x11⟩ := HX.out.cells
        rw [HK.out] at x0
        go_wp2
        go_ret
        exact ⟨ret_b HR.out.symm, HB.out⟩
      | true =>
        have HND := Lib.hid hnd
        rintro e w4 ⟨rfl, hb4⟩
        replace HX := Lib.hid (HX.out.kept hb4)
        replace HA := Lib.hid (HA.out.kept hb4)
        replace HB := Lib.hid (HB.out.trans (hb4.mono HB.out.size))
        clear hb4
        clear x0 x1 x2 x3 x4 x5 x6 x7 x8 x9 x10 x11
        obtain ⟨x0, x1, x2, x3, x4, x5, x6, x7, x8, x9, x10, x11⟩ := HX.out.cells
        rw [HK.out] at x0
        go_wp2_with fail
        refine (rnode_any x.rt x.rr _).mono ?_
        cases hn2 : okNode x.rt x.rr with
        | true =>
          have HR := Lib.hid (HE.out.trans (show _ = true from by rw [HND.out, hn2] <;> rfl))
          rintro e w5 ⟨rfl, hb5⟩
          replace HX := Lib.hid (HX.out.kept hb5)
          replace HA := Lib.hid (HA.out.kept hb5)
          replace HB := Lib.hid (HB.out.trans (hb5.mono HB.out.size))
          clear hb5
          clear x0 x1 x2 x3 x4 x5 x6 x7 x8 x9 x10 x11
          obtain ⟨x0, x1, x2, x3, x4, x5, x6, x7, x8, x9, x10, x11⟩ := HX.out.cells
          rw [HK.out] at x0
          go_wp2
          go_ret
          exact ⟨ret_b HR.out.symm, HB.out⟩
        | false =>
          have HRZ := Lib.hid (HE.out.trans (show _ = isZ x.rt x.rr from by rw [HND.out, hn2] <;> rfl))
          rintro e w5 ⟨rfl, hb5⟩
          replace HX := Lib.hid (HX.out.kept hb5)
          replace HA := Lib.hid (HA.out.kept hb5)
          replace HB := Lib.hid (HB.out.trans (hb5.mono HB.out.size))
          clear hb5
          clear x0 x1 x2 x3 x4 x5 x6 x7 x8 x9 x10 x11
          obtain ⟨x0, x1, x2, x3, x4, x5, x6, x7, x8, x9, x10, x11⟩ := HX.out.cells
          rw [HK.out] at x0
          by_cases hz : x.rt = 0
          · rw [hz] at x3
            by_cases hy : x.rr = 0
            · have HR := Lib.hid (HRZ.out.trans (show _ = true from by unfold isZ; rw [hz, hy]; rfl))
              rw [hy] at x4
              clear hz hy
              go_wp2
              go_ret
              exact ⟨ret_b HR.out.symm, HB.out⟩
            · have y0 : (x.rr == 0) = false := by simpa using hy
              have HR := Lib.hid (HRZ.out.trans (show _ = false from by unfold isZ; rw [hz, y0]; rfl))
              clear hz hy
              go_wp2
              go_ret
              exact ⟨ret_b HR.out.symm, HB.out⟩
          · have z0 : (x.rt == 0) = false := by simpa using hz
            have HR := Lib.hid (HRZ.out.trans (show _ = false from by unfold isZ; rw [z0]; rfl))
            clear hz
            go_wp2
            go_ret
            exact ⟨ret_b HR.out.symm, HB.out⟩
    | true =>
      have HKK := Lib.hid hkey
      go_wp2_with fail
      refine (rkRight_any x.key _ HSK.out).mono ?_
      rw [HKK.out]
      rintro e w1 ⟨rfl, rfl⟩
      go_wp2_with fail
      refine (rplace_any x.rt x.rr _).mono ?_
      rintro e w2 ⟨rfl, hb2⟩
      replace HX := Lib.hid (HX.out.kept hb2)
      replace HA := Lib.hid (HA.out.kept hb2)
      replace HB := Lib.hid (HB.out.trans (hb2.mono HB.out.size))
      clear hb2
      clear x0 x1 x2 x3 x4 x5 x6 x7 x8 x9 x10 x11
      obtain ⟨x0, x1, x2, x3, x4, x5, x6, x7, x8, x9, x10, x11⟩ := HX.out.cells
      rw [HK.out] at x0
      go_wp2_with fail
      refine (refVright8_any x.p x.vk x.vn x.vt _ HSV.out).mono ?_
      rintro e w3 ⟨rfl, hb3⟩
      replace HX := Lib.hid (HX.out.kept hb3)
      replace HA := Lib.hid (HA.out.kept hb3)
      replace HB := Lib.hid (HB.out.trans (hb3.mono HB.out.size))
      clear hb3
      clear x0 x1 x2 x3 x4 x5 x6 x7 x8 x9 x10 x11
      obtain ⟨x0, x1, x2, x3, x4, x5, x6, x7, x8, x9, x10, x11⟩ := HX.out.cells
      rw [HK.out] at x0
      go_wp2_with fail
      refine (rnode_any x.nt x.nr _).mono ?_
      cases hnd : okNode x.nt x.nr with
      | false =>
        have HND := Lib.hid hnd
        rintro e w4 ⟨rfl, hb4⟩
        replace HX := Lib.hid (HX.out.kept hb4)
        replace HA := Lib.hid (HA.out.kept hb4)
        replace HB := Lib.hid (HB.out.trans (hb4.mono HB.out.size))
        clear hb4
        have HR := Lib.hid (HE.out.trans (show _ = false from by rw [HND.out] <;> rfl))
        clear x0 x1 x2 x3 x4 x5 x6 x7 x8 x9 x10 x11
        obtain ⟨x0, x1, x2, x3, x4, x5, x6, x7, x8, x9, x10, x11⟩ := HX.out.cells
        rw [HK.out] at x0
        go_wp2
        go_ret
        exact ⟨ret_b HR.out.symm, HB.out⟩
      | true =>
        have HND := Lib.hid hnd
        rintro e w4 ⟨rfl, hb4⟩
        replace HX := Lib.hid (HX.out.kept hb4)
        replace HA := Lib.hid (HA.out.kept hb4)
        replace HB := Lib.hid (HB.out.trans (hb4.mono HB.out.size))
        clear hb4
        clear x0 x1 x2 x3 x4 x5 x6 x7 x8 x9 x10 x11
        obtain ⟨x0, x1, x2, x3, x4, x5, x6, x7, x8, x9, x10, x11⟩ := HX.out.cells
        rw [HK.out] at x0
        go_wp2_with fail
        refine (rnode_any x.rt x.rr _).mono ?_
        cases hn2 : okNode x.rt x.rr with
        | true =>
          have HR := Lib.hid (HE.out.trans (show _ = true from by rw [HND.out, hn2] <;> rfl))
          rintro e w5 ⟨rfl, hb5⟩
          replace HX := Lib.hid (HX.out.kept hb5)
          replace HA := Lib.hid (HA.out.kept hb5)
          replace HB := Lib.hid (HB.out.trans (hb5.mono HB.out.size))
          clear hb5
          clear x0 x1 x2 x3 x4 x5 x6 x7 x8 x9 x10 x11
          obtain ⟨x0, x1, x2, x3, x4, x5, x6, x7, x8, x9, x10, x11⟩ := HX.out.cells
          rw [HK.out] at x0
          go_wp2
          go_ret
          exact ⟨ret_b HR.out.symm, HB.out⟩
        | false =>
          have HRZ := Lib.hid (HE.out.trans (show _ = isZ x.rt x.rr from by rw [HND.out, hn2] <;> rfl))
          rintro e w5 ⟨rfl, hb5⟩
          replace HX := Lib.hid (HX.out.kept hb5)
          replace HA := Lib.hid (HA.out.kept hb5)
          replace HB := Lib.hid (HB.out.trans (hb5.mono HB.out.size))
          clear hb5
          clear x0 x1 x2 x3 x4 x5 x6 x7 x8 x9 x10 x11
          obtain ⟨x0, x1, x2, x3, x4, x5, x6, x7, x8, x9, x10, x11⟩ := HX.out.cells
          rw [HK.out] at x0
          by_cases hz : x.rt = 0
          · rw [hz] at x3
            by_cases hy : x.rr = 0
            · have HR := Lib.hid (HRZ.out.trans (show _ = true from by unfold isZ; rw [hz, hy]; rfl))
              rw [hy] at x4
              clear hz hy
              go_wp2
              go_ret
              exact ⟨ret_b HR.out.symm, HB.out⟩
            · have y0 : (x.rr == 0) = false := by simpa using hy
              have HR := Lib.hid (HRZ.out.trans (show _ = false from by unfold isZ; rw [hz, y0]; rfl))
              clear hz hy
              go_wp2
              go_ret
              exact ⟨ret_b HR.out.symm, HB.out⟩
          · have z0 : (x.rt == 0) = false := by simpa using hz
            have HR := Lib.hid (HRZ.out.trans (show _ = false from by unfold isZ; rw [z0]; rfl))
            clear hz
            go_wp2
            go_ret
            exact ⟨ret_b HR.out.symm, HB.out⟩
set_option maxRecDepth 100000 in
set_option maxHeartbeats 4000000 in
theorem rright6_any (x : Opp) (q : Option Addr) (c : Nat) (w : World) (hs : Sz x) (ha : Pa w x q c) (hk : x.k = 6) : Calls Try.prog 34 #[.agg (opA x q c)] w fun e w' => e = .returned (.bool (rightO x)) ∧ Below w.heap.size w w' := by
  have HX := Lib.hid (OpAt.new w x q c 38)
  have HB := Lib.hid ((Below.refl w.heap.size w).alloc (Nat.le_refl _) (.cells (opA x q c) 38))
  have HA := Lib.hid (ha.kept HB.out)
  have HSK := Lib.hid (show x.key.size ≤ 140737488355328 from hs.key)
  have HSV := Lib.hid (show x.vt.size ≤ 4611686018427387904 from hs.val)
  have HSP := Lib.hid (show x.path.length ≤ 4611686018427387904 from hs.path)
  clear ha hs
  have HK := Lib.hid hk
  have HNA := Lib.hid (fun W => rnamed6_any x q c W hk)
  have HEX := Lib.hid (fun h => fit6_expr (x := x) hk h)
  have HNO := Lib.hid (fun h => fit6_no (x := x) hk h)
  have HSM := Lib.hid (fun W (hp : Pa W x q c) => rsame_any ({ Opp.zero with k := 6, nt := x.nt, nr := x.nr, path := x.path, p := x.p, vk := x.vk, vn := x.vn, vt := x.vt } : Opp) x q q c c W (by simpa using HSP.out) ⟨hp.rd, hp.nil, hp.cap⟩ hp)
  clear hk
  generalize hss : sameO ({ Opp.zero with k := 6, nt := x.nt, nr := x.nr, path := x.path, p := x.p, vk := x.vk, vn := x.vn, vt := x.vt } : Opp) x = ss at *
  clear hss
  cases ss with
  | false =>
    have HR := Lib.hid (HNO.out rfl)
    go_enter Try.func34, Try.ntmps34
    go_upto_region 1 with fail
    refine wp_region_held_drew (S := Bel (w.alloc (.cells (opA x q c) 38))) (by kernel_rfl) (Bel.start (w.alloc (.cells (opA x q c) 38))) (fun hS => ?_)
    refine wpAnyH_take (i := 0) (v := .agg (opA _ _ _)) rfl (by kernel_rfl) (by kernel_rfl) (by kernel_rfl) (fun _ _ _ h => h) (Or.inl ⟨by kernel_rfl, fun W hSW => exec_load_op otR rfl rfl (HX.out.bel hSW)⟩) hS ?_
    refine wpAnyH_take (i := 2) (v := .agg (opA _ _ _)) rfl (by kernel_rfl) (by kernel_rfl) (by kernel_rfl) (fun _ _ _ h => h) (Or.inl ⟨by kernel_rfl, fun W hSW => exec_load_op otR rfl rfl (HX.out.bel hSW)⟩) hS ?_
    refine wpAnyH_ready (rs := [1]) (by kernel_rfl) (by simp) ?_
    refine AllReadyH.cons rfl (fun K hK => ?_) AllReadyH.nil
    go_simp
    go_wp2_with ((go_at_call 52; refine (HNA.out _).mono ?_; rintro e wn ⟨rfl, hbn⟩))
    refine hK.out _ _ (hS.trans hbn) (fun hS => ?_)
    clear hK K
    refine wpAnyH_ready (rs := [3]) (by kernel_rfl) (by simp) ?_
    refine AllReadyH.cons rfl (fun K hK => ?_) AllReadyH.nil
    go_simp
    go_wp2_with ((go_at_call 51; refine (HSM.out _ (HA.out.bel hS)).mono ?_; rintro e wn ⟨rfl, hbn⟩))
    refine hK.out _ _ (hS.trans hbn) (fun hS => ?_)
    clear hK K
    refine wpAnyH_take (i := 4) (v := ?_) rfl (by kernel_rfl) (by kernel_rfl) (by kernel_rfl) (fun _ _ _ h => h) (Or.inl ⟨by kernel_rfl, ?_⟩) hS ?_
    rotate_left
    · intro W hSW
      go_simp
      all_goals with_reducible rfl
    go_simp
    have HS := Lib.hid hS
    refine wpAnyH_done (by kernel_rfl) ?_ _
    go_wp2
    go_ret
    exact ⟨ret_b HR.out.symm, HB.out.trans (Below.mono HS.out HB.out.size)⟩
  | true =>
    have HE := Lib.hid (HEX.out rfl)
    clear HEX HNO
    go_enter Try.func34, Try.ntmps34
    go_upto_region 1 with fail
    refine wp_region_held_drew (S := Bel (w.alloc (.cells (opA x q c) 38))) (by kernel_rfl) (Bel.start (w.alloc (.cells (opA x q c) 38))) (fun hS => ?_)
    refine wpAnyH_take (i := 0) (v := .agg (opA _ _ _)) rfl (by kernel_rfl) (by kernel_rfl) (by kernel_rfl) (fun _ _ _ h => h) (Or.inl ⟨by kernel_rfl, fun W hSW => exec_load_op otR rfl rfl (HX.out.bel hSW)⟩) hS ?_
    refine wpAnyH_take (i := 2) (v := .agg (opA _ _ _)) rfl (by kernel_rfl) (by kernel_rfl) (by kernel_rfl) (fun _ _ _ h => h) (Or.inl ⟨by kernel_rfl, fun W hSW => exec_load_op otR rfl rfl (HX.out.bel hSW)⟩) hS ?_
    refine wpAnyH_ready (rs := [1]) (by kernel_rfl) (by simp) ?_
    refine AllReadyH.cons rfl (fun K hK => ?_) AllReadyH.nil
    go_simp
    go_wp2_with ((go_at_call 52; refine (HNA.out _).mono ?_; rintro e wn ⟨rfl, hbn⟩))
    refine hK.out _ _ (hS.trans hbn) (fun hS => ?_)
    clear hK K
    refine wpAnyH_ready (rs := [3]) (by kernel_rfl) (by simp) ?_
    refine AllReadyH.cons rfl (fun K hK => ?_) AllReadyH.nil
    go_simp
    go_wp2_with ((go_at_call 51; refine (HSM.out _ (HA.out.bel hS)).mono ?_; rintro e wn ⟨rfl, hbn⟩))
    refine hK.out _ _ (hS.trans hbn) (fun hS => ?_)
    clear hK K
    refine wpAnyH_take (i := 4) (v := ?_) rfl (by kernel_rfl) (by kernel_rfl) (by kernel_rfl) (fun _ _ _ h => h) (Or.inl ⟨by kernel_rfl, ?_⟩) hS ?_
    rotate_left
    · intro W hSW
      go_simp
      all_goals with_reducible rfl
    go_simp
    have HS := Lib.hid hS
    refine wpAnyH_done (by kernel_rfl) ?_ _
    replace HX := Lib.hid (HX.out.bel HS.out)
    replace HA := Lib.hid (HA.out.bel HS.out)
    replace HB := Lib.hid (HB.out.trans (Below.mono HS.out HB.out.size))
    clear HS
    obtain ⟨x0, x1, x2, x3, x4, x5, x6, x7, x8, x9, x10, x11⟩ := HX.out.cells
    rw [HK.out] at x0
    cases hkey : Km.rightB x.key.data.toList with
    | false =>
      have HKK := Lib.hid hkey
      go_wp2_with fail
      refine (rkRight_any x.key _ HSK.out).mono ?_
      rw [HKK.out]
      rintro e w1 ⟨rfl, rfl⟩
      go_wp2_with fail
      refine (refVright8_any x.p x.vk x.vn x.vt _ HSV.out).mono ?_
      rintro e w3 ⟨rfl, hb3⟩
      replace HX := Lib.hid (HX.out.kept hb3)
      replace HA := Lib.hid (HA.out.kept hb3)
      replace HB := Lib.hid (HB.out.trans (hb3.mono HB.out.size))
      clear hb3
      clear x0 x1 x2 x3 x4 x5 x6 x7 x8 x9 x10 x11
      obtain ⟨x0, x1, x2, x3, x4, x5, x6, x7, x8, x9, x10, x11⟩ := HX.out.cells
      rw [HK.out] at x0
      go_wp2_with fail
      refine (rnode_any x.nt x.nr _).mono ?_
      cases hnd : okNode x.nt x.nr with
      | false =>
        have HND := Lib.hid hnd
        rintro e w4 ⟨rfl, hb4⟩
        replace HX := Lib.hid (HX.out.kept hb4)
        replace HA := Lib.hid (HA.out.kept hb4)
        replace HB := Lib.hid (HB.out.trans (hb4.mono HB.out.size))
        clear hb4
        have HR := Lib.hid (HE.out.trans (show _ = false from by rw [HND.out] <;> rfl))
        clear x0 x1 x2 x3 x4 x5 x6 x7 x8 x9 x10 x11
        obtain ⟨x0, x1, x2, x3, x4, x5, x6, x7, x8, x9, x10, x11⟩ := HX.out.cells
        rw [HK.out] at x0
        go_wp2
        go_ret
        exact ⟨ret_b HR.out.symm, HB.out⟩
      | true =>
        have HND := Lib.hid hnd
        rintro e w4 ⟨rfl, hb4⟩
        replace HX := Lib.hid (HX.out.kept hb4)
        replace HA := Lib.hid (HA.out.kept hb4)
        replace HB := Lib.hid (HB.out.trans (hb4.mono HB.out.size))
        clear hb4
        clear x0 x1 x2 x3 x4 x5 x6 x7 x8 x9 x10 x11
        obtain ⟨x0, x1, x2, x3, x4, x5, x6, x7, x8, x9, x10, x11⟩ := HX.out.cells
        rw [HK.out] at x0
        go_wp2_with fail
        refine (rpath_any q c x.path _ HA.out.rd HSP.out).mono ?_
        cases hn2 : okPath x.path with
        | false =>
          have HR := Lib.hid (HE.out.trans (show _ = false from by rw [HND.out, hn2] <;> rfl))
          rintro e w5 ⟨rfl, hb5⟩
          replace HX := Lib.hid (HX.out.kept hb5)
          replace HA := Lib.hid (HA.out.kept hb5)
          replace HB := Lib.hid (HB.out.trans (hb5.mono HB.out.size))
          clear hb5
          clear x0 x1 x2 x3 x4 x5 x6 x7 x8 x9 x10 x11
          obtain ⟨x0, x1, x2, x3, x4, x5, x6, x7, x8, x9, x10, x11⟩ := HX.out.cells
          rw [HK.out] at x0
          go_wp2
          go_ret
          exact ⟨ret_b HR.out.symm, HB.out⟩
        | true =>
          have HR := Lib.hid (HE.out.trans (show _ = right8V x.p x.vk x.vn x.vt.data.toList from by rw [HND.out, hn2] <;> rfl))
          rintro e w5 ⟨rfl, hb5⟩
          replace HX := Lib.hid (HX.out.kept hb5)
          replace HA := Lib.hid (HA.out.kept hb5)
          replace HB := Lib.hid (HB.out.trans (hb5.mono HB.out.size))
          clear hb5
          clear x0 x1 x2 x3 x4 x5 x6 x7 x8 x9 x10 x11
          obtain ⟨x0, x1, x2, x3, x4, x5, x6, x7, x8, x9, x10, x11⟩ := HX.out.cells
          rw [HK.out] at x0
          go_wp2
          go_ret
          exact ⟨ret_b HR.out.symm, HB.out⟩
    | true =>
      have HKK := Lib.hid hkey
      go_wp2_with fail
      refine (rkRight_any x.key _ HSK.out).mono ?_
      rw [HKK.out]
      rintro e w1 ⟨rfl, rfl⟩
      go_wp2_with fail
      refine (rplace_any x.rt x.rr _).mono ?_
      rintro e w2 ⟨rfl, hb2⟩
      replace HX := Lib.hid (HX.out.kept hb2)
      replace HA := Lib.hid (HA.out.kept hb2)
      replace HB := Lib.hid (HB.out.trans (hb2.mono HB.out.size))
      clear hb2
      clear x0 x1 x2 x3 x4 x5 x6 x7 x8 x9 x10 x11
      obtain ⟨x0, x1, x2, x3, x4, x5, x6, x7, x8, x9, x10, x11⟩ := HX.out.cells
      rw [HK.out] at x0
      go_wp2_with fail
      refine (refVright8_any x.p x.vk x.vn x.vt _ HSV.out).mono ?_
      rintro e w3 ⟨rfl, hb3⟩
      replace HX := Lib.hid (HX.out.kept hb3)
      replace HA := Lib.hid (HA.out.kept hb3)
      replace HB := Lib.hid (HB.out.trans (hb3.mono HB.out.size))
      clear hb3
      clear x0 x1 x2 x3 x4 x5 x6 x7 x8 x9 x10 x11
      obtain ⟨x0, x1, x2, x3, x4, x5, x6, x7, x8, x9, x10, x11⟩ := HX.out.cells
      rw [HK.out] at x0
      go_wp2_with fail
      refine (rnode_any x.nt x.nr _).mono ?_
      cases hnd : okNode x.nt x.nr with
      | false =>
        have HND := Lib.hid hnd
        rintro e w4 ⟨rfl, hb4⟩
        replace HX := Lib.hid (HX.out.kept hb4)
        replace HA := Lib.hid (HA.out.kept hb4)
        replace HB := Lib.hid (HB.out.trans (hb4.mono HB.out.size))
        clear hb4
        have HR := Lib.hid (HE.out.trans (show _ = false from by rw [HND.out] <;> rfl))
        clear x0 x1 x2 x3 x4 x5 x6 x7 x8 x9 x10 x11
        obtain ⟨x0, x1, x2, x3, x4, x5, x6, x7, x8, x9, x10, x11⟩ := HX.out.cells
        rw [HK.out] at x0
        go_wp2
        go_ret
        exact ⟨ret_b HR.out.symm, HB.out⟩
      | true =>
        have HND := Lib.hid hnd
        rintro e w4 ⟨rfl, hb4⟩
        replace HX := Lib.hid (HX.out.kept hb4)
        replace HA := Lib.hid (HA.out.kept hb4)
        replace HB := Lib.hid (HB.out.trans (hb4.mono HB.out.size))
        clear hb4
        clear x0 x1 x2 x3 x4 x5 x6 x7 x8 x9 x10 x11
        obtain ⟨x0, x1, x2, x3, x4, x5, x6, x7, x8, x9, x10, x11⟩ := HX.out.cells
        rw [HK.out] at x0
        go_wp2_with fail
        refine (rpath_any q c x.path _ HA.out.rd HSP.out).mono ?_
        cases hn2 : okPath x.path with
        | false =>
          have HR := Lib.hid (HE.out.trans (show _ = false from by rw [HND.out, hn2] <;> rfl))
          rintro e w5 ⟨rfl, hb5⟩
          replace HX := Lib.hid (HX.out.kept hb5)
          replace HA := Lib.hid (HA.out.kept hb5)
          replace HB := Lib.hid (HB.out.trans (hb5.mono HB.out.size))
          clear hb5
          clear x0 x1 x2 x3 x4 x5 x6 x7 x8 x9 x10 x11
          obtain ⟨x0, x1, x2, x3, x4, x5, x6, x7, x8, x9, x10, x11⟩ := HX.out.cells
          rw [HK.out] at x0
          go_wp2
          go_ret
          exact ⟨ret_b HR.out.symm, HB.out⟩
        | true =>
          have HR := Lib.hid (HE.out.trans (show _ = right8V x.p x.vk x.vn x.vt.data.toList from by rw [HND.out, hn2] <;> rfl))
          rintro e w5 ⟨rfl, hb5⟩
          replace HX := Lib.hid (HX.out.kept hb5)
          replace HA := Lib.hid (HA.out.kept hb5)
          replace HB := Lib.hid (HB.out.trans (hb5.mono HB.out.size))
          clear hb5
          clear x0 x1 x2 x3 x4 x5 x6 x7 x8 x9 x10 x11
          obtain ⟨x0, x1, x2, x3, x4, x5, x6, x7, x8, x9, x10, x11⟩ := HX.out.cells
          rw [HK.out] at x0
          go_wp2
          go_ret
          exact ⟨ret_b HR.out.symm, HB.out⟩
set_option maxRecDepth 100000 in
set_option maxHeartbeats 4000000 in
theorem rrightN_any (x : Opp) (q : Option Addr) (c : Nat) (w : World) (hs : Sz x) (ha : Pa w x q c) (h1 : x.k ≠ 1) (h2 : x.k ≠ 2) (h3 : x.k ≠ 3) (h4 : x.k ≠ 4) (h5 : x.k ≠ 5) (h6 : x.k ≠ 6) : Calls Try.prog 34 #[.agg (opA x q c)] w fun e w' => e = .returned (.bool (rightO x)) ∧ Below w.heap.size w w' := by
  have HX := Lib.hid (OpAt.new w x q c 38)
  have HB := Lib.hid ((Below.refl w.heap.size w).alloc (Nat.le_refl _) (.cells (opA x q c) 38))
  have HA := Lib.hid (ha.kept HB.out)
  have HSK := Lib.hid (show x.key.size ≤ 140737488355328 from hs.key)
  have HSV := Lib.hid (show x.vt.size ≤ 4611686018427387904 from hs.val)
  have HSP := Lib.hid (show x.path.length ≤ 4611686018427387904 from hs.path)
  clear ha hs
  have d1 : (x.k == 1) = false := by simpa using h1
  have d2 : (x.k == 2) = false := by simpa using h2
  have d3 : (x.k == 3) = false := by simpa using h3
  have d4 : (x.k == 4) = false := by simpa using h4
  have d5 : (x.k == 5) = false := by simpa using h5
  have d6 : (x.k == 6) = false := by simpa using h6
  have HNA := Lib.hid (fun W => rnamedN_any x q c W h1 h2 h3 h4 h5 h6)
  have HR := Lib.hid (rightO_none h1 h2 h3 h4 h5 h6)
  have HSM := Lib.hid (fun W (hp : Pa W x q c) => rsame_any Opp.zero x none q 0 c W (Nat.zero_le _) (Pa.none _ _ rfl) hp)
  clear h1 h2 h3 h4 h5 h6
  generalize sameO Opp.zero x = ss at *
  cases ss with
  | false =>
    go_enter Try.func34, Try.ntmps34
    go_upto_region 1 with fail
    refine wp_region_held_drew (S := Bel (w.alloc (.cells (opA x q c) 38))) (by kernel_rfl) (Bel.start (w.alloc (.cells (opA x q c) 38))) (fun hS => ?_)
    refine wpAnyH_take (i := 0) (v := .agg (opA _ _ _)) rfl (by kernel_rfl) (by kernel_rfl) (by kernel_rfl) (fun _ _ _ h => h) (Or.inl ⟨by kernel_rfl, fun W hSW => exec_load_op otR rfl rfl (HX.out.bel hSW)⟩) hS ?_
    refine wpAnyH_take (i := 2) (v := .agg (opA _ _ _)) rfl (by kernel_rfl) (by kernel_rfl) (by kernel_rfl) (fun _ _ _ h => h) (Or.inl ⟨by kernel_rfl, fun W hSW => exec_load_op otR rfl rfl (HX.out.bel hSW)⟩) hS ?_
    refine wpAnyH_ready (rs := [1]) (by kernel_rfl) (by simp) ?_
    refine AllReadyH.cons rfl (fun K hK => ?_) AllReadyH.nil
    go_simp
    go_wp2_with ((go_at_call 52; refine (HNA.out _).mono ?_; rintro e wn ⟨rfl, hbn⟩))
    refine hK.out _ _ (hS.trans hbn) (fun hS => ?_)
    clear hK K
    refine wpAnyH_ready (rs := [3]) (by kernel_rfl) (by simp) ?_
    refine AllReadyH.cons rfl (fun K hK => ?_) AllReadyH.nil
    go_simp
    go_wp2_with ((go_at_call 51; refine (HSM.out _ (HA.out.bel hS)).mono ?_; rintro e wn ⟨rfl, hbn⟩))
    refine hK.out _ _ (hS.trans hbn) (fun hS => ?_)
    clear hK K
    refine wpAnyH_take (i := 4) (v := ?_) rfl (by kernel_rfl) (by kernel_rfl) (by kernel_rfl) (fun _ _ _ h => h) (Or.inl ⟨by kernel_rfl, ?_⟩) hS ?_
    rotate_left
    · intro W hSW
      go_simp
      all_goals with_reducible rfl
    go_simp
    have HS := Lib.hid hS
    refine wpAnyH_done (by kernel_rfl) ?_ _
    go_wp2
    go_ret
    exact ⟨ret_b HR.out.symm, HB.out.trans (Below.mono HS.out HB.out.size)⟩
  | true =>
    go_enter Try.func34, Try.ntmps34
    go_upto_region 1 with fail
    refine wp_region_held_drew (S := Bel (w.alloc (.cells (opA x q c) 38))) (by kernel_rfl) (Bel.start (w.alloc (.cells (opA x q c) 38))) (fun hS => ?_)
    refine wpAnyH_take (i := 0) (v := .agg (opA _ _ _)) rfl (by kernel_rfl) (by kernel_rfl) (by kernel_rfl) (fun _ _ _ h => h) (Or.inl ⟨by kernel_rfl, fun W hSW => exec_load_op otR rfl rfl (HX.out.bel hSW)⟩) hS ?_
    refine wpAnyH_take (i := 2) (v := .agg (opA _ _ _)) rfl (by kernel_rfl) (by kernel_rfl) (by kernel_rfl) (fun _ _ _ h => h) (Or.inl ⟨by kernel_rfl, fun W hSW => exec_load_op otR rfl rfl (HX.out.bel hSW)⟩) hS ?_
    refine wpAnyH_ready (rs := [1]) (by kernel_rfl) (by simp) ?_
    refine AllReadyH.cons rfl (fun K hK => ?_) AllReadyH.nil
    go_simp
    go_wp2_with ((go_at_call 52; refine (HNA.out _).mono ?_; rintro e wn ⟨rfl, hbn⟩))
    refine hK.out _ _ (hS.trans hbn) (fun hS => ?_)
    clear hK K
    refine wpAnyH_ready (rs := [3]) (by kernel_rfl) (by simp) ?_
    refine AllReadyH.cons rfl (fun K hK => ?_) AllReadyH.nil
    go_simp
    go_wp2_with ((go_at_call 51; refine (HSM.out _ (HA.out.bel hS)).mono ?_; rintro e wn ⟨rfl, hbn⟩))
    refine hK.out _ _ (hS.trans hbn) (fun hS => ?_)
    clear hK K
    refine wpAnyH_take (i := 4) (v := ?_) rfl (by kernel_rfl) (by kernel_rfl) (by kernel_rfl) (fun _ _ _ h => h) (Or.inl ⟨by kernel_rfl, ?_⟩) hS ?_
    rotate_left
    · intro W hSW
      go_simp
      all_goals with_reducible rfl
    go_simp
    have HS := Lib.hid hS
    refine wpAnyH_done (by kernel_rfl) ?_ _
    replace HX := Lib.hid (HX.out.bel HS.out)
    replace HA := Lib.hid (HA.out.bel HS.out)
    replace HB := Lib.hid (HB.out.trans (Below.mono HS.out HB.out.size))
    clear HS
    obtain ⟨x0, x1, x2, x3, x4, x5, x6, x7, x8, x9, x10, x11⟩ := HX.out.cells
    cases hkey : Km.rightB x.key.data.toList with
    | false =>
      have HKK := Lib.hid hkey
      go_wp2_with fail
      refine (rkRight_any x.key _ HSK.out).mono ?_
      rw [HKK.out]
      rintro e w1 ⟨rfl, rfl⟩
      go_wp2_with fail
      refine (refVright8_any x.p x.vk x.vn x.vt _ HSV.out).mono ?_
      rintro e w3 ⟨rfl, hb3⟩
      replace HX := Lib.hid (HX.out.kept hb3)
      replace HA := Lib.hid (HA.out.kept hb3)
      replace HB := Lib.hid (HB.out.trans (hb3.mono HB.out.size))
      clear hb3
      clear x0 x1 x2 x3 x4 x5 x6 x7 x8 x9 x10 x11
      obtain ⟨x0, x1, x2, x3, x4, x5, x6, x7, x8, x9, x10, x11⟩ := HX.out.cells
      go_wp2
      go_ret
      exact ⟨ret_b HR.out.symm, HB.out⟩
    | true =>
      have HKK := Lib.hid hkey
      go_wp2_with fail
      refine (rkRight_any x.key _ HSK.out).mono ?_
      rw [HKK.out]
      rintro e w1 ⟨rfl, rfl⟩
      go_wp2_with fail
      refine (rplace_any x.rt x.rr _).mono ?_
      rintro e w2 ⟨rfl, hb2⟩
      replace HX := Lib.hid (HX.out.kept hb2)
      replace HA := Lib.hid (HA.out.kept hb2)
      replace HB := Lib.hid (HB.out.trans (hb2.mono HB.out.size))
      clear hb2
      clear x0 x1 x2 x3 x4 x5 x6 x7 x8 x9 x10 x11
      obtain ⟨x0, x1, x2, x3, x4, x5, x6, x7, x8, x9, x10, x11⟩ := HX.out.cells
      go_wp2_with fail
      refine (refVright8_any x.p x.vk x.vn x.vt _ HSV.out).mono ?_
      rintro e w3 ⟨rfl, hb3⟩
      replace HX := Lib.hid (HX.out.kept hb3)
      replace HA := Lib.hid (HA.out.kept hb3)
      replace HB := Lib.hid (HB.out.trans (hb3.mono HB.out.size))
      clear hb3
      clear x0 x1 x2 x3 x4 x5 x6 x7 x8 x9 x10 x11
      obtain ⟨x0, x1, x2, x3, x4, x5, x6, x7, x8, x9, x10, x11⟩ := HX.out.cells
      go_wp2
      go_ret
      exact ⟨ret_b HR.out.symm, HB.out⟩
theorem rright_any (x : Opp) (q : Option Addr) (c : Nat) (w : World) (hs : Sz x) (ha : Pa w x q c) : Calls Try.prog 34 #[.agg (opA x q c)] w fun e w' => e = .returned (.bool (rightO x)) ∧ Below w.heap.size w w' := by
  by_cases h1 : x.k = 1
  · exact rright1_any x q c w hs ha h1
  by_cases h2 : x.k = 2
  · exact rright2_any x q c w hs ha h2
  by_cases h3 : x.k = 3
  · exact rright3_any x q c w hs ha h3
  by_cases h4 : x.k = 4
  · exact rright4_any x q c w hs ha h4
  by_cases h5 : x.k = 5
  · exact rright5_any x q c w hs ha h5
  by_cases h6 : x.k = 6
  · exact rright6_any x q c w hs ha h6
  exact rrightN_any x q c w hs ha h1 h2 h3 h4 h5 h6
end Go.Proofs.Ytcenmkcencdlcaa
