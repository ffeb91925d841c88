/-
  THE DOCUMENT's Right over ops: the same answer as the program's.
  No conditions but sizes.
-/
import Derived.Test.YtcenmkcencdlcaaRoNamed
import Derived.Test.YtcenmkcencdlcaaRoSame
import Derived.Test.YtcenmkcencdlcaaGN
namespace Go.Proofs.Ytcenmkcencdlcaa
open Go.RowKit

theorem alone1_same {x : Opp} (hk : x.k = 1) : aloneO (prt 1) x = sameO ({ Opp.zero with k := 1, rt := x.rt, rr := x.rr, key := x.key } : Opp) x := by
  obtain ⟨k, nt, nr, rt, rr, key, path, p, vk, vn, vt, on⟩ := x
  simp only at hk
  subst hk
  rw [Bool.eq_iff_iff, sameO_iff]
  simp [aloneO, prt, isZ, isV, Opp.zero]
  try grind
theorem fit1_expr {x : Opp} (hk : x.k = 1) (ha : sameO ({ Opp.zero with k := 1, rt := x.rt, rr := x.rr, key := x.key } : Opp) x = true) : rightO x = (okPlace x.rt x.rr && Km.rightB x.key.data.toList) := by
  rw [rightO_of hk (by decide) (by decide), alone1_same hk, ha, Bool.and_true]
  simp [fitO, prt]
theorem fit1_no {x : Opp} (hk : x.k = 1) (ha : sameO ({ Opp.zero with k := 1, rt := x.rt, rr := x.rr, key := x.key } : Opp) x = false) : rightO x = false := by
  rw [rightO_of hk (by decide) (by decide), alone1_same hk, ha, Bool.and_false]
theorem alone2_same {x : Opp} (hk : x.k = 2) : aloneO (prt 2) x = sameO ({ Opp.zero with k := 2, nt := x.nt, nr := x.nr, rt := x.rt, rr := x.rr, key := x.key } : Opp) x := by
  obtain ⟨k, nt, nr, rt, rr, key, path, p, vk, vn, vt, on⟩ := x
  simp only at hk
  subst hk
  rw [Bool.eq_iff_iff, sameO_iff]
  simp [aloneO, prt, isZ, isV, Opp.zero]
  try grind
theorem fit2_expr {x : Opp} (hk : x.k = 2) (ha : sameO ({ Opp.zero with k := 2, nt := x.nt, nr := x.nr, rt := x.rt, rr := x.rr, key := x.key } : Opp) x = true) : rightO x = (okNode x.nt x.nr && (okPlace x.rt x.rr && Km.rightB x.key.data.toList)) := by
  rw [rightO_of hk (by decide) (by decide), alone2_same hk, ha, Bool.and_true]
  simp [fitO, prt]
theorem fit2_no {x : Opp} (hk : x.k = 2) (ha : sameO ({ Opp.zero with k := 2, nt := x.nt, nr := x.nr, rt := x.rt, rr := x.rr, key := x.key } : Opp) x = false) : rightO x = false := by
  rw [rightO_of hk (by decide) (by decide), alone2_same hk, ha, Bool.and_false]
theorem alone3_same {x : Opp} (hk : x.k = 3) : aloneO (prt 3) x = sameO ({ Opp.zero with k := 3, nt := x.nt, nr := x.nr, p := x.p, vk := x.vk, vn := x.vn, vt := x.vt } : Opp) x := by
  obtain ⟨k, nt, nr, rt, rr, key, path, p, vk, vn, vt, on⟩ := x
  simp only at hk
  subst hk
  rw [Bool.eq_iff_iff, sameO_iff]
  simp [aloneO, prt, isZ, isV, Opp.zero]
  try grind
theorem fit3_expr {x : Opp} (hk : x.k = 3) (ha : sameO ({ Opp.zero with k := 3, nt := x.nt, nr := x.nr, p := x.p, vk := x.vk, vn := x.vn, vt := x.vt } : Opp) x = true) : rightO x = (okNode x.nt x.nr && right8V x.p x.vk x.vn x.vt.data.toList) := by
  rw [rightO_of hk (by decide) (by decide), alone3_same hk, ha, Bool.and_true]
  simp [fitO, prt]
theorem fit3_no {x : Opp} (hk : x.k = 3) (ha : sameO ({ Opp.zero with k := 3, nt := x.nt, nr := x.nr, p := x.p, vk := x.vk, vn := x.vn, vt := x.vt } : Opp) x = false) : rightO x = false := by
  rw [rightO_of hk (by decide) (by decide), alone3_same hk, ha, Bool.and_false]
theorem alone4_same {x : Opp} (hk : x.k = 4) : aloneO (prt 4) x = sameO ({ Opp.zero with k := 4, nt := x.nt, nr := x.nr, on := x.on } : Opp) x := by
  obtain ⟨k, nt, nr, rt, rr, key, path, p, vk, vn, vt, on⟩ := x
  simp only at hk
  subst hk
  rw [Bool.eq_iff_iff, sameO_iff]
  simp [aloneO, prt, isZ, isV, Opp.zero]
  try grind
theorem fit4_expr {x : Opp} (hk : x.k = 4) (ha : sameO ({ Opp.zero with k := 4, nt := x.nt, nr := x.nr, on := x.on } : Opp) x = true) : rightO x = okNode x.nt x.nr := by
  rw [rightO_of hk (by decide) (by decide), alone4_same hk, ha, Bool.and_true]
  simp [fitO, prt]
theorem fit4_no {x : Opp} (hk : x.k = 4) (ha : sameO ({ Opp.zero with k := 4, nt := x.nt, nr := x.nr, on := x.on } : Opp) x = false) : rightO x = false := by
  rw [rightO_of hk (by decide) (by decide), alone4_same hk, ha, Bool.and_false]
theorem alone5_same {x : Opp} (hk : x.k = 5) : aloneO (prt 5) x = sameO ({ Opp.zero with k := 5, nt := x.nt, nr := x.nr, rt := x.rt, rr := x.rr } : Opp) x := by
  obtain ⟨k, nt, nr, rt, rr, key, path, p, vk, vn, vt, on⟩ := x
  simp only at hk
  subst hk
  rw [Bool.eq_iff_iff, sameO_iff]
  simp [aloneO, prt, isZ, isV, Opp.zero]
  try grind
theorem fit5_expr {x : Opp} (hk : x.k = 5) (ha : sameO ({ Opp.zero with k := 5, nt := x.nt, nr := x.nr, rt := x.rt, rr := x.rr } : Opp) x = true) : rightO x = (okNode x.nt x.nr && (okNode x.rt x.rr || isZ x.rt x.rr)) := by
  rw [rightO_of hk (by decide) (by decide), alone5_same hk, ha, Bool.and_true]
  simp [fitO, prt]
theorem fit5_no {x : Opp} (hk : x.k = 5) (ha : sameO ({ Opp.zero with k := 5, nt := x.nt, nr := x.nr, rt := x.rt, rr := x.rr } : Opp) x = false) : rightO x = false := by
  rw [rightO_of hk (by decide) (by decide), alone5_same hk, ha, Bool.and_false]
theorem alone6_same {x : Opp} (hk : x.k = 6) : aloneO (prt 6) x = sameO ({ Opp.zero with k := 6, nt := x.nt, nr := x.nr, path := x.path, p := x.p, vk := x.vk, vn := x.vn, vt := x.vt } : Opp) x := by
  obtain ⟨k, nt, nr, rt, rr, key, path, p, vk, vn, vt, on⟩ := x
  simp only at hk
  subst hk
  rw [Bool.eq_iff_iff, sameO_iff]
  simp [aloneO, prt, isZ, isV, Opp.zero]
  try grind
theorem fit6_expr {x : Opp} (hk : x.k = 6) (ha : sameO ({ Opp.zero with k := 6, nt := x.nt, nr := x.nr, path := x.path, p := x.p, vk := x.vk, vn := x.vn, vt := x.vt } : Opp) x = true) : rightO x = (okNode x.nt x.nr && okPath x.path && right8V x.p x.vk x.vn x.vt.data.toList) := by
  rw [rightO_of hk (by decide) (by decide), alone6_same hk, ha, Bool.and_true]
  simp [fitO, prt]
theorem fit6_no {x : Opp} (hk : x.k = 6) (ha : sameO ({ Opp.zero with k := 6, nt := x.nt, nr := x.nr, path := x.path, p := x.p, vk := x.vk, vn := x.vn, vt := x.vt } : Opp) x = false) : rightO x = false := by
  rw [rightO_of hk (by decide) (by decide), alone6_same hk, ha, Bool.and_false]
set_option maxRecDepth 100000 in
set_option maxHeartbeats 4000000 in
theorem rright1_any (x : Opp) (q : Option Addr) (c : Nat) (w : World) (hs : Sz x) (ha : Pa w x q c) (hk : x.k = 1) : Calls Try.prog 34 #[.agg (opA x q c)] w fun e w' => e = .returned (.bool (rightO x)) ∧ Below w.heap.size w w' := by
  have HX := Lib.hid (OpAt.new w x q c 38)
  have HB := Lib.hid ((Below.refl w.heap.size w).alloc (Nat.le_refl _) (.cells (opA x q c) 38))
  have HA := Lib.hid (ha.kept HB.out)
  have HSK := Lib.hid (show x.key.size ≤ 140737488355328 from hs.key)
  have HSV := Lib.hid (show x.vt.size ≤ 4611686018427387904 from hs.val)
  have HSP := Lib.hid (show x.path.length ≤ 4611686018427387904 from hs.path)
  clear ha hs
  have HK := Lib.hid hk
  have HNA := Lib.hid (fun W => rnamed1_any x q c W hk)
  have HEX := Lib.hid (fun h => fit1_expr (x := x) hk h)
  have HNO := Lib.hid (fun h => fit1_no (x := x) hk h)
  have HSM := Lib.hid (fun W (hp : Pa W x q c) => rsame_any ({ Opp.zero with k := 1, rt := x.rt, rr := x.rr, key := x.key } : Opp) x none q 0 c W (Nat.zero_le _) (Pa.none _ _ rfl) hp)
  clear hk
  generalize hss : sameO ({ Opp.zero with k := 1, rt := x.rt, rr := x.rr, key := x.key } : Opp) x = ss at *
  clear hss
  cases ss with
  | false =>
    have HR := Lib.hid (HNO.out rfl)
    go_enter Try.func34, Try.ntmps34
    go_upto_region 1 with fail
    refine wp_region_held_drew (S := Bel (w.alloc (.cells (opA x q c) 38))) (by kernel_rfl) (Bel.start (w.alloc (.cells (opA x q c) 38))) (fun hS => ?_)
    refine wpAnyH_take (i := 0) (v := .agg (opA _ _ _)) rfl (by kernel_rfl) (by kernel_rfl) (by kernel_rfl) (fun _ _ _ h => h) (Or.inl ⟨by kernel_rfl, fun W hSW => exec_load_op otR rfl rfl (HX.out.bel hSW)⟩) hS ?_
    refine wpAnyH_take (i := 2) (v := .agg (opA _ _ _)) rfl (by kernel_rfl) (by kernel_rfl) (by kernel_rfl) (fun _ _ _ h => h) (Or.inl ⟨by kernel_rfl, fun W hSW => exec_load_op otR rfl rfl (HX.out.bel hSW)⟩) hS ?_
    refine wpAnyH_ready (rs := [1]) (by kernel_rfl) (by simp) ?_
    refine AllReadyH.cons rfl (fun K hK => ?_) AllReadyH.nil
    go_simp
    go_wp2_with ((go_at_call 52; refine (HNA.out _).mono ?_; rintro e wn ⟨rfl, hbn⟩))
    refine hK.out _ _ (hS.trans hbn) (fun hS => ?_)
    clear hK K
    refine wpAnyH_ready (rs := [3]) (by kernel_rfl) (by simp) ?_
    refine AllReadyH.cons rfl (fun K hK => ?_) AllReadyH.nil
    go_simp
    go_wp2_with ((go_at_call 51; refine (HSM.out _ (HA.out.bel hS)).mono ?_; rintro e wn ⟨rfl, hbn⟩))
    refine hK.out _ _ (hS.trans hbn) (fun hS => ?_)
    clear hK K
    refine wpAnyH_take (i := 4) (v := ?_) rfl (by kernel_rfl) (by kernel_rfl) (by kernel_rfl) (fun _ _ _ h => h) (Or.inl ⟨by kernel_rfl, ?_⟩) hS ?_
    rotate_left
    · intro W hSW
      go_simp
      all_goals with_reducible rfl
    go_simp
    have HS := Lib.hid hS
    refine wpAnyH_done (by kernel_rfl) ?_ _
    go_wp2
    go_ret
    exact ⟨ret_b HR.out.symm, HB.out.trans (Below.mono HS.out HB.out.size)⟩
  | true =>
    have HE := Lib.hid (HEX.out rfl)
    clear HEX HNO
    go_enter Try.func34, Try.ntmps34
    go_upto_region 1 with fail
    refine wp_region_held_drew (S := Bel (w.alloc (.cells (opA x q c) 38))) (by kernel_rfl) (Bel.start (w.alloc (.cells (opA x q c) 38))) (fun hS => ?_)
    refine wpAnyH_take (i := 0) (v := .agg (opA _ _ _)) rfl (by kernel_rfl) (by kernel_rfl) (by kernel_rfl) (fun _ _ _ h => h) (Or.inl ⟨by kernel_rfl, fun W hSW => exec_load_op otR rfl rfl (HX.out.bel hSW)⟩) hS ?_
    refine wpAnyH_take (i := 2) (v := .agg (opA _ _ _)) rfl (by kernel_rfl) (by kernel_rfl) (by kernel_rfl) (fun _ _ _ h => h) (Or.inl ⟨by kernel_rfl, fun W hSW => exec_load_op otR rfl rfl (HX.out.bel hSW)⟩) hS ?_
    refine wpAnyH_ready (rs := [1]) (by kernel_rfl) (by simp) ?_
    refine AllReadyH.cons rfl (fun K hK => ?_) AllReadyH.nil
    go_simp
    go_wp2_with ((go_at_call 52; refine (HNA.out _).mono ?_; rintro e wn ⟨rfl, hbn⟩))
    refine hK.out _ _ (hS.trans hbn) (fun hS => ?_)
    clear hK K
    refine wpAnyH_ready (rs := [3]) (by kernel_rfl) (by simp) ?_
    refine AllReadyH.cons rfl (fun K hK => ?_) AllReadyH.nil
    go_simp
    go_wp2_with ((go_at_call 51; refine (HSM.out _ (HA.out.bel hS)).mono ?_; rintro e wn ⟨rfl, hbn⟩))
    refine hK.out _ _ (hS.trans hbn) (fun hS => ?_)
    clear hK K
    refine wpAnyH_take (i := 4) (v := ?_) rfl (by kernel_rfl) (by kernel_rfl) (by kernel_rfl) (fun _ _ _ h => h) (Or.inl ⟨by kernel_rfl, ?_⟩) hS ?_
    rotate_left
    · intro W hSW
      go_simp
      all_goals with_reducible rfl
    go_simp
    have HS := Lib.hid hS
    refine wpAnyH_done (by kernel_rfl) ?_ _
    replace HX := Lib.hid (HX.out.bel HS.out)
    replace HA := Lib.hid (HA.out.bel HS.out)
    replace HB := Lib.hid (HB.out.trans (Below.mono HS.out HB.out.size))
    clear HS
    obtain ⟨x0, x1, x2, x3, x4, x5, x6, x7, x8, x9, x10, x11⟩ := HX.out.cells
    rw [HK.out] at x0
    cases hkey : Km.rightB x.key.data.toList with
    | false =>
      have HKK := Lib.hid hkey
      go_wp2_with fail
      refine (rkRight_any x.key _ HSK.out).mono ?_
      rw [HKK.out]
      rintro e w1 ⟨rfl, rfl⟩
      go_wp2_with fail
      refine (refVright8_any x.p x.vk x.vn x.vt _ HSV.out).mono ?_
      rintro e w3 ⟨rfl, hb3⟩
      replace HX := Lib.hid (HX.out.kept hb3)
      replace HA := Lib.hid (HA.out.kept hb3)
      replace HB := Lib.hid (HB.out.trans (hb3.mono HB.out.size))
      clear hb3
      clear x0 x1 x2 x3 x4 x5 x6 x7 x8 x9 x10 x11
      obtain ⟨x0, x1, x2, x3, x4, x5, x6, x7, x8, x9, x10, x11⟩ := HX.out.cells
      rw [HK.out] at x0
      have HR := Lib.hid (HE.out.trans (show _ = false from by rw [HKK.out]; simp))
      go_wp2
      go_ret
      exact ⟨ret_b HR.out.symm, HB.out⟩
    | true =>
      have HKK := Lib.hid hkey
      go_wp2_with fail
      refine (rkRight_any x.key _ HSK.out).mono ?_
      rw [HKK.out]
      rintro e w1 ⟨rfl, rfl⟩
      go_wp2_with fail
      refine (rplace_any x.rt x.rr _).mono ?_
      rintro e w2 ⟨rfl, hb2⟩
      replace HX := Lib.hid (HX.out.kept hb2)
      replace HA := Lib.hid (HA.out.kept hb2)
      replace HB := Lib.hid (HB.out.trans (hb2.mono HB.out.size))
      clear hb2
      clear x0 x1 x2 x3 x4 x5 x6 x7 x8 x9 x10 x11
      obtain ⟨x0, x1, x2, x3, x4, x5, x6, x7, x8, x9, x10, x11⟩ := HX.out.cells
      rw [HK.out] at x0
      go_wp2_with fail
      refine (refVright8_any x.p x.vk x.vn x.vt _ HSV.out).mono ?_
      rintro e w3 ⟨rfl, hb3⟩
      replace HX := Lib.hid (HX.out.kept hb3)
      replace HA := Lib.hid (HA.out.kept hb3)
      replace HB := Lib.hid (HB.out.trans (hb3.mono HB.out.size))
      clear hb3
      clear x0 x1 x2 x3 x4 x5 x6 x7 x8 x9 x10 x11
      obtain ⟨x0, x1, x2, x3, x4, x5, x6, x7, x8, x9, x10, x11⟩ := HX.out.cells
      rw [HK.out] at x0
      have HR := Lib.hid (HE.out.trans (show _ = okPlace x.rt x.rr from by rw [HKK.out]; simp))
      go_wp2
      go_ret
      exact ⟨ret_b HR.out.symm, HB.out⟩
set_option maxRecDepth 100000 in
set_option maxHeartbeats 4000000 in
theorem rright2_any (x : Opp) (q : Option Addr) (c : Nat) (w : World) (hs : Sz x) (ha : Pa w x q c) (hk : x.k = 2) : Calls Try.prog 34 #[.agg (opA x q c)] w fun e w' => e = .returned (.bool (rightO x)) ∧ Below w.heap.size w w' := by
  have HX := Lib.hid (OpAt.new w x q c 38)
  have HB := Lib.hid ((Below.refl w.heap.size w).alloc (Nat.le_refl _) (.cells (opA x q c) 38))
  have HA := Lib.hid (ha.kept HB.out)
  have HSK := Lib.hid (show x.key.size ≤ 140737488355328 from hs.key)
  have HSV := Lib.hid (show x.vt.size ≤ 4611686018427387904 from hs.val)
  have HSP := Lib.hid (show x.path.length ≤ 4611686018427387904 from hs.path)
  clear ha hs
  have HK := Lib.hid hk
  have HNA := Lib.hid (fun W => rnamed2_any x q c W hk)
  have HEX := Lib.hid (fun h => fit2_expr (x := x) hk h)
  have HNO := Lib.hid (fun h => fit2_no (x := x) hk h)
  have HSM := Lib.hid (fun W (hp : Pa W x q c) => rsame_any ({ Opp.zero with k := 2, nt := x.nt, nr := x.nr, rt := x.rt, rr := x.rr, key := x.key } : Opp) x none q 0 c W (Nat.zero_le _) (Pa.none _ _ rfl) hp)
  clear hk
  generalize hss : sameO ({ Opp.zero with k := 2, nt := x.nt, nr := x.nr, rt := x.rt, rr := x.rr, key := x.key } : Opp) x = ss at *
  clear hss
  cases ss with
  | false =>
    have HR := Lib.hid (HNO.out rfl)
    go_enter Try.func34, Try.ntmps34
    go_upto_region 1 with fail
    refine wp_region_held_drew (S := Bel (w.alloc (.cells (opA x q c) 38))) (by kernel_rfl) (Bel.start (w.alloc (.cells (opA x q c) 38))) (fun hS => ?_)
    refine wpAnyH_take (i := 0) (v := .agg (opA _ _ _)) rfl (by kernel_rfl) (by kernel_rfl) (by kernel_rfl) (fun _ _ _ h => h) (Or.inl ⟨by kernel_rfl, fun W hSW => exec_load_op otR rfl rfl (HX.out.bel hSW)⟩) hS ?_
    refine wpAnyH_take (i := 2) (v := .agg (opA _ _ _)) rfl (by kernel_rfl) (by kernel_rfl) (by kernel_rfl) (fun _ _ _ h => h) (Or.inl ⟨by kernel_rfl, fun W hSW => exec_load_op otR rfl rfl (HX.out.bel hSW)⟩) hS ?_
    refine wpAnyH_ready (rs := [1]) (by kernel_rfl) (by simp) ?_
    refine AllReadyH.cons rfl (fun K hK => ?_) AllReadyH.nil
    go_simp
    go_wp2_with ((go_at_call 52; refine (HNA.out _).mono ?_; rintro e wn ⟨rfl, hbn⟩))
    refine hK.out _ _ (hS.trans hbn) (fun hS => ?_)
    clear hK K
    refine wpAnyH_ready (rs := [3]) (by kernel_rfl) (by simp) ?_
    refine AllReadyH.cons rfl (fun K hK => ?_) AllReadyH.nil
    go_simp
    go_wp2_with ((go_at_call 51; refine (HSM.out _ (HA.out.bel hS)).mono ?_; rintro e wn ⟨rfl, hbn⟩))
    refine hK.out _ _ (hS.trans hbn) (fun hS => ?_)
    clear hK K
    refine wpAnyH_take (i := 4) (v := ?_) rfl (by kernel_rfl) (by kernel_rfl) (by kernel_rfl) (fun _ _ _ h => h) (Or.inl ⟨by kernel_rfl, ?_⟩) hS ?_
    rotate_left
    · intro W hSW
      go_simp
      all_goals with_reducible rfl
    go_simp
    have HS := Lib.hid hS
    refine wpAnyH_done (by kernel_rfl) ?_ _
    go_wp2
    go_ret
    exact ⟨ret_b HR.out.symm, HB.out.trans (Below.mono HS.out HB.out.size)⟩
  | true =>
    have HE := Lib.hid (HEX.out rfl)
    clear HEX HNO
    go_enter Try.func34, Try.ntmps34
    go_upto_region 1 with fail
    refine wp_region_held_drew (S := Bel (w.alloc (.cells (opA x q c) 38))) (by kernel_rfl) (Bel.start (w.alloc (.cells (opA x q c) 38))) (fun hS => ?_)
    refine wpAnyH_take (i := 0) (v := .agg (opA _ _ _)) rfl (by kernel_rfl) (by kernel_rfl) (by kernel_rfl) (fun _ _ _ h => h) (Or.inl ⟨by kernel_rfl, fun W hSW => exec_load_op otR rfl rfl (HX.out.bel hSW)⟩) hS ?_
    refine wpAnyH_take (i := 2) (v := .agg (opA _ _ _)) rfl (by kernel_rfl) (by kernel_rfl) (by kernel_rfl) (fun _ _ _ h => h) (Or.inl ⟨by kernel_rfl, fun W hSW => exec_load_op otR rfl rfl (HX.out.bel hSW)⟩) hS ?_
    refine wpAnyH_ready (rs := [1]) (by kernel_rfl) (by simp) ?_
    refine AllReadyH.cons rfl (fun K hK => ?_) AllReadyH.nil
    go_simp
    go_wp2_with ((go_at_call 52; refine (HNA.out _).mono ?_; rintro e wn ⟨rfl, hbn⟩))
    refine hK.out _ _ (hS.trans hbn) (fun hS => ?_)
    clear hK K
    refine wpAnyH_ready (rs := [3]) (by kernel_rfl) (by simp) ?_
    refine AllReadyH.cons rfl (fun K hK => ?_) AllReadyH.nil
    go_simp
    go_wp2_with ((go_at_call 51; refine (HSM.out _ (HA.out.bel hS)).mono ?_; rintro e wn ⟨rfl, hbn⟩))
    refine hK.out _ _ (hS.trans hbn) (fun hS => ?_)
    clear hK K
    refine wpAnyH_take (i := 4) (v := ?_) rfl (by kernel_rfl) (by kernel_rfl) (by kernel_rfl) (fun _ _ _ h => h) (Or.inl ⟨by kernel_rfl, ?_⟩) hS ?_
    rotate_left
    · intro W hSW
      go_simp
      all_goals with_reducible rfl
    go_simp
    have HS := Lib.hid hS
    refine wpAnyH_done (by kernel_rfl) ?_ _
    replace HX := Lib.hid (HX.out.bel HS.out)
    replace HA := Lib.hid (HA.out.bel HS.out)
    replace HB := Lib.hid (HB.out.trans (Below.mono HS.out HB.out.size))
    clear HS
    obtain ⟨x0, x1, x2, x3, x4, x5, x6, x7, x8, x9, x10, x11⟩ := HX.out.cells
    rw [HK.out] at x0
    cases hkey : Km.rightB x.key.data.toList with
    | false =>
      have HKK := Lib.hid hkey
      go_wp2_with fail
      refine (rkRight_any x.key _ HSK.out).mono ?_
      rw [HKK.out]
      rintro e w1 ⟨rfl, rfl⟩
      go_wp2_with fail
      refine (refVright8_any x.p x.vk x.vn x.vt _ HSV.out).mono ?_
      rintro e w3 ⟨rfl, hb3⟩
      replace HX := Lib.hid (HX.out.kept hb3)
      replace HA := Lib.hid (HA.out.kept hb3)
      replace HB := Lib.hid (HB.out.trans (hb3.mono HB.out.size))
      clear hb3
      clear x0 x1 x2 x3 x4 x5 x6 x7 x8 x9 x10 x11
      obtain ⟨x0, x1, x2, x3, x4, x5, x6, x7, x8, x9, x10, x11⟩ := HX.out.cells
      rw [HK.out] at x0
      go_wp2_with fail
      refine (rnode_any x.nt x.nr _).mono ?_
      cases hnd : okNode x.nt x.nr with
      | false =>
        have HND := Lib.hid hnd
        rintro e w4 ⟨rfl, hb4⟩
        replace HX := Lib.hid (HX.out.kept hb4)
        replace HA := Lib.hid (HA.out.kept hb4)
        replace HB := Lib.hid (HB.out.trans (hb4.mono HB.out.size))
        clear hb4
        have HR := Lib.hid (HE.out.trans (show _ = false from by rw [HND.out] <;> rfl))
        clear x0 x1 x2 x3 x4 x5 x6 x7 x8 x9 x10 x11
        obtain ⟨x0, x1, x2, x3, x4, x5, x6, x7, x8, x9, x10, x11⟩ := HX.out.cells
        rw [HK.out] at x0
        go_wp2
        go_ret
        exact ⟨ret_b HR.out.symm, HB.out⟩
      | true =>
        have HND := Lib.hid hnd
        rintro e w4 ⟨rfl, hb4⟩
        replace HX := Lib.hid (HX.out.kept hb4)
        replace HA := Lib.hid (HA.out.kept hb4)
        replace HB := Lib.hid (HB.out.trans (hb4.mono HB.out.size))
        clear hb4
        clear x0 x1 x2 x3 x4 x5 x6 x7 x8 x9 x10 x11
        obtain ⟨x0, x1, x2, x3, x4, x5, x6, x7, x8, x9, x10, x11⟩ := HX.out.cells
        rw [HK.out] at x0
        have HR := Lib.hid (HE.out.trans (show _ = false from by rw [HND.out, HKK.out]; simp))
        go_wp2
        go_ret
        exact ⟨ret_b HR.out.symm, HB.out⟩
    | true =>
      have HKK := Lib.hid hkey
      go_wp2_with fail
      refine (rkRight_any x.key _ HSK.out).mono ?_
      rw [HKK.out]
      rintro e w1 ⟨rfl, rfl⟩
      go_wp2_with fail
      refine (rplace_any x.rt x.rr _).mono ?_
      rintro e w2 ⟨rfl, hb2⟩
      replace HX := Lib.hid (HX.out.kept hb2)
      replace HA := Lib.hid (HA.out.kept hb2)
      replace HB := Lib.hid (HB.out.trans (hb2.mono HB.out.size))
      clear hb2
      clear x0 x1 x2 x3 x4 x5 x6 x7 x8 x9 x10 x11
      obtain ⟨x0, x1, x2, x3, x4, x5, x6, x7, x8, x9, x10, x11⟩ := HX.out.cells
      rw [HK.out] at x0
      go_wp2_with fail
      refine (refVright8_any x.p x.vk x.vn x.vt _ HSV.out).mono ?_
      rintro e w3 ⟨rfl, hb3⟩
      replace HX := Lib.hid (HX.out.kept hb3)
      replace HA := Lib.hid (HA.out.kept hb3)
      replace HB := Lib.hid (HB.out.trans (hb3.mono HB.out.size))
      clear hb3
      clear x0 x1 x2 x3 x4 x5 x6 x7 x8 x9 x10 x11
      obtain ⟨x0, x1, x2, x3, x4, x5, x6, x7, x8, x9, x10, x11⟩ := HX.out.cells
      rw [HK.out] at x0
      go_wp2_with fail
      refine (rnode_any x.nt x.nr _).mono ?_
      cases hnd : okNode x.nt x.nr with
      | false =>
        have HND := Lib.hid hnd
        rintro e w4 ⟨rfl, hb4⟩
        replace HX := Lib.hid (HX.out.kept hb4)
        replace HA := Lib.hid (HA.out.kept hb4)
        replace HB := Lib.hid (HB.out.trans (hb4.mono HB.out.size))
        clear hb4
        have HR := Lib.hid (HE.out.trans (show _ = false from by rw [HND.out] <;> rfl))
        clear x0 x1 x2 x3 x4 x5 x6 x7 x8 x9 x10 x11
        obtain ⟨x0, x1, x2, x3, x4, x5, x6, x7, x8, x9, x10, x11⟩ := HX.out.cells
        rw [HK.out] at x0
        go_wp2
        go_ret
        exact ⟨ret_b HR.out.symm, HB.out⟩
      | true =>
        have HND := Lib.hid hnd
        rintro e w4 ⟨rfl, hb4⟩
        replace HX := Lib.hid (HX.out.kept hb4)
        replace HA := Lib.hid (HA.out.kept hb4)
        replace HB := Lib.hid (HB.out.trans (hb4.mono HB.out.size))
        clear hb4
        clear x0 x1 x2 x3 x4 x5 x6 x7 x8 x9 x10 x11
        obtain ⟨x0, x1, x2, x3, x4, x5, x6, x7, x8, x9, x10, x11⟩ := HX.out.cells
        rw [HK.out] at x0
        have HR := Lib.hid (HE.out.trans (show _ = okPlace x.rt x.rr from by rw [HND.out, HKK.out]; simp))
        go_wp2
        go_ret
        exact ⟨ret_b HR.out.symm, HB.out⟩
set_option maxRecDepth 100000 in
set_option maxHeartbeats 4000000 in
theorem rright3_any (x : Opp) (q : Option Addr) (c : Nat) (w : World) (hs : Sz x) (ha : Pa w x q c) (hk : x.k = 3) : Calls Try.prog 34 #[.agg (opA x q c)] w fun e w' => e = .returned (.bool (rightO x)) ∧ Below w.heap.size w w' := by
  have HX := Lib.hid (OpAt.new w x q c 38)
  have HB := Lib.hid ((Below.refl w.heap.size w).alloc (Nat.le_refl _) (.cells (opA x q c) 38))
  have HA := Lib.hid (ha.kept HB.out)
  have HSK := Lib.hid (show x.key.size ≤ 140737488355328 from hs.key)
  have HSV := Lib.hid (show x.vt.size ≤ 4611686018427387904 from hs.val)
  have HSP := Lib.hid (show x.path.length ≤ 4611686018427387904 from hs.path)
  clear ha hs
  have HK := Lib.hid hk
  have HNA := Lib.hid (fun W => rnamed3_any x q c W hk)
  have HEX := Lib.hid (fun h => fit3_expr (x := x) hk h)
  have HNO := Lib.hid (fun h => fit3_no (x := x) hk h)
  have HSM := Lib.hid (fun W (hp : Pa W x q c) => rsame_any ({ Opp.zero with k := 3, nt := x.nt, nr := x.nr, p := x.p, vk := x.vk, vn := x.vn, vt := x.vt } : Opp) x none q 0 c W (Nat.zero_le _) (Pa.none _ _ rfl) hp)
  clear hk
  generalize hss : sameO ({ Opp.zero with k := 3, nt := x.nt, nr := x.nr, p := x.p, vk := x.vk, vn := x.vn, vt := x.vt } : Opp) x = ss at *
  clear hss
  cases ss with
  | false =>
    have HR := Lib.hid (HNO.out rfl)
    go_enter Try.func34, Try.ntmps34
    go_upto_region 1 with fail
    refine wp_region_held_drew (S := Bel (w.alloc (.cells (opA x q c) 38))) (by kernel_rfl) (Bel.start (w.alloc (.cells (opA x q c) 38))) (fun hS => ?_)
    refine wpAnyH_take (i := 0) (v := .agg (opA _ _ _)) rfl (by kernel_rfl) (by kernel_rfl) (by kernel_rfl) (fun _ _ _ h => h) (Or.inl ⟨by kernel_rfl, fun W hSW => exec_load_op otR rfl rfl (HX.out.bel hSW)⟩) hS ?_
    refine wpAnyH_take (i := 2) (v := .agg (opA _ _ _)) rfl (by kernel_rfl) (by kernel_rfl) (by kernel_rfl) (fun _ _ _ h => h) (Or.inl ⟨by kernel_rfl, fun W hSW => exec_load_op otR rfl rfl (HX.out.bel hSW)⟩) hS ?_
    refine wpAnyH_ready (rs := [1]) (by kernel_rfl) (by simp) ?_
    refine AllReadyH.cons rfl (fun K hK => ?_) AllReadyH.nil
    go_simp
    go_wp2_with ((go_at_call 52; refine (HNA.out _).mono ?_; rintro e wn ⟨rfl, hbn⟩))
    refine hK.out _ _ (hS.trans hbn) (fun hS => ?_)
    clear hK K
    refine wpAnyH_ready (rs := [3]) (by kernel_rfl) (by simp) ?_
    refine AllReadyH.cons rfl (fun K hK => ?_) AllReadyH.nil
    go_simp
    go_wp2_with ((go_at_call 51; refine (HSM.out _ (HA.out.bel hS)).mono ?_; rintro e wn ⟨rfl, hbn⟩))
    refine hK.out _ _ (hS.trans hbn) (fun hS => ?_)
    clear hK K
    refine wpAnyH_take (i := 4) (v := ?_) rfl (by kernel_rfl) (by kernel_rfl) (by kernel_rfl) (fun _ _ _ h => h) (Or.inl ⟨by kernel_rfl, ?_⟩) hS ?_
    rotate_left
    · intro W hSW
      go_simp
      all_goals with_reducible rfl
    go_simp
    have HS := Lib.hid hS
    refine wpAnyH_done (by kernel_rfl) ?_ _
    go_wp2
    go_ret
    exact ⟨ret_b HR.out.symm, HB.out.trans (Below.mono HS.out HB.out.size)⟩
  | true =>
    have HE := Lib.hid (HEX.out rfl)
    clear HEX HNO
    go_enter Try.func34, Try.ntmps34
    go_upto_region 1 with fail
    refine wp_region_held_drew (S := Bel (w.alloc (.cells (opA x q c) 38))) (by kernel_rfl) (Bel.start (w.alloc (.cells (opA x q c) 38))) (fun hS => ?_)
    refine wpAnyH_take (i := 0) (v := .agg (opA _ _ _)) rfl (by kernel_rfl) (by kernel_rfl) (by kernel_rfl) (fun _ _ _ h => h) (Or.inl ⟨by kernel_rfl, fun W hSW => exec_load_op otR rfl rfl (HX.out.bel hSW)⟩) hS ?_
    refine wpAnyH_take (i := 2) (v := .agg (opA _ _ _)) rfl (by kernel_rfl) (by kernel_rfl) (by kernel_rfl) (fun _ _ _ h => h) (Or.inl ⟨by kernel_rfl, fun W hSW => exec_load_op otR rfl rfl (HX.out.bel hSW)⟩) hS ?_
    refine wpAnyH_ready (rs := [1]) (by kernel_rfl) (by simp) ?_
    refine AllReadyH.cons rfl (fun K hK => ?_) AllReadyH.nil
    go_simp
    go_wp2_with ((go_at_call 52; refine (HNA.out _).mono ?_; rintro e wn ⟨rfl, hbn⟩))
    refine hK.out _ _ (hS.trans hbn) (fun hS => ?_)
    clear hK K
    refine wpAnyH_ready (rs := [3]) (by kernel_rfl) (by simp) ?_
    refine AllReadyH.cons rfl (fun K hK => ?_) AllReadyH.nil
    go_simp
    go_wp2_with ((go_at_call 51; refine (HSM.out _ (HA.out.bel hS)).mono ?_; rintro e wn ⟨rfl, hbn⟩))
    refine hK.out _ _ (hS.trans hbn) (fun hS => ?_)
    clear hK K
    refine wpAnyH_take (i := 4) (v := ?_) rfl (by kernel_rfl) (by kernel_rfl) (by kernel_rfl) (fun _ _ _ h => h) (Or.inl ⟨by kernel_rfl, ?_⟩) hS ?_
    rotate_left
    · intro W hSW
      go_simp
      all_goals with_reducible rfl
    go_simp
    have HS := Lib.hid hS
    refine wpAnyH_done (by kernel_rfl) ?_ _
    replace HX := Lib.hid (HX.out.bel HS.out)
    replace HA := Lib.hid (HA.out.bel HS.out)
    replace HB := Lib.hid (HB.out.trans (Below.mono HS.out HB.out.size))
    clear HS
    obtain ⟨x0, x1, x2, x3, x4, x5, x6, x7, x8, x9, x10, x11⟩ := HX.out.cells
    rw [HK.out] at x0
    cases hkey : Km.rightB x.key.data.toList with
    | false =>
      have HKK := Lib.hid hkey
      go_wp2_with fail
      refine (rkRight_any x.key _ HSK.out).mono ?_
      rw [HKK.out]
      rintro e w1 ⟨rfl, rfl⟩
      go_wp2_with fail
      refine (refVright8_any x.p x.vk x.vn x.vt _ HSV.out).mono ?_
      rintro e w3 ⟨rfl, hb3⟩
      replace HX := Lib.hid (HX.out.kept hb3)
      replace HA := Lib.hid (HA.out.kept hb3)
      replace HB := Lib.hid (HB.out.trans (hb3.mono HB.out.size))
      clear hb3
      clear x0 x1 x2 x3 x4 x5 x6 x7 x8 x9 x10 x11
      obtain ⟨x0, x1, x2, x3, x4, x5, x6, x7, x8, x9, x10, x11⟩ := HX.out.cells
      rw [HK.out] at x0
      go_wp2_with fail
      refine (rnode_any x.nt x.nr _).mono ?_
      cases hnd : okNode x.nt x.nr with
      | false =>
        have HND := Lib.hid hnd
        rintro e w4 ⟨rfl, hb4⟩
        replace HX := Lib.hid (HX.out.kept hb4)
        replace HA := Lib.hid (HA.out.kept hb4)
        replace HB := Lib.hid (HB.out.trans (hb4.mono HB.out.size))
        clear hb4
        have HR := Lib.hid (HE.out.trans (show _ = false from by rw [HND.out] <;> rfl))
        clear x0 x1 x2 x3 x4 x5 x6 x7 x8 x9 x10 x11
        obtain ⟨x0, x1, x2, x3, x4, x5, x6, x7, x8, x9, x10, x11⟩ := HX.out.cells
        rw [HK.out] at x0
        go_wp2
        go_ret
        exact ⟨ret_b HR.out.symm, HB.out⟩
      | true =>
        have HND := Lib.hid hnd
        rintro e w4 ⟨rfl, hb4⟩
        replace HX := Lib.hid (HX.out.kept hb4)
        replace HA := Lib.hid (HA.out.kept hb4)
        replace HB := Lib.hid (HB.out.trans (hb4.mono HB.out.size))
        clear hb4
        clear x0 x1 x2 x3 x4 x5 x6 x7 x8 x9 x10 x11
        obtain ⟨x0, x1, x2, x3, x4, x5, x6, x7, x8, x9, x10, x11⟩ := HX.out.cells
        rw [HK.out] at x0
        have HR := Lib.hid (HE.out.trans (show _ = right8V x.p x.vk x.vn x.vt.data.toList from by rw [HND.out, Bool.true_and]))
        go_wp2
        go_ret
        exact ⟨ret_b HR.out.symm, HB.out⟩
    | true =>
      have HKK := Lib.hid hkey
      go_wp2_with fail
      refine (rkRight_any x.key _ HSK.out).mono ?_
      rw [HKK.out]
      rintro e w1 ⟨rfl, rfl⟩
      go_wp2_with fail
      refine (rplace_any x.rt x.rr _).mono ?_
      rintro e w2 ⟨rfl, hb2⟩
      replace HX := Lib.hid (HX.out.kept hb2)
      replace HA := Lib.hid (HA.out.kept hb2)
      replace HB := Lib.hid (HB.out.trans (hb2.mono HB.out.size))
      clear hb2
      clear x0 x1 x2 x3 x4 x5 x6 x7 x8 x9 x10 x11
      obtain ⟨x0, x1, x2, x3, x4, x5, x6, x7, x8, x9, x10, x11⟩ := HX.out.cells
      rw [HK.out] at x0
      go_wp2_with fail
      refine (refVright8_any x.p x.vk x.vn x.vt _ HSV.out).mono ?_
      rintro e w3 ⟨rfl, hb3⟩
      replace HX := Lib.hid (HX.out.kept hb3)
      replace HA := Lib.hid (HA.out.kept hb3)
      replace HB := Lib.hid (HB.out.trans (hb3.mono HB.out.size))
      clear hb3
      clear x0 x1 x2 x3 x4 x5 x6 x7 x8 x9 x10 x11
      obtain ⟨x0, x1, x2, x3, x4, x5, x6, x7, x8, x9, x10, x11⟩ := HX.out.cells
      rw [HK.out] at x0
      go_wp2_with fail
      refine (rnode_any x.nt x.nr _).mono ?_
      cases hnd : okNode x.nt x.nr with
      | false =>
        have HND := Lib.hid hnd
        rintro e w4 ⟨rfl, hb4⟩
        replace HX := Lib.hid (HX.out.kept hb4)
        replace HA := Lib.hid (HA.out.kept hb4)
        replace HB := Lib.hid (HB.out.trans (hb4.mono HB.out.size))
        clear hb4
        have HR := Lib.hid (HE.out.trans (show _ = false from by rw [HND.out] <;> rfl))
        clear x0 x1 x2 x3 x4 x5 x6 x7 x8 x9 x10 x11
        obtain ⟨x0, x1, x2, x3, x4, x5, x6, x7, x8, x9, x10, x11⟩ := HX.out.cells
        rw [HK.out] at x0
        go_wp2
        go_ret
        exact ⟨ret_b HR.out.symm, HB.out⟩
      | true =>
        have HND := Lib.hid hnd
        rintro e w4 ⟨rfl, hb4⟩
        replace HX := Lib.hid (HX.out.kept hb4)
        replace HA := Lib.hid (HA.out.kept hb4)
        replace HB := Lib.hid (HB.out.trans (hb4.mono HB.out.size))
        clear hb4
        clear x0 x1 x2 x3 x4 x5 x6 x7 x8 x9 x10 x11
        obtain ⟨x0, x1, x2, x3, x4, x5, x6, x7, x8, x9, x10, x11⟩ := HX.out.cells
        rw [HK.out] at x0
        have HR := Lib.hid (HE.out.trans (show _ = right8V x.p x.vk x.vn x.vt.data.toList from by rw [HND.out, Bool.true_and]))
        go_wp2
        go_ret
        exact ⟨ret_b HR.out.symm, HB.out⟩
end Go.Proofs.Ytcenmkcencdlcaa
