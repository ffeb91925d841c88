/-
  THE LAW's HELPERS: num, knows.
  No conditions.
-/
import Derived.Test.YthpdphlkmleldaaGreatGI
import Derived.Test.YthpdphlkmleldaaGreatBtPut
import Derived.Test.YthpdphlkmleldaaGreatGG
import Derived.Test.YthpdphlkmleldaaGreatGB
namespace Go.Proofs.YthpdphlkmleldaaGreat
open Go.RowKit

theorem bnum_any (n : Int) (w : World) : Calls Tryz.prog 12 #[.int .i64 n] w fun e w' => e = .returned (.int .i64 n) ∧ Below w.heap.size w w' := by
  go_enter Tryz.func12, Tryz.ntmps12
  go_wp2
  go_ret
  exact ⟨rfl, Below.refl _ _⟩
theorem unframeT_back {x : Bat} (h : rightT x = true) (more : List UInt8) : unframeT (Wm.frameB (batB x) ++ more) = (x, (Wm.frameB (batB x)).length, 0) := by
  have hl := batB_len h
  have hu := unfR_back (batB x) more (by omega)
  have ht := takeT_back h []
  rw [List.append_nil] at ht
  have := unframeT_ok (l := Wm.frameB (batB x) ++ more) (by rw [hu]) (by rw [hu, ht]; rfl)
  rw [this, hu, ht]
def kO1 : Opp := { Opp.zero with k := 1, key := ⟨#[97]⟩ }
def kO2 : Opp := { Opp.zero with k := 4, nt := 5, nr := 1 }
/-- the batch of knows -/
def kB : Bat := ⟨1, 3, 5, [kO1, kO2]⟩
theorem kB_right : rightT kB = true := by decide
theorem kB_szs : Szs kB.ops := ⟨fun x hx => by
  simp only [kB, List.mem_cons, List.not_mem_nil, or_false] at hx
  rcases hx with rfl | rfl <;> exact ⟨by decide, by decide, by decide⟩, by decide⟩
/-- the entries of knows' batch -/
def kE : List En := [⟨kO1, none, 0⟩, ⟨kO2, none, 0⟩]
theorem kOs (w : World) (T : TypeId) : Os (w.alloc (.cells (enCells kE).toArray T)) (some ⟨w.heap.size, 0, none⟩) 2 kE kB.ops :=
  ⟨rfl, fun _ => ⟨_, 0, rfl, fun i u hu => by rw [Nat.zero_add, World.cell?_alloc_at _ _ _ _ rfl, ← hu]; simp⟩, fun e he => by
    simp only [kE, List.mem_cons, List.not_mem_nil, or_false] at he
    rcases he with rfl | rfl <;> exact Pa.none _ _ rfl, fun h => (by cases h), by decide⟩

set_option maxRecDepth 100000 in
set_option maxHeartbeats 8000000 in
theorem bknows_any (w : World) : Calls Tryz.prog 5 #[] w fun e w' => e = .returned (.bool true) ∧ Below w.heap.size w w' := by
  obtain ⟨i0, hi, hz0, hz1, hz2⟩ := info_parts info_u8
  have hb1 := (Below.refl w.heap.size w).alloc (Nat.le_refl _) (.cells (enCells kE).toArray 53)
  have hb2 := (Below.refl (w.alloc (.cells (enCells kE).toArray 53)).heap.size _).alloc (Nat.le_refl _) (.cells (btA kB (some ⟨w.heap.size, 0, none⟩) 2) 34)
  have hsz1 : (w.alloc (.cells (enCells kE).toArray 53)).heap.size = w.heap.size + 1 := by simp
  have HOS := Lib.hid ((kOs w 53).kept hb2)
  have HX := Lib.hid (show BtAt ((w.alloc (.cells (enCells kE).toArray 53)).alloc (.cells (btA kB (some ⟨w.heap.size, 0, none⟩) 2) 34)) (w.heap.size + 1) kB (some ⟨w.heap.size, 0, none⟩) 2 from by
    have := AgAt.new (w.alloc (.cells (enCells kE).toArray 53)) (btA kB (some ⟨w.heap.size, 0, none⟩) 2) 34
    rw [hsz1] at this
    exact this)
  have HB := Lib.hid (hb1.trans (hb2.mono (by omega)))
  have hfl := batB_len kB_right
  have hfr := frameB_length (batB kB)
  have hnl := Wm.nlen_le (batB kB).length
  have HUN := Lib.hid (unframeT_back kB_right [7])
  have HFT := Lib.hid (frameT_ok kB_right)
  generalize Wm.frameB (batB kB) = f at *
  have hf70 : f.length ≤ 70000 := by omega
  have hf6 : 6 ≤ f.length := by omega
  clear hb1 hb2 hsz1 hfl hfr hnl
  go_enter Tryz.func5, Tryz.ntmps5
  go_wp2_with fail
  refine (bframe_any kB (some ⟨w.heap.size, 0, none⟩) 2 _ kB_szs ⟨kE, HOS.out⟩).mono ?_
  rw [HFT.out]
  rintro e w1 ⟨v1, rfl, hown, hb1⟩
  dsimp only at hown
  obtain ⟨p1, c1, rfl, hbs, -, -, hpn, -⟩ := hown.bs
  replace HB := Lib.hid (HB.out.trans (hb1.mono HB.out.size))
  replace HX := Lib.hid (HX.out.kept hb1)
  replace HOS := Lib.hid (HOS.out.kept hb1)
  have hba := (Below.refl w1.heap.size w1).alloc (Nat.le_refl _) (.cells #[] 5)
  have HW0 := Lib.hid (Own.lit (E := 5) w1 #[] [] rfl (by decide))
  have HBF := Lib.hid (hbs.kept hba)
  have HBA := Lib.hid hba
  clear hown hb1 hbs hba
  go_wp2_with (at_builtin; refine wpList_append_bs rfl _ _ 25 rfl w1.heap.size 5 i0 Tryz.underlying25 hi hz0 hz1 hz2 _ [] rfl HW0.out p1 c1 f rfl HBF.out hpn ?b0 ?b1 ?_)
  case b0 => simp; omega
  case b1 => simp
  intro v2 w2 hown2 hbel2 hgrow2 hnil2
  clear hgrow2 hnil2
  have hb12 := HBA.out.trans hbel2
  have hs2 := hb12.size
  have hba2 := (Below.refl w2.heap.size w2).alloc (Nat.le_refl _) (.cells #[.int .u8 7] 5)
  have HO2 := Lib.hid (Own.below hown2 hba2)
  have HB7 := Lib.hid (Bs.new1 w2 7 7 5 rfl)
  have HB12 := Lib.hid (hb12.trans (hba2.mono hs2))
  obtain ⟨p2, c2, rfl, -⟩ := hown2.bs
  clear hown2 hbel2 hb12 hba2 HW0 HBF HBA
  go_wp2_with (at_builtin; refine wpList_append_bs rfl _ _ 25 rfl w1.heap.size 5 i0 Tryz.underlying25 hi hz0 hz1 hz2 _ f rfl HO2.out (some ⟨w2.heap.size, 0, none⟩) 1 [7] rfl HB7.out (by simp) ?d0 ?d1 ?_)
  case d0 => simp; omega
  case d1 => simp; omega
  intro v3 w3 hown3 hbel3 hgrow3 hnil3
  clear hgrow3 hnil3
  obtain ⟨p3, c3, rfl, hbs3, hc3, -⟩ := hown3.bs
  have hb13 := HB12.out.trans hbel3
  replace HB := Lib.hid (HB.out.trans (hb13.mono HB.out.size))
  replace HX := Lib.hid (HX.out.kept hb13)
  replace HOS := Lib.hid (HOS.out.kept hb13)
  have HU := Lib.hid (bunframe_any p3 (f.length + 1) c3 (f ++ [7]) w3 (by simp) hbs3 (by simp; omega) hc3)
  rw [HUN.out] at HU
  clear hown3 hbs3 hbel3 hb13 HO2 HB7 HB12 hc3
  go_wp2_with fail
  refine HU.out.mono ?_
  rintro e w4 ⟨p4, c4, rfl, hbo4, hb4⟩
  replace HB := Lib.hid (HB.out.trans (hb4.mono HB.out.size))
  replace HX := Lib.hid (HX.out.kept hb4)
  replace HOS := Lib.hid (HOS.out.kept hb4)
  have HBO := Lib.hid hbo4.bops
  clear hbo4 hb4 HU HUN HFT
  go_wp2_with (refine wpList_store_newag btP rfl _ _ rfl rfl _ rfl rfl rfl (btA_one _ _ _) ?_; intro w5 hv5 hb5)
  replace HB := Lib.hid (HB.out.trans (hb5.mono HB.out.size))
  replace HX := Lib.hid (HX.out.kept hb5)
  replace HOS := Lib.hid (HOS.out.kept hb5)
  replace HBO := Lib.hid (HBO.out.kept hb5)
  have HV := Lib.hid hv5
  clear hv5 hb5
  go_wp2
  have HSM := Lib.hid (fun W (hS : Bel w5 W) => by
    have := bsame_any kB kB (some ⟨w.heap.size, 0, none⟩) p4 2 c4 W kB_szs ⟨kE, HOS.out.kept hS⟩ (HBO.out.kept hS)
    rw [sameT_refl] at this
    exact this)
  have HST := Lib.hid (fun W (hS : Bel w5 W) => by
    have := bstamp_any kB (some ⟨w.heap.size, 0, none⟩) 2 1 W kB_szs ⟨kE, HOS.out.kept hS⟩ (by decide)
    rw [show stampT kB 1 = (6, 1) from by decide] at this
    exact this)
  have HEN := Lib.hid (fun W (hS : Bel w5 W) => by
    have := bend_any kB (some ⟨w.heap.size, 0, none⟩) 2 W kB_szs ⟨kE, HOS.out.kept hS⟩
    rw [show endT kB = (6, 1) from by decide] at this
    exact this)
  have HSY := Lib.hid (fun W (hS : Bel w5 W) => by
    have := bstamp_any kB p4 c4 1 W kB_szs (HBO.out.kept hS) (by decide)
    rw [show stampT kB 1 = (6, 1) from by decide] at this
    exact this)
  have HRI := Lib.hid (fun W (hS : Bel w5 W) => by
    have := bright_any kB (some ⟨w.heap.size, 0, none⟩) 2 W kB_szs ⟨kE, HOS.out.kept hS⟩
    rw [kB_right] at this
    exact this)
  refine wp_region_held_drew (S := Bel w5) (by kernel_rfl) (Bel.start w5) (fun hS => ?_)
  refine wpAnyH_take (i := 0) (v := ?_) rfl (by kernel_rfl) (by kernel_rfl) (by kernel_rfl) (fun _ _ _ h => h) (Or.inl ⟨by kernel_rfl, ?_⟩) hS ?_
  rotate_left
  · intro W hSW
    go_simp
    all_goals with_reducible rfl
  refine wpAnyH_take (i := 2) (v := ?_) rfl (by kernel_rfl) (by kernel_rfl) (by kernel_rfl) (fun _ _ _ h => h) (Or.inl ⟨by kernel_rfl, ?_⟩) hS ?_
  rotate_left
  · intro W hSW
    go_simp
    all_goals with_reducible rfl
  refine wpAnyH_ready (rs := [1]) (by kernel_rfl) (by simp) ?_
  refine AllReadyH.cons rfl (fun K hK => ?_) AllReadyH.nil
  go_simp
  go_wp2_with ((go_at_call 12; refine (bnum_any _ _).mono ?_; rintro e wn ⟨rfl, hbn⟩))
  refine hK.out _ _ (hS.trans hbn) (fun hS => ?_)
  clear hK K
  refine wpAnyH_ready (rs := [3]) (by kernel_rfl) (by simp) ?_
  refine AllReadyH.cons rfl (fun K hK => ?_) AllReadyH.nil
  go_simp
  go_wp2_with ((go_at_call 12; refine (bnum_any _ _).mono ?_; rintro e wn ⟨rfl, hbn⟩))
  refine hK.out _ _ (hS.trans hbn) (fun hS => ?_)
  clear hK K
  refine wpAnyH_take (i := 4) (v := ?_) rfl (by kernel_rfl) (by kernel_rfl) (by kernel_rfl) (fun _ _ _ h => h) (Or.inl ⟨by kernel_rfl, ?_⟩) hS ?_
  rotate_left
  · intro W hSW
    go_simp
    all_goals with_reducible rfl
  refine wpAnyH_take (i := 5) (v := ?_) rfl (by kernel_rfl) (by kernel_rfl) (by kernel_rfl) (fun _ _ _ h => h) (Or.inl ⟨by kernel_rfl, ?_⟩) hS ?_
  rotate_left
  · intro W hSW
    go_simp
    all_goals with_reducible rfl
  refine wpAnyH_take (i := 6) (v := ?_) rfl (by kernel_rfl) (by kernel_rfl) (by kernel_rfl) (fun _ _ _ h => h) (Or.inl ⟨by kernel_rfl, ?_⟩) hS ?_
  rotate_left
  · intro W hSW
    go_simp
    all_goals with_reducible rfl
  go_simp
  refine wpAnyH_take (i := 7) (v := .agg (btA _ _ _)) rfl (by kernel_rfl) (by kernel_rfl) (by kernel_rfl) (fun _ _ _ h => h) (Or.inl ⟨by kernel_rfl, fun W hSW => exec_load_ag btP rfl rfl rfl (AgAt.kept HX.out hSW)⟩) hS ?_
  refine wpAnyH_take (i := 8) (v := .agg (btA _ _ _)) rfl (by kernel_rfl) (by kernel_rfl) (by kernel_rfl) (fun _ _ _ h => h) (Or.inl ⟨by kernel_rfl, fun W hSW => exec_load_ag btP rfl rfl rfl (AgAt.kept HV.out hSW)⟩) hS ?_
  refine wpAnyH_ready (rs := [9]) (by kernel_rfl) (by simp) ?_
  refine AllReadyH.cons rfl (fun K hK => ?_) AllReadyH.nil
  go_simp
  go_wp2_with ((go_at_call 17; refine (HSM.out _ hS).mono ?_; rintro e wn ⟨rfl, hbn⟩))
  refine hK.out _ _ (hS.trans hbn) (fun hS => ?_)
  clear hK K
  refine wpAnyH_take (i := 10) (v := ?_) rfl (by kernel_rfl) (by kernel_rfl) (by kernel_rfl) (fun _ _ _ h => h) (Or.inl ⟨by kernel_rfl, ?_⟩) hS ?_
  rotate_left
  · intro W hSW
    go_simp
    all_goals with_reducible rfl
  refine wpAnyH_take (i := 11) (v := ?_) rfl (by kernel_rfl) (by kernel_rfl) (by kernel_rfl) (fun _ _ _ h => h) (Or.inl ⟨by kernel_rfl, ?_⟩) hS ?_
  rotate_left
  · intro W hSW
    go_simp
    all_goals with_reducible rfl
  go_simp
  refine wpAnyH_take (i := 12) (v := ?_) rfl (by kernel_rfl) (by kernel_rfl) (by kernel_rfl) (fun _ _ _ h => h) (Or.inl ⟨by kernel_rfl, ?_⟩) hS ?_
  rotate_left
  · intro W hSW
    go_simp
    all_goals with_reducible rfl
  refine wpAnyH_take (i := 13) (v := ?_) rfl (by kernel_rfl) (by kernel_rfl) (by kernel_rfl) (fun _ _ _ h => h) (Or.inl ⟨by kernel_rfl, ?_⟩) hS ?_
  rotate_left
  · intro W hSW
    go_simp
    all_goals with_reducible rfl
  refine wpAnyH_take (i := 14) (v := ?_) rfl (by kernel_rfl) (by kernel_rfl) (by kernel_rfl) (fun _ _ _ h => h) (Or.inl ⟨by kernel_rfl, ?_⟩) hS ?_
  rotate_left
  · intro W hSW
    go_simp
    all_goals with_reducible rfl
  refine wpAnyH_take (i := 15) (v := ?_) rfl (by kernel_rfl) (by kernel_rfl) (by kernel_rfl) (fun _ _ _ h => h) (Or.inl ⟨by kernel_rfl, ?_⟩) hS ?_
  rotate_left
  · intro W hSW
    go_simp
    all_goals with_reducible rfl
  go_simp
  refine wpAnyH_take (i := 16) (v := ?_) rfl (by kernel_rfl) (by kernel_rfl) (by kernel_rfl) (fun _ _ _ h => h) (Or.inl ⟨by kernel_rfl, ?_⟩) hS ?_
  rotate_left
  · intro W hSW
    go_simp
    all_goals with_reducible rfl
  refine wpAnyH_take (i := 17) (v := ?_) rfl (by kernel_rfl) (by kernel_rfl) (by kernel_rfl) (fun _ _ _ h => h) (Or.inl ⟨by kernel_rfl, ?_⟩) hS ?_
  rotate_left
  · intro W hSW
    go_simp
    all_goals with_reducible rfl
  go_simp
  refine wpAnyH_take (i := 18) (v := .agg (btA _ _ _)) rfl (by kernel_rfl) (by kernel_rfl) (by kernel_rfl) (fun _ _ _ h => h) (Or.inl ⟨by kernel_rfl, fun W hSW => exec_load_ag btP rfl rfl rfl (AgAt.kept HX.out hSW)⟩) hS ?_
  refine wpAnyH_take (i := 20) (v := ?_) rfl (by kernel_rfl) (by kernel_rfl) (by kernel_rfl) (fun _ _ _ h => h) (Or.inl ⟨by kernel_rfl, ?_⟩) hS ?_
  rotate_left
  · intro W hSW
    go_simp
    all_goals with_reducible rfl
  refine wpAnyH_ready (rs := [19]) (by kernel_rfl) (by simp) ?_
  refine AllReadyH.cons rfl (fun K hK => ?_) AllReadyH.nil
  go_simp
  go_wp2_with ((go_at_call 18; refine (HST.out _ hS).mono ?_; rintro e wn ⟨rfl, hbn⟩))
  refine hK.out _ _ (hS.trans hbn) (fun hS => ?_)
  clear hK K
  refine wpAnyH_take (i := 21) (v := ?_) rfl (by kernel_rfl) (by kernel_rfl) (by kernel_rfl) (fun _ _ _ h => h) (Or.inl ⟨by kernel_rfl, ?_⟩) hS ?_
  rotate_left
  · intro W hSW
    go_simp
    all_goals with_reducible rfl
  refine wpAnyH_take (i := 22) (v := ?_) rfl (by kernel_rfl) (by kernel_rfl) (by kernel_rfl) (fun _ _ _ h => h) (Or.inl ⟨by kernel_rfl, ?_⟩) hS ?_
  rotate_left
  · intro W hSW
    go_simp
    all_goals with_reducible rfl
  refine wpAnyH_take (i := 23) (v := ?_) rfl (by kernel_rfl) (by kernel_rfl) (by kernel_rfl) (fun _ _ _ h => h) (Or.inl ⟨by kernel_rfl, ?_⟩) hS ?_
  rotate_left
  · intro W hSW
    go_simp
    all_goals with_reducible rfl
  go_simp
  refine wpAnyH_take (i := 24) (v := .agg (btA _ _ _)) rfl (by kernel_rfl) (by kernel_rfl) (by kernel_rfl) (fun _ _ _ h => h) (Or.inl ⟨by kernel_rfl, fun W hSW => exec_load_ag btP rfl rfl rfl (AgAt.kept HX.out hSW)⟩) hS ?_
  refine wpAnyH_take (i := 26) (v := .agg (btA _ _ _)) rfl (by kernel_rfl) (by kernel_rfl) (by kernel_rfl) (fun _ _ _ h => h) (Or.inl ⟨by kernel_rfl, fun W hSW => exec_load_ag btP rfl rfl rfl (AgAt.kept HV.out hSW)⟩) hS ?_
  refine wpAnyH_ready (rs := [25]) (by kernel_rfl) (by simp) ?_
  refine AllReadyH.cons rfl (fun K hK => ?_) AllReadyH.nil
  go_simp
  go_wp2_with ((go_at_call 19; refine (HEN.out _ hS).mono ?_; rintro e wn ⟨rfl, hbn⟩))
  refine hK.out _ _ (hS.trans hbn) (fun hS => ?_)
  clear hK K
  refine wpAnyH_ready (rs := [27]) (by kernel_rfl) (by simp) ?_
  refine AllReadyH.cons rfl (fun K hK => ?_) AllReadyH.nil
  go_simp
  go_wp2_with ((go_at_call 18; refine (HSY.out _ hS).mono ?_; rintro e wn ⟨rfl, hbn⟩))
  refine hK.out _ _ (hS.trans hbn) (fun hS => ?_)
  clear hK K
  refine wpAnyH_take (i := 28) (v := ?_) rfl (by kernel_rfl) (by kernel_rfl) (by kernel_rfl) (fun _ _ _ h => h) (Or.inl ⟨by kernel_rfl, ?_⟩) hS ?_
  rotate_left
  · intro W hSW
    go_simp
    all_goals with_reducible rfl
  refine wpAnyH_take (i := 29) (v := ?_) rfl (by kernel_rfl) (by kernel_rfl) (by kernel_rfl) (fun _ _ _ h => h) (Or.inl ⟨by kernel_rfl, ?_⟩) hS ?_
  rotate_left
  · intro W hSW
    go_simp
    all_goals with_reducible rfl
  refine wpAnyH_take (i := 30) (v := ?_) rfl (by kernel_rfl) (by kernel_rfl) (by kernel_rfl) (fun _ _ _ h => h) (Or.inl ⟨by kernel_rfl, ?_⟩) hS ?_
  rotate_left
  · intro W hSW
    go_simp
    all_goals with_reducible rfl
  go_simp
  refine wpAnyH_take (i := 31) (v := .agg (btA _ _ _)) rfl (by kernel_rfl) (by kernel_rfl) (by kernel_rfl) (fun _ _ _ h => h) (Or.inl ⟨by kernel_rfl, fun W hSW => exec_load_ag btP rfl rfl rfl (AgAt.kept HX.out hSW)⟩) hS ?_
  refine wpAnyH_ready (rs := [32]) (by kernel_rfl) (by simp) ?_
  refine AllReadyH.cons rfl (fun K hK => ?_) AllReadyH.nil
  go_simp
  go_wp2_with ((go_at_call 20; refine (HRI.out _ hS).mono ?_; rintro e wn ⟨rfl, hbn⟩))
  refine hK.out _ _ (hS.trans hbn) (fun hS => ?_)
  clear hK K
  refine wpAnyH_take (i := 33) (v := ?_) rfl (by kernel_rfl) (by kernel_rfl) (by kernel_rfl) (fun _ _ _ h => h) (Or.inl ⟨by kernel_rfl, ?_⟩) hS ?_
  rotate_left
  · intro W hSW
    go_simp
    all_goals with_reducible rfl
  refine wpAnyH_take (i := 34) (v := ?_) rfl (by kernel_rfl) (by kernel_rfl) (by kernel_rfl) (fun _ _ _ h => h) (Or.inl ⟨by kernel_rfl, ?_⟩) hS ?_
  rotate_left
  · intro W hSW
    go_simp
    all_goals with_reducible rfl
  go_simp
  have HS := Lib.hid hS
  refine wpAnyH_done (by kernel_rfl) ?_ _
  go_wp2
  go_ret
  exact ⟨rfl, HB.out.trans (Below.mono HS.out HB.out.size)⟩
end Go.Proofs.YthpdphlkmleldaaGreat
