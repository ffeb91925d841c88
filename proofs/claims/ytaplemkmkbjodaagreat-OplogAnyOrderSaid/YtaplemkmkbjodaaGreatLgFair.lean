/-
  THE LAW's helpers: All, fair.
  No conditions but sizes.
-/
import Derived.Test.YtaplemkmkbjodaaGreatGR
import Derived.Test.YtaplemkmkbjodaaGreatGT
namespace Go.Proofs.YtaplemkmkbjodaaGreat
open Go.RowKit

set_option maxRecDepth 100000 in
set_option maxHeartbeats 8000000 in
theorem all9_any (p : Option Addr) (c : Nat) (l : List Be) (w : World) (h : Rd w p (beCells l)) (ho : ∀ e, e ∈ l → Bops w e.x e.p e.c) (hs : ∀ e, e ∈ l → CpSz e.x) (hl : l.length ≤ 5000) : Calls Tryz.prog 20 #[.slice p l.length c] w (Copied l w) := by
  obtain ⟨i0, hi, hz0, hz1, hz2⟩ := info_parts oinfo_bt
  have HR := Lib.hid (fun W (hW : Below w.heap.size w W) => h.below hW)
  have HCC := Lib.hid (fun (k : Nat) (hk : k < l.length) W (hW : Below w.heap.size w W) => bown_any (beOf l k).x (beOf l k).p (beOf l k).c W ((ho _ (beOf_mem hk)).kept hW) (hs _ (beOf_mem hk)).1 (hs _ (beOf_mem hk)).2)
  clear h ho hs
  go_enter Tryz.func20, Tryz.ntmps20
  go_wp2
  go_loopw [3, 4] (fun v i wr => ∃ (k : Nat) (p' : Option Addr) (c' : Nat) (l' : List Be), k ≤ l.length ∧ i = .int .i64 (k : Int) ∧ v = .slice p' k c' ∧ l'.map (·.x) = (l.take k).map (·.x) ∧ BRow w.heap.size wr p' c' l' ∧ Below w.heap.size w wr) (fun _ i _ => l.length - (intOf i).toNat)
  case atStart => exact ⟨0, none, 0, [], Nat.zero_le _, rfl, rfl, rfl, BRow.nil _ _, Below.refl _ _⟩
  case round =>
    obtain ⟨k, p', c', l', hk, rfl, rfl, hm, hrow, hbw⟩ := hrel
    have HLK := Lib.hid (show l'.length = k from by have := congrArg List.length hm; simp only [List.length_map, List.length_take] at this; omega)
    have HM := Lib.hid hm
    have HROW := Lib.hid hrow
    have HBW := Lib.hid hbw
    clear hm hrow hbw
    by_cases hlt : k < l.length
    · have hd0 : decide ((k : Int) < (l.length : Int)) = true := decide_eq_true (by omega)
      obtain ⟨b, o, rfl, hb⟩ := (HR.out _ HBW.out).addr (by rw [beCells_length]; omega)
      have HRD := Lib.hid (HR.out _ HBW.out)
      have HC := Lib.hid (HCC.out k hlt)
      have HTK := Lib.hid (show (l.take (k + 1)).map (·.x) = (l.take k).map (·.x) ++ [(beOf l k).x] from by
        rw [List.take_succ_eq_append_getElem hlt, List.map_append]
        simp [beOf, hlt])
      go_wp2_with (refine wpList_load_be btR rfl _ rfl b o k rfl l HRD.out hlt ?_)
      refine (HC.out wr HBW.out).mono ?_
      rintro e w5 ⟨p5, c5, rfl, hp5, hb5⟩
      have hb6 := (Below.refl w5.heap.size w5).alloc (Nat.le_refl _) (.cells (btA (beOf l k).x p5 c5) 39)
      have HROW6 := Lib.hid ((HROW.out.kept hb5).kept hb6)
      have HB5 := Lib.hid (HBW.out.trans (hb5.mono HBW.out.size))
      have HB6 := Lib.hid (HB5.out.trans (hb6.mono HB5.out.size))
      have HP6 := Lib.hid (show BopsF (fun j => w.heap.size ≤ j ∧ (Value.slice p' l'.length c').ownBlock ≠ some j) (w5.alloc (.cells (btA (beOf l k).x p5 c5) 39)) (beOf l k).x p5 c5 from
        ((BopsF.ofN hp5).below hb6).mono fun j _ hj => ⟨Nat.le_trans HBW.out.size hj, fun hh => by have := (World.ownsRow.lt HROW.out.own j hh).2; omega⟩)
      have HRW := Lib.hid (rd_bt_one w5 ⟨(beOf l k).x, p5, c5⟩ 39)
      have HSZ := Lib.hid (show w.heap.size ≤ (w5.alloc (.cells (btA (beOf l k).x p5 c5) 39)).heap.size from HB6.out.size)
      rw [HLK.out] at HP6
      have HOW := Lib.hid HROW6.out.own
      rw [HLK.out] at HOW
      clear hp5 hb5 hb6
      generalize beOf l k = be at *
      go_wp2_with (first | (refine wpList_build_bt rfl _ rfl be.x p5 c5 rfl ?_) | (at_builtin; refine wpList_append_k rfl _ _ 33 rfl w.heap.size 39 i0 _ 4 48 Tryz.underlying33 hi hz0 hz1 (by decide) hz2 (by decide) rfl _ k (beCells l') rfl HOW.out _ 1 1 (beL ⟨be.x, p5, c5⟩) rfl rfl HRW.out (fun h => by cases h) (beL_one _) (by omega) HSZ.out ?_; intro p7 c7 w7 ho7 hg7 hw7))
      have HE := Lib.hid (show BRow w.heap.size w7 p7 c7 (l' ++ [⟨be.x, p5, c5⟩]) from by
        have hk := HLK.out
        have h6 := HROW6.out
        have hpp := HP6.out
        rw [← hk] at ho7 hg7 hw7 hpp
        exact h6.push hpp ho7 hg7 hw7)
      have HB7 := Lib.hid (show Below w.heap.size w w7 from HB6.out.trans ((Turns.of_grown hg7).below (fun j _ hj => by
        exact (World.ownsRow.lt HOW.out j hj).1) HSZ.out))
      clear ho7 hg7 hw7
      go_wp2
      go_roundw
      case rel => exact ⟨k + 1, _, _, _, by omega, by go_num, rfl, by rw [HTK.out, List.map_append, HM.out]; rfl, HE.out, HB7.out⟩
      case measure => simp [intOf]; omega
    · obtain rfl : k = l.length := by omega
      have hd0 : decide ((l.length : Int) < (l.length : Int)) = false := decide_eq_false (by omega)
      have HE := Lib.hid (show Copied l w (.returned (.slice p' l.length c')) wr from ⟨p', c', l', rfl, by rw [HM.out, List.take_length], HROW.out, HBW.out⟩)
      go_wp2
      go_ret
      exact HE.out

/-- what fair answers -/
def Faired (l : List Be) (w : World) (e : Ending) (w' : World) : Prop := ∃ b, e = .returned (.bool b) ∧ (b = true → FairP (l.map (·.x))) ∧ Below w.heap.size w w'
theorem fair_all {l : List Be} (h : ∀ i, i < l.length → ∀ j, j < i → fairB (beOf l i).x (beOf l j).x) : FairP (l.map (·.x)) := by
  unfold FairP
  rw [List.pairwise_map, List.pairwise_iff_getElem]
  intro i j hi hj hij
  have := (h j hj i hij).symm
  rwa [show beOf l i = l[i] from by simp [beOf, hi], show beOf l j = l[j] from by simp [beOf, hj]] at this

set_option maxRecDepth 100000 in
set_option maxHeartbeats 16000000 in
theorem fair9_any (p : Option Addr) (c : Nat) (l : List Be) (w : World) (h : Rd w p (beCells l)) (ho : ∀ e, e ∈ l → Bops w e.x e.p e.c) (hs : ∀ e, e ∈ l → Szs e.x.ops) (hl : l.length ≤ 5000) :
    Calls Tryz.prog 19 #[.slice p l.length c] w (Faired l w) := by
  have HR := Lib.hid (fun W (hW : Below w.heap.size w W) => h.below hW)
  have HBP := Lib.hid (fun (k : Nat) (hk : k < l.length) W (hW : Below w.heap.size w W) => (ho _ (beOf_mem hk)).kept hW)
  have HSZ := Lib.hid (fun (k : Nat) (hk : k < l.length) => hs _ (beOf_mem hk))
  clear h ho hs
  go_enter Tryz.func19, Tryz.ntmps19
  go_wp2
  go_loopw [3] (fun i wr => ∃ k : Nat, k ≤ l.length ∧ i = .int .i64 (k : Int) ∧ (∀ i, i < k → ∀ j, j < i → fairB (beOf l i).x (beOf l j).x) ∧ Below w.heap.size w wr) (fun i _ => l.length - (intOf i).toNat)
  case atStart => exact ⟨0, Nat.zero_le _, rfl, fun i hi => by omega, Below.refl _ _⟩
  case round =>
    obtain ⟨k, hk, rfl, hgood, hbw⟩ := hrel
    have HG := Lib.hid hgood
    have HB := Lib.hid hbw
    clear hgood hbw
    by_cases hlk : k < l.length
    · have hd0 : decide ((k : Int) < (l.length : Int)) = true := decide_eq_true (by omega)
      go_wp2
      go_loopw [4] (fun i wr => ∃ q : Nat, q ≤ k ∧ i = .int .i64 (q : Int) ∧ (∀ j, j < q → fairB (beOf l k).x (beOf l j).x) ∧ Below w.heap.size w wr) (fun i _ => k - (intOf i).toNat)
      case atStart => exact ⟨0, Nat.zero_le _, rfl, fun j hj => by omega, HB.out⟩
      case round =>
        clear HB
        obtain ⟨q, hq, rfl, hgq, hbw⟩ := hrel
        have HQ := Lib.hid hgq
        have HB := Lib.hid hbw
        clear hgq hbw
        by_cases hqk : q < k
        · have hd1 : decide ((q : Int) < (k : Int)) = true := decide_eq_true (by omega)
          have hlq : q < l.length := by omega
          have HRD := Lib.hid (HR.out _ HB.out)
          obtain ⟨b, o, rfl, -⟩ := HRD.out.addr (by rw [beCells_length]; omega)
          go_upto_region 8 with (first | (refine wpList_load_be btR rfl _ rfl b o k rfl l HRD.out hlk ?_) | (refine wpList_store_newag (A := btA (beOf l k).x (beOf l k).p (beOf l k).c) btR rfl _ _ rfl rfl _ rfl rfl rfl (btA_one _ _ _) ?_; intro w4 hv4 hb4))
          have HB4 := Lib.hid (HB.out.trans (hb4.mono HB.out.size))
          have HRD4 := Lib.hid (HR.out _ HB4.out)
          have HA4 := Lib.hid hv4
          obtain ⟨b5, hb5⟩ : ∃ b5, b5 = wr.heap.size := ⟨_, rfl⟩
          clear hv4 hb4
          go_upto_region 9 with (first | (refine wpList_load_be btR rfl _ rfl b o q rfl l HRD4.out hlq ?_) | (refine wpList_store_newag (A := btA (beOf l q).x (beOf l q).p (beOf l q).c) btR rfl _ _ rfl rfl _ rfl rfl rfl (btA_one _ _ _) ?_; intro w6 hv6 hb6))
          have HBE := Lib.hid (HB4.out.trans (hb6.mono HB4.out.size))
          have HA := Lib.hid (AgAt.kept HA4.out hb6)
          have HB6 := Lib.hid hv6
          have hne : wr.heap.size < w4.heap.size := AgAt.lt HA4.out
          obtain ⟨x0, x1, x2, x3⟩ := BtAt.cells HA.out
          obtain ⟨y0, y1, y2, y3⟩ := BtAt.cells HB6.out
          clear hv6 hb6
          rw [← hb5] at HA x0 x1 x2 x3 hne
          rw [← hb5]
          obtain ⟨b6, hb6⟩ : ∃ b6, b6 = w4.heap.size := ⟨_, rfl⟩
          rw [← hb6] at HB6 y0 y1 y2 y3 hne
          rw [← hb6]
          have HW5 := Lib.hid (show w.heap.size ≤ b5 ∧ w.heap.size ≤ b6 from ⟨by rw [hb5]; exact HB.out.size, by rw [hb6]; exact HB4.out.size⟩)
          clear hb5 hb6 HA4 HRD HRD4 HB4
          by_cases hr : (beOf l k).x.r = (beOf l q).x.r
          · have hr1 : ((beOf l k).x.r != (beOf l q).x.r) = false := by simpa using hr
            by_cases hgt : (beOf l q).x.s < (beOf l k).x.s
            · have hg1 : decide ((beOf l q).x.s < (beOf l k).x.s) = true := decide_eq_true hgt
              have HNE := Lib.hid hne
              go_upto_region 12 with (first | (refine wpList_load_ag btR (by kernel_rfl) _ rfl b6 rfl rfl HB6.out ?_) | (refine wpList_load_ag btR (by kernel_rfl) _ rfl b5 rfl rfl HA.out ?_) | (refine wpList_store_ag (A := btA (beOf l q).x (beOf l q).p (beOf l q).c) btR rfl _ _ rfl b5 rfl _ HA.out rfl rfl rfl (btA_one _ _ _) ?_; intro w7 hv7 hko7 hsz7 hbn7) | (refine wpList_store_ag (A := btA (beOf l k).x (beOf l k).p (beOf l k).c) btR rfl _ _ rfl b6 rfl _ (HB6.out.block (hko7 _ (by have := HNE.out; omega))) rfl rfl rfl (btA_one _ _ _) ?_; intro w8 hv8 hko8 hsz8 hbn8))
              have HA8 := Lib.hid (hv7.block (hko8 _ (by have := HNE.out; omega)))
              have HB8 := Lib.hid hv8
              have HBE8 := Lib.hid (hbn8 _ _ (hbn7 _ _ HBE.out HW5.out.1) HW5.out.2)
              have HGT := Lib.hid hgt
              clear hv7 hko7 hsz7 hbn7 hv8 hko8 hsz8 hbn8 x0 x1 x2 x3 y0 y1 y2 y3 HA HB6 HBE hgt hg1 hr1 hne hr HB
              have HA := HA8
              have HB6 := HB8
              have HBE := HBE8
              clear HA8 HB8 HBE8
              have HRA := Lib.hid (fun W (hW : Below w.heap.size w W) => r8right_any (beOf l q).x (beOf l q).p (beOf l q).c W (HSZ.out q hlq) (HBP.out q hlq W hW))
              have HRB := Lib.hid (fun W (hW : Below w.heap.size w W) => r8right_any (beOf l k).x (beOf l k).p (beOf l k).c W (HSZ.out k hlk) (HBP.out k hlk W hW))
              have HEA := Lib.hid (fun W (hW : Below w.heap.size w W) => r8end_any (beOf l q).x (beOf l q).p (beOf l q).c W (HSZ.out q hlq) (HBP.out q hlq W hW))
              have HFD := Lib.hid (fun W => run_field_st (endT (beOf l q).x).1 (endT (beOf l q).x).2 W)
              go_upto_region 12 with fail
              refine wp_region_held_drew (S := fun W => AgAt W b5 (btA (beOf l q).x (beOf l q).p (beOf l q).c) ∧ AgAt W b6 (btA (beOf l k).x (beOf l k).p (beOf l k).c) ∧ Below w.heap.size w W) (by kernel_rfl) ⟨HA.out, HB6.out, HBE.out.drew⟩ (fun hS => ?_)
              by_cases hs : (beOf l q).x.s = (beOf l k).x.s
              · have HE1 := Lib.hid (show ((beOf l q).x.s == (beOf l k).x.s) = true from by simpa using hs)
                clear hs
                refine wpAnyH_take (i := 0) (v := ?_) rfl (by kernel_rfl) (by kernel_rfl) (by kernel_rfl) (fun _ _ _ h => h) (Or.inl ⟨by kernel_rfl, ?_⟩) hS ?_
                rotate_left
                · intro W hSW
                  go_simp
                  all_goals with_reducible rfl
                refine wpAnyH_take (i := 1) (v := ?_) rfl (by kernel_rfl) (by kernel_rfl) (by kernel_rfl) (fun _ _ _ h => h) (Or.inl ⟨by kernel_rfl, ?_⟩) hS ?_
                rotate_left
                · intro W hSW
                  obtain ⟨x0, x1, x2, x3⟩ := BtAt.cells hSW.1
                  go_simp
                  all_goals with_reducible rfl
                refine wpAnyH_take (i := 2) (v := ?_) rfl (by kernel_rfl) (by kernel_rfl) (by kernel_rfl) (fun _ _ _ h => h) (Or.inl ⟨by kernel_rfl, ?_⟩) hS ?_
                rotate_left
                · intro W hSW
                  go_simp
                  all_goals with_reducible rfl
                refine wpAnyH_take (i := 3) (v := ?_) rfl (by kernel_rfl) (by kernel_rfl) (by kernel_rfl) (fun _ _ _ h => h) (Or.inl ⟨by kernel_rfl, ?_⟩) hS ?_
                rotate_left
                · intro W hSW
                  obtain ⟨x0, x1, x2, x3⟩ := BtAt.cells hSW.2.1
                  go_simp
                  all_goals with_reducible rfl
                go_simp
                refine wpAnyH_take (i := 4) (v := ?_) rfl (by kernel_rfl) (by kernel_rfl) (by kernel_rfl) (fun _ _ _ h => h) (Or.inl ⟨by kernel_rfl, ?_⟩) hS ?_
                rotate_left
                · intro W hSW
                  have he1 := HE1.out
                  go_simp
                  all_goals with_reducible rfl
                refine wpAnyH_take (i := 5) (v := ?_) rfl (by kernel_rfl) (by kernel_rfl) (by kernel_rfl) (fun _ _ _ h => h) (Or.inl ⟨by kernel_rfl, ?_⟩) hS ?_
                rotate_left
                · intro W hSW
                  go_simp
                  all_goals with_reducible rfl
                go_simp
                refine wpAnyH_take (i := 6) (v := undef) rfl (by kernel_rfl) (by kernel_rfl) (by kernel_rfl) (fun _ _ _ h => h) (Or.inr ⟨by kernel_rfl, rfl⟩) hS ?_
                go_simp
                refine wpAnyH_take (i := 7) (v := undef) rfl (by kernel_rfl) (by kernel_rfl) (by kernel_rfl) (fun _ _ _ h => h) (Or.inr ⟨by kernel_rfl, rfl⟩) hS ?_
                go_simp
                refine wpAnyH_take (i := 8) (v := undef) rfl (by kernel_rfl) (by kernel_rfl) (by kernel_rfl) (fun _ _ _ h => h) (Or.inr ⟨by kernel_rfl, rfl⟩) hS ?_
                refine wpAnyH_take (i := 9) (v := ?_) rfl (by kernel_rfl) (by kernel_rfl) (by kernel_rfl) (fun _ _ _ h => h) (Or.inl ⟨by kernel_rfl, ?_⟩) hS ?_
                rotate_left
                · intro W hSW
                  go_simp
                  all_goals with_reducible rfl
                refine wpAnyH_take (i := 10) (v := ?_) rfl (by kernel_rfl) (by kernel_rfl) (by kernel_rfl) (fun _ _ _ h => h) (Or.inl ⟨by kernel_rfl, ?_⟩) hS ?_
                rotate_left
                · intro W hSW
                  go_simp
                  all_goals with_reducible rfl
                go_simp
                refine wpAnyH_take (i := 11) (v := undef) rfl (by kernel_rfl) (by kernel_rfl) (by kernel_rfl) (fun _ _ _ h => h) (Or.inr ⟨by kernel_rfl, rfl⟩) hS ?_
                go_simp
                refine wpAnyH_take (i := 12) (v := undef) rfl (by kernel_rfl) (by kernel_rfl) (by kernel_rfl) (fun _ _ _ h => h) (Or.inr ⟨by kernel_rfl, rfl⟩) hS ?_
                go_simp
                refine wpAnyH_take (i := 13) (v := undef) rfl (by kernel_rfl) (by kernel_rfl) (by kernel_rfl) (fun _ _ _ h => h) (Or.inr ⟨by kernel_rfl, rfl⟩) hS ?_
                refine wpAnyH_take (i := 14) (v := ?_) rfl (by kernel_rfl) (by kernel_rfl) (by kernel_rfl) (fun _ _ _ h => h) (Or.inl ⟨by kernel_rfl, ?_⟩) hS ?_
                rotate_left
                · intro W hSW
                  go_simp
                  all_goals with_reducible rfl
                refine wpAnyH_take (i := 15) (v := ?_) rfl (by kernel_rfl) (by kernel_rfl) (by kernel_rfl) (fun _ _ _ h => h) (Or.inl ⟨by kernel_rfl, ?_⟩) hS ?_
                rotate_left
                · intro W hSW
                  go_simp
                  all_goals with_reducible rfl
                go_simp
                refine wpAnyH_take (i := 16) (v := undef) rfl (by kernel_rfl) (by kernel_rfl) (by kernel_rfl) (fun _ _ _ h => h) (Or.inr ⟨by kernel_rfl, rfl⟩) hS ?_
                go_simp
                refine wpAnyH_take (i := 17) (v := undef) rfl (by kernel_rfl) (by kernel_rfl) (by kernel_rfl) (fun _ _ _ h => h) (Or.inr ⟨by kernel_rfl, rfl⟩) hS ?_
                go_simp
                refine wpAnyH_take (i := 18) (v := undef) rfl (by kernel_rfl) (by kernel_rfl) (by kernel_rfl) (fun _ _ _ h => h) (Or.inr ⟨by kernel_rfl, rfl⟩) hS ?_
                go_simp
                refine wpAnyH_take (i := 19) (v := undef) rfl (by kernel_rfl) (by kernel_rfl) (by kernel_rfl) (fun _ _ _ h => h) (Or.inr ⟨by kernel_rfl, rfl⟩) hS ?_
                go_simp
                refine wpAnyH_take (i := 20) (v := undef) rfl (by kernel_rfl) (by kernel_rfl) (by kernel_rfl) (fun _ _ _ h => h) (Or.inr ⟨by kernel_rfl, rfl⟩) hS ?_
                go_simp
                refine wpAnyH_take (i := 21) (v := undef) rfl (by kernel_rfl) (by kernel_rfl) (by kernel_rfl) (fun _ _ _ h => h) (Or.inr ⟨by kernel_rfl, rfl⟩) hS ?_
                refine wpAnyH_take (i := 22) (v := ?_) rfl (by kernel_rfl) (by kernel_rfl) (by kernel_rfl) (fun _ _ _ h => h) (Or.inl ⟨by kernel_rfl, ?_⟩) hS ?_
                rotate_left
                · intro W hSW
                  go_simp
                  all_goals with_reducible rfl
                go_simp
                refine wpAnyH_done (by kernel_rfl) ?_ _
                go_simp
                have HEN := Lib.hid (show Faired l w (.returned (.bool false)) _ from ⟨false, rfl, fun h => (by cases h), hS.2.2⟩)
                clear hS
                go_wp2
                go_ret
                exact HEN.out
              · have HE1 := Lib.hid (show ((beOf l q).x.s == (beOf l k).x.s) = false from by simpa using hs)
                cases hra : rightT (beOf l q).x with
                | false =>
                  rw [hra] at HRA
                  clear hs hra
                  refine wpAnyH_take (i := 0) (v := ?_) rfl (by kernel_rfl) (by kernel_rfl) (by kernel_rfl) (fun _ _ _ h => h) (Or.inl ⟨by kernel_rfl, ?_⟩) hS ?_
                  rotate_left
                  · intro W hSW
                    go_simp
                    all_goals with_reducible rfl
                  refine wpAnyH_take (i := 1) (v := ?_) rfl (by kernel_rfl) (by kernel_rfl) (by kernel_rfl) (fun _ _ _ h => h) (Or.inl ⟨by kernel_rfl, ?_⟩) hS ?_
                  rotate_left
                  · intro W hSW
                    obtain ⟨x0, x1, x2, x3⟩ := BtAt.cells hSW.1
                    go_simp
                    all_goals with_reducible rfl
                  refine wpAnyH_take (i := 2) (v := ?_) rfl (by kernel_rfl) (by kernel_rfl) (by kernel_rfl) (fun _ _ _ h => h) (Or.inl ⟨by kernel_rfl, ?_⟩) hS ?_
                  rotate_left
                  · intro W hSW
                    go_simp
                    all_goals with_reducible rfl
                  refine wpAnyH_take (i := 3) (v := ?_) rfl (by kernel_rfl) (by kernel_rfl) (by kernel_rfl) (fun _ _ _ h => h) (Or.inl ⟨by kernel_rfl, ?_⟩) hS ?_
                  rotate_left
                  · intro W hSW
                    obtain ⟨x0, x1, x2, x3⟩ := BtAt.cells hSW.2.1
                    go_simp
                    all_goals with_reducible rfl
                  go_simp
                  refine wpAnyH_take (i := 4) (v := ?_) rfl (by kernel_rfl) (by kernel_rfl) (by kernel_rfl) (fun _ _ _ h => h) (Or.inl ⟨by kernel_rfl, ?_⟩) hS ?_
                  rotate_left
                  · intro W hSW
                    have he1 := HE1.out
                    go_simp
                    all_goals with_reducible rfl
                  refine wpAnyH_take (i := 5) (v := ?_) rfl (by kernel_rfl) (by kernel_rfl) (by kernel_rfl) (fun _ _ _ h => h) (Or.inl ⟨by kernel_rfl, ?_⟩) hS ?_
                  rotate_left
                  · intro W hSW
                    go_simp
                    all_goals with_reducible rfl
                  go_simp
                  refine wpAnyH_take (i := 6) (v := .agg (btA (beOf l q).x (beOf l q).p (beOf l q).c)) rfl (by kernel_rfl) (by kernel_rfl) (by kernel_rfl) (fun _ _ _ h => h) (Or.inl ⟨by kernel_rfl, fun W hSW => exec_load_ag btR rfl rfl rfl hSW.1⟩) hS ?_
                  go_simp
                  refine wpAnyH_ready (rs := [7]) (by kernel_rfl) (by simp) ?_
                  refine AllReadyH.cons rfl (fun K hK => ?_) AllReadyH.nil
                  go_simp
                  go_wp2_with ((go_at_call 38; refine (HRA.out _ hS.2.2).mono ?_; rintro e wc0 ⟨rfl, hbc⟩))
                  refine hK.out _ _ ⟨AgAt.kept hS.1 hbc, AgAt.kept hS.2.1 hbc, hS.2.2.trans (hbc.mono hS.2.2.size)⟩ (fun hS => ?_)
                  clear hK K hbc
                  refine wpAnyH_take (i := 8) (v := ?_) rfl (by kernel_rfl) (by kernel_rfl) (by kernel_rfl) (fun _ _ _ h => h) (Or.inl ⟨by kernel_rfl, ?_⟩) hS ?_
                  rotate_left
                  · intro W hSW
                    go_simp
                    all_goals with_reducible rfl
                  refine wpAnyH_take (i := 9) (v := ?_) rfl (by kernel_rfl) (by kernel_rfl) (by kernel_rfl) (fun _ _ _ h => h) (Or.inl ⟨by kernel_rfl, ?_⟩) hS ?_
                  rotate_left
                  · intro W hSW
                    go_simp
                    all_goals with_reducible rfl
                  refine wpAnyH_take (i := 10) (v := ?_) rfl (by kernel_rfl) (by kernel_rfl) (by kernel_rfl) (fun _ _ _ h => h) (Or.inl ⟨by kernel_rfl, ?_⟩) hS ?_
                  rotate_left
                  · intro W hSW
                    go_simp
                    all_goals with_reducible rfl
                  go_simp
                  refine wpAnyH_take (i := 11) (v := undef) rfl (by kernel_rfl) (by kernel_rfl) (by kernel_rfl) (fun _ _ _ h => h) (Or.inr ⟨by kernel_rfl, rfl⟩) hS ?_
                  go_simp
                  refine wpAnyH_take (i := 12) (v := undef) rfl (by kernel_rfl) (by kernel_rfl) (by kernel_rfl) (fun _ _ _ h => h) (Or.inr ⟨by kernel_rfl, rfl⟩) hS ?_
                  go_simp
                  refine wpAnyH_take (i := 13) (v := undef) rfl (by kernel_rfl) (by kernel_rfl) (by kernel_rfl) (fun _ _ _ h => h) (Or.inr ⟨by kernel_rfl, rfl⟩) hS ?_
                  refine wpAnyH_take (i := 14) (v := ?_) rfl (by kernel_rfl) (by kernel_rfl) (by kernel_rfl) (fun _ _ _ h => h) (Or.inl ⟨by kernel_rfl, ?_⟩) hS ?_
                  rotate_left
                  · intro W hSW
                    go_simp
                    all_goals with_reducible rfl
                  refine wpAnyH_take (i := 15) (v := ?_) rfl (by kernel_rfl) (by kernel_rfl) (by kernel_rfl) (fun _ _ _ h => h) (Or.inl ⟨by kernel_rfl, ?_⟩) hS ?_
                  rotate_left
                  · intro W hSW
                    go_simp
                    all_goals with_reducible rfl
                  go_simp
                  refine wpAnyH_take (i := 16) (v := undef) rfl (by kernel_rfl) (by kernel_rfl) (by kernel_rfl) (fun _ _ _ h => h) (Or.inr ⟨by kernel_rfl, rfl⟩) hS ?_
                  go_simp
                  refine wpAnyH_take (i := 17) (v := undef) rfl (by kernel_rfl) (by kernel_rfl) (by kernel_rfl) (fun _ _ _ h => h) (Or.inr ⟨by kernel_rfl, rfl⟩) hS ?_
                  go_simp
                  refine wpAnyH_take (i := 18) (v := undef) rfl (by kernel_rfl) (by kernel_rfl) (by kernel_rfl) (fun _ _ _ h => h) (Or.inr ⟨by kernel_rfl, rfl⟩) hS ?_
                  go_simp
                  refine wpAnyH_take (i := 19) (v := undef) rfl (by kernel_rfl) (by kernel_rfl) (by kernel_rfl) (fun _ _ _ h => h) (Or.inr ⟨by kernel_rfl, rfl⟩) hS ?_
                  go_simp
                  refine wpAnyH_take (i := 20) (v := undef) rfl (by kernel_rfl) (by kernel_rfl) (by kernel_rfl) (fun _ _ _ h => h) (Or.inr ⟨by kernel_rfl, rfl⟩) hS ?_
                  go_simp
                  refine wpAnyH_take (i := 21) (v := undef) rfl (by kernel_rfl) (by kernel_rfl) (by kernel_rfl) (fun _ _ _ h => h) (Or.inr ⟨by kernel_rfl, rfl⟩) hS ?_
                  refine wpAnyH_take (i := 22) (v := ?_) rfl (by kernel_rfl) (by kernel_rfl) (by kernel_rfl) (fun _ _ _ h => h) (Or.inl ⟨by kernel_rfl, ?_⟩) hS ?_
                  rotate_left
                  · intro W hSW
                    go_simp
                    all_goals with_reducible rfl
                  go_simp
                  refine wpAnyH_done (by kernel_rfl) ?_ _
                  go_simp
                  have HEN := Lib.hid (show Faired l w (.returned (.bool false)) _ from ⟨false, rfl, fun h => (by cases h), hS.2.2⟩)
                  clear hS
                  go_wp2
                  go_ret
                  exact HEN.out
                | true =>
                  rw [hra] at HRA
                  cases hrb : rightT (beOf l k).x with
                  | false =>
                    rw [hrb] at HRB
                    clear hs hra hrb
                    refine wpAnyH_take (i := 0) (v := ?_) rfl (by kernel_rfl) (by kernel_rfl) (by kernel_rfl) (fun _ _ _ h => h) (Or.inl ⟨by kernel_rfl, ?_⟩) hS ?_
                    rotate_left
                    · intro W hSW
                      go_simp
                      all_goals with_reducible rfl
                    refine wpAnyH_take (i := 1) (v := ?_) rfl (by kernel_rfl) (by kernel_rfl) (by kernel_rfl) (fun _ _ _ h => h) (Or.inl ⟨by kernel_rfl, ?_⟩) hS ?_
                    rotate_left
                    · intro W hSW
                      obtain ⟨x0, x1, x2, x3⟩ := BtAt.cells hSW.1
                      go_simp
                      all_goals with_reducible rfl
                    refine wpAnyH_take (i := 2) (v := ?_) rfl (by kernel_rfl) (by kernel_rfl) (by kernel_rfl) (fun _ _ _ h => h) (Or.inl ⟨by kernel_rfl, ?_⟩) hS ?_
                    rotate_left
                    · intro W hSW
                      go_simp
                      all_goals with_reducible rfl
                    refine wpAnyH_take (i := 3) (v := ?_) rfl (by kernel_rfl) (by kernel_rfl) (by kernel_rfl) (fun _ _ _ h => h) (Or.inl ⟨by kernel_rfl, ?_⟩) hS ?_
                    rotate_left
                    · intro W hSW
                      obtain ⟨x0, x1, x2, x3⟩ := BtAt.cells hSW.2.1
                      go_simp
                      all_goals with_reducible rfl
                    go_simp
                    refine wpAnyH_take (i := 4) (v := ?_) rfl (by kernel_rfl) (by kernel_rfl) (by kernel_rfl) (fun _ _ _ h => h) (Or.inl ⟨by kernel_rfl, ?_⟩) hS ?_
                    rotate_left
                    · intro W hSW
                      have he1 := HE1.out
                      go_simp
                      all_goals with_reducible rfl
                    refine wpAnyH_take (i := 5) (v := ?_) rfl (by kernel_rfl) (by kernel_rfl) (by kernel_rfl) (fun _ _ _ h => h) (Or.inl ⟨by kernel_rfl, ?_⟩) hS ?_
                    rotate_left
                    · intro W hSW
                      go_simp
                      all_goals with_reducible rfl
                    go_simp
                    refine wpAnyH_take (i := 6) (v := .agg (btA (beOf l q).x (beOf l q).p (beOf l q).c)) rfl (by kernel_rfl) (by kernel_rfl) (by kernel_rfl) (fun _ _ _ h => h) (Or.inl ⟨by kernel_rfl, fun W hSW => exec_load_ag btR rfl rfl rfl hSW.1⟩) hS ?_
                    go_simp
                    refine wpAnyH_ready (rs := [7]) (by kernel_rfl) (by simp) ?_
                    refine AllReadyH.cons rfl (fun K hK => ?_) AllReadyH.nil
                    go_simp
                    go_wp2_with ((go_at_call 38; refine (HRA.out _ hS.2.2).mono ?_; rintro e wc0 ⟨rfl, hbc⟩))
                    refine hK.out _ _ ⟨AgAt.kept hS.1 hbc, AgAt.kept hS.2.1 hbc, hS.2.2.trans (hbc.mono hS.2.2.size)⟩ (fun hS => ?_)
                    clear hK K hbc
                    refine wpAnyH_take (i := 8) (v := ?_) rfl (by kernel_rfl) (by kernel_rfl) (by kernel_rfl) (fun _ _ _ h => h) (Or.inl ⟨by kernel_rfl, ?_⟩) hS ?_
                    rotate_left
                    · intro W hSW
                      go_simp
                      all_goals with_reducible rfl
                    refine wpAnyH_take (i := 9) (v := ?_) rfl (by kernel_rfl) (by kernel_rfl) (by kernel_rfl) (fun _ _ _ h => h) (Or.inl ⟨by kernel_rfl, ?_⟩) hS ?_
                    rotate_left
                    · intro W hSW
                      go_simp
                      all_goals with_reducible rfl
                    refine wpAnyH_take (i := 10) (v := ?_) rfl (by kernel_rfl) (by kernel_rfl) (by kernel_rfl) (fun _ _ _ h => h) (Or.inl ⟨by kernel_rfl, ?_⟩) hS ?_
                    rotate_left
                    · intro W hSW
                      go_simp
                      all_goals with_reducible rfl
                    go_simp
                    refine wpAnyH_take (i := 11) (v := .agg (btA (beOf l k).x (beOf l k).p (beOf l k).c)) rfl (by kernel_rfl) (by kernel_rfl) (by kernel_rfl) (fun _ _ _ h => h) (Or.inl ⟨by kernel_rfl, fun W hSW => exec_load_ag btR rfl rfl rfl hSW.2.1⟩) hS ?_
                    go_simp
                    refine wpAnyH_ready (rs := [12]) (by kernel_rfl) (by simp) ?_
                    refine AllReadyH.cons rfl (fun K hK => ?_) AllReadyH.nil
                    go_simp
                    go_wp2_with ((go_at_call 38; refine (HRB.out _ hS.2.2).mono ?_; rintro e wc1 ⟨rfl, hbc⟩))
                    refine hK.out _ _ ⟨AgAt.kept hS.1 hbc, AgAt.kept hS.2.1 hbc, hS.2.2.trans (hbc.mono hS.2.2.size)⟩ (fun hS => ?_)
                    clear hK K hbc
                    refine wpAnyH_take (i := 13) (v := ?_) rfl (by kernel_rfl) (by kernel_rfl) (by kernel_rfl) (fun _ _ _ h => h) (Or.inl ⟨by kernel_rfl, ?_⟩) hS ?_
                    rotate_left
                    · intro W hSW
                      go_simp
                      all_goals with_reducible rfl
                    refine wpAnyH_take (i := 14) (v := ?_) rfl (by kernel_rfl) (by kernel_rfl) (by kernel_rfl) (fun _ _ _ h => h) (Or.inl ⟨by kernel_rfl, ?_⟩) hS ?_
                    rotate_left
                    · intro W hSW
                      go_simp
                      all_goals with_reducible rfl
                    refine wpAnyH_take (i := 15) (v := ?_) rfl (by kernel_rfl) (by kernel_rfl) (by kernel_rfl) (fun _ _ _ h => h) (Or.inl ⟨by kernel_rfl, ?_⟩) hS ?_
                    rotate_left
                    · intro W hSW
                      go_simp
                      all_goals with_reducible rfl
                    go_simp
                    refine wpAnyH_take (i := 16) (v := undef) rfl (by kernel_rfl) (by kernel_rfl) (by kernel_rfl) (fun _ _ _ h => h) (Or.inr ⟨by kernel_rfl, rfl⟩) hS ?_
                    go_simp
                    refine wpAnyH_take (i := 17) (v := undef) rfl (by kernel_rfl) (by kernel_rfl) (by kernel_rfl) (fun _ _ _ h => h) (Or.inr ⟨by kernel_rfl, rfl⟩) hS ?_
                    go_simp
                    refine wpAnyH_take (i := 18) (v := undef) rfl (by kernel_rfl) (by kernel_rfl) (by kernel_rfl) (fun _ _ _ h => h) (Or.inr ⟨by kernel_rfl, rfl⟩) hS ?_
                    go_simp
                    refine wpAnyH_take (i := 19) (v := undef) rfl (by kernel_rfl) (by kernel_rfl) (by kernel_rfl) (fun _ _ _ h => h) (Or.inr ⟨by kernel_rfl, rfl⟩) hS ?_
                    go_simp
                    refine wpAnyH_take (i := 20) (v := undef) rfl (by kernel_rfl) (by kernel_rfl) (by kernel_rfl) (fun _ _ _ h => h) (Or.inr ⟨by kernel_rfl, rfl⟩) hS ?_
                    go_simp
                    refine wpAnyH_take (i := 21) (v := undef) rfl (by kernel_rfl) (by kernel_rfl) (by kernel_rfl) (fun _ _ _ h => h) (Or.inr ⟨by kernel_rfl, rfl⟩) hS ?_
                    refine wpAnyH_take (i := 22) (v := ?_) rfl (by kernel_rfl) (by kernel_rfl) (by kernel_rfl) (fun _ _ _ h => h) (Or.inl ⟨by kernel_rfl, ?_⟩) hS ?_
                    rotate_left
                    · intro W hSW
                      go_simp
                      all_goals with_reducible rfl
                    go_simp
                    refine wpAnyH_done (by kernel_rfl) ?_ _
                    go_simp
                    have HEN := Lib.hid (show Faired l w (.returned (.bool false)) _ from ⟨false, rfl, fun h => (by cases h), hS.2.2⟩)
                    clear hS
                    go_wp2
                    go_ret
                    exact HEN.out
                  | true =>
                    rw [hrb] at HRB
                    by_cases htm : (beOf l k).x.t ≤ (endT (beOf l q).x).1
                    · have HTT := Lib.hid (show decide ((beOf l k).x.t ≤ (endT (beOf l q).x).1) = true from decide_eq_true htm)
                      clear hs hra hrb htm
                      refine wpAnyH_take (i := 0) (v := ?_) rfl (by kernel_rfl) (by kernel_rfl) (by kernel_rfl) (fun _ _ _ h => h) (Or.inl ⟨by kernel_rfl, ?_⟩) hS ?_
                      rotate_left
                      · intro W hSW
                        go_simp
                        all_goals with_reducible rfl
                      refine wpAnyH_take (i := 1) (v := ?_) rfl (by kernel_rfl) (by kernel_rfl) (by kernel_rfl) (fun _ _ _ h => h) (Or.inl ⟨by kernel_rfl, ?_⟩) hS ?_
                      rotate_left
                      · intro W hSW
                        obtain ⟨x0, x1, x2, x3⟩ := BtAt.cells hSW.1
                        go_simp
                        all_goals with_reducible rfl
                      refine wpAnyH_take (i := 2) (v := ?_) rfl (by kernel_rfl) (by kernel_rfl) (by kernel_rfl) (fun _ _ _ h => h) (Or.inl ⟨by kernel_rfl, ?_⟩) hS ?_
                      rotate_left
                      · intro W hSW
                        go_simp
                        all_goals with_reducible rfl
                      refine wpAnyH_take (i := 3) (v := ?_) rfl (by kernel_rfl) (by kernel_rfl) (by kernel_rfl) (fun _ _ _ h => h) (Or.inl ⟨by kernel_rfl, ?_⟩) hS ?_
                      rotate_left
                      · intro W hSW
                        obtain ⟨x0, x1, x2, x3⟩ := BtAt.cells hSW.2.1
                        go_simp
                        all_goals with_reducible rfl
                      go_simp
                      refine wpAnyH_take (i := 4) (v := ?_) rfl (by kernel_rfl) (by kernel_rfl) (by kernel_rfl) (fun _ _ _ h => h) (Or.inl ⟨by kernel_rfl, ?_⟩) hS ?_
                      rotate_left
                      · intro W hSW
                        have he1 := HE1.out
                        go_simp
                        all_goals with_reducible rfl
                      refine wpAnyH_take (i := 5) (v := ?_) rfl (by kernel_rfl) (by kernel_rfl) (by kernel_rfl) (fun _ _ _ h => h) (Or.inl ⟨by kernel_rfl, ?_⟩) hS ?_
                      rotate_left
                      · intro W hSW
                        go_simp
                        all_goals with_reducible rfl
                      go_simp
                      refine wpAnyH_take (i := 6) (v := .agg (btA (beOf l q).x (beOf l q).p (beOf l q).c)) rfl (by kernel_rfl) (by kernel_rfl) (by kernel_rfl) (fun _ _ _ h => h) (Or.inl ⟨by kernel_rfl, fun W hSW => exec_load_ag btR rfl rfl rfl hSW.1⟩) hS ?_
                      go_simp
                      refine wpAnyH_ready (rs := [7]) (by kernel_rfl) (by simp) ?_
                      refine AllReadyH.cons rfl (fun K hK => ?_) AllReadyH.nil
                      go_simp
                      go_wp2_with ((go_at_call 38; refine (HRA.out _ hS.2.2).mono ?_; rintro e wc0 ⟨rfl, hbc⟩))
                      refine hK.out _ _ ⟨AgAt.kept hS.1 hbc, AgAt.kept hS.2.1 hbc, hS.2.2.trans (hbc.mono hS.2.2.size)⟩ (fun hS => ?_)
                      clear hK K hbc
                      refine wpAnyH_take (i := 8) (v := ?_) rfl (by kernel_rfl) (by kernel_rfl) (by kernel_rfl) (fun _ _ _ h => h) (Or.inl ⟨by kernel_rfl, ?_⟩) hS ?_
                      rotate_left
                      · intro W hSW
                        go_simp
                        all_goals with_reducible rfl
                      refine wpAnyH_take (i := 9) (v := ?_) rfl (by kernel_rfl) (by kernel_rfl) (by kernel_rfl) (fun _ _ _ h => h) (Or.inl ⟨by kernel_rfl, ?_⟩) hS ?_
                      rotate_left
                      · intro W hSW
                        go_simp
                        all_goals with_reducible rfl
                      refine wpAnyH_take (i := 10) (v := ?_) rfl (by kernel_rfl) (by kernel_rfl) (by kernel_rfl) (fun _ _ _ h => h) (Or.inl ⟨by kernel_rfl, ?_⟩) hS ?_
                      rotate_left
                      · intro W hSW
                        go_simp
                        all_goals with_reducible rfl
                      go_simp
                      refine wpAnyH_take (i := 11) (v := .agg (btA (beOf l k).x (beOf l k).p (beOf l k).c)) rfl (by kernel_rfl) (by kernel_rfl) (by kernel_rfl) (fun _ _ _ h => h) (Or.inl ⟨by kernel_rfl, fun W hSW => exec_load_ag btR rfl rfl rfl hSW.2.1⟩) hS ?_
                      go_simp
                      refine wpAnyH_ready (rs := [12]) (by kernel_rfl) (by simp) ?_
                      refine AllReadyH.cons rfl (fun K hK => ?_) AllReadyH.nil
                      go_simp
                      go_wp2_with ((go_at_call 38; refine (HRB.out _ hS.2.2).mono ?_; rintro e wc1 ⟨rfl, hbc⟩))
                      refine hK.out _ _ ⟨AgAt.kept hS.1 hbc, AgAt.kept hS.2.1 hbc, hS.2.2.trans (hbc.mono hS.2.2.size)⟩ (fun hS => ?_)
                      clear hK K hbc
                      refine wpAnyH_take (i := 13) (v := ?_) rfl (by kernel_rfl) (by kernel_rfl) (by kernel_rfl) (fun _ _ _ h => h) (Or.inl ⟨by kernel_rfl, ?_⟩) hS ?_
                      rotate_left
                      · intro W hSW
                        go_simp
                        all_goals with_reducible rfl
                      refine wpAnyH_take (i := 14) (v := ?_) rfl (by kernel_rfl) (by kernel_rfl) (by kernel_rfl) (fun _ _ _ h => h) (Or.inl ⟨by kernel_rfl, ?_⟩) hS ?_
                      rotate_left
                      · intro W hSW
                        go_simp
                        all_goals with_reducible rfl
                      refine wpAnyH_take (i := 15) (v := ?_) rfl (by kernel_rfl) (by kernel_rfl) (by kernel_rfl) (fun _ _ _ h => h) (Or.inl ⟨by kernel_rfl, ?_⟩) hS ?_
                      rotate_left
                      · intro W hSW
                        go_simp
                        all_goals with_reducible rfl
                      refine wpAnyH_take (i := 16) (v := ?_) rfl (by kernel_rfl) (by kernel_rfl) (by kernel_rfl) (fun _ _ _ h => h) (Or.inl ⟨by kernel_rfl, ?_⟩) hS ?_
                      rotate_left
                      · intro W hSW
                        go_simp
                        all_goals with_reducible rfl
                      go_simp
                      refine wpAnyH_take (i := 17) (v := ?_) rfl (by kernel_rfl) (by kernel_rfl) (by kernel_rfl) (fun _ _ _ h => h) (Or.inl ⟨by kernel_rfl, ?_⟩) hS ?_
                      rotate_left
                      · intro W hSW
                        obtain ⟨x0, x1, x2, x3⟩ := BtAt.cells hSW.2.1
                        go_simp
                        all_goals with_reducible rfl
                      go_simp
                      refine wpAnyH_take (i := 18) (v := .agg (btA (beOf l q).x (beOf l q).p (beOf l q).c)) rfl (by kernel_rfl) (by kernel_rfl) (by kernel_rfl) (fun _ _ _ h => h) (Or.inl ⟨by kernel_rfl, fun W hSW => exec_load_ag btR rfl rfl rfl hSW.1⟩) hS ?_
                      go_simp
                      refine wpAnyH_ready (rs := [19]) (by kernel_rfl) (by simp) ?_
                      refine AllReadyH.cons rfl (fun K hK => ?_) AllReadyH.nil
                      go_simp
                      go_wp2_with ((go_at_call 52; refine (HEA.out _ hS.2.2).mono ?_; rintro e wc2 ⟨rfl, hbc⟩))
                      refine hK.out _ _ ⟨AgAt.kept hS.1 hbc, AgAt.kept hS.2.1 hbc, hS.2.2.trans (hbc.mono hS.2.2.size)⟩ (fun hS => ?_)
                      clear hK K hbc
                      refine wpAnyH_take (i := 20) (v := ?_) rfl (by kernel_rfl) (by kernel_rfl) (by kernel_rfl) (fun _ _ _ h => h) (Or.inl ⟨by kernel_rfl, ?_⟩) hS ?_
                      rotate_left
                      · intro W hSW
                        have hf := HFD.out W
                        go_simp
                        all_goals with_reducible rfl
                      refine wpAnyH_take (i := 21) (v := ?_) rfl (by kernel_rfl) (by kernel_rfl) (by kernel_rfl) (fun _ _ _ h => h) (Or.inl ⟨by kernel_rfl, ?_⟩) hS ?_
                      rotate_left
                      · intro W hSW
                        have htt := HTT.out
                        go_simp
                        all_goals with_reducible rfl
                      refine wpAnyH_take (i := 22) (v := ?_) rfl (by kernel_rfl) (by kernel_rfl) (by kernel_rfl) (fun _ _ _ h => h) (Or.inl ⟨by kernel_rfl, ?_⟩) hS ?_
                      rotate_left
                      · intro W hSW
                        go_simp
                        all_goals with_reducible rfl
                      go_simp
                      refine wpAnyH_done (by kernel_rfl) ?_ _
                      go_simp
                      have HEN := Lib.hid (show Faired l w (.returned (.bool false)) _ from ⟨false, rfl, fun h => (by cases h), hS.2.2⟩)
                      clear hS
                      go_wp2
                      go_ret
                      exact HEN.out
                    · have HTT := Lib.hid (show decide ((beOf l k).x.t ≤ (endT (beOf l q).x).1) = false from decide_eq_false htm)
                      have HFQ := Lib.hid (show fairB (beOf l k).x (beOf l q).x from fun _ => ⟨fun e => hs e.symm, hrb, hra, fun h => absurd h (by have := HGT.out; omega), fun _ => by omega⟩)
                      clear hs hra hrb htm
                      refine wpAnyH_take (i := 0) (v := ?_) rfl (by kernel_rfl) (by kernel_rfl) (by kernel_rfl) (fun _ _ _ h => h) (Or.inl ⟨by kernel_rfl, ?_⟩) hS ?_
                      rotate_left
                      · intro W hSW
                        go_simp
                        all_goals with_reducible rfl
                      refine wpAnyH_take (i := 1) (v := ?_) rfl (by kernel_rfl) (by kernel_rfl) (by kernel_rfl) (fun _ _ _ h => h) (Or.inl ⟨by kernel_rfl, ?_⟩) hS ?_
                      rotate_left
                      · intro W hSW
                        obtain ⟨x0, x1, x2, x3⟩ := BtAt.cells hSW.1
                        go_simp
                        all_goals with_reducible rfl
                      refine wpAnyH_take (i := 2) (v := ?_) rfl (by kernel_rfl) (by kernel_rfl) (by kernel_rfl) (fun _ _ _ h => h) (Or.inl ⟨by kernel_rfl, ?_⟩) hS ?_
                      rotate_left
                      · intro W hSW
                        go_simp
                        all_goals with_reducible rfl
                      refine wpAnyH_take (i := 3) (v := ?_) rfl (by kernel_rfl) (by kernel_rfl) (by kernel_rfl) (fun _ _ _ h => h) (Or.inl ⟨by kernel_rfl, ?_⟩) hS ?_
                      rotate_left
                      · intro W hSW
                        obtain ⟨x0, x1, x2, x3⟩ := BtAt.cells hSW.2.1
                        go_simp
                        all_goals with_reducible rfl
                      go_simp
                      refine wpAnyH_take (i := 4) (v := ?_) rfl (by kernel_rfl) (by kernel_rfl) (by kernel_rfl) (fun _ _ _ h => h) (Or.inl ⟨by kernel_rfl, ?_⟩) hS ?_
                      rotate_left
                      · intro W hSW
                        have he1 := HE1.out
                        go_simp
                        all_goals with_reducible rfl
                      refine wpAnyH_take (i := 5) (v := ?_) rfl (by kernel_rfl) (by kernel_rfl) (by kernel_rfl) (fun _ _ _ h => h) (Or.inl ⟨by kernel_rfl, ?_⟩) hS ?_
                      rotate_left
                      · intro W hSW
                        go_simp
                        all_goals with_reducible rfl
                      go_simp
                      refine wpAnyH_take (i := 6) (v := .agg (btA (beOf l q).x (beOf l q).p (beOf l q).c)) rfl (by kernel_rfl) (by kernel_rfl) (by kernel_rfl) (fun _ _ _ h => h) (Or.inl ⟨by kernel_rfl, fun W hSW => exec_load_ag btR rfl rfl rfl hSW.1⟩) hS ?_
                      go_simp
                      refine wpAnyH_ready (rs := [7]) (by kernel_rfl) (by simp) ?_
                      refine AllReadyH.cons rfl (fun K hK => ?_) AllReadyH.nil
                      go_simp
                      go_wp2_with ((go_at_call 38; refine (HRA.out _ hS.2.2).mono ?_; rintro e wc0 ⟨rfl, hbc⟩))
                      refine hK.out _ _ ⟨AgAt.kept hS.1 hbc, AgAt.kept hS.2.1 hbc, hS.2.2.trans (hbc.mono hS.2.2.size)⟩ (fun hS => ?_)
                      clear hK K hbc
                      refine wpAnyH_take (i := 8) (v := ?_) rfl (by kernel_rfl) (by kernel_rfl) (by kernel_rfl) (fun _ _ _ h => h) (Or.inl ⟨by kernel_rfl, ?_⟩) hS ?_
                      rotate_left
                      · intro W hSW
                        go_simp
                        all_goals with_reducible rfl
                      refine wpAnyH_take (i := 9) (v := ?_) rfl (by kernel_rfl) (by kernel_rfl) (by kernel_rfl) (fun _ _ _ h => h) (Or.inl ⟨by kernel_rfl, ?_⟩) hS ?_
                      rotate_left
                      · intro W hSW
                        go_simp
                        all_goals with_reducible rfl
                      refine wpAnyH_take (i := 10) (v := ?_) rfl (by kernel_rfl) (by kernel_rfl) (by kernel_rfl) (fun _ _ _ h => h) (Or.inl ⟨by kernel_rfl, ?_⟩) hS ?_
                      rotate_left
                      · intro W hSW
                        go_simp
                        all_goals with_reducible rfl
                      go_simp
                      refine wpAnyH_take (i := 11) (v := .agg (btA (beOf l k).x (beOf l k).p (beOf l k).c)) rfl (by kernel_rfl) (by kernel_rfl) (by kernel_rfl) (fun _ _ _ h => h) (Or.inl ⟨by kernel_rfl, fun W hSW => exec_load_ag btR rfl rfl rfl hSW.2.1⟩) hS ?_
                      go_simp
                      refine wpAnyH_ready (rs := [12]) (by kernel_rfl) (by simp) ?_
                      refine AllReadyH.cons rfl (fun K hK => ?_) AllReadyH.nil
                      go_simp
                      go_wp2_with ((go_at_call 38; refine (HRB.out _ hS.2.2).mono ?_; rintro e wc1 ⟨rfl, hbc⟩))
                      refine hK.out _ _ ⟨AgAt.kept hS.1 hbc, AgAt.kept hS.2.1 hbc, hS.2.2.trans (hbc.mono hS.2.2.size)⟩ (fun hS => ?_)
                      clear hK K hbc
                      refine wpAnyH_take (i := 13) (v := ?_) rfl (by kernel_rfl) (by kernel_rfl) (by kernel_rfl) (fun _ _ _ h => h) (Or.inl ⟨by kernel_rfl, ?_⟩) hS ?_
                      rotate_left
                      · intro W hSW
                        go_simp
                        all_goals with_reducible rfl
                      refine wpAnyH_take (i := 14) (v := ?_) rfl (by kernel_rfl) (by kernel_rfl) (by kernel_rfl) (fun _ _ _ h => h) (Or.inl ⟨by kernel_rfl, ?_⟩) hS ?_
                      rotate_left
                      · intro W hSW
                        go_simp
                        all_goals with_reducible rfl
                      refine wpAnyH_take (i := 15) (v := ?_) rfl (by kernel_rfl) (by kernel_rfl) (by kernel_rfl) (fun _ _ _ h => h) (Or.inl ⟨by kernel_rfl, ?_⟩) hS ?_
                      rotate_left
                      · intro W hSW
                        go_simp
                        all_goals with_reducible rfl
                      refine wpAnyH_take (i := 16) (v := ?_) rfl (by kernel_rfl) (by kernel_rfl) (by kernel_rfl) (fun _ _ _ h => h) (Or.inl ⟨by kernel_rfl, ?_⟩) hS ?_
                      rotate_left
                      · intro W hSW
                        go_simp
                        all_goals with_reducible rfl
                      go_simp
                      refine wpAnyH_take (i := 17) (v := ?_) rfl (by kernel_rfl) (by kernel_rfl) (by kernel_rfl) (fun _ _ _ h => h) (Or.inl ⟨by kernel_rfl, ?_⟩) hS ?_
                      rotate_left
                      · intro W hSW
                        obtain ⟨x0, x1, x2, x3⟩ := BtAt.cells hSW.2.1
                        go_simp
                        all_goals with_reducible rfl
                      go_simp
                      refine wpAnyH_take (i := 18) (v := .agg (btA (beOf l q).x (beOf l q).p (beOf l q).c)) rfl (by kernel_rfl) (by kernel_rfl) (by kernel_rfl) (fun _ _ _ h => h) (Or.inl ⟨by kernel_rfl, fun W hSW => exec_load_ag btR rfl rfl rfl hSW.1⟩) hS ?_
                      go_simp
                      refine wpAnyH_ready (rs := [19]) (by kernel_rfl) (by simp) ?_
                      refine AllReadyH.cons rfl (fun K hK => ?_) AllReadyH.nil
                      go_simp
                      go_wp2_with ((go_at_call 52; refine (HEA.out _ hS.2.2).mono ?_; rintro e wc2 ⟨rfl, hbc⟩))
                      refine hK.out _ _ ⟨AgAt.kept hS.1 hbc, AgAt.kept hS.2.1 hbc, hS.2.2.trans (hbc.mono hS.2.2.size)⟩ (fun hS => ?_)
                      clear hK K hbc
                      refine wpAnyH_take (i := 20) (v := ?_) rfl (by kernel_rfl) (by kernel_rfl) (by kernel_rfl) (fun _ _ _ h => h) (Or.inl ⟨by kernel_rfl, ?_⟩) hS ?_
                      rotate_left
                      · intro W hSW
                        have hf := HFD.out W
                        go_simp
                        all_goals with_reducible rfl
                      refine wpAnyH_take (i := 21) (v := ?_) rfl (by kernel_rfl) (by kernel_rfl) (by kernel_rfl) (fun _ _ _ h => h) (Or.inl ⟨by kernel_rfl, ?_⟩) hS ?_
                      rotate_left
                      · intro W hSW
                        have htt := HTT.out
                        go_simp
                        all_goals with_reducible rfl
                      refine wpAnyH_take (i := 22) (v := ?_) rfl (by kernel_rfl) (by kernel_rfl) (by kernel_rfl) (fun _ _ _ h => h) (Or.inl ⟨by kernel_rfl, ?_⟩) hS ?_
                      rotate_left
                      · intro W hSW
                        go_simp
                        all_goals with_reducible rfl
                      go_simp
                      refine wpAnyH_done (by kernel_rfl) ?_ _
                      go_simp
                      have HBN := Lib.hid hS.2.2
                      have HQ' := Lib.hid (show ∀ j, j < q + 1 → fairB (beOf l k).x (beOf l j).x from fun j hj => by
                        by_cases e : j = q
                        · subst e
                          exact HFQ.out
                        · exact HQ.out j (by omega))
                      clear hS
                      go_wp2
                      go_roundw
                      case rel => exact ⟨q + 1, by omega, by go_num, HQ'.out, HBN.out⟩
                      case measure => simp [intOf]; omega
            · have hg1 : decide ((beOf l q).x.s < (beOf l k).x.s) = false := decide_eq_false hgt
              have HGT := Lib.hid hgt
              go_upto_region 12 with fail
              clear x0 x1 x2 x3 y0 y1 y2 y3 hgt hg1 hr1 hne hr HB
              have HRA := Lib.hid (fun W (hW : Below w.heap.size w W) => r8right_any (beOf l k).x (beOf l k).p (beOf l k).c W (HSZ.out k hlk) (HBP.out k hlk W hW))
              have HRB := Lib.hid (fun W (hW : Below w.heap.size w W) => r8right_any (beOf l q).x (beOf l q).p (beOf l q).c W (HSZ.out q hlq) (HBP.out q hlq W hW))
              have HEA := Lib.hid (fun W (hW : Below w.heap.size w W) => r8end_any (beOf l k).x (beOf l k).p (beOf l k).c W (HSZ.out k hlk) (HBP.out k hlk W hW))
              have HFD := Lib.hid (fun W => run_field_st (endT (beOf l k).x).1 (endT (beOf l k).x).2 W)
              refine wp_region_held_drew (S := fun W => AgAt W b5 (btA (beOf l k).x (beOf l k).p (beOf l k).c) ∧ AgAt W b6 (btA (beOf l q).x (beOf l q).p (beOf l q).c) ∧ Below w.heap.size w W) (by kernel_rfl) ⟨HA.out, HB6.out, HBE.out.drew⟩ (fun hS => ?_)
              by_cases hs : (beOf l k).x.s = (beOf l q).x.s
              · have HE1 := Lib.hid (show ((beOf l k).x.s == (beOf l q).x.s) = true from by simpa using hs)
                clear hs
                refine wpAnyH_take (i := 0) (v := ?_) rfl (by kernel_rfl) (by kernel_rfl) (by kernel_rfl) (fun _ _ _ h => h) (Or.inl ⟨by kernel_rfl, ?_⟩) hS ?_
                rotate_left
                · intro W hSW
                  go_simp
                  all_goals with_reducible rfl
                refine wpAnyH_take (i := 1) (v := ?_) rfl (by kernel_rfl) (by kernel_rfl) (by kernel_rfl) (fun _ _ _ h => h) (Or.inl ⟨by kernel_rfl, ?_⟩) hS ?_
                rotate_left
                · intro W hSW
                  obtain ⟨x0, x1, x2, x3⟩ := BtAt.cells hSW.1
                  go_simp
                  all_goals with_reducible rfl
                refine wpAnyH_take (i := 2) (v := ?_) rfl (by kernel_rfl) (by kernel_rfl) (by kernel_rfl) (fun _ _ _ h => h) (Or.inl ⟨by kernel_rfl, ?_⟩) hS ?_
                rotate_left
                · intro W hSW
                  go_simp
                  all_goals with_reducible rfl
                refine wpAnyH_take (i := 3) (v := ?_) rfl (by kernel_rfl) (by kernel_rfl) (by kernel_rfl) (fun _ _ _ h => h) (Or.inl ⟨by kernel_rfl, ?_⟩) hS ?_
                rotate_left
                · intro W hSW
                  obtain ⟨x0, x1, x2, x3⟩ := BtAt.cells hSW.2.1
                  go_simp
                  all_goals with_reducible rfl
                go_simp
                refine wpAnyH_take (i := 4) (v := ?_) rfl (by kernel_rfl) (by kernel_rfl) (by kernel_rfl) (fun _ _ _ h => h) (Or.inl ⟨by kernel_rfl, ?_⟩) hS ?_
                rotate_left
                · intro W hSW
                  have he1 := HE1.out
                  go_simp
                  all_goals with_reducible rfl
                refine wpAnyH_take (i := 5) (v := ?_) rfl (by kernel_rfl) (by kernel_rfl) (by kernel_rfl) (fun _ _ _ h => h) (Or.inl ⟨by kernel_rfl, ?_⟩) hS ?_
                rotate_left
                · intro W hSW
                  go_simp
                  all_goals with_reducible rfl
                go_simp
                refine wpAnyH_take (i := 6) (v := undef) rfl (by kernel_rfl) (by kernel_rfl) (by kernel_rfl) (fun _ _ _ h => h) (Or.inr ⟨by kernel_rfl, rfl⟩) hS ?_
                go_simp
                refine wpAnyH_take (i := 7) (v := undef) rfl (by kernel_rfl) (by kernel_rfl) (by kernel_rfl) (fun _ _ _ h => h) (Or.inr ⟨by kernel_rfl, rfl⟩) hS ?_
                go_simp
                refine wpAnyH_take (i := 8) (v := undef) rfl (by kernel_rfl) (by kernel_rfl) (by kernel_rfl) (fun _ _ _ h => h) (Or.inr ⟨by kernel_rfl, rfl⟩) hS ?_
                refine wpAnyH_take (i := 9) (v := ?_) rfl (by kernel_rfl) (by kernel_rfl) (by kernel_rfl) (fun _ _ _ h => h) (Or.inl ⟨by kernel_rfl, ?_⟩) hS ?_
                rotate_left
                · intro W hSW
                  go_simp
                  all_goals with_reducible rfl
                refine wpAnyH_take (i := 10) (v := ?_) rfl (by kernel_rfl) (by kernel_rfl) (by kernel_rfl) (fun _ _ _ h => h) (Or.inl ⟨by kernel_rfl, ?_⟩) hS ?_
                rotate_left
                · intro W hSW
                  go_simp
                  all_goals with_reducible rfl
                go_simp
                refine wpAnyH_take (i := 11) (v := undef) rfl (by kernel_rfl) (by kernel_rfl) (by kernel_rfl) (fun _ _ _ h => h) (Or.inr ⟨by kernel_rfl, rfl⟩) hS ?_
                go_simp
                refine wpAnyH_take (i := 12) (v := undef) rfl (by kernel_rfl) (by kernel_rfl) (by kernel_rfl) (fun _ _ _ h => h) (Or.inr ⟨by kernel_rfl, rfl⟩) hS ?_
                go_simp
                refine wpAnyH_take (i := 13) (v := undef) rfl (by kernel_rfl) (by kernel_rfl) (by kernel_rfl) (fun _ _ _ h => h) (Or.inr ⟨by kernel_rfl, rfl⟩) hS ?_
                refine wpAnyH_take (i := 14) (v := ?_) rfl (by kernel_rfl) (by kernel_rfl) (by kernel_rfl) (fun _ _ _ h => h) (Or.inl ⟨by kernel_rfl, ?_⟩) hS ?_
                rotate_left
                · intro W hSW
                  go_simp
                  all_goals with_reducible rfl
                refine wpAnyH_take (i := 15) (v := ?_) rfl (by kernel_rfl) (by kernel_rfl) (by kernel_rfl) (fun _ _ _ h => h) (Or.inl ⟨by kernel_rfl, ?_⟩) hS ?_
                rotate_left
                · intro W hSW
                  go_simp
                  all_goals with_reducible rfl
                go_simp
                refine wpAnyH_take (i := 16) (v := undef) rfl (by kernel_rfl) (by kernel_rfl) (by kernel_rfl) (fun _ _ _ h => h) (Or.inr ⟨by kernel_rfl, rfl⟩) hS ?_
                go_simp
                refine wpAnyH_take (i := 17) (v := undef) rfl (by kernel_rfl) (by kernel_rfl) (by kernel_rfl) (fun _ _ _ h => h) (Or.inr ⟨by kernel_rfl, rfl⟩) hS ?_
                go_simp
                refine wpAnyH_take (i := 18) (v := undef) rfl (by kernel_rfl) (by kernel_rfl) (by kernel_rfl) (fun _ _ _ h => h) (Or.inr ⟨by kernel_rfl, rfl⟩) hS ?_
                go_simp
                refine wpAnyH_take (i := 19) (v := undef) rfl (by kernel_rfl) (by kernel_rfl) (by kernel_rfl) (fun _ _ _ h => h) (Or.inr ⟨by kernel_rfl, rfl⟩) hS ?_
                go_simp
                refine wpAnyH_take (i := 20) (v := undef) rfl (by kernel_rfl) (by kernel_rfl) (by kernel_rfl) (fun _ _ _ h => h) (Or.inr ⟨by kernel_rfl, rfl⟩) hS ?_
                go_simp
                refine wpAnyH_take (i := 21) (v := undef) rfl (by kernel_rfl) (by kernel_rfl) (by kernel_rfl) (fun _ _ _ h => h) (Or.inr ⟨by kernel_rfl, rfl⟩) hS ?_
                refine wpAnyH_take (i := 22) (v := ?_) rfl (by kernel_rfl) (by kernel_rfl) (by kernel_rfl) (fun _ _ _ h => h) (Or.inl ⟨by kernel_rfl, ?_⟩) hS ?_
                rotate_left
                · intro W hSW
                  go_simp
                  all_goals with_reducible rfl
                go_simp
                refine wpAnyH_done (by kernel_rfl) ?_ _
                go_simp
                have HEN := Lib.hid (show Faired l w (.returned (.bool false)) _ from ⟨false, rfl, fun h => (by cases h), hS.2.2⟩)
                clear hS
                go_wp2
                go_ret
                exact HEN.out
              · have HE1 := Lib.hid (show ((beOf l k).x.s == (beOf l q).x.s) = false from by simpa using hs)
                cases hra : rightT (beOf l k).x with
                | false =>
                  rw [hra] at HRA
                  clear hs hra
                  refine wpAnyH_take (i := 0) (v := ?_) rfl (by kernel_rfl) (by kernel_rfl) (by kernel_rfl) (fun _ _ _ h => h) (Or.inl ⟨by kernel_rfl, ?_⟩) hS ?_
                  rotate_left
                  · intro W hSW
                    go_simp
                    all_goals with_reducible rfl
                  refine wpAnyH_take (i := 1) (v := ?_) rfl (by kernel_rfl) (by kernel_rfl) (by kernel_rfl) (fun _ _ _ h => h) (Or.inl ⟨by kernel_rfl, ?_⟩) hS ?_
                  rotate_left
                  · intro W hSW
                    obtain ⟨x0, x1, x2, x3⟩ := BtAt.cells hSW.1
                    go_simp
                    all_goals with_reducible rfl
                  refine wpAnyH_take (i := 2) (v := ?_) rfl (by kernel_rfl) (by kernel_rfl) (by kernel_rfl) (fun _ _ _ h => h) (Or.inl ⟨by kernel_rfl, ?_⟩) hS ?_
                  rotate_left
                  · intro W hSW
                    go_simp
                    all_goals with_reducible rfl
                  refine wpAnyH_take (i := 3) (v := ?_) rfl (by kernel_rfl) (by kernel_rfl) (by kernel_rfl) (fun _ _ _ h => h) (Or.inl ⟨by kernel_rfl, ?_⟩) hS ?_
                  rotate_left
                  · intro W hSW
                    obtain ⟨x0, x1, x2, x3⟩ := BtAt.cells hSW.2.1
                    go_simp
                    all_goals with_reducible rfl
                  go_simp
                  refine wpAnyH_take (i := 4) (v := ?_) rfl (by kernel_rfl) (by kernel_rfl) (by kernel_rfl) (fun _ _ _ h => h) (Or.inl ⟨by kernel_rfl, ?_⟩) hS ?_
                  rotate_left
                  · intro W hSW
                    have he1 := HE1.out
                    go_simp
                    all_goals with_reducible rfl
                  refine wpAnyH_take (i := 5) (v := ?_) rfl (by kernel_rfl) (by kernel_rfl) (by kernel_rfl) (fun _ _ _ h => h) (Or.inl ⟨by kernel_rfl, ?_⟩) hS ?_
                  rotate_left
                  · intro W hSW
                    go_simp
                    all_goals with_reducible rfl
                  go_simp
                  refine wpAnyH_take (i := 6) (v := .agg (btA (beOf l k).x (beOf l k).p (beOf l k).c)) rfl (by kernel_rfl) (by kernel_rfl) (by kernel_rfl) (fun _ _ _ h => h) (Or.inl ⟨by kernel_rfl, fun W hSW => exec_load_ag btR rfl rfl rfl hSW.1⟩) hS ?_
                  go_simp
                  refine wpAnyH_ready (rs := [7]) (by kernel_rfl) (by simp) ?_
                  refine AllReadyH.cons rfl (fun K hK => ?_) AllReadyH.nil
                  go_simp
                  go_wp2_with ((go_at_call 38; refine (HRA.out _ hS.2.2).mono ?_; rintro e wc0 ⟨rfl, hbc⟩))
                  refine hK.out _ _ ⟨AgAt.kept hS.1 hbc, AgAt.kept hS.2.1 hbc, hS.2.2.trans (hbc.mono hS.2.2.size)⟩ (fun hS => ?_)
                  clear hK K hbc
                  refine wpAnyH_take (i := 8) (v := ?_) rfl (by kernel_rfl) (by kernel_rfl) (by kernel_rfl) (fun _ _ _ h => h) (Or.inl ⟨by kernel_rfl, ?_⟩) hS ?_
                  rotate_left
                  · intro W hSW
                    go_simp
                    all_goals with_reducible rfl
                  refine wpAnyH_take (i := 9) (v := ?_) rfl (by kernel_rfl) (by kernel_rfl) (by kernel_rfl) (fun _ _ _ h => h) (Or.inl ⟨by kernel_rfl, ?_⟩) hS ?_
                  rotate_left
                  · intro W hSW
                    go_simp
                    all_goals with_reducible rfl
                  refine wpAnyH_take (i := 10) (v := ?_) rfl (by kernel_rfl) (by kernel_rfl) (by kernel_rfl) (fun _ _ _ h => h) (Or.inl ⟨by kernel_rfl, ?_⟩) hS ?_
                  rotate_left
                  · intro W hSW
                    go_simp
                    all_goals with_reducible rfl
                  go_simp
                  refine wpAnyH_take (i := 11) (v := undef) rfl (by kernel_rfl) (by kernel_rfl) (by kernel_rfl) (fun _ _ _ h => h) (Or.inr ⟨by kernel_rfl, rfl⟩) hS ?_
                  go_simp
                  refine wpAnyH_take (i := 12) (v := undef) rfl (by kernel_rfl) (by kernel_rfl) (by kernel_rfl) (fun _ _ _ h => h) (Or.inr ⟨by kernel_rfl, rfl⟩) hS ?_
                  go_simp
                  refine wpAnyH_take (i := 13) (v := undef) rfl (by kernel_rfl) (by kernel_rfl) (by kernel_rfl) (fun _ _ _ h => h) (Or.inr ⟨by kernel_rfl, rfl⟩) hS ?_
                  refine wpAnyH_take (i := 14) (v := ?_) rfl (by kernel_rfl) (by kernel_rfl) (by kernel_rfl) (fun _ _ _ h => h) (Or.inl ⟨by kernel_rfl, ?_⟩) hS ?_
                  rotate_left
                  · intro W hSW
                    go_simp
                    all_goals with_reducible rfl
                  refine wpAnyH_take (i := 15) (v := ?_) rfl (by kernel_rfl) (by kernel_rfl) (by kernel_rfl) (fun _ _ _ h => h) (Or.inl ⟨by kernel_rfl, ?_⟩) hS ?_
                  rotate_left
                  · intro W hSW
                    go_simp
                    all_goals with_reducible rfl
                  go_simp
                  refine wpAnyH_take (i := 16) (v := undef) rfl (by kernel_rfl) (by kernel_rfl) (by kernel_rfl) (fun _ _ _ h => h) (Or.inr ⟨by kernel_rfl, rfl⟩) hS ?_
                  go_simp
                  refine wpAnyH_take (i := 17) (v := undef) rfl (by kernel_rfl) (by kernel_rfl) (by kernel_rfl) (fun _ _ _ h => h) (Or.inr ⟨by kernel_rfl, rfl⟩) hS ?_
                  go_simp
                  refine wpAnyH_take (i := 18) (v := undef) rfl (by kernel_rfl) (by kernel_rfl) (by kernel_rfl) (fun _ _ _ h => h) (Or.inr ⟨by kernel_rfl, rfl⟩) hS ?_
                  go_simp
                  refine wpAnyH_take (i := 19) (v := undef) rfl (by kernel_rfl) (by kernel_rfl) (by kernel_rfl) (fun _ _ _ h => h) (Or.inr ⟨by kernel_rfl, rfl⟩) hS ?_
                  go_simp
                  refine wpAnyH_take (i := 20) (v := undef) rfl (by kernel_rfl) (by kernel_rfl) (by kernel_rfl) (fun _ _ _ h => h) (Or.inr ⟨by kernel_rfl, rfl⟩) hS ?_
                  go_simp
                  refine wpAnyH_take (i := 21) (v := undef) rfl (by kernel_rfl) (by kernel_rfl) (by kernel_rfl) (fun _ _ _ h => h) (Or.inr ⟨by kernel_rfl, rfl⟩) hS ?_
                  refine wpAnyH_take (i := 22) (v := ?_) rfl (by kernel_rfl) (by kernel_rfl) (by kernel_rfl) (fun _ _ _ h => h) (Or.inl ⟨by kernel_rfl, ?_⟩) hS ?_
                  rotate_left
                  · intro W hSW
                    go_simp
                    all_goals with_reducible rfl
                  go_simp
                  refine wpAnyH_done (by kernel_rfl) ?_ _
                  go_simp
                  have HEN := Lib.hid (show Faired l w (.returned (.bool false)) _ from ⟨false, rfl, fun h => (by cases h), hS.2.2⟩)
                  clear hS
                  go_wp2
                  go_ret
                  exact HEN.out
                | true =>
                  rw [hra] at HRA
                  cases hrb : rightT (beOf l q).x with
                  | false =>
                    rw [hrb] at HRB
                    clear hs hra hrb
                    refine wpAnyH_take (i := 0) (v := ?_) rfl (by kernel_rfl) (by kernel_rfl) (by kernel_rfl) (fun _ _ _ h => h) (Or.inl ⟨by kernel_rfl, ?_⟩) hS ?_
                    rotate_left
                    · intro W hSW
                      go_simp
                      all_goals with_reducible rfl
                    refine wpAnyH_take (i := 1) (v := ?_) rfl (by kernel_rfl) (by kernel_rfl) (by kernel_rfl) (fun _ _ _ h => h) (Or.inl ⟨by kernel_rfl, ?_⟩) hS ?_
                    rotate_left
                    · intro W hSW
                      obtain ⟨x0, x1, x2, x3⟩ := BtAt.cells hSW.1
                      go_simp
                      all_goals with_reducible rfl
                    refine wpAnyH_take (i := 2) (v := ?_) rfl (by kernel_rfl) (by kernel_rfl) (by kernel_rfl) (fun _ _ _ h => h) (Or.inl ⟨by kernel_rfl, ?_⟩) hS ?_
                    rotate_left
                    · intro W hSW
                      go_simp
                      all_goals with_reducible rfl
                    refine wpAnyH_take (i := 3) (v := ?_) rfl (by kernel_rfl) (by kernel_rfl) (by kernel_rfl) (fun _ _ _ h => h) (Or.inl ⟨by kernel_rfl, ?_⟩) hS ?_
                    rotate_left
                    · intro W hSW
                      obtain ⟨x0, x1, x2, x3⟩ := BtAt.cells hSW.2.1
                      go_simp
                      all_goals with_reducible rfl
                    go_simp
                    refine wpAnyH_take (i := 4) (v := ?_) rfl (by kernel_rfl) (by kernel_rfl) (by kernel_rfl) (fun _ _ _ h => h) (Or.inl ⟨by kernel_rfl, ?_⟩) hS ?_
                    rotate_left
                    · intro W hSW
                      have he1 := HE1.out
                      go_simp
                      all_goals with_reducible rfl
                    refine wpAnyH_take (i := 5) (v := ?_) rfl (by kernel_rfl) (by kernel_rfl) (by kernel_rfl) (fun _ _ _ h => h) (Or.inl ⟨by kernel_rfl, ?_⟩) hS ?_
                    rotate_left
                    · intro W hSW
                      go_simp
                      all_goals with_reducible rfl
                    go_simp
                    refine wpAnyH_take (i := 6) (v := .agg (btA (beOf l k).x (beOf l k).p (beOf l k).c)) rfl (by kernel_rfl) (by kernel_rfl) (by kernel_rfl) (fun _ _ _ h => h) (Or.inl ⟨by kernel_rfl, fun W hSW => exec_load_ag btR rfl rfl rfl hSW.1⟩) hS ?_
                    go_simp
                    refine wpAnyH_ready (rs := [7]) (by kernel_rfl) (by simp) ?_
                    refine AllReadyH.cons rfl (fun K hK => ?_) AllReadyH.nil
                    go_simp
                    go_wp2_with ((go_at_call 38; refine (HRA.out _ hS.2.2).mono ?_; rintro e wc0 ⟨rfl, hbc⟩))
                    refine hK.out _ _ ⟨AgAt.kept hS.1 hbc, AgAt.kept hS.2.1 hbc, hS.2.2.trans (hbc.mono hS.2.2.size)⟩ (fun hS => ?_)
                    clear hK K hbc
                    refine wpAnyH_take (i := 8) (v := ?_) rfl (by kernel_rfl) (by kernel_rfl) (by kernel_rfl) (fun _ _ _ h => h) (Or.inl ⟨by kernel_rfl, ?_⟩) hS ?_
                    rotate_left
                    · intro W hSW
                      go_simp
                      all_goals with_reducible rfl
                    refine wpAnyH_take (i := 9) (v := ?_) rfl (by kernel_rfl) (by kernel_rfl) (by kernel_rfl) (fun _ _ _ h => h) (Or.inl ⟨by kernel_rfl, ?_⟩) hS ?_
                    rotate_left
                    · intro W hSW
                      go_simp
                      all_goals with_reducible rfl
                    refine wpAnyH_take (i := 10) (v := ?_) rfl (by kernel_rfl) (by kernel_rfl) (by kernel_rfl) (fun _ _ _ h => h) (Or.inl ⟨by kernel_rfl, ?_⟩) hS ?_
                    rotate_left
                    · intro W hSW
                      go_simp
                      all_goals with_reducible rfl
                    go_simp
                    refine wpAnyH_take (i := 11) (v := .agg (btA (beOf l q).x (beOf l q).p (beOf l q).c)) rfl (by kernel_rfl) (by kernel_rfl) (by kernel_rfl) (fun _ _ _ h => h) (Or.inl ⟨by kernel_rfl, fun W hSW => exec_load_ag btR rfl rfl rfl hSW.2.1⟩) hS ?_
                    go_simp
                    refine wpAnyH_ready (rs := [12]) (by kernel_rfl) (by simp) ?_
                    refine AllReadyH.cons rfl (fun K hK => ?_) AllReadyH.nil
                    go_simp
                    go_wp2_with ((go_at_call 38; refine (HRB.out _ hS.2.2).mono ?_; rintro e wc1 ⟨rfl, hbc⟩))
                    refine hK.out _ _ ⟨AgAt.kept hS.1 hbc, AgAt.kept hS.2.1 hbc, hS.2.2.trans (hbc.mono hS.2.2.size)⟩ (fun hS => ?_)
                    clear hK K hbc
                    refine wpAnyH_take (i := 13) (v := ?_) rfl (by kernel_rfl) (by kernel_rfl) (by kernel_rfl) (fun _ _ _ h => h) (Or.inl ⟨by kernel_rfl, ?_⟩) hS ?_
                    rotate_left
                    · intro W hSW
                      go_simp
                      all_goals with_reducible rfl
                    refine wpAnyH_take (i := 14) (v := ?_) rfl (by kernel_rfl) (by kernel_rfl) (by kernel_rfl) (fun _ _ _ h => h) (Or.inl ⟨by kernel_rfl, ?_⟩) hS ?_
                    rotate_left
                    · intro W hSW
                      go_simp
                      all_goals with_reducible rfl
                    refine wpAnyH_take (i := 15) (v := ?_) rfl (by kernel_rfl) (by kernel_rfl) (by kernel_rfl) (fun _ _ _ h => h) (Or.inl ⟨by kernel_rfl, ?_⟩) hS ?_
                    rotate_left
                    · intro W hSW
                      go_simp
                      all_goals with_reducible rfl
                    go_simp
                    refine wpAnyH_take (i := 16) (v := undef) rfl (by kernel_rfl) (by kernel_rfl) (by kernel_rfl) (fun _ _ _ h => h) (Or.inr ⟨by kernel_rfl, rfl⟩) hS ?_
                    go_simp
                    refine wpAnyH_take (i := 17) (v := undef) rfl (by kernel_rfl) (by kernel_rfl) (by kernel_rfl) (fun _ _ _ h => h) (Or.inr ⟨by kernel_rfl, rfl⟩) hS ?_
                    go_simp
                    refine wpAnyH_take (i := 18) (v := undef) rfl (by kernel_rfl) (by kernel_rfl) (by kernel_rfl) (fun _ _ _ h => h) (Or.inr ⟨by kernel_rfl, rfl⟩) hS ?_
                    go_simp
                    refine wpAnyH_take (i := 19) (v := undef) rfl (by kernel_rfl) (by kernel_rfl) (by kernel_rfl) (fun _ _ _ h => h) (Or.inr ⟨by kernel_rfl, rfl⟩) hS ?_
                    go_simp
                    refine wpAnyH_take (i := 20) (v := undef) rfl (by kernel_rfl) (by kernel_rfl) (by kernel_rfl) (fun _ _ _ h => h) (Or.inr ⟨by kernel_rfl, rfl⟩) hS ?_
                    go_simp
                    refine wpAnyH_take (i := 21) (v := undef) rfl (by kernel_rfl) (by kernel_rfl) (by kernel_rfl) (fun _ _ _ h => h) (Or.inr ⟨by kernel_rfl, rfl⟩) hS ?_
                    refine wpAnyH_take (i := 22) (v := ?_) rfl (by kernel_rfl) (by kernel_rfl) (by kernel_rfl) (fun _ _ _ h => h) (Or.inl ⟨by kernel_rfl, ?_⟩) hS ?_
                    rotate_left
                    · intro W hSW
                      go_simp
                      all_goals with_reducible rfl
                    go_simp
                    refine wpAnyH_done (by kernel_rfl) ?_ _
                    go_simp
                    have HEN := Lib.hid (show Faired l w (.returned (.bool false)) _ from ⟨false, rfl, fun h => (by cases h), hS.2.2⟩)
                    clear hS
                    go_wp2
                    go_ret
                    exact HEN.out
                  | true =>
                    rw [hrb] at HRB
                    by_cases htm : (beOf l q).x.t ≤ (endT (beOf l k).x).1
                    · have HTT := Lib.hid (show decide ((beOf l q).x.t ≤ (endT (beOf l k).x).1) = true from decide_eq_true htm)
                      clear hs hra hrb htm
                      refine wpAnyH_take (i := 0) (v := ?_) rfl (by kernel_rfl) (by kernel_rfl) (by kernel_rfl) (fun _ _ _ h => h) (Or.inl ⟨by kernel_rfl, ?_⟩) hS ?_
                      rotate_left
                      · intro W hSW
                        go_simp
                        all_goals with_reducible rfl
                      refine wpAnyH_take (i := 1) (v := ?_) rfl (by kernel_rfl) (by kernel_rfl) (by kernel_rfl) (fun _ _ _ h => h) (Or.inl ⟨by kernel_rfl, ?_⟩) hS ?_
                      rotate_left
                      · intro W hSW
                        obtain ⟨x0, x1, x2, x3⟩ := BtAt.cells hSW.1
                        go_simp
                        all_goals with_reducible rfl
                      refine wpAnyH_take (i := 2) (v := ?_) rfl (by kernel_rfl) (by kernel_rfl) (by kernel_rfl) (fun _ _ _ h => h) (Or.inl ⟨by kernel_rfl, ?_⟩) hS ?_
                      rotate_left
                      · intro W hSW
                        go_simp
                        all_goals with_reducible rfl
                      refine wpAnyH_take (i := 3) (v := ?_) rfl (by kernel_rfl) (by kernel_rfl) (by kernel_rfl) (fun _ _ _ h => h) (Or.inl ⟨by kernel_rfl, ?_⟩) hS ?_
                      rotate_left
                      · intro W hSW
                        obtain ⟨x0, x1, x2, x3⟩ := BtAt.cells hSW.2.1
                        go_simp
                        all_goals with_reducible rfl
                      go_simp
                      refine wpAnyH_take (i := 4) (v := ?_) rfl (by kernel_rfl) (by kernel_rfl) (by kernel_rfl) (fun _ _ _ h => h) (Or.inl ⟨by kernel_rfl, ?_⟩) hS ?_
                      rotate_left
                      · intro W hSW
                        have he1 := HE1.out
                        go_simp
                        all_goals with_reducible rfl
                      refine wpAnyH_take (i := 5) (v := ?_) rfl (by kernel_rfl) (by kernel_rfl) (by kernel_rfl) (fun _ _ _ h => h) (Or.inl ⟨by kernel_rfl, ?_⟩) hS ?_
                      rotate_left
                      · intro W hSW
                        go_simp
                        all_goals with_reducible rfl
                      go_simp
                      refine wpAnyH_take (i := 6) (v := .agg (btA (beOf l k).x (beOf l k).p (beOf l k).c)) rfl (by kernel_rfl) (by kernel_rfl) (by kernel_rfl) (fun _ _ _ h => h) (Or.inl ⟨by kernel_rfl, fun W hSW => exec_load_ag btR rfl rfl rfl hSW.1⟩) hS ?_
                      go_simp
                      refine wpAnyH_ready (rs := [7]) (by kernel_rfl) (by simp) ?_
                      refine AllReadyH.cons rfl (fun K hK => ?_) AllReadyH.nil
                      go_simp
                      go_wp2_with ((go_at_call 38; refine (HRA.out _ hS.2.2).mono ?_; rintro e wc0 ⟨rfl, hbc⟩))
                      refine hK.out _ _ ⟨AgAt.kept hS.1 hbc, AgAt.kept hS.2.1 hbc, hS.2.2.trans (hbc.mono hS.2.2.size)⟩ (fun hS => ?_)
                      clear hK K hbc
                      refine wpAnyH_take (i := 8) (v := ?_) rfl (by kernel_rfl) (by kernel_rfl) (by kernel_rfl) (fun _ _ _ h => h) (Or.inl ⟨by kernel_rfl, ?_⟩) hS ?_
                      rotate_left
                      · intro W hSW
                        go_simp
                        all_goals with_reducible rfl
                      refine wpAnyH_take (i := 9) (v := ?_) rfl (by kernel_rfl) (by kernel_rfl) (by kernel_rfl) (fun _ _ _ h => h) (Or.inl ⟨by kernel_rfl, ?_⟩) hS ?_
                      rotate_left
                      · intro W hSW
                        go_simp
                        all_goals with_reducible rfl
                      refine wpAnyH_take (i := 10) (v := ?_) rfl (by kernel_rfl) (by kernel_rfl) (by kernel_rfl) (fun _ _ _ h => h) (Or.inl ⟨by kernel_rfl, ?_⟩) hS ?_
                      rotate_left
                      · intro W hSW
                        go_simp
                        all_goals with_reducible rfl
                      go_simp
                      refine wpAnyH_take (i := 11) (v := .agg (btA (beOf l q).x (beOf l q).p (beOf l q).c)) rfl (by kernel_rfl) (by kernel_rfl) (by kernel_rfl) (fun _ _ _ h => h) (Or.inl ⟨by kernel_rfl, fun W hSW => exec_load_ag btR rfl rfl rfl hSW.2.1⟩) hS ?_
                      go_simp
                      refine wpAnyH_ready (rs := [12]) (by kernel_rfl) (by simp) ?_
                      refine AllReadyH.cons rfl (fun K hK => ?_) AllReadyH.nil
                      go_simp
                      go_wp2_with ((go_at_call 38; refine (HRB.out _ hS.2.2).mono ?_; rintro e wc1 ⟨rfl, hbc⟩))
                      refine hK.out _ _ ⟨AgAt.kept hS.1 hbc, AgAt.kept hS.2.1 hbc, hS.2.2.trans (hbc.mono hS.2.2.size)⟩ (fun hS => ?_)
                      clear hK K hbc
                      refine wpAnyH_take (i := 13) (v := ?_) rfl (by kernel_rfl) (by kernel_rfl) (by kernel_rfl) (fun _ _ _ h => h) (Or.inl ⟨by kernel_rfl, ?_⟩) hS ?_
                      rotate_left
                      · intro W hSW
                        go_simp
                        all_goals with_reducible rfl
                      refine wpAnyH_take (i := 14) (v := ?_) rfl (by kernel_rfl) (by kernel_rfl) (by kernel_rfl) (fun _ _ _ h => h) (Or.inl ⟨by kernel_rfl, ?_⟩) hS ?_
                      rotate_left
                      · intro W hSW
                        go_simp
                        all_goals with_reducible rfl
                      refine wpAnyH_take (i := 15) (v := ?_) rfl (by kernel_rfl) (by kernel_rfl) (by kernel_rfl) (fun _ _ _ h => h) (Or.inl ⟨by kernel_rfl, ?_⟩) hS ?_
                      rotate_left
                      · intro W hSW
                        go_simp
                        all_goals with_reducible rfl
                      refine wpAnyH_take (i := 16) (v := ?_) rfl (by kernel_rfl) (by kernel_rfl) (by kernel_rfl) (fun _ _ _ h => h) (Or.inl ⟨by kernel_rfl, ?_⟩) hS ?_
                      rotate_left
                      · intro W hSW
                        go_simp
                        all_goals with_reducible rfl
                      go_simp
                      refine wpAnyH_take (i := 17) (v := ?_) rfl (by kernel_rfl) (by kernel_rfl) (by kernel_rfl) (fun _ _ _ h => h) (Or.inl ⟨by kernel_rfl, ?_⟩) hS ?_
                      rotate_left
                      · intro W hSW
                        obtain ⟨x0, x1, x2, x3⟩ := BtAt.cells hSW.2.1
                        go_simp
                        all_goals with_reducible rfl
                      go_simp
                      refine wpAnyH_take (i := 18) (v := .agg (btA (beOf l k).x (beOf l k).p (beOf l k).c)) rfl (by kernel_rfl) (by kernel_rfl) (by kernel_rfl) (fun _ _ _ h => h) (Or.inl ⟨by kernel_rfl, fun W hSW => exec_load_ag btR rfl rfl rfl hSW.1⟩) hS ?_
                      go_simp
                      refine wpAnyH_ready (rs := [19]) (by kernel_rfl) (by simp) ?_
                      refine AllReadyH.cons rfl (fun K hK => ?_) AllReadyH.nil
                      go_simp
                      go_wp2_with ((go_at_call 52; refine (HEA.out _ hS.2.2).mono ?_; rintro e wc2 ⟨rfl, hbc⟩))
                      refine hK.out _ _ ⟨AgAt.kept hS.1 hbc, AgAt.kept hS.2.1 hbc, hS.2.2.trans (hbc.mono hS.2.2.size)⟩ (fun hS => ?_)
                      clear hK K hbc
                      refine wpAnyH_take (i := 20) (v := ?_) rfl (by kernel_rfl) (by kernel_rfl) (by kernel_rfl) (fun _ _ _ h => h) (Or.inl ⟨by kernel_rfl, ?_⟩) hS ?_
                      rotate_left
                      · intro W hSW
                        have hf := HFD.out W
                        go_simp
                        all_goals with_reducible rfl
                      refine wpAnyH_take (i := 21) (v := ?_) rfl (by kernel_rfl) (by kernel_rfl) (by kernel_rfl) (fun _ _ _ h => h) (Or.inl ⟨by kernel_rfl, ?_⟩) hS ?_
                      rotate_left
                      · intro W hSW
                        have htt := HTT.out
                        go_simp
                        all_goals with_reducible rfl
                      refine wpAnyH_take (i := 22) (v := ?_) rfl (by kernel_rfl) (by kernel_rfl) (by kernel_rfl) (fun _ _ _ h => h) (Or.inl ⟨by kernel_rfl, ?_⟩) hS ?_
                      rotate_left
                      · intro W hSW
                        go_simp
                        all_goals with_reducible rfl
                      go_simp
                      refine wpAnyH_done (by kernel_rfl) ?_ _
                      go_simp
                      have HEN := Lib.hid (show Faired l w (.returned (.bool false)) _ from ⟨false, rfl, fun h => (by cases h), hS.2.2⟩)
                      clear hS
                      go_wp2
                      go_ret
                      exact HEN.out
                    · have HTT := Lib.hid (show decide ((beOf l q).x.t ≤ (endT (beOf l k).x).1) = false from decide_eq_false htm)
                      have HFQ := Lib.hid (show fairB (beOf l k).x (beOf l q).x from fun _ => ⟨hs, hra, hrb, fun _ => by omega, fun h => absurd h HGT.out⟩)
                      clear hs hra hrb htm
                      refine wpAnyH_take (i := 0) (v := ?_) rfl (by kernel_rfl) (by kernel_rfl) (by kernel_rfl) (fun _ _ _ h => h) (Or.inl ⟨by kernel_rfl, ?_⟩) hS ?_
                      rotate_left
                      · intro W hSW
                        go_simp
                        all_goals with_reducible rfl
                      refine wpAnyH_take (i := 1) (v := ?_) rfl (by kernel_rfl) (by kernel_rfl) (by kernel_rfl) (fun _ _ _ h => h) (Or.inl ⟨by kernel_rfl, ?_⟩) hS ?_
                      rotate_left
                      · intro W hSW
                        obtain ⟨x0, x1, x2, x3⟩ := BtAt.cells hSW.1
                        go_simp
                        all_goals with_reducible rfl
                      refine wpAnyH_take (i := 2) (v := ?_) rfl (by kernel_rfl) (by kernel_rfl) (by kernel_rfl) (fun _ _ _ h => h) (Or.inl ⟨by kernel_rfl, ?_⟩) hS ?_
                      rotate_left
                      · intro W hSW
                        go_simp
                        all_goals with_reducible rfl
                      refine wpAnyH_take (i := 3) (v := ?_) rfl (by kernel_rfl) (by kernel_rfl) (by kernel_rfl) (fun _ _ _ h => h) (Or.inl ⟨by kernel_rfl, ?_⟩) hS ?_
                      rotate_left
                      · intro W hSW
                        obtain ⟨x0, x1, x2, x3⟩ := BtAt.cells hSW.2.1
                        go_simp
                        all_goals with_reducible rfl
                      go_simp
                      refine wpAnyH_take (i := 4) (v := ?_) rfl (by kernel_rfl) (by kernel_rfl) (by kernel_rfl) (fun _ _ _ h => h) (Or.inl ⟨by kernel_rfl, ?_⟩) hS ?_
                      rotate_left
                      · intro W hSW
                        have he1 := HE1.out
                        go_simp
                        all_goals with_reducible rfl
                      refine wpAnyH_take (i := 5) (v := ?_) rfl (by kernel_rfl) (by kernel_rfl) (by kernel_rfl) (fun _ _ _ h => h) (Or.inl ⟨by kernel_rfl, ?_⟩) hS ?_
                      rotate_left
                      · intro W hSW
                        go_simp
                        all_goals with_reducible rfl
                      go_simp
                      refine wpAnyH_take (i := 6) (v := .agg (btA (beOf l k).x (beOf l k).p (beOf l k).c)) rfl (by kernel_rfl) (by kernel_rfl) (by kernel_rfl) (fun _ _ _ h => h) (Or.inl ⟨by kernel_rfl, fun W hSW => exec_load_ag btR rfl rfl rfl hSW.1⟩) hS ?_
                      go_simp
                      refine wpAnyH_ready (rs := [7]) (by kernel_rfl) (by simp) ?_
                      refine AllReadyH.cons rfl (fun K hK => ?_) AllReadyH.nil
                      go_simp
                      go_wp2_with ((go_at_call 38; refine (HRA.out _ hS.2.2).mono ?_; rintro e wc0 ⟨rfl, hbc⟩))
                      refine hK.out _ _ ⟨AgAt.kept hS.1 hbc, AgAt.kept hS.2.1 hbc, hS.2.2.trans (hbc.mono hS.2.2.size)⟩ (fun hS => ?_)
                      clear hK K hbc
                      refine wpAnyH_take (i := 8) (v := ?_) rfl (by kernel_rfl) (by kernel_rfl) (by kernel_rfl) (fun _ _ _ h => h) (Or.inl ⟨by kernel_rfl, ?_⟩) hS ?_
                      rotate_left
                      · intro W hSW
                        go_simp
                        all_goals with_reducible rfl
                      refine wpAnyH_take (i := 9) (v := ?_) rfl (by kernel_rfl) (by kernel_rfl) (by kernel_rfl) (fun _ _ _ h => h) (Or.inl ⟨by kernel_rfl, ?_⟩) hS ?_
                      rotate_left
                      · intro W hSW
                        go_simp
                        all_goals with_reducible rfl
                      refine wpAnyH_take (i := 10) (v := ?_) rfl (by kernel_rfl) (by kernel_rfl) (by kernel_rfl) (fun _ _ _ h => h) (Or.inl ⟨by kernel_rfl, ?_⟩) hS ?_
                      rotate_left
                      · intro W hSW
                        go_simp
                        all_goals with_reducible rfl
                      go_simp
                      refine wpAnyH_take (i := 11) (v := .agg (btA (beOf l q).x (beOf l q).p (beOf l q).c)) rfl (by kernel_rfl) (by kernel_rfl) (by kernel_rfl) (fun _ _ _ h => h) (Or.inl ⟨by kernel_rfl, fun W hSW => exec_load_ag btR rfl rfl rfl hSW.2.1⟩) hS ?_
                      go_simp
                      refine wpAnyH_ready (rs := [12]) (by kernel_rfl) (by simp) ?_
                      refine AllReadyH.cons rfl (fun K hK => ?_) AllReadyH.nil
                      go_simp
                      go_wp2_with ((go_at_call 38; refine (HRB.out _ hS.2.2).mono ?_; rintro e wc1 ⟨rfl, hbc⟩))
                      refine hK.out _ _ ⟨AgAt.kept hS.1 hbc, AgAt.kept hS.2.1 hbc, hS.2.2.trans (hbc.mono hS.2.2.size)⟩ (fun hS => ?_)
                      clear hK K hbc
                      refine wpAnyH_take (i := 13) (v := ?_) rfl (by kernel_rfl) (by kernel_rfl) (by kernel_rfl) (fun _ _ _ h => h) (Or.inl ⟨by kernel_rfl, ?_⟩) hS ?_
                      rotate_left
                      · intro W hSW
                        go_simp
                        all_goals with_reducible rfl
                      refine wpAnyH_take (i := 14) (v := ?_) rfl (by kernel_rfl) (by kernel_rfl) (by kernel_rfl) (fun _ _ _ h => h) (Or.inl ⟨by kernel_rfl, ?_⟩) hS ?_
                      rotate_left
                      · intro W hSW
                        go_simp
                        all_goals with_reducible rfl
                      refine wpAnyH_take (i := 15) (v := ?_) rfl (by kernel_rfl) (by kernel_rfl) (by kernel_rfl) (fun _ _ _ h => h) (Or.inl ⟨by kernel_rfl, ?_⟩) hS ?_
                      rotate_left
                      · intro W hSW
                        go_simp
                        all_goals with_reducible rfl
                      refine wpAnyH_take (i := 16) (v := ?_) rfl (by kernel_rfl) (by kernel_rfl) (by kernel_rfl) (fun _ _ _ h => h) (Or.inl ⟨by kernel_rfl, ?_⟩) hS ?_
                      rotate_left
                      · intro W hSW
                        go_simp
                        all_goals with_reducible rfl
                      go_simp
                      refine wpAnyH_take (i := 17) (v := ?_) rfl (by kernel_rfl) (by kernel_rfl) (by kernel_rfl) (fun _ _ _ h => h) (Or.inl ⟨by kernel_rfl, ?_⟩) hS ?_
                      rotate_left
                      · intro W hSW
                        obtain ⟨x0, x1, x2, x3⟩ := BtAt.cells hSW.2.1
                        go_simp
                        all_goals with_reducible rfl
                      go_simp
                      refine wpAnyH_take (i := 18) (v := .agg (btA (beOf l k).x (beOf l k).p (beOf l k).c)) rfl (by kernel_rfl) (by kernel_rfl) (by kernel_rfl) (fun _ _ _ h => h) (Or.inl ⟨by kernel_rfl, fun W hSW => exec_load_ag btR rfl rfl rfl hSW.1⟩) hS ?_
                      go_simp
                      refine wpAnyH_ready (rs := [19]) (by kernel_rfl) (by simp) ?_
                      refine AllReadyH.cons rfl (fun K hK => ?_) AllReadyH.nil
                      go_simp
                      go_wp2_with ((go_at_call 52; refine (HEA.out _ hS.2.2).mono ?_; rintro e wc2 ⟨rfl, hbc⟩))
                      refine hK.out _ _ ⟨AgAt.kept hS.1 hbc, AgAt.kept hS.2.1 hbc, hS.2.2.trans (hbc.mono hS.2.2.size)⟩ (fun hS => ?_)
                      clear hK K hbc
                      refine wpAnyH_take (i := 20) (v := ?_) rfl (by kernel_rfl) (by kernel_rfl) (by kernel_rfl) (fun _ _ _ h => h) (Or.inl ⟨by kernel_rfl, ?_⟩) hS ?_
                      rotate_left
                      · intro W hSW
                        have hf := HFD.out W
                        go_simp
                        all_goals with_reducible rfl
                      refine wpAnyH_take (i := 21) (v := ?_) rfl (by kernel_rfl) (by kernel_rfl) (by kernel_rfl) (fun _ _ _ h => h) (Or.inl ⟨by kernel_rfl, ?_⟩) hS ?_
                      rotate_left
                      · intro W hSW
                        have htt := HTT.out
                        go_simp
                        all_goals with_reducible rfl
                      refine wpAnyH_take (i := 22) (v := ?_) rfl (by kernel_rfl) (by kernel_rfl) (by kernel_rfl) (fun _ _ _ h => h) (Or.inl ⟨by kernel_rfl, ?_⟩) hS ?_
                      rotate_left
                      · intro W hSW
                        go_simp
                        all_goals with_reducible rfl
                      go_simp
                      refine wpAnyH_done (by kernel_rfl) ?_ _
                      go_simp
                      have HBN := Lib.hid hS.2.2
                      have HQ' := Lib.hid (show ∀ j, j < q + 1 → fairB (beOf l k).x (beOf l j).x from fun j hj => by
                        by_cases e : j = q
                        · subst e
                          exact HFQ.out
                        · exact HQ.out j (by omega))
                      clear hS
                      go_wp2
                      go_roundw
                      case rel => exact ⟨q + 1, by omega, by go_num, HQ'.out, HBN.out⟩
                      case measure => simp [intOf]; omega
          · have hr1 : ((beOf l k).x.r != (beOf l q).x.r) = true := by simpa using hr
            have HQ' := Lib.hid (show ∀ j, j < q + 1 → fairB (beOf l k).x (beOf l j).x from fun j hj => by
              by_cases e : j = q
              · subst e
                exact fun e => absurd e hr
              · exact HQ.out j (by omega))
            clear hr
            go_wp2
            go_roundw
            case rel => exact ⟨q + 1, by omega, by go_num, HQ'.out, HBE.out⟩
            case measure => simp [intOf]; omega
        · obtain rfl : q = k := by omega
          have hd1 : decide ((q : Int) < (q : Int)) = false := decide_eq_false (by omega)
          have HG' := Lib.hid (show ∀ i, i < q + 1 → ∀ j, j < i → fairB (beOf l i).x (beOf l j).x from fun i hi => by
            by_cases e : i = q
            · subst e; exact HQ.out
            · exact HG.out i (by omega))
          go_wp2
          go_roundw
          case rel => exact ⟨q + 1, by omega, by go_num, HG'.out, HB.out⟩
          case measure => simp [intOf]; omega
    · obtain rfl : k = l.length := by omega
      have hd0 : decide ((l.length : Int) < (l.length : Int)) = false := decide_eq_false (by omega)
      have HE := Lib.hid (show Faired l w (.returned (.bool true)) wr from ⟨true, rfl, fun _ => fair_all HG.out, HB.out⟩)
      go_wp2
      go_ret
      exact HE.out
end Go.Proofs.YtaplemkmkbjodaaGreat
