/-
  What a kind names.
  No conditions.
  Right: may an op be.
  No conditions but sizes.
-/
import Derived.Test.YthifdefjmfakgaaGreatGI
import Derived.Test.YthifdefjmfakgaaGreatH7
namespace Go.Proofs.YthifdefjmfakgaaGreat
open Go.RowKit

theorem named_end {w : World} {p q : Prt} (hp : q = p) (tmps : Array Value) (h : tmps.getD 2 undef = .pointer (some ⟨w.heap.size, 0, none⟩)) :
    bodyPost Tryz.prog Tryz.f71 (fun e w' => e = .returned (.agg (prA q)) ∧ Below w.heap.size w w') Exit.ret { tmps := tmps, defers := [] } (w.alloc (.cells (prA p) 138)) := by
  subst hp
  exact bodyPost_ret (results_cell_row rfl tmps _ w.heap.size 138 (prA q) (0, 0) _ h (heap_alloc_new w _) Tryz.underlying138 rfl (by kernel_rfl)) rfl ⟨rfl, (Below.refl _ _).alloc (Nat.le_refl _) _⟩
set_option maxRecDepth 100000 in
set_option maxHeartbeats 1000000 in
theorem named_any (k : Int) (w : World) : Calls Tryz.prog 71 #[.int .i64 k] w fun e w' => e = .returned (.agg (prA (prt k))) ∧ Below w.heap.size w w' := by
  by_cases h1 : k = 1
  · subst h1
    go_enter Tryz.func71, Tryz.ntmps71
    go_wp2
    exact named_end (p := prt 1) rfl _ rfl
  by_cases h2 : k = 2
  · subst h2
    go_enter Tryz.func71, Tryz.ntmps71
    go_wp2
    exact named_end (p := prt 2) rfl _ rfl
  by_cases h3 : k = 3
  · subst h3
    go_enter Tryz.func71, Tryz.ntmps71
    go_wp2
    exact named_end (p := prt 3) rfl _ rfl
  by_cases h4 : k = 4
  · subst h4
    go_enter Tryz.func71, Tryz.ntmps71
    go_wp2
    exact named_end (p := prt 4) rfl _ rfl
  by_cases h5 : k = 5
  · subst h5
    go_enter Tryz.func71, Tryz.ntmps71
    go_wp2
    exact named_end (p := prt 5) rfl _ rfl
  by_cases h6 : k = 6
  · subst h6
    go_enter Tryz.func71, Tryz.ntmps71
    go_wp2
    exact named_end (p := prt 6) rfl _ rfl
  have HP := Lib.hid (prt_none h1 h2 h3 h4 h5 h6)
  go_enter Tryz.func71, Tryz.ntmps71
  go_wp2
  exact named_end HP.out _ rfl
end Go.Proofs.YthifdefjmfakgaaGreat

namespace Go.Proofs.YthifdefjmfakgaaGreat
open Go.RowKit

theorem right_start (w : World) (x : Opp) (q : Option Addr) (c : Nat) (ha : Pa w x q c) : Hid (OpAt (w.alloc (.cells (opA x q c) 43)) w.heap.size x q c) ∧ Hid (Pa (w.alloc (.cells (opA x q c) 43)) x q c) ∧ Hid (Below w.heap.size w (w.alloc (.cells (opA x q c) 43))) :=
  ⟨OpAt.new w x q c _, ha.kept ((Below.refl _ _).alloc (Nat.le_refl _) _), (Below.refl _ _).alloc (Nat.le_refl _) _⟩
theorem rightO_none {x : Opp} (h1 : x.k ≠ 1) (h2 : x.k ≠ 2) (h3 : x.k ≠ 3) (h4 : x.k ≠ 4) (h5 : x.k ≠ 5) (h6 : x.k ≠ 6) : rightO x = false := by
  unfold rightO
  rw [decide_eq_false (by omega)]
  rfl
theorem rightO_of {x : Opp} {k : Int} (h : x.k = k) (h1 : 1 ≤ k) (h6 : k ≤ 6) : rightO x = (fitO (prt k) x && aloneO (prt k) x) := by
  subst h
  unfold rightO
  rw [decide_eq_true ⟨h1, h6⟩]
  rfl

set_option maxRecDepth 100000 in
set_option maxHeartbeats 2000000 in
theorem right1_any (x : Opp) (q : Option Addr) (c : Nat) (w : World) (hs : Sz x) (ha : Pa w x q c) (hk : x.k = 1) : Calls Tryz.prog 37 #[.agg (opA x q c)] w fun e w' => e = .returned (.bool (rightO x)) ∧ Below w.heap.size w w' := by
  obtain ⟨HX, HA, HB⟩ := right_start w x q c ha
  have HR := Lib.hid (rightO_of (x := x) hk (by decide) (by decide))
  have HK := Lib.hid hk
  have HNA := Lib.hid (fun W => named_any x.k W)
  rw [hk] at HNA
  obtain ⟨x0, -⟩ := HX.out.cells
  rw [hk] at x0
  clear hk
  cases hf : fitO ⟨false, true, false, false, false, false⟩ x with
  | false =>
    have HV := Lib.hid (show (fitO (prt 1) x && aloneO (prt 1) x) = false by rw [show fitO (prt 1) x = false from hf]; rfl)
    have HF := Lib.hid hf
    clear hf
    go_enter Tryz.func37, Tryz.ntmps37
    go_wp2_with fail
    refine (HNA.out _).mono ?_
    rintro e w1 ⟨rfl, hb1⟩
    replace HX := Lib.hid ((HX.out.kept hb1).kept ((Below.refl _ _).alloc (Nat.le_refl _) (.cells #[.bool false, .bool true, .bool false, .bool false, .bool false, .bool false] 138)))
    replace HA := Lib.hid ((HA.out.kept hb1).kept ((Below.refl _ _).alloc (Nat.le_refl _) (.cells #[.bool false, .bool true, .bool false, .bool false, .bool false, .bool false] 138)))
    replace HB := Lib.hid (HB.out.trans (hb1.mono HB.out.size))
    replace HB := Lib.hid (HB.out.alloc HB.out.size (.cells #[.bool false, .bool true, .bool false, .bool false, .bool false, .bool false] 138))
    have HP := Lib.hid (show PrAt (w1.alloc (.cells #[.bool false, .bool true, .bool false, .bool false, .bool false, .bool false] 138)) w1.heap.size ⟨false, true, false, false, false, false⟩ from PrAt.new w1 ⟨false, true, false, false, false, false⟩ 138)
    have hpr : prA (prt 1) = #[.bool false, .bool true, .bool false, .bool false, .bool false, .bool false] := rfl
    clear hb1 x0
    have hx := HX.out
    go_wp2_with (refine wpList_load_opG otP (by kernel_rfl) _ rfl _ rfl _ _ _ (by assumption) ?_)
    refine (fit1_any x q c _ hs HA.out).mono ?_
    rw [HF.out]
    rintro e w1 ⟨rfl, hb1⟩
    replace HB := Lib.hid (HB.out.trans (hb1.mono HB.out.size))
    replace HX := Lib.hid (HX.out.kept hb1)
    replace HA := Lib.hid (HA.out.kept hb1)
    replace HP := Lib.hid (HP.out.kept hb1)
    clear hb1 hx
    have hx := HX.out
    obtain ⟨p0, p1, p2, p3, p4, p5⟩ := HP.out.cells
    dsimp only at p0 p1 p2 p3 p4 p5
    go_wp2
    go_ret
    exact ⟨ret_b (HR.out.trans HV.out).symm, HB.out⟩
  | true =>
    have HV := Lib.hid (show (fitO (prt 1) x && aloneO (prt 1) x) = aloneO ⟨false, true, false, false, false, false⟩ x by rw [show fitO (prt 1) x = true from hf]; rfl)
    have HF := Lib.hid hf
    clear hf
    go_enter Tryz.func37, Tryz.ntmps37
    go_wp2_with fail
    refine (HNA.out _).mono ?_
    rintro e w1 ⟨rfl, hb1⟩
    replace HX := Lib.hid ((HX.out.kept hb1).kept ((Below.refl _ _).alloc (Nat.le_refl _) (.cells #[.bool false, .bool true, .bool false, .bool false, .bool false, .bool false] 138)))
    replace HA := Lib.hid ((HA.out.kept hb1).kept ((Below.refl _ _).alloc (Nat.le_refl _) (.cells #[.bool false, .bool true, .bool false, .bool false, .bool false, .bool false] 138)))
    replace HB := Lib.hid (HB.out.trans (hb1.mono HB.out.size))
    replace HB := Lib.hid (HB.out.alloc HB.out.size (.cells #[.bool false, .bool true, .bool false, .bool false, .bool false, .bool false] 138))
    have HP := Lib.hid (show PrAt (w1.alloc (.cells #[.bool false, .bool true, .bool false, .bool false, .bool false, .bool false] 138)) w1.heap.size ⟨false, true, false, false, false, false⟩ from PrAt.new w1 ⟨false, true, false, false, false, false⟩ 138)
    have hpr : prA (prt 1) = #[.bool false, .bool true, .bool false, .bool false, .bool false, .bool false] := rfl
    clear hb1 x0
    have hx := HX.out
    go_wp2_with (refine wpList_load_opG otP (by kernel_rfl) _ rfl _ rfl _ _ _ (by assumption) ?_)
    refine (fit1_any x q c _ hs HA.out).mono ?_
    rw [HF.out]
    rintro e w1 ⟨rfl, hb1⟩
    replace HB := Lib.hid (HB.out.trans (hb1.mono HB.out.size))
    replace HX := Lib.hid (HX.out.kept hb1)
    replace HA := Lib.hid (HA.out.kept hb1)
    replace HP := Lib.hid (HP.out.kept hb1)
    clear hb1 hx
    have hx := HX.out
    obtain ⟨p0, p1, p2, p3, p4, p5⟩ := HP.out.cells
    dsimp only at p0 p1 p2 p3 p4 p5
    go_wp2_with (refine wpList_load_opG otP (by kernel_rfl) _ rfl _ rfl _ _ _ (by assumption) ?_)
    refine (alone1_any x q c _ HA.out).mono ?_
    rintro e w1 ⟨rfl, hb1⟩
    replace HB := Lib.hid (HB.out.trans (hb1.mono HB.out.size))
    replace HX := Lib.hid (HX.out.kept hb1)
    replace HA := Lib.hid (HA.out.kept hb1)
    replace HP := Lib.hid (HP.out.kept hb1)
    clear hb1 hx
    have hx := HX.out
    obtain ⟨p0, p1, p2, p3, p4, p5⟩ := HP.out.cells
    dsimp only at p0 p1 p2 p3 p4 p5
    go_wp2
    go_ret
    exact ⟨ret_b (HR.out.trans HV.out).symm, HB.out⟩
set_option maxRecDepth 100000 in
set_option maxHeartbeats 2000000 in
theorem right2_any (x : Opp) (q : Option Addr) (c : Nat) (w : World) (hs : Sz x) (ha : Pa w x q c) (hk : x.k = 2) : Calls Tryz.prog 37 #[.agg (opA x q c)] w fun e w' => e = .returned (.bool (rightO x)) ∧ Below w.heap.size w w' := by
  obtain ⟨HX, HA, HB⟩ := right_start w x q c ha
  have HR := Lib.hid (rightO_of (x := x) hk (by decide) (by decide))
  have HK := Lib.hid hk
  have HNA := Lib.hid (fun W => named_any x.k W)
  rw [hk] at HNA
  obtain ⟨x0, -⟩ := HX.out.cells
  rw [hk] at x0
  clear hk
  cases hf : fitO ⟨true, true, false, false, false, false⟩ x with
  | false =>
    have HV := Lib.hid (show (fitO (prt 2) x && aloneO (prt 2) x) = false by rw [show fitO (prt 2) x = false from hf]; rfl)
    have HF := Lib.hid hf
    clear hf
    go_enter Tryz.func37, Tryz.ntmps37
    go_wp2_with fail
    refine (HNA.out _).mono ?_
    rintro e w1 ⟨rfl, hb1⟩
    replace HX := Lib.hid ((HX.out.kept hb1).kept ((Below.refl _ _).alloc (Nat.le_refl _) (.cells #[.bool true, .bool true, .bool false, .bool false, .bool false, .bool false] 138)))
    replace HA := Lib.hid ((HA.out.kept hb1).kept ((Below.refl _ _).alloc (Nat.le_refl _) (.cells #[.bool true, .bool true, .bool false, .bool false, .bool false, .bool false] 138)))
    replace HB := Lib.hid (HB.out.trans (hb1.mono HB.out.size))
    replace HB := Lib.hid (HB.out.alloc HB.out.size (.cells #[.bool true, .bool true, .bool false, .bool false, .bool false, .bool false] 138))
    have HP := Lib.hid (show PrAt (w1.alloc (.cells #[.bool true, .bool true, .bool false, .bool false, .bool false, .bool false] 138)) w1.heap.size ⟨true, true, false, false, false, false⟩ from PrAt.new w1 ⟨true, true, false, false, false, false⟩ 138)
    have hpr : prA (prt 2) = #[.bool true, .bool true, .bool false, .bool false, .bool false, .bool false] := rfl
    clear hb1 x0
    have hx := HX.out
    go_wp2_with (refine wpList_load_opG otP (by kernel_rfl) _ rfl _ rfl _ _ _ (by assumption) ?_)
    refine (fit2_any x q c _ hs HA.out).mono ?_
    rw [HF.out]
    rintro e w1 ⟨rfl, hb1⟩
    replace HB := Lib.hid (HB.out.trans (hb1.mono HB.out.size))
    replace HX := Lib.hid (HX.out.kept hb1)
    replace HA := Lib.hid (HA.out.kept hb1)
    replace HP := Lib.hid (HP.out.kept hb1)
    clear hb1 hx
    have hx := HX.out
    obtain ⟨p0, p1, p2, p3, p4, p5⟩ := HP.out.cells
    dsimp only at p0 p1 p2 p3 p4 p5
    go_wp2
    go_ret
    exact ⟨ret_b (HR.out.trans HV.out).symm, HB.out⟩
  | true =>
    have HV := Lib.hid (show (fitO (prt 2) x && aloneO (prt 2) x) = aloneO ⟨true, true, false, false, false, false⟩ x by rw [show fitO (prt 2) x = true from hf]; rfl)
    have HF := Lib.hid hf
    clear hf
    go_enter Tryz.func37, Tryz.ntmps37
    go_wp2_with fail
    refine (HNA.out _).mono ?_
    rintro e w1 ⟨rfl, hb1⟩
    replace HX := Lib.hid ((HX.out.kept hb1).kept ((Below.refl _ _).alloc (Nat.le_refl _) (.cells #[.bool true, .bool true, .bool false, .bool false, .bool false, .bool false] 138)))
    replace HA := Lib.hid ((HA.out.kept hb1).kept ((Below.refl _ _).alloc (Nat.le_refl _) (.cells #[.bool true, .bool true, .bool false, .bool false, .bool false, .bool false] 138)))
    replace HB := Lib.hid (HB.out.trans (hb1.mono HB.out.size))
    replace HB := Lib.hid (HB.out.alloc HB.out.size (.cells #[.bool true, .bool true, .bool false, .bool false, .bool false, .bool false] 138))
    have HP := Lib.hid (show PrAt (w1.alloc (.cells #[.bool true, .bool true, .bool false, .bool false, .bool false, .bool false] 138)) w1.heap.size ⟨true, true, false, false, false, false⟩ from PrAt.new w1 ⟨true, true, false, false, false, false⟩ 138)
    have hpr : prA (prt 2) = #[.bool true, .bool true, .bool false, .bool false, .bool false, .bool false] := rfl
    clear hb1 x0
    have hx := HX.out
    go_wp2_with (refine wpList_load_opG otP (by kernel_rfl) _ rfl _ rfl _ _ _ (by assumption) ?_)
    refine (fit2_any x q c _ hs HA.out).mono ?_
    rw [HF.out]
    rintro e w1 ⟨rfl, hb1⟩
    replace HB := Lib.hid (HB.out.trans (hb1.mono HB.out.size))
    replace HX := Lib.hid (HX.out.kept hb1)
    replace HA := Lib.hid (HA.out.kept hb1)
    replace HP := Lib.hid (HP.out.kept hb1)
    clear hb1 hx
    have hx := HX.out
    obtain ⟨p0, p1, p2, p3, p4, p5⟩ := HP.out.cells
    dsimp only at p0 p1 p2 p3 p4 p5
    go_wp2_with (refine wpList_load_opG otP (by kernel_rfl) _ rfl _ rfl _ _ _ (by assumption) ?_)
    refine (alone2_any x q c _ HA.out).mono ?_
    rintro e w1 ⟨rfl, hb1⟩
    replace HB := Lib.hid (HB.out.trans (hb1.mono HB.out.size))
    replace HX := Lib.hid (HX.out.kept hb1)
    replace HA := Lib.hid (HA.out.kept hb1)
    replace HP := Lib.hid (HP.out.kept hb1)
    clear hb1 hx
    have hx := HX.out
    obtain ⟨p0, p1, p2, p3, p4, p5⟩ := HP.out.cells
    dsimp only at p0 p1 p2 p3 p4 p5
    go_wp2
    go_ret
    exact ⟨ret_b (HR.out.trans HV.out).symm, HB.out⟩
set_option maxRecDepth 100000 in
set_option maxHeartbeats 2000000 in
theorem right3_any (x : Opp) (q : Option Addr) (c : Nat) (w : World) (hs : Sz x) (ha : Pa w x q c) (hk : x.k = 3) : Calls Tryz.prog 37 #[.agg (opA x q c)] w fun e w' => e = .returned (.bool (rightO x)) ∧ Below w.heap.size w w' := by
  obtain ⟨HX, HA, HB⟩ := right_start w x q c ha
  have HR := Lib.hid (rightO_of (x := x) hk (by decide) (by decide))
  have HK := Lib.hid hk
  have HNA := Lib.hid (fun W => named_any x.k W)
  rw [hk] at HNA
  obtain ⟨x0, -⟩ := HX.out.cells
  rw [hk] at x0
  clear hk
  cases hf : fitO ⟨true, false, false, false, true, false⟩ x with
  | false =>
    have HV := Lib.hid (show (fitO (prt 3) x && aloneO (prt 3) x) = false by rw [show fitO (prt 3) x = false from hf]; rfl)
    have HF := Lib.hid hf
    clear hf
    go_enter Tryz.func37, Tryz.ntmps37
    go_wp2_with fail
    refine (HNA.out _).mono ?_
    rintro e w1 ⟨rfl, hb1⟩
    replace HX := Lib.hid ((HX.out.kept hb1).kept ((Below.refl _ _).alloc (Nat.le_refl _) (.cells #[.bool true, .bool false, .bool false, .bool false, .bool true, .bool false] 138)))
    replace HA := Lib.hid ((HA.out.kept hb1).kept ((Below.refl _ _).alloc (Nat.le_refl _) (.cells #[.bool true, .bool false, .bool false, .bool false, .bool true, .bool false] 138)))
    replace HB := Lib.hid (HB.out.trans (hb1.mono HB.out.size))
    replace HB := Lib.hid (HB.out.alloc HB.out.size (.cells #[.bool true, .bool false, .bool false, .bool false, .bool true, .bool false] 138))
    have HP := Lib.hid (show PrAt (w1.alloc (.cells #[.bool true, .bool false, .bool false, .bool false, .bool true, .bool false] 138)) w1.heap.size ⟨true, false, false, false, true, false⟩ from PrAt.new w1 ⟨true, false, false, false, true, false⟩ 138)
    have hpr : prA (prt 3) = #[.bool true, .bool false, .bool false, .bool false, .bool true, .bool false] := rfl
    clear hb1 x0
    have hx := HX.out
    go_wp2_with (refine wpList_load_opG otP (by kernel_rfl) _ rfl _ rfl _ _ _ (by assumption) ?_)
    refine (fit3_any x q c _ hs HA.out).mono ?_
    rw [HF.out]
    rintro e w1 ⟨rfl, hb1⟩
    replace HB := Lib.hid (HB.out.trans (hb1.mono HB.out.size))
    replace HX := Lib.hid (HX.out.kept hb1)
    replace HA := Lib.hid (HA.out.kept hb1)
    replace HP := Lib.hid (HP.out.kept hb1)
    clear hb1 hx
    have hx := HX.out
    obtain ⟨p0, p1, p2, p3, p4, p5⟩ := HP.out.cells
    dsimp only at p0 p1 p2 p3 p4 p5
    go_wp2
    go_ret
    exact ⟨ret_b (HR.out.trans HV.out).symm, HB.out⟩
  | true =>
    have HV := Lib.hid (show (fitO (prt 3) x && aloneO (prt 3) x) = aloneO ⟨true, false, false, false, true, false⟩ x by rw [show fitO (prt 3) x = true from hf]; rfl)
    have HF := Lib.hid hf
    clear hf
    go_enter Tryz.func37, Tryz.ntmps37
    go_wp2_with fail
    refine (HNA.out _).mono ?_
    rintro e w1 ⟨rfl, hb1⟩
    replace HX := Lib.hid ((HX.out.kept hb1).kept ((Below.refl _ _).alloc (Nat.le_refl _) (.cells #[.bool true, .bool false, .bool false, .bool false, .bool true, .bool false] 138)))
    replace HA := Lib.hid ((HA.out.kept hb1).kept ((Below.refl _ _).alloc (Nat.le_refl _) (.cells #[.bool true, .bool false, .bool false, .bool false, .bool true, .bool false] 138)))
    replace HB := Lib.hid (HB.out.trans (hb1.mono HB.out.size))
    replace HB := Lib.hid (HB.out.alloc HB.out.size (.cells #[.bool true, .bool false, .bool false, .bool false, .bool true, .bool false] 138))
    have HP := Lib.hid (show PrAt (w1.alloc (.cells #[.bool true, .bool false, .bool false, .bool false, .bool true, .bool false] 138)) w1.heap.size ⟨true, false, false, false, true, false⟩ from PrAt.new w1 ⟨true, false, false, false, true, false⟩ 138)
    have hpr : prA (prt 3) = #[.bool true, .bool false, .bool false, .bool false, .bool true, .bool false] := rfl
    clear hb1 x0
    have hx := HX.out
    go_wp2_with (refine wpList_load_opG otP (by kernel_rfl) _ rfl _ rfl _ _ _ (by assumption) ?_)
    refine (fit3_any x q c _ hs HA.out).mono ?_
    rw [HF.out]
    rintro e w1 ⟨rfl, hb1⟩
    replace HB := Lib.hid (HB.out.trans (hb1.mono HB.out.size))
    replace HX := Lib.hid (HX.out.kept hb1)
    replace HA := Lib.hid (HA.out.kept hb1)
    replace HP := Lib.hid (HP.out.kept hb1)
    clear hb1 hx
    have hx := HX.out
    obtain ⟨p0, p1, p2, p3, p4, p5⟩ := HP.out.cells
    dsimp only at p0 p1 p2 p3 p4 p5
    go_wp2_with (refine wpList_load_opG otP (by kernel_rfl) _ rfl _ rfl _ _ _ (by assumption) ?_)
    refine (alone3_any x q c _ HA.out).mono ?_
    rintro e w1 ⟨rfl, hb1⟩
    replace HB := Lib.hid (HB.out.trans (hb1.mono HB.out.size))
    replace HX := Lib.hid (HX.out.kept hb1)
    replace HA := Lib.hid (HA.out.kept hb1)
    replace HP := Lib.hid (HP.out.kept hb1)
    clear hb1 hx
    have hx := HX.out
    obtain ⟨p0, p1, p2, p3, p4, p5⟩ := HP.out.cells
    dsimp only at p0 p1 p2 p3 p4 p5
    go_wp2
    go_ret
    exact ⟨ret_b (HR.out.trans HV.out).symm, HB.out⟩
set_option maxRecDepth 100000 in
set_option maxHeartbeats 2000000 in
theorem right4_any (x : Opp) (q : Option Addr) (c : Nat) (w : World) (hs : Sz x) (ha : Pa w x q c) (hk : x.k = 4) : Calls Tryz.prog 37 #[.agg (opA x q c)] w fun e w' => e = .returned (.bool (rightO x)) ∧ Below w.heap.size w w' := by
  obtain ⟨HX, HA, HB⟩ := right_start w x q c ha
  have HR := Lib.hid (rightO_of (x := x) hk (by decide) (by decide))
  have HK := Lib.hid hk
  have HNA := Lib.hid (fun W => named_any x.k W)
  rw [hk] at HNA
  obtain ⟨x0, -⟩ := HX.out.cells
  rw [hk] at x0
  clear hk
  cases hf : fitO ⟨true, false, false, false, false, true⟩ x with
  | false =>
    have HV := Lib.hid (show (fitO (prt 4) x && aloneO (prt 4) x) = false by rw [show fitO (prt 4) x = false from hf]; rfl)
    have HF := Lib.hid hf
    clear hf
    go_enter Tryz.func37, Tryz.ntmps37
    go_wp2_with fail
    refine (HNA.out _).mono ?_
    rintro e w1 ⟨rfl, hb1⟩
    replace HX := Lib.hid ((HX.out.kept hb1).kept ((Below.refl _ _).alloc (Nat.le_refl _) (.cells #[.bool true, .bool false, .bool false, .bool false, .bool false, .bool true] 138)))
    replace HA := Lib.hid ((HA.out.kept hb1).kept ((Below.refl _ _).alloc (Nat.le_refl _) (.cells #[.bool true, .bool false, .bool false, .bool false, .bool false, .bool true] 138)))
    replace HB := Lib.hid (HB.out.trans (hb1.mono HB.out.size))
    replace HB := Lib.hid (HB.out.alloc HB.out.size (.cells #[.bool true, .bool false, .bool false, .bool false, .bool false, .bool true] 138))
    have HP := Lib.hid (show PrAt (w1.alloc (.cells #[.bool true, .bool false, .bool false, .bool false, .bool false, .bool true] 138)) w1.heap.size ⟨true, false, false, false, false, true⟩ from PrAt.new w1 ⟨true, false, false, false, false, true⟩ 138)
    have hpr : prA (prt 4) = #[.bool true, .bool false, .bool false, .bool false, .bool false, .bool true] := rfl
    clear hb1 x0
    have hx := HX.out
    go_wp2_with (refine wpList_load_opG otP (by kernel_rfl) _ rfl _ rfl _ _ _ (by assumption) ?_)
    refine (fit4_any x q c _ hs HA.out).mono ?_
    rw [HF.out]
    rintro e w1 ⟨rfl, hb1⟩
    replace HB := Lib.hid (HB.out.trans (hb1.mono HB.out.size))
    replace HX := Lib.hid (HX.out.kept hb1)
    replace HA := Lib.hid (HA.out.kept hb1)
    replace HP := Lib.hid (HP.out.kept hb1)
    clear hb1 hx
    have hx := HX.out
    obtain ⟨p0, p1, p2, p3, p4, p5⟩ := HP.out.cells
    dsimp only at p0 p1 p2 p3 p4 p5
    go_wp2
    go_ret
    exact ⟨ret_b (HR.out.trans HV.out).symm, HB.out⟩
  | true =>
    have HV := Lib.hid (show (fitO (prt 4) x && aloneO (prt 4) x) = aloneO ⟨true, false, false, false, false, true⟩ x by rw [show fitO (prt 4) x = true from hf]; rfl)
    have HF := Lib.hid hf
    clear hf
    go_enter Tryz.func37, Tryz.ntmps37
    go_wp2_with fail
    refine (HNA.out _).mono ?_
    rintro e w1 ⟨rfl, hb1⟩
    replace HX := Lib.hid ((HX.out.kept hb1).kept ((Below.refl _ _).alloc (Nat.le_refl _) (.cells #[.bool true, .bool false, .bool false, .bool false, .bool false, .bool true] 138)))
    replace HA := Lib.hid ((HA.out.kept hb1).kept ((Below.refl _ _).alloc (Nat.le_refl _) (.cells #[.bool true, .bool false, .bool false, .bool false, .bool false, .bool true] 138)))
    replace HB := Lib.hid (HB.out.trans (hb1.mono HB.out.size))
    replace HB := Lib.hid (HB.out.alloc HB.out.size (.cells #[.bool true, .bool false, .bool false, .bool false, .bool false, .bool true] 138))
    have HP := Lib.hid (show PrAt (w1.alloc (.cells #[.bool true, .bool false, .bool false, .bool false, .bool false, .bool true] 138)) w1.heap.size ⟨true, false, false, false, false, true⟩ from PrAt.new w1 ⟨true, false, false, false, false, true⟩ 138)
    have hpr : prA (prt 4) = #[.bool true, .bool false, .bool false, .bool false, .bool false, .bool true] := rfl
    clear hb1 x0
    have hx := HX.out
    go_wp2_with (refine wpList_load_opG otP (by kernel_rfl) _ rfl _ rfl _ _ _ (by assumption) ?_)
    refine (fit4_any x q c _ hs HA.out).mono ?_
    rw [HF.out]
    rintro e w1 ⟨rfl, hb1⟩
    replace HB := Lib.hid (HB.out.trans (hb1.mono HB.out.size))
    replace HX := Lib.hid (HX.out.kept hb1)
    replace HA := Lib.hid (HA.out.kept hb1)
    replace HP := Lib.hid (HP.out.kept hb1)
    clear hb1 hx
    have hx := HX.out
    obtain ⟨p0, p1, p2, p3, p4, p5⟩ := HP.out.cells
    dsimp only at p0 p1 p2 p3 p4 p5
    go_wp2_with (refine wpList_load_opG otP (by kernel_rfl) _ rfl _ rfl _ _ _ (by assumption) ?_)
    refine (alone4_any x q c _ HA.out).mono ?_
    rintro e w1 ⟨rfl, hb1⟩
    replace HB := Lib.hid (HB.out.trans (hb1.mono HB.out.size))
    replace HX := Lib.hid (HX.out.kept hb1)
    replace HA := Lib.hid (HA.out.kept hb1)
    replace HP := Lib.hid (HP.out.kept hb1)
    clear hb1 hx
    have hx := HX.out
    obtain ⟨p0, p1, p2, p3, p4, p5⟩ := HP.out.cells
    dsimp only at p0 p1 p2 p3 p4 p5
    go_wp2
    go_ret
    exact ⟨ret_b (HR.out.trans HV.out).symm, HB.out⟩
set_option maxRecDepth 100000 in
set_option maxHeartbeats 2000000 in
theorem right5_any (x : Opp) (q : Option Addr) (c : Nat) (w : World) (hs : Sz x) (ha : Pa w x q c) (hk : x.k = 5) : Calls Tryz.prog 37 #[.agg (opA x q c)] w fun e w' => e = .returned (.bool (rightO x)) ∧ Below w.heap.size w w' := by
  obtain ⟨HX, HA, HB⟩ := right_start w x q c ha
  have HR := Lib.hid (rightO_of (x := x) hk (by decide) (by decide))
  have HK := Lib.hid hk
  have HNA := Lib.hid (fun W => named_any x.k W)
  rw [hk] at HNA
  obtain ⟨x0, -⟩ := HX.out.cells
  rw [hk] at x0
  clear hk
  cases hf : fitO ⟨true, false, true, false, false, false⟩ x with
  | false =>
    have HV := Lib.hid (show (fitO (prt 5) x && aloneO (prt 5) x) = false by rw [show fitO (prt 5) x = false from hf]; rfl)
    have HF := Lib.hid hf
    clear hf
    go_enter Tryz.func37, Tryz.ntmps37
    go_wp2_with fail
    refine (HNA.out _).mono ?_
    rintro e w1 ⟨rfl, hb1⟩
    replace HX := Lib.hid ((HX.out.kept hb1).kept ((Below.refl _ _).alloc (Nat.le_refl _) (.cells #[.bool true, .bool false, .bool true, .bool false, .bool false, .bool false] 138)))
    replace HA := Lib.hid ((HA.out.kept hb1).kept ((Below.refl _ _).alloc (Nat.le_refl _) (.cells #[.bool true, .bool false, .bool true, .bool false, .bool false, .bool false] 138)))
    replace HB := Lib.hid (HB.out.trans (hb1.mono HB.out.size))
    replace HB := Lib.hid (HB.out.alloc HB.out.size (.cells #[.bool true, .bool false, .bool true, .bool false, .bool false, .bool false] 138))
    have HP := Lib.hid (show PrAt (w1.alloc (.cells #[.bool true, .bool false, .bool true, .bool false, .bool false, .bool false] 138)) w1.heap.size ⟨true, false, true, false, false, false⟩ from PrAt.new w1 ⟨true, false, true, false, false, false⟩ 138)
    have hpr : prA (prt 5) = #[.bool true, .bool false, .bool true, .bool false, .bool false, .bool false] := rfl
    clear hb1 x0
    have hx := HX.out
    go_wp2_with (refine wpList_load_opG otP (by kernel_rfl) _ rfl _ rfl _ _ _ (by assumption) ?_)
    refine (fit5_any x q c _ hs HA.out).mono ?_
    rw [HF.out]
    rintro e w1 ⟨rfl, hb1⟩
    replace HB := Lib.hid (HB.out.trans (hb1.mono HB.out.size))
    replace HX := Lib.hid (HX.out.kept hb1)
    replace HA := Lib.hid (HA.out.kept hb1)
    replace HP := Lib.hid (HP.out.kept hb1)
    clear hb1 hx
    have hx := HX.out
    obtain ⟨p0, p1, p2, p3, p4, p5⟩ := HP.out.cells
    dsimp only at p0 p1 p2 p3 p4 p5
    go_wp2
    go_ret
    exact ⟨ret_b (HR.out.trans HV.out).symm, HB.out⟩
  | true =>
    have HV := Lib.hid (show (fitO (prt 5) x && aloneO (prt 5) x) = aloneO ⟨true, false, true, false, false, false⟩ x by rw [show fitO (prt 5) x = true from hf]; rfl)
    have HF := Lib.hid hf
    clear hf
    go_enter Tryz.func37, Tryz.ntmps37
    go_wp2_with fail
    refine (HNA.out _).mono ?_
    rintro e w1 ⟨rfl, hb1⟩
    replace HX := Lib.hid ((HX.out.kept hb1).kept ((Below.refl _ _).alloc (Nat.le_refl _) (.cells #[.bool true, .bool false, .bool true, .bool false, .bool false, .bool false] 138)))
    replace HA := Lib.hid ((HA.out.kept hb1).kept ((Below.refl _ _).alloc (Nat.le_refl _) (.cells #[.bool true, .bool false, .bool true, .bool false, .bool false, .bool false] 138)))
    replace HB := Lib.hid (HB.out.trans (hb1.mono HB.out.size))
    replace HB := Lib.hid (HB.out.alloc HB.out.size (.cells #[.bool true, .bool false, .bool true, .bool false, .bool false, .bool false] 138))
    have HP := Lib.hid (show PrAt (w1.alloc (.cells #[.bool true, .bool false, .bool true, .bool false, .bool false, .bool false] 138)) w1.heap.size ⟨true, false, true, false, false, false⟩ from PrAt.new w1 ⟨true, false, true, false, false, false⟩ 138)
    have hpr : prA (prt 5) = #[.bool true, .bool false, .bool true, .bool false, .bool false, .bool false] := rfl
    clear hb1 x0
    have hx := HX.out
    go_wp2_with (refine wpList_load_opG otP (by kernel_rfl) _ rfl _ rfl _ _ _ (by assumption) ?_)
    refine (fit5_any x q c _ hs HA.out).mono ?_
    rw [HF.out]
    rintro e w1 ⟨rfl, hb1⟩
    replace HB := Lib.hid (HB.out.trans (hb1.mono HB.out.size))
    replace HX := Lib.hid (HX.out.kept hb1)
    replace HA := Lib.hid (HA.out.kept hb1)
    replace HP := Lib.hid (HP.out.kept hb1)
    clear hb1 hx
    have hx := HX.out
    obtain ⟨p0, p1, p2, p3, p4, p5⟩ := HP.out.cells
    dsimp only at p0 p1 p2 p3 p4 p5
    go_wp2_with (refine wpList_load_opG otP (by kernel_rfl) _ rfl _ rfl _ _ _ (by assumption) ?_)
    refine (alone5_any x q c _ HA.out).mono ?_
    rintro e w1 ⟨rfl, hb1⟩
    replace HB := Lib.hid (HB.out.trans (hb1.mono HB.out.size))
    replace HX := Lib.hid (HX.out.kept hb1)
    replace HA := Lib.hid (HA.out.kept hb1)
    replace HP := Lib.hid (HP.out.kept hb1)
    clear hb1 hx
    have hx := HX.out
    obtain ⟨p0, p1, p2, p3, p4, p5⟩ := HP.out.cells
    dsimp only at p0 p1 p2 p3 p4 p5
    go_wp2
    go_ret
    exact ⟨ret_b (HR.out.trans HV.out).symm, HB.out⟩
set_option maxRecDepth 100000 in
set_option maxHeartbeats 2000000 in
theorem right6_any (x : Opp) (q : Option Addr) (c : Nat) (w : World) (hs : Sz x) (ha : Pa w x q c) (hk : x.k = 6) : Calls Tryz.prog 37 #[.agg (opA x q c)] w fun e w' => e = .returned (.bool (rightO x)) ∧ Below w.heap.size w w' := by
  obtain ⟨HX, HA, HB⟩ := right_start w x q c ha
  have HR := Lib.hid (rightO_of (x := x) hk (by decide) (by decide))
  have HK := Lib.hid hk
  have HNA := Lib.hid (fun W => named_any x.k W)
  rw [hk] at HNA
  obtain ⟨x0, -⟩ := HX.out.cells
  rw [hk] at x0
  clear hk
  cases hf : fitO ⟨true, false, false, true, true, false⟩ x with
  | false =>
    have HV := Lib.hid (show (fitO (prt 6) x && aloneO (prt 6) x) = false by rw [show fitO (prt 6) x = false from hf]; rfl)
    have HF := Lib.hid hf
    clear hf
    go_enter Tryz.func37, Tryz.ntmps37
    go_wp2_with fail
    refine (HNA.out _).mono ?_
    rintro e w1 ⟨rfl, hb1⟩
    replace HX := Lib.hid ((HX.out.kept hb1).kept ((Below.refl _ _).alloc (Nat.le_refl _) (.cells #[.bool true, .bool false, .bool false, .bool true, .bool true, .bool false] 138)))
    replace HA := Lib.hid ((HA.out.kept hb1).kept ((Below.refl _ _).alloc (Nat.le_refl _) (.cells #[.bool true, .bool false, .bool false, .bool true, .bool true, .bool false] 138)))
    replace HB := Lib.hid (HB.out.trans (hb1.mono HB.out.size))
    replace HB := Lib.hid (HB.out.alloc HB.out.size (.cells #[.bool true, .bool false, .bool false, .bool true, .bool true, .bool false] 138))
    have HP := Lib.hid (show PrAt (w1.alloc (.cells #[.bool true, .bool false, .bool false, .bool true, .bool true, .bool false] 138)) w1.heap.size ⟨true, false, false, true, true, false⟩ from PrAt.new w1 ⟨true, false, false, true, true, false⟩ 138)
    have hpr : prA (prt 6) = #[.bool true, .bool false, .bool false, .bool true, .bool true, .bool false] := rfl
    clear hb1 x0
    have hx := HX.out
    go_wp2_with (refine wpList_load_opG otP (by kernel_rfl) _ rfl _ rfl _ _ _ (by assumption) ?_)
    refine (fit6_any x q c _ hs HA.out).mono ?_
    rw [HF.out]
    rintro e w1 ⟨rfl, hb1⟩
    replace HB := Lib.hid (HB.out.trans (hb1.mono HB.out.size))
    replace HX := Lib.hid (HX.out.kept hb1)
    replace HA := Lib.hid (HA.out.kept hb1)
    replace HP := Lib.hid (HP.out.kept hb1)
    clear hb1 hx
    have hx := HX.out
    obtain ⟨p0, p1, p2, p3, p4, p5⟩ := HP.out.cells
    dsimp only at p0 p1 p2 p3 p4 p5
    go_wp2
    go_ret
    exact ⟨ret_b (HR.out.trans HV.out).symm, HB.out⟩
  | true =>
    have HV := Lib.hid (show (fitO (prt 6) x && aloneO (prt 6) x) = aloneO ⟨true, false, false, true, true, false⟩ x by rw [show fitO (prt 6) x = true from hf]; rfl)
    have HF := Lib.hid hf
    clear hf
    go_enter Tryz.func37, Tryz.ntmps37
    go_wp2_with fail
    refine (HNA.out _).mono ?_
    rintro e w1 ⟨rfl, hb1⟩
    replace HX := Lib.hid ((HX.out.kept hb1).kept ((Below.refl _ _).alloc (Nat.le_refl _) (.cells #[.bool true, .bool false, .bool false, .bool true, .bool true, .bool false] 138)))
    replace HA := Lib.hid ((HA.out.kept hb1).kept ((Below.refl _ _).alloc (Nat.le_refl _) (.cells #[.bool true, .bool false, .bool false, .bool true, .bool true, .bool false] 138)))
    replace HB := Lib.hid (HB.out.trans (hb1.mono HB.out.size))
    replace HB := Lib.hid (HB.out.alloc HB.out.size (.cells #[.bool true, .bool false, .bool false, .bool true, .bool true, .bool false] 138))
    have HP := Lib.hid (show PrAt (w1.alloc (.cells #[.bool true, .bool false, .bool false, .bool true, .bool true, .bool false] 138)) w1.heap.size ⟨true, false, false, true, true, false⟩ from PrAt.new w1 ⟨true, false, false, true, true, false⟩ 138)
    have hpr : prA (prt 6) = #[.bool true, .bool false, .bool false, .bool true, .bool true, .bool false] := rfl
    clear hb1 x0
    have hx := HX.out
    go_wp2_with (refine wpList_load_opG otP (by kernel_rfl) _ rfl _ rfl _ _ _ (by assumption) ?_)
    refine (fit6_any x q c _ hs HA.out).mono ?_
    rw [HF.out]
    rintro e w1 ⟨rfl, hb1⟩
    replace HB := Lib.hid (HB.out.trans (hb1.mono HB.out.size))
    replace HX := Lib.hid (HX.out.kept hb1)
    replace HA := Lib.hid (HA.out.kept hb1)
    replace HP := Lib.hid (HP.out.kept hb1)
    clear hb1 hx
    have hx := HX.out
    obtain ⟨p0, p1, p2, p3, p4, p5⟩ := HP.out.cells
    dsimp only at p0 p1 p2 p3 p4 p5
    go_wp2_with (refine wpList_load_opG otP (by kernel_rfl) _ rfl _ rfl _ _ _ (by assumption) ?_)
    refine (alone6_any x q c _ HA.out).mono ?_
    rintro e w1 ⟨rfl, hb1⟩
    replace HB := Lib.hid (HB.out.trans (hb1.mono HB.out.size))
    replace HX := Lib.hid (HX.out.kept hb1)
    replace HA := Lib.hid (HA.out.kept hb1)
    replace HP := Lib.hid (HP.out.kept hb1)
    clear hb1 hx
    have hx := HX.out
    obtain ⟨p0, p1, p2, p3, p4, p5⟩ := HP.out.cells
    dsimp only at p0 p1 p2 p3 p4 p5
    go_wp2
    go_ret
    exact ⟨ret_b (HR.out.trans HV.out).symm, HB.out⟩
set_option maxRecDepth 100000 in
set_option maxHeartbeats 2000000 in
theorem oright_any (x : Opp) (q : Option Addr) (c : Nat) (w : World) (hs : Sz x) (ha : Pa w x q c) : Calls Tryz.prog 37 #[.agg (opA x q c)] w fun e w' => e = .returned (.bool (rightO x)) ∧ Below w.heap.size w w' := by
  by_cases h1 : x.k = 1
  · exact right1_any x q c w hs ha h1
  by_cases h2 : x.k = 2
  · exact right2_any x q c w hs ha h2
  by_cases h3 : x.k = 3
  · exact right3_any x q c w hs ha h3
  by_cases h4 : x.k = 4
  · exact right4_any x q c w hs ha h4
  by_cases h5 : x.k = 5
  · exact right5_any x q c w hs ha h5
  by_cases h6 : x.k = 6
  · exact right6_any x q c w hs ha h6
  obtain ⟨HX, HA, HB⟩ := right_start w x q c ha
  have HR := Lib.hid (rightO_none h1 h2 h3 h4 h5 h6)
  have HNA := Lib.hid (fun W => named_any x.k W)
  rw [prt_none h1 h2 h3 h4 h5 h6] at HNA
  obtain ⟨x0, -⟩ := HX.out.cells
  clear h1 h2 h3 h4 h5 h6 ha hs
  go_enter Tryz.func37, Tryz.ntmps37
  go_wp2_with fail
  refine (HNA.out _).mono ?_
  rintro e w1 ⟨rfl, hb1⟩
  replace HB := Lib.hid (HB.out.trans (hb1.mono HB.out.size))
  replace HB := Lib.hid (HB.out.alloc HB.out.size (.cells #[.bool false, .bool false, .bool false, .bool false, .bool false, .bool false] 138))
  have hpr : prA ⟨false, false, false, false, false, false⟩ = #[.bool false, .bool false, .bool false, .bool false, .bool false, .bool false] := rfl
  clear hb1 x0
  go_wp2
  go_ret
  exact ⟨ret_b HR.out.symm, HB.out⟩
end Go.Proofs.YthifdefjmfakgaaGreat
