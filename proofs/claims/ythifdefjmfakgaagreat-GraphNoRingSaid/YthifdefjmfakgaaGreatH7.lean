/-
  fit: may each part that is named be, of each kind.
  No conditions but sizes.
  alone: is each part that is not named zero, of each kind.
  No conditions but sizes.
-/
import Derived.Test.YthifdefjmfakgaaGreatGI
namespace Go.Proofs.YthifdefjmfakgaaGreat
open Go.RowKit

theorem okey_any (k : ByteArray) (w : World) (h : k.size ≤ 140737488355328) : Calls Tryz.prog 115 #[.string k] w fun e w' => e = .returned (.bool (Km.rightB k.data.toList)) ∧ Below w.heap.size w w' :=
  (kright_any k w h).mono fun e w' ⟨h1, h2⟩ => ⟨h1, by rw [h2]; exact Below.refl _ _⟩
/-- sizes that the callees want -/
structure Sz (x : Opp) : Prop where
  key : x.key.size ≤ 140737488355328
  val : x.vt.size ≤ 4611686018427387904
  path : x.path.length ≤ 4611686018427387904
theorem fit_start (w : World) (p : Prt) (A : Array Value) (hA : A = prA p) (x : Opp) (q : Option Addr) (c : Nat) (ha : Pa w x q c) :
    Hid (PrAt ((w.alloc (.cells A 138)).alloc (.cells (opA x q c) 43)) w.heap.size p) ∧ Hid (OpAt ((w.alloc (.cells A 138)).alloc (.cells (opA x q c) 43)) (w.heap.size + 1) x q c) ∧
    Hid (Pa ((w.alloc (.cells A 138)).alloc (.cells (opA x q c) 43)) x q c) ∧ Hid (Below w.heap.size w ((w.alloc (.cells A 138)).alloc (.cells (opA x q c) 43))) := by
  subst hA
  have h1 : ∀ (w : World) (o : Obj), Below w.heap.size w (w.alloc o) := fun w o => (Below.refl _ _).alloc (Nat.le_refl _) _
  have e1 : (w.alloc (.cells (prA p) 138)).heap.size = w.heap.size + 1 := by simp
  have k := OpAt.new (w.alloc (.cells (prA p) 138)) x q c 43
  rw [e1] at k
  exact ⟨Lib.hid ((PrAt.new w p _).kept (h1 _ _)), Lib.hid k, Lib.hid ((ha.kept (h1 _ _)).kept (h1 _ _)), Lib.hid ((h1 _ _).trans ((h1 _ _).mono (by simp)))⟩

set_option maxRecDepth 100000 in
set_option maxHeartbeats 2000000 in
theorem fit1_any (x : Opp) (q : Option Addr) (c : Nat) (w : World) (hs : Sz x) (ha : Pa w x q c) : Calls Tryz.prog 72 #[.agg #[.bool false, .bool true, .bool false, .bool false, .bool false, .bool false], .agg (opA x q c)] w fun e w' => e = .returned (.bool (fitO ⟨false, true, false, false, false, false⟩ x)) ∧ Below w.heap.size w w' := by
  obtain ⟨HP, HX, HA, HB⟩ := fit_start w ⟨false, true, false, false, false, false⟩ #[.bool false, .bool true, .bool false, .bool false, .bool false, .bool false] rfl x q c ha
  cases e_place : okPlace x.rt x.rr with
  | false =>
    have HR := Lib.hid (show fitO ⟨false, true, false, false, false, false⟩ x = false by simp [fitO, e_place])
    have E_place := Lib.hid e_place
    clear e_place
    obtain ⟨p0, p1, p2, p3, p4, p5⟩ := HP.out.cells
    obtain ⟨x0, x1, x2, x3, x4, x5, x6, x7, x8, x9, x10, x11⟩ := HX.out.cells
    dsimp only at p0 p1 p2 p3 p4 p5
    go_enter Tryz.func72, Tryz.ntmps72
    go_wp2_with fail
    refine (oplace_any x.rt x.rr _).mono ?_
    rw [E_place.out]
    rintro e w1 ⟨rfl, hb1⟩
    replace HB := Lib.hid (HB.out.trans (hb1.mono HB.out.size))
    replace HP := Lib.hid (HP.out.kept hb1)
    replace HX := Lib.hid (HX.out.kept hb1)
    replace HA := Lib.hid (HA.out.kept hb1)
    clear hb1
    obtain ⟨p0, p1, p2, p3, p4, p5⟩ := HP.out.cells
    obtain ⟨x0, x1, x2, x3, x4, x5, x6, x7, x8, x9, x10, x11⟩ := HX.out.cells
    dsimp only at p0 p1 p2 p3 p4 p5
    go_wp2
    go_ret
    exact ⟨ret_b HR.out.symm, HB.out⟩
  | true =>
    cases e_key : Km.rightB x.key.data.toList with
    | false =>
      have HR := Lib.hid (show fitO ⟨false, true, false, false, false, false⟩ x = false by simp [fitO, e_place, e_key])
      have E_place := Lib.hid e_place
      clear e_place
      have E_key := Lib.hid e_key
      clear e_key
      obtain ⟨p0, p1, p2, p3, p4, p5⟩ := HP.out.cells
      obtain ⟨x0, x1, x2, x3, x4, x5, x6, x7, x8, x9, x10, x11⟩ := HX.out.cells
      dsimp only at p0 p1 p2 p3 p4 p5
      go_enter Tryz.func72, Tryz.ntmps72
      go_wp2_with fail
      refine (oplace_any x.rt x.rr _).mono ?_
      rw [E_place.out]
      rintro e w1 ⟨rfl, hb1⟩
      replace HB := Lib.hid (HB.out.trans (hb1.mono HB.out.size))
      replace HP := Lib.hid (HP.out.kept hb1)
      replace HX := Lib.hid (HX.out.kept hb1)
      replace HA := Lib.hid (HA.out.kept hb1)
      clear hb1
      obtain ⟨p0, p1, p2, p3, p4, p5⟩ := HP.out.cells
      obtain ⟨x0, x1, x2, x3, x4, x5, x6, x7, x8, x9, x10, x11⟩ := HX.out.cells
      dsimp only at p0 p1 p2 p3 p4 p5
      go_wp2_with fail
      refine (okey_any x.key _ hs.key).mono ?_
      rw [E_key.out]
      rintro e w1 ⟨rfl, hb1⟩
      replace HB := Lib.hid (HB.out.trans (hb1.mono HB.out.size))
      replace HP := Lib.hid (HP.out.kept hb1)
      replace HX := Lib.hid (HX.out.kept hb1)
      replace HA := Lib.hid (HA.out.kept hb1)
      clear hb1
      obtain ⟨p0, p1, p2, p3, p4, p5⟩ := HP.out.cells
      obtain ⟨x0, x1, x2, x3, x4, x5, x6, x7, x8, x9, x10, x11⟩ := HX.out.cells
      dsimp only at p0 p1 p2 p3 p4 p5
      go_wp2
      go_ret
      exact ⟨ret_b HR.out.symm, HB.out⟩
    | true =>
      have HR := Lib.hid (show fitO ⟨false, true, false, false, false, false⟩ x = true by simp [fitO, e_place, e_key])
      have E_place := Lib.hid e_place
      clear e_place
      have E_key := Lib.hid e_key
      clear e_key
      obtain ⟨p0, p1, p2, p3, p4, p5⟩ := HP.out.cells
      obtain ⟨x0, x1, x2, x3, x4, x5, x6, x7, x8, x9, x10, x11⟩ := HX.out.cells
      dsimp only at p0 p1 p2 p3 p4 p5
      go_enter Tryz.func72, Tryz.ntmps72
      go_wp2_with fail
      refine (oplace_any x.rt x.rr _).mono ?_
      rw [E_place.out]
      rintro e w1 ⟨rfl, hb1⟩
      replace HB := Lib.hid (HB.out.trans (hb1.mono HB.out.size))
      replace HP := Lib.hid (HP.out.kept hb1)
      replace HX := Lib.hid (HX.out.kept hb1)
      replace HA := Lib.hid (HA.out.kept hb1)
      clear hb1
      obtain ⟨p0, p1, p2, p3, p4, p5⟩ := HP.out.cells
      obtain ⟨x0, x1, x2, x3, x4, x5, x6, x7, x8, x9, x10, x11⟩ := HX.out.cells
      dsimp only at p0 p1 p2 p3 p4 p5
      go_wp2_with fail
      refine (okey_any x.key _ hs.key).mono ?_
      rw [E_key.out]
      rintro e w1 ⟨rfl, hb1⟩
      replace HB := Lib.hid (HB.out.trans (hb1.mono HB.out.size))
      replace HP := Lib.hid (HP.out.kept hb1)
      replace HX := Lib.hid (HX.out.kept hb1)
      replace HA := Lib.hid (HA.out.kept hb1)
      clear hb1
      obtain ⟨p0, p1, p2, p3, p4, p5⟩ := HP.out.cells
      obtain ⟨x0, x1, x2, x3, x4, x5, x6, x7, x8, x9, x10, x11⟩ := HX.out.cells
      dsimp only at p0 p1 p2 p3 p4 p5
      go_wp2
      go_ret
      exact ⟨ret_b HR.out.symm, HB.out⟩

set_option maxRecDepth 100000 in
set_option maxHeartbeats 2000000 in
theorem fit2_any (x : Opp) (q : Option Addr) (c : Nat) (w : World) (hs : Sz x) (ha : Pa w x q c) : Calls Tryz.prog 72 #[.agg #[.bool true, .bool true, .bool false, .bool false, .bool false, .bool false], .agg (opA x q c)] w fun e w' => e = .returned (.bool (fitO ⟨true, true, false, false, false, false⟩ x)) ∧ Below w.heap.size w w' := by
  obtain ⟨HP, HX, HA, HB⟩ := fit_start w ⟨true, true, false, false, false, false⟩ #[.bool true, .bool true, .bool false, .bool false, .bool false, .bool false] rfl x q c ha
  cases e_node : okNode x.nt x.nr with
  | false =>
    have HR := Lib.hid (show fitO ⟨true, true, false, false, false, false⟩ x = false by simp [fitO, e_node])
    have E_node := Lib.hid e_node
    clear e_node
    obtain ⟨p0, p1, p2, p3, p4, p5⟩ := HP.out.cells
    obtain ⟨x0, x1, x2, x3, x4, x5, x6, x7, x8, x9, x10, x11⟩ := HX.out.cells
    dsimp only at p0 p1 p2 p3 p4 p5
    go_enter Tryz.func72, Tryz.ntmps72
    go_wp2_with fail
    refine (onode_any x.nt x.nr _).mono ?_
    rw [E_node.out]
    rintro e w1 ⟨rfl, hb1⟩
    replace HB := Lib.hid (HB.out.trans (hb1.mono HB.out.size))
    replace HP := Lib.hid (HP.out.kept hb1)
    replace HX := Lib.hid (HX.out.kept hb1)
    replace HA := Lib.hid (HA.out.kept hb1)
    clear hb1
    obtain ⟨p0, p1, p2, p3, p4, p5⟩ := HP.out.cells
    obtain ⟨x0, x1, x2, x3, x4, x5, x6, x7, x8, x9, x10, x11⟩ := HX.out.cells
    dsimp only at p0 p1 p2 p3 p4 p5
    go_wp2
    go_ret
    exact ⟨ret_b HR.out.symm, HB.out⟩
  | true =>
    cases e_place : okPlace x.rt x.rr with
    | false =>
      have HR := Lib.hid (show fitO ⟨true, true, false, false, false, false⟩ x = false by simp [fitO, e_node, e_place])
      have E_node := Lib.hid e_node
      clear e_node
      have E_place := Lib.hid e_place
      clear e_place
      obtain ⟨p0, p1, p2, p3, p4, p5⟩ := HP.out.cells
      obtain ⟨x0, x1, x2, x3, x4, x5, x6, x7, x8, x9, x10, x11⟩ := HX.out.cells
      dsimp only at p0 p1 p2 p3 p4 p5
      go_enter Tryz.func72, Tryz.ntmps72
      go_wp2_with fail
      refine (onode_any x.nt x.nr _).mono ?_
      rw [E_node.out]
      rintro e w1 ⟨rfl, hb1⟩
      replace HB := Lib.hid (HB.out.trans (hb1.mono HB.out.size))
      replace HP := Lib.hid (HP.out.kept hb1)
      replace HX := Lib.hid (HX.out.kept hb1)
      replace HA := Lib.hid (HA.out.kept hb1)
      clear hb1
      obtain ⟨p0, p1, p2, p3, p4, p5⟩ := HP.out.cells
      obtain ⟨x0, x1, x2, x3, x4, x5, x6, x7, x8, x9, x10, x11⟩ := HX.out.cells
      dsimp only at p0 p1 p2 p3 p4 p5
      go_wp2_with fail
      refine (oplace_any x.rt x.rr _).mono ?_
      rw [E_place.out]
      rintro e w1 ⟨rfl, hb1⟩
      replace HB := Lib.hid (HB.out.trans (hb1.mono HB.out.size))
      replace HP := Lib.hid (HP.out.kept hb1)
      replace HX := Lib.hid (HX.out.kept hb1)
      replace HA := Lib.hid (HA.out.kept hb1)
      clear hb1
      obtain ⟨p0, p1, p2, p3, p4, p5⟩ := HP.out.cells
      obtain ⟨x0, x1, x2, x3, x4, x5, x6, x7, x8, x9, x10, x11⟩ := HX.out.cells
      dsimp only at p0 p1 p2 p3 p4 p5
      go_wp2
      go_ret
      exact ⟨ret_b HR.out.symm, HB.out⟩
    | true =>
      cases e_key : Km.rightB x.key.data.toList with
      | false =>
        have HR := Lib.hid (show fitO ⟨true, true, false, false, false, false⟩ x = false by simp [fitO, e_node, e_place, e_key])
        have E_node := Lib.hid e_node
        clear e_node
        have E_place := Lib.hid e_place
        clear e_place
        have E_key := Lib.hid e_key
        clear e_key
        obtain ⟨p0, p1, p2, p3, p4, p5⟩ := HP.out.cells
        obtain ⟨x0, x1, x2, x3, x4, x5, x6, x7, x8, x9, x10, x11⟩ := HX.out.cells
        dsimp only at p0 p1 p2 p3 p4 p5
        go_enter Tryz.func72, Tryz.ntmps72
        go_wp2_with fail
        refine (onode_any x.nt x.nr _).mono ?_
        rw [E_node.out]
        rintro e w1 ⟨rfl, hb1⟩
        replace HB := Lib.hid (HB.out.trans (hb1.mono HB.out.size))
        replace HP := Lib.hid (HP.out.kept hb1)
        replace HX := Lib.hid (HX.out.kept hb1)
        replace HA := Lib.hid (HA.out.kept hb1)
        clear hb1
        obtain ⟨p0, p1, p2, p3, p4, p5⟩ := HP.out.cells
        obtain ⟨x0, x1, x2, x3, x4, x5, x6, x7, x8, x9, x10, x11⟩ := HX.out.cells
        dsimp only at p0 p1 p2 p3 p4 p5
        go_wp2_with fail
        refine (oplace_any x.rt x.rr _).mono ?_
        rw [E_place.out]
        rintro e w1 ⟨rfl, hb1⟩
        replace HB := Lib.hid (HB.out.trans (hb1.mono HB.out.size))
        replace HP := Lib.hid (HP.out.kept hb1)
        replace HX := Lib.hid (HX.out.kept hb1)
        replace HA := Lib.hid (HA.out.kept hb1)
        clear hb1
        obtain ⟨p0, p1, p2, p3, p4, p5⟩ := HP.out.cells
        obtain ⟨x0, x1, x2, x3, x4, x5, x6, x7, x8, x9, x10, x11⟩ := HX.out.cells
        dsimp only at p0 p1 p2 p3 p4 p5
        go_wp2_with fail
        refine (okey_any x.key _ hs.key).mono ?_
        rw [E_key.out]
        rintro e w1 ⟨rfl, hb1⟩
        replace HB := Lib.hid (HB.out.trans (hb1.mono HB.out.size))
        replace HP := Lib.hid (HP.out.kept hb1)
        replace HX := Lib.hid (HX.out.kept hb1)
        replace HA := Lib.hid (HA.out.kept hb1)
        clear hb1
        obtain ⟨p0, p1, p2, p3, p4, p5⟩ := HP.out.cells
        obtain ⟨x0, x1, x2, x3, x4, x5, x6, x7, x8, x9, x10, x11⟩ := HX.out.cells
        dsimp only at p0 p1 p2 p3 p4 p5
        go_wp2
        go_ret
        exact ⟨ret_b HR.out.symm, HB.out⟩
      | true =>
        have HR := Lib.hid (show fitO ⟨true, true, false, false, false, false⟩ x = true by simp [fitO, e_node, e_place, e_key])
        have E_node := Lib.hid e_node
        clear e_node
        have E_place := Lib.hid e_place
        clear e_place
        have E_key := Lib.hid e_key
        clear e_key
        obtain ⟨p0, p1, p2, p3, p4, p5⟩ := HP.out.cells
        obtain ⟨x0, x1, x2, x3, x4, x5, x6, x7, x8, x9, x10, x11⟩ := HX.out.cells
        dsimp only at p0 p1 p2 p3 p4 p5
        go_enter Tryz.func72, Tryz.ntmps72
        go_wp2_with fail
        refine (onode_any x.nt x.nr _).mono ?_
        rw [E_node.out]
        rintro e w1 ⟨rfl, hb1⟩
        replace HB := Lib.hid (HB.out.trans (hb1.mono HB.out.size))
        replace HP := Lib.hid (HP.out.kept hb1)
        replace HX := Lib.hid (HX.out.kept hb1)
        replace HA := Lib.hid (HA.out.kept hb1)
        clear hb1
        obtain ⟨p0, p1, p2, p3, p4, p5⟩ := HP.out.cells
        obtain ⟨x0, x1, x2, x3, x4, x5, x6, x7, x8, x9, x10, x11⟩ := HX.out.cells
        dsimp only at p0 p1 p2 p3 p4 p5
        go_wp2_with fail
        refine (oplace_any x.rt x.rr _).mono ?_
        rw [E_place.out]
        rintro e w1 ⟨rfl, hb1⟩
        replace HB := Lib.hid (HB.out.trans (hb1.mono HB.out.size))
        replace HP := Lib.hid (HP.out.kept hb1)
        replace HX := Lib.hid (HX.out.kept hb1)
        replace HA := Lib.hid (HA.out.kept hb1)
        clear hb1
        obtain ⟨p0, p1, p2, p3, p4, p5⟩ := HP.out.cells
        obtain ⟨x0, x1, x2, x3, x4, x5, x6, x7, x8, x9, x10, x11⟩ := HX.out.cells
        dsimp only at p0 p1 p2 p3 p4 p5
        go_wp2_with fail
        refine (okey_any x.key _ hs.key).mono ?_
        rw [E_key.out]
        rintro e w1 ⟨rfl, hb1⟩
        replace HB := Lib.hid (HB.out.trans (hb1.mono HB.out.size))
        replace HP := Lib.hid (HP.out.kept hb1)
        replace HX := Lib.hid (HX.out.kept hb1)
        replace HA := Lib.hid (HA.out.kept hb1)
        clear hb1
        obtain ⟨p0, p1, p2, p3, p4, p5⟩ := HP.out.cells
        obtain ⟨x0, x1, x2, x3, x4, x5, x6, x7, x8, x9, x10, x11⟩ := HX.out.cells
        dsimp only at p0 p1 p2 p3 p4 p5
        go_wp2
        go_ret
        exact ⟨ret_b HR.out.symm, HB.out⟩

set_option maxRecDepth 100000 in
set_option maxHeartbeats 2000000 in
theorem fit3_any (x : Opp) (q : Option Addr) (c : Nat) (w : World) (hs : Sz x) (ha : Pa w x q c) : Calls Tryz.prog 72 #[.agg #[.bool true, .bool false, .bool false, .bool false, .bool true, .bool false], .agg (opA x q c)] w fun e w' => e = .returned (.bool (fitO ⟨true, false, false, false, true, false⟩ x)) ∧ Below w.heap.size w w' := by
  obtain ⟨HP, HX, HA, HB⟩ := fit_start w ⟨true, false, false, false, true, false⟩ #[.bool true, .bool false, .bool false, .bool false, .bool true, .bool false] rfl x q c ha
  cases e_node : okNode x.nt x.nr with
  | false =>
    have HR := Lib.hid (show fitO ⟨true, false, false, false, true, false⟩ x = false by simp [fitO, e_node])
    have E_node := Lib.hid e_node
    clear e_node
    obtain ⟨p0, p1, p2, p3, p4, p5⟩ := HP.out.cells
    obtain ⟨x0, x1, x2, x3, x4, x5, x6, x7, x8, x9, x10, x11⟩ := HX.out.cells
    dsimp only at p0 p1 p2 p3 p4 p5
    go_enter Tryz.func72, Tryz.ntmps72
    go_wp2_with fail
    refine (onode_any x.nt x.nr _).mono ?_
    rw [E_node.out]
    rintro e w1 ⟨rfl, hb1⟩
    replace HB := Lib.hid (HB.out.trans (hb1.mono HB.out.size))
    replace HP := Lib.hid (HP.out.kept hb1)
    replace HX := Lib.hid (HX.out.kept hb1)
    replace HA := Lib.hid (HA.out.kept hb1)
    clear hb1
    obtain ⟨p0, p1, p2, p3, p4, p5⟩ := HP.out.cells
    obtain ⟨x0, x1, x2, x3, x4, x5, x6, x7, x8, x9, x10, x11⟩ := HX.out.cells
    dsimp only at p0 p1 p2 p3 p4 p5
    go_wp2
    go_ret
    exact ⟨ret_b HR.out.symm, HB.out⟩
  | true =>
    cases e_value : right8V x.p x.vk x.vn x.vt.data.toList with
    | false =>
      have HR := Lib.hid (show fitO ⟨true, false, false, false, true, false⟩ x = false by simp [fitO, e_node, e_value])
      have E_node := Lib.hid e_node
      clear e_node
      have E_value := Lib.hid e_value
      clear e_value
      obtain ⟨p0, p1, p2, p3, p4, p5⟩ := HP.out.cells
      obtain ⟨x0, x1, x2, x3, x4, x5, x6, x7, x8, x9, x10, x11⟩ := HX.out.cells
      dsimp only at p0 p1 p2 p3 p4 p5
      go_enter Tryz.func72, Tryz.ntmps72
      go_wp2_with fail
      refine (onode_any x.nt x.nr _).mono ?_
      rw [E_node.out]
      rintro e w1 ⟨rfl, hb1⟩
      replace HB := Lib.hid (HB.out.trans (hb1.mono HB.out.size))
      replace HP := Lib.hid (HP.out.kept hb1)
      replace HX := Lib.hid (HX.out.kept hb1)
      replace HA := Lib.hid (HA.out.kept hb1)
      clear hb1
      obtain ⟨p0, p1, p2, p3, p4, p5⟩ := HP.out.cells
      obtain ⟨x0, x1, x2, x3, x4, x5, x6, x7, x8, x9, x10, x11⟩ := HX.out.cells
      dsimp only at p0 p1 p2 p3 p4 p5
      go_wp2_with fail
      refine (vright8_any x.p x.vk x.vn x.vt _ hs.val).mono ?_
      rw [E_value.out]
      rintro e w1 ⟨rfl, hb1⟩
      replace HB := Lib.hid (HB.out.trans (hb1.mono HB.out.size))
      replace HP := Lib.hid (HP.out.kept hb1)
      replace HX := Lib.hid (HX.out.kept hb1)
      replace HA := Lib.hid (HA.out.kept hb1)
      clear hb1
      obtain ⟨p0, p1, p2, p3, p4, p5⟩ := HP.out.cells
      obtain ⟨x0, x1, x2, x3, x4, x5, x6, x7, x8, x9, x10, x11⟩ := HX.out.cells
      dsimp only at p0 p1 p2 p3 p4 p5
      go_wp2
      go_ret
      exact ⟨ret_b HR.out.symm, HB.out⟩
    | true =>
      have HR := Lib.hid (show fitO ⟨true, false, false, false, true, false⟩ x = true by simp [fitO, e_node, e_value])
      have E_node := Lib.hid e_node
      clear e_node
      have E_value := Lib.hid e_value
      clear e_value
      obtain ⟨p0, p1, p2, p3, p4, p5⟩ := HP.out.cells
      obtain ⟨x0, x1, x2, x3, x4, x5, x6, x7, x8, x9, x10, x11⟩ := HX.out.cells
      dsimp only at p0 p1 p2 p3 p4 p5
      go_enter Tryz.func72, Tryz.ntmps72
      go_wp2_with fail
      refine (onode_any x.nt x.nr _).mono ?_
      rw [E_node.out]
      rintro e w1 ⟨rfl, hb1⟩
      replace HB := Lib.hid (HB.out.trans (hb1.mono HB.out.size))
      replace HP := Lib.hid (HP.out.kept hb1)
      replace HX := Lib.hid (HX.out.kept hb1)
      replace HA := Lib.hid (HA.out.kept hb1)
      clear hb1
      obtain ⟨p0, p1, p2, p3, p4, p5⟩ := HP.out.cells
      obtain ⟨x0, x1, x2, x3, x4, x5, x6, x7, x8, x9, x10, x11⟩ := HX.out.cells
      dsimp only at p0 p1 p2 p3 p4 p5
      go_wp2_with fail
      refine (vright8_any x.p x.vk x.vn x.vt _ hs.val).mono ?_
      rw [E_value.out]
      rintro e w1 ⟨rfl, hb1⟩
      replace HB := Lib.hid (HB.out.trans (hb1.mono HB.out.size))
      replace HP := Lib.hid (HP.out.kept hb1)
      replace HX := Lib.hid (HX.out.kept hb1)
      replace HA := Lib.hid (HA.out.kept hb1)
      clear hb1
      obtain ⟨p0, p1, p2, p3, p4, p5⟩ := HP.out.cells
      obtain ⟨x0, x1, x2, x3, x4, x5, x6, x7, x8, x9, x10, x11⟩ := HX.out.cells
      dsimp only at p0 p1 p2 p3 p4 p5
      go_wp2
      go_ret
      exact ⟨ret_b HR.out.symm, HB.out⟩

set_option maxRecDepth 100000 in
set_option maxHeartbeats 2000000 in
theorem fit4_any (x : Opp) (q : Option Addr) (c : Nat) (w : World) (_ : Sz x) (ha : Pa w x q c) : Calls Tryz.prog 72 #[.agg #[.bool true, .bool false, .bool false, .bool false, .bool false, .bool true], .agg (opA x q c)] w fun e w' => e = .returned (.bool (fitO ⟨true, false, false, false, false, true⟩ x)) ∧ Below w.heap.size w w' := by
  obtain ⟨HP, HX, HA, HB⟩ := fit_start w ⟨true, false, false, false, false, true⟩ #[.bool true, .bool false, .bool false, .bool false, .bool false, .bool true] rfl x q c ha
  cases e_node : okNode x.nt x.nr with
  | false =>
    have HR := Lib.hid (show fitO ⟨true, false, false, false, false, true⟩ x = false by simp [fitO, e_node])
    have E_node := Lib.hid e_node
    clear e_node
    obtain ⟨p0, p1, p2, p3, p4, p5⟩ := HP.out.cells
    obtain ⟨x0, x1, x2, x3, x4, x5, x6, x7, x8, x9, x10, x11⟩ := HX.out.cells
    dsimp only at p0 p1 p2 p3 p4 p5
    go_enter Tryz.func72, Tryz.ntmps72
    go_wp2_with fail
    refine (onode_any x.nt x.nr _).mono ?_
    rw [E_node.out]
    rintro e w1 ⟨rfl, hb1⟩
    replace HB := Lib.hid (HB.out.trans (hb1.mono HB.out.size))
    replace HP := Lib.hid (HP.out.kept hb1)
    replace HX := Lib.hid (HX.out.kept hb1)
    replace HA := Lib.hid (HA.out.kept hb1)
    clear hb1
    obtain ⟨p0, p1, p2, p3, p4, p5⟩ := HP.out.cells
    obtain ⟨x0, x1, x2, x3, x4, x5, x6, x7, x8, x9, x10, x11⟩ := HX.out.cells
    dsimp only at p0 p1 p2 p3 p4 p5
    go_wp2
    go_ret
    exact ⟨ret_b HR.out.symm, HB.out⟩
  | true =>
    have HR := Lib.hid (show fitO ⟨true, false, false, false, false, true⟩ x = true by simp [fitO, e_node])
    have E_node := Lib.hid e_node
    clear e_node
    obtain ⟨p0, p1, p2, p3, p4, p5⟩ := HP.out.cells
    obtain ⟨x0, x1, x2, x3, x4, x5, x6, x7, x8, x9, x10, x11⟩ := HX.out.cells
    dsimp only at p0 p1 p2 p3 p4 p5
    go_enter Tryz.func72, Tryz.ntmps72
    go_wp2_with fail
    refine (onode_any x.nt x.nr _).mono ?_
    rw [E_node.out]
    rintro e w1 ⟨rfl, hb1⟩
    replace HB := Lib.hid (HB.out.trans (hb1.mono HB.out.size))
    replace HP := Lib.hid (HP.out.kept hb1)
    replace HX := Lib.hid (HX.out.kept hb1)
    replace HA := Lib.hid (HA.out.kept hb1)
    clear hb1
    obtain ⟨p0, p1, p2, p3, p4, p5⟩ := HP.out.cells
    obtain ⟨x0, x1, x2, x3, x4, x5, x6, x7, x8, x9, x10, x11⟩ := HX.out.cells
    dsimp only at p0 p1 p2 p3 p4 p5
    go_wp2
    go_ret
    exact ⟨ret_b HR.out.symm, HB.out⟩

set_option maxRecDepth 100000 in
set_option maxHeartbeats 2000000 in
theorem fit5_any (x : Opp) (q : Option Addr) (c : Nat) (w : World) (_ : Sz x) (ha : Pa w x q c) : Calls Tryz.prog 72 #[.agg #[.bool true, .bool false, .bool true, .bool false, .bool false, .bool false], .agg (opA x q c)] w fun e w' => e = .returned (.bool (fitO ⟨true, false, true, false, false, false⟩ x)) ∧ Below w.heap.size w w' := by
  obtain ⟨HP, HX, HA, HB⟩ := fit_start w ⟨true, false, true, false, false, false⟩ #[.bool true, .bool false, .bool true, .bool false, .bool false, .bool false] rfl x q c ha
  cases e_node : okNode x.nt x.nr with
  | false =>
    have HR := Lib.hid (show fitO ⟨true, false, true, false, false, false⟩ x = false by simp [fitO, e_node])
    have E_node := Lib.hid e_node
    clear e_node
    obtain ⟨p0, p1, p2, p3, p4, p5⟩ := HP.out.cells
    obtain ⟨x0, x1, x2, x3, x4, x5, x6, x7, x8, x9, x10, x11⟩ := HX.out.cells
    dsimp only at p0 p1 p2 p3 p4 p5
    go_enter Tryz.func72, Tryz.ntmps72
    go_wp2_with fail
    refine (onode_any x.nt x.nr _).mono ?_
    rw [E_node.out]
    rintro e w1 ⟨rfl, hb1⟩
    replace HB := Lib.hid (HB.out.trans (hb1.mono HB.out.size))
    replace HP := Lib.hid (HP.out.kept hb1)
    replace HX := Lib.hid (HX.out.kept hb1)
    replace HA := Lib.hid (HA.out.kept hb1)
    clear hb1
    obtain ⟨p0, p1, p2, p3, p4, p5⟩ := HP.out.cells
    obtain ⟨x0, x1, x2, x3, x4, x5, x6, x7, x8, x9, x10, x11⟩ := HX.out.cells
    dsimp only at p0 p1 p2 p3 p4 p5
    go_wp2
    go_ret
    exact ⟨ret_b HR.out.symm, HB.out⟩
  | true =>
    cases e_master : okNode x.rt x.rr with
    | false =>
      by_cases hz : x.rt = 0
      · by_cases hy : x.rr = 0
        · have z0 : (x.rt == 0) = true := by simpa using hz
          have z1 : (x.rr == 0) = true := by simpa using hy
          clear hz hy
          have HR := Lib.hid (show fitO ⟨true, false, true, false, false, false⟩ x = true by simp [fitO, e_master, e_node, isZ, z0, z1])
          have E_node := Lib.hid e_node
          clear e_node
          have E_master := Lib.hid e_master
          clear e_master
          obtain ⟨p0, p1, p2, p3, p4, p5⟩ := HP.out.cells
          obtain ⟨x0, x1, x2, x3, x4, x5, x6, x7, x8, x9, x10, x11⟩ := HX.out.cells
          dsimp only at p0 p1 p2 p3 p4 p5
          go_enter Tryz.func72, Tryz.ntmps72
          go_wp2_with fail
          refine (onode_any x.nt x.nr _).mono ?_
          rw [E_node.out]
          rintro e w1 ⟨rfl, hb1⟩
          replace HB := Lib.hid (HB.out.trans (hb1.mono HB.out.size))
          replace HP := Lib.hid (HP.out.kept hb1)
          replace HX := Lib.hid (HX.out.kept hb1)
          replace HA := Lib.hid (HA.out.kept hb1)
          clear hb1
          obtain ⟨p0, p1, p2, p3, p4, p5⟩ := HP.out.cells
          obtain ⟨x0, x1, x2, x3, x4, x5, x6, x7, x8, x9, x10, x11⟩ := HX.out.cells
          dsimp only at p0 p1 p2 p3 p4 p5
          go_wp2_with fail
          refine (onode_any x.rt x.rr _).mono ?_
          rw [E_master.out]
          rintro e w1 ⟨rfl, hb1⟩
          replace HB := Lib.hid (HB.out.trans (hb1.mono HB.out.size))
          replace HP := Lib.hid (HP.out.kept hb1)
          replace HX := Lib.hid (HX.out.kept hb1)
          replace HA := Lib.hid (HA.out.kept hb1)
          clear hb1
          obtain ⟨p0, p1, p2, p3, p4, p5⟩ := HP.out.cells
          obtain ⟨x0, x1, x2, x3, x4, x5, x6, x7, x8, x9, x10, x11⟩ := HX.out.cells
          dsimp only at p0 p1 p2 p3 p4 p5
          go_wp2
          go_ret
          exact ⟨ret_b HR.out.symm, HB.out⟩
        · have z0 : (x.rt == 0) = true := by simpa using hz
          have z1 : (x.rr == 0) = false := by simpa using hy
          clear hz hy
          have HR := Lib.hid (show fitO ⟨true, false, true, false, false, false⟩ x = false by simp [fitO, e_master, e_node, isZ, z0, z1])
          have E_node := Lib.hid e_node
          clear e_node
          have E_master := Lib.hid e_master
          clear e_master
          obtain ⟨p0, p1, p2, p3, p4, p5⟩ := HP.out.cells
          obtain ⟨x0, x1, x2, x3, x4, x5, x6, x7, x8, x9, x10, x11⟩ := HX.out.cells
          dsimp only at p0 p1 p2 p3 p4 p5
          go_enter Tryz.func72, Tryz.ntmps72
          go_wp2_with fail
          refine (onode_any x.nt x.nr _).mono ?_
          rw [E_node.out]
          rintro e w1 ⟨rfl, hb1⟩
          replace HB := Lib.hid (HB.out.trans (hb1.mono HB.out.size))
          replace HP := Lib.hid (HP.out.kept hb1)
          replace HX := Lib.hid (HX.out.kept hb1)
          replace HA := Lib.hid (HA.out.kept hb1)
          clear hb1
          obtain ⟨p0, p1, p2, p3, p4, p5⟩ := HP.out.cells
          obtain ⟨x0, x1, x2, x3, x4, x5, x6, x7, x8, x9, x10, x11⟩ := HX.out.cells
          dsimp only at p0 p1 p2 p3 p4 p5
          go_wp2_with fail
          refine (onode_any x.rt x.rr _).mono ?_
          rw [E_master.out]
          rintro e w1 ⟨rfl, hb1⟩
          replace HB := Lib.hid (HB.out.trans (hb1.mono HB.out.size))
          replace HP := Lib.hid (HP.out.kept hb1)
          replace HX := Lib.hid (HX.out.kept hb1)
          replace HA := Lib.hid (HA.out.kept hb1)
          clear hb1
          obtain ⟨p0, p1, p2, p3, p4, p5⟩ := HP.out.cells
          obtain ⟨x0, x1, x2, x3, x4, x5, x6, x7, x8, x9, x10, x11⟩ := HX.out.cells
          dsimp only at p0 p1 p2 p3 p4 p5
          go_wp2
          go_ret
          exact ⟨ret_b HR.out.symm, HB.out⟩
      · have z0 : (x.rt == 0) = false := by simpa using hz
        clear hz
        have HR := Lib.hid (show fitO ⟨true, false, true, false, false, false⟩ x = false by simp [fitO, e_master, e_node, isZ, z0])
        have E_node := Lib.hid e_node
        clear e_node
        have E_master := Lib.hid e_master
        clear e_master
        obtain ⟨p0, p1, p2, p3, p4, p5⟩ := HP.out.cells
        obtain ⟨x0, x1, x2, x3, x4, x5, x6, x7, x8, x9, x10, x11⟩ := HX.out.cells
        dsimp only at p0 p1 p2 p3 p4 p5
        go_enter Tryz.func72, Tryz.ntmps72
        go_wp2_with fail
        refine (onode_any x.nt x.nr _).mono ?_
        rw [E_node.out]
        rintro e w1 ⟨rfl, hb1⟩
        replace HB := Lib.hid (HB.out.trans (hb1.mono HB.out.size))
        replace HP := Lib.hid (HP.out.kept hb1)
        replace HX := Lib.hid (HX.out.kept hb1)
        replace HA := Lib.hid (HA.out.kept hb1)
        clear hb1
        obtain ⟨p0, p1, p2, p3, p4, p5⟩ := HP.out.cells
        obtain ⟨x0, x1, x2, x3, x4, x5, x6, x7, x8, x9, x10, x11⟩ := HX.out.cells
        dsimp only at p0 p1 p2 p3 p4 p5
        go_wp2_with fail
        refine (onode_any x.rt x.rr _).mono ?_
        rw [E_master.out]
        rintro e w1 ⟨rfl, hb1⟩
        replace HB := Lib.hid (HB.out.trans (hb1.mono HB.out.size))
        replace HP := Lib.hid (HP.out.kept hb1)
        replace HX := Lib.hid (HX.out.kept hb1)
        replace HA := Lib.hid (HA.out.kept hb1)
        clear hb1
        obtain ⟨p0, p1, p2, p3, p4, p5⟩ := HP.out.cells
        obtain ⟨x0, x1, x2, x3, x4, x5, x6, x7, x8, x9, x10, x11⟩ := HX.out.cells
        dsimp only at p0 p1 p2 p3 p4 p5
        go_wp2
        go_ret
        exact ⟨ret_b HR.out.symm, HB.out⟩
    | true =>
      have HR := Lib.hid (show fitO ⟨true, false, true, false, false, false⟩ x = true by simp [fitO, e_node, e_master])
      have E_node := Lib.hid e_node
      clear e_node
      have E_master := Lib.hid e_master
      clear e_master
      obtain ⟨p0, p1, p2, p3, p4, p5⟩ := HP.out.cells
      obtain ⟨x0, x1, x2, x3, x4, x5, x6, x7, x8, x9, x10, x11⟩ := HX.out.cells
      dsimp only at p0 p1 p2 p3 p4 p5
      go_enter Tryz.func72, Tryz.ntmps72
      go_wp2_with fail
      refine (onode_any x.nt x.nr _).mono ?_
      rw [E_node.out]
      rintro e w1 ⟨rfl, hb1⟩
      replace HB := Lib.hid (HB.out.trans (hb1.mono HB.out.size))
      replace HP := Lib.hid (HP.out.kept hb1)
      replace HX := Lib.hid (HX.out.kept hb1)
      replace HA := Lib.hid (HA.out.kept hb1)
      clear hb1
      obtain ⟨p0, p1, p2, p3, p4, p5⟩ := HP.out.cells
      obtain ⟨x0, x1, x2, x3, x4, x5, x6, x7, x8, x9, x10, x11⟩ := HX.out.cells
      dsimp only at p0 p1 p2 p3 p4 p5
      go_wp2_with fail
      refine (onode_any x.rt x.rr _).mono ?_
      rw [E_master.out]
      rintro e w1 ⟨rfl, hb1⟩
      replace HB := Lib.hid (HB.out.trans (hb1.mono HB.out.size))
      replace HP := Lib.hid (HP.out.kept hb1)
      replace HX := Lib.hid (HX.out.kept hb1)
      replace HA := Lib.hid (HA.out.kept hb1)
      clear hb1
      obtain ⟨p0, p1, p2, p3, p4, p5⟩ := HP.out.cells
      obtain ⟨x0, x1, x2, x3, x4, x5, x6, x7, x8, x9, x10, x11⟩ := HX.out.cells
      dsimp only at p0 p1 p2 p3 p4 p5
      go_wp2
      go_ret
      exact ⟨ret_b HR.out.symm, HB.out⟩

set_option maxRecDepth 100000 in
set_option maxHeartbeats 2000000 in
theorem fit6_any (x : Opp) (q : Option Addr) (c : Nat) (w : World) (hs : Sz x) (ha : Pa w x q c) : Calls Tryz.prog 72 #[.agg #[.bool true, .bool false, .bool false, .bool true, .bool true, .bool false], .agg (opA x q c)] w fun e w' => e = .returned (.bool (fitO ⟨true, false, false, true, true, false⟩ x)) ∧ Below w.heap.size w w' := by
  obtain ⟨HP, HX, HA, HB⟩ := fit_start w ⟨true, false, false, true, true, false⟩ #[.bool true, .bool false, .bool false, .bool true, .bool true, .bool false] rfl x q c ha
  cases e_node : okNode x.nt x.nr with
  | false =>
    have HR := Lib.hid (show fitO ⟨true, false, false, true, true, false⟩ x = false by simp [fitO, e_node])
    have E_node := Lib.hid e_node
    clear e_node
    obtain ⟨p0, p1, p2, p3, p4, p5⟩ := HP.out.cells
    obtain ⟨x0, x1, x2, x3, x4, x5, x6, x7, x8, x9, x10, x11⟩ := HX.out.cells
    dsimp only at p0 p1 p2 p3 p4 p5
    go_enter Tryz.func72, Tryz.ntmps72
    go_wp2_with fail
    refine (onode_any x.nt x.nr _).mono ?_
    rw [E_node.out]
    rintro e w1 ⟨rfl, hb1⟩
    replace HB := Lib.hid (HB.out.trans (hb1.mono HB.out.size))
    replace HP := Lib.hid (HP.out.kept hb1)
    replace HX := Lib.hid (HX.out.kept hb1)
    replace HA := Lib.hid (HA.out.kept hb1)
    clear hb1
    obtain ⟨p0, p1, p2, p3, p4, p5⟩ := HP.out.cells
    obtain ⟨x0, x1, x2, x3, x4, x5, x6, x7, x8, x9, x10, x11⟩ := HX.out.cells
    dsimp only at p0 p1 p2 p3 p4 p5
    go_wp2
    go_ret
    exact ⟨ret_b HR.out.symm, HB.out⟩
  | true =>
    cases e_path : okPath x.path with
    | false =>
      have HR := Lib.hid (show fitO ⟨true, false, false, true, true, false⟩ x = false by simp [fitO, e_node, e_path])
      have E_node := Lib.hid e_node
      clear e_node
      have E_path := Lib.hid e_path
      clear e_path
      obtain ⟨p0, p1, p2, p3, p4, p5⟩ := HP.out.cells
      obtain ⟨x0, x1, x2, x3, x4, x5, x6, x7, x8, x9, x10, x11⟩ := HX.out.cells
      dsimp only at p0 p1 p2 p3 p4 p5
      go_enter Tryz.func72, Tryz.ntmps72
      go_wp2_with fail
      refine (onode_any x.nt x.nr _).mono ?_
      rw [E_node.out]
      rintro e w1 ⟨rfl, hb1⟩
      replace HB := Lib.hid (HB.out.trans (hb1.mono HB.out.size))
      replace HP := Lib.hid (HP.out.kept hb1)
      replace HX := Lib.hid (HX.out.kept hb1)
      replace HA := Lib.hid (HA.out.kept hb1)
      clear hb1
      obtain ⟨p0, p1, p2, p3, p4, p5⟩ := HP.out.cells
      obtain ⟨x0, x1, x2, x3, x4, x5, x6, x7, x8, x9, x10, x11⟩ := HX.out.cells
      dsimp only at p0 p1 p2 p3 p4 p5
      go_wp2_with fail
      refine (isPath_any q c x.path _ HA.out.rd hs.path).mono ?_
      rw [E_path.out]
      rintro e w1 ⟨rfl, hb1⟩
      replace HB := Lib.hid (HB.out.trans (hb1.mono HB.out.size))
      replace HP := Lib.hid (HP.out.kept hb1)
      replace HX := Lib.hid (HX.out.kept hb1)
      replace HA := Lib.hid (HA.out.kept hb1)
      clear hb1
      obtain ⟨p0, p1, p2, p3, p4, p5⟩ := HP.out.cells
      obtain ⟨x0, x1, x2, x3, x4, x5, x6, x7, x8, x9, x10, x11⟩ := HX.out.cells
      dsimp only at p0 p1 p2 p3 p4 p5
      go_wp2
      go_ret
      exact ⟨ret_b HR.out.symm, HB.out⟩
    | true =>
      cases e_value : right8V x.p x.vk x.vn x.vt.data.toList with
      | false =>
        have HR := Lib.hid (show fitO ⟨true, false, false, true, true, false⟩ x = false by simp [fitO, e_node, e_path, e_value])
        have E_node := Lib.hid e_node
        clear e_node
        have E_path := Lib.hid e_path
        clear e_path
        have E_value := Lib.hid e_value
        clear e_value
        obtain ⟨p0, p1, p2, p3, p4, p5⟩ := HP.out.cells
        obtain ⟨x0, x1, x2, x3, x4, x5, x6, x7, x8, x9, x10, x11⟩ := HX.out.cells
        dsimp only at p0 p1 p2 p3 p4 p5
        go_enter Tryz.func72, Tryz.ntmps72
        go_wp2_with fail
        refine (onode_any x.nt x.nr _).mono ?_
        rw [E_node.out]
        rintro e w1 ⟨rfl, hb1⟩
        replace HB := Lib.hid (HB.out.trans (hb1.mono HB.out.size))
        replace HP := Lib.hid (HP.out.kept hb1)
        replace HX := Lib.hid (HX.out.kept hb1)
        replace HA := Lib.hid (HA.out.kept hb1)
        clear hb1
        obtain ⟨p0, p1, p2, p3, p4, p5⟩ := HP.out.cells
        obtain ⟨x0, x1, x2, x3, x4, x5, x6, x7, x8, x9, x10, x11⟩ := HX.out.cells
        dsimp only at p0 p1 p2 p3 p4 p5
        go_wp2_with fail
        refine (isPath_any q c x.path _ HA.out.rd hs.path).mono ?_
        rw [E_path.out]
        rintro e w1 ⟨rfl, hb1⟩
        replace HB := Lib.hid (HB.out.trans (hb1.mono HB.out.size))
        replace HP := Lib.hid (HP.out.kept hb1)
        replace HX := Lib.hid (HX.out.kept hb1)
        replace HA := Lib.hid (HA.out.kept hb1)
        clear hb1
        obtain ⟨p0, p1, p2, p3, p4, p5⟩ := HP.out.cells
        obtain ⟨x0, x1, x2, x3, x4, x5, x6, x7, x8, x9, x10, x11⟩ := HX.out.cells
        dsimp only at p0 p1 p2 p3 p4 p5
        go_wp2_with fail
        refine (vright8_any x.p x.vk x.vn x.vt _ hs.val).mono ?_
        rw [E_value.out]
        rintro e w1 ⟨rfl, hb1⟩
        replace HB := Lib.hid (HB.out.trans (hb1.mono HB.out.size))
        replace HP := Lib.hid (HP.out.kept hb1)
        replace HX := Lib.hid (HX.out.kept hb1)
        replace HA := Lib.hid (HA.out.kept hb1)
        clear hb1
        obtain ⟨p0, p1, p2, p3, p4, p5⟩ := HP.out.cells
        obtain ⟨x0, x1, x2, x3, x4, x5, x6, x7, x8, x9, x10, x11⟩ := HX.out.cells
        dsimp only at p0 p1 p2 p3 p4 p5
        go_wp2
        go_ret
        exact ⟨ret_b HR.out.symm, HB.out⟩
      | true =>
        have HR := Lib.hid (show fitO ⟨true, false, false, true, true, false⟩ x = true by simp [fitO, e_node, e_path, e_value])
        have E_node := Lib.hid e_node
        clear e_node
        have E_path := Lib.hid e_path
        clear e_path
        have E_value := Lib.hid e_value
        clear e_value
        obtain ⟨p0, p1, p2, p3, p4, p5⟩ := HP.out.cells
        obtain ⟨x0, x1, x2, x3, x4, x5, x6, x7, x8, x9, x10, x11⟩ := HX.out.cells
        dsimp only at p0 p1 p2 p3 p4 p5
        go_enter Tryz.func72, Tryz.ntmps72
        go_wp2_with fail
        refine (onode_any x.nt x.nr _).mono ?_
        rw [E_node.out]
        rintro e w1 ⟨rfl, hb1⟩
        replace HB := Lib.hid (HB.out.trans (hb1.mono HB.out.size))
        replace HP := Lib.hid (HP.out.kept hb1)
        replace HX := Lib.hid (HX.out.kept hb1)
        replace HA := Lib.hid (HA.out.kept hb1)
        clear hb1
        obtain ⟨p0, p1, p2, p3, p4, p5⟩ := HP.out.cells
        obtain ⟨x0, x1, x2, x3, x4, x5, x6, x7, x8, x9, x10, x11⟩ := HX.out.cells
        dsimp only at p0 p1 p2 p3 p4 p5
        go_wp2_with fail
        refine (isPath_any q c x.path _ HA.out.rd hs.path).mono ?_
        rw [E_path.out]
        rintro e w1 ⟨rfl, hb1⟩
        replace HB := Lib.hid (HB.out.trans (hb1.mono HB.out.size))
        replace HP := Lib.hid (HP.out.kept hb1)
        replace HX := Lib.hid (HX.out.kept hb1)
        replace HA := Lib.hid (HA.out.kept hb1)
        clear hb1
        obtain ⟨p0, p1, p2, p3, p4, p5⟩ := HP.out.cells
        obtain ⟨x0, x1, x2, x3, x4, x5, x6, x7, x8, x9, x10, x11⟩ := HX.out.cells
        dsimp only at p0 p1 p2 p3 p4 p5
        go_wp2_with fail
        refine (vright8_any x.p x.vk x.vn x.vt _ hs.val).mono ?_
        rw [E_value.out]
        rintro e w1 ⟨rfl, hb1⟩
        replace HB := Lib.hid (HB.out.trans (hb1.mono HB.out.size))
        replace HP := Lib.hid (HP.out.kept hb1)
        replace HX := Lib.hid (HX.out.kept hb1)
        replace HA := Lib.hid (HA.out.kept hb1)
        clear hb1
        obtain ⟨p0, p1, p2, p3, p4, p5⟩ := HP.out.cells
        obtain ⟨x0, x1, x2, x3, x4, x5, x6, x7, x8, x9, x10, x11⟩ := HX.out.cells
        dsimp only at p0 p1 p2 p3 p4 p5
        go_wp2
        go_ret
        exact ⟨ret_b HR.out.symm, HB.out⟩
end Go.Proofs.YthifdefjmfakgaaGreat

namespace Go.Proofs.YthifdefjmfakgaaGreat
open Go.RowKit

theorem str_ne {s : ByteArray} (h : ¬ s = ⟨#[]⟩) : s.toList.isEmpty = false := by
  rw [ByteArray.toList_eq, List.isEmpty_eq_false_iff]
  intro e
  apply h
  obtain ⟨⟨l⟩⟩ := s
  simp at e
  rw [e]
theorem key_eq {x : Opp} (h : x.key = ⟨#[]⟩) : x.key = ⟨#[]⟩ := h
theorem vt_eq {x : Opp} (h : x.vt = ⟨#[]⟩) : x.vt = ⟨#[]⟩ := h

set_option maxRecDepth 100000 in
set_option maxHeartbeats 4000000 in
theorem alone1_any (x : Opp) (q : Option Addr) (c : Nat) (w : World) (ha : Pa w x q c) : Calls Tryz.prog 73 #[.agg #[.bool false, .bool true, .bool false, .bool false, .bool false, .bool false], .agg (opA x q c)] w fun e w' => e = .returned (.bool (aloneO ⟨false, true, false, false, false, false⟩ x)) ∧ Below w.heap.size w w' := by
  obtain ⟨HP, HX, HA, HB⟩ := fit_start w ⟨false, true, false, false, false, false⟩ #[.bool false, .bool true, .bool false, .bool false, .bool false, .bool false] rfl x q c ha
  by_cases h_nt : x.nt = 0
  · have z_nt : (x.nt == 0) = true := by simpa using h_nt
    by_cases h_nr : x.nr = 0
    · have z_nr : (x.nr == 0) = true := by simpa using h_nr
      by_cases h_path : x.path.length = 0
      · have z_path : ((x.path.length : Int) == 0) = true := by rw [h_path]; rfl
        have y_path : (x.path.length == 0) = true := by rw [h_path]; rfl
        by_cases h_p : x.p = 0
        · have z_p : (x.p == 0) = true := by simpa using h_p
          by_cases h_vk : x.vk = 0
          · have z_vk : (x.vk == 0) = true := by simpa using h_vk
            by_cases h_vn : x.vn = 0
            · have z_vn : (x.vn == 0) = true := by simpa using h_vn
              by_cases h_vt : x.vt = ⟨#[]⟩
              · have z_vt := vt_eq h_vt
                have HR := Lib.hid (show aloneO ⟨false, true, false, false, false, false⟩ x = (!x.on) by simp [aloneO, isZ, isV, z_nt, z_nr, y_path, z_p, z_vk, z_vn, h_vt])
                clear h_nt
                clear h_nr
                clear h_path
                clear h_p
                clear h_vk
                clear h_vn
                clear h_vt
                obtain ⟨p0, p1, p2, p3, p4, p5⟩ := HP.out.cells
                obtain ⟨x0, x1, x2, x3, x4, x5, x6, x7, x8, x9, x10, x11⟩ := HX.out.cells
                dsimp only at p0 p1 p2 p3 p4 p5
                go_enter Tryz.func73, Tryz.ntmps73
                simp only [List.append]
                go_wp2
                go_ret
                exact ⟨ret_b HR.out.symm, HB.out⟩
              · have z_vt : x.vt.toList.isEmpty = false := str_ne h_vt
                have HR := Lib.hid (show aloneO ⟨false, true, false, false, false, false⟩ x = false by simp [aloneO, isZ, isV, z_nt, z_nr, y_path, z_p, z_vk, z_vn, h_vt])
                clear h_nt
                clear h_nr
                clear h_path
                clear h_p
                clear h_vk
                clear h_vn
                clear h_vt
                obtain ⟨p0, p1, p2, p3, p4, p5⟩ := HP.out.cells
                obtain ⟨x0, x1, x2, x3, x4, x5, x6, x7, x8, x9, x10, x11⟩ := HX.out.cells
                dsimp only at p0 p1 p2 p3 p4 p5
                go_enter Tryz.func73, Tryz.ntmps73
                simp only [List.append]
                go_wp2
                go_ret
                exact ⟨ret_b HR.out.symm, HB.out⟩
            · have z_vn : (x.vn == 0) = false := by simpa using h_vn
              have HR := Lib.hid (show aloneO ⟨false, true, false, false, false, false⟩ x = false by simp [aloneO, isZ, isV, z_nt, z_nr, y_path, z_p, z_vk, z_vn])
              clear h_nt
              clear h_nr
              clear h_path
              clear h_p
              clear h_vk
              clear h_vn
              obtain ⟨p0, p1, p2, p3, p4, p5⟩ := HP.out.cells
              obtain ⟨x0, x1, x2, x3, x4, x5, x6, x7, x8, x9, x10, x11⟩ := HX.out.cells
              dsimp only at p0 p1 p2 p3 p4 p5
              go_enter Tryz.func73, Tryz.ntmps73
              simp only [List.append]
              go_wp2
              go_ret
              exact ⟨ret_b HR.out.symm, HB.out⟩
          · have z_vk : (x.vk == 0) = false := by simpa using h_vk
            have HR := Lib.hid (show aloneO ⟨false, true, false, false, false, false⟩ x = false by simp [aloneO, isZ, isV, z_nt, z_nr, y_path, z_p, z_vk])
            clear h_nt
            clear h_nr
            clear h_path
            clear h_p
            clear h_vk
            obtain ⟨p0, p1, p2, p3, p4, p5⟩ := HP.out.cells
            obtain ⟨x0, x1, x2, x3, x4, x5, x6, x7, x8, x9, x10, x11⟩ := HX.out.cells
            dsimp only at p0 p1 p2 p3 p4 p5
            go_enter Tryz.func73, Tryz.ntmps73
            simp only [List.append]
            go_wp2
            go_ret
            exact ⟨ret_b HR.out.symm, HB.out⟩
        · have z_p : (x.p == 0) = false := by simpa using h_p
          have HR := Lib.hid (show aloneO ⟨false, true, false, false, false, false⟩ x = false by simp [aloneO, isZ, isV, z_nt, z_nr, y_path, z_p])
          clear h_nt
          clear h_nr
          clear h_path
          clear h_p
          obtain ⟨p0, p1, p2, p3, p4, p5⟩ := HP.out.cells
          obtain ⟨x0, x1, x2, x3, x4, x5, x6, x7, x8, x9, x10, x11⟩ := HX.out.cells
          dsimp only at p0 p1 p2 p3 p4 p5
          go_enter Tryz.func73, Tryz.ntmps73
          simp only [List.append]
          go_wp2
          go_ret
          exact ⟨ret_b HR.out.symm, HB.out⟩
      · have z_path : ((x.path.length : Int) == 0) = false := by rw [beq_eq_false_iff_ne]; omega
        have y_path : (x.path.length == 0) = false := by rw [beq_eq_false_iff_ne]; exact h_path
        have HR := Lib.hid (show aloneO ⟨false, true, false, false, false, false⟩ x = false by simp [aloneO, isZ, isV, z_nt, z_nr, y_path])
        clear h_nt
        clear h_nr
        clear h_path
        obtain ⟨p0, p1, p2, p3, p4, p5⟩ := HP.out.cells
        obtain ⟨x0, x1, x2, x3, x4, x5, x6, x7, x8, x9, x10, x11⟩ := HX.out.cells
        dsimp only at p0 p1 p2 p3 p4 p5
        go_enter Tryz.func73, Tryz.ntmps73
        simp only [List.append]
        go_wp2
        go_ret
        exact ⟨ret_b HR.out.symm, HB.out⟩
    · have z_nr : (x.nr == 0) = false := by simpa using h_nr
      have HR := Lib.hid (show aloneO ⟨false, true, false, false, false, false⟩ x = false by simp [aloneO, isZ, isV, z_nt, z_nr])
      clear h_nt
      clear h_nr
      obtain ⟨p0, p1, p2, p3, p4, p5⟩ := HP.out.cells
      obtain ⟨x0, x1, x2, x3, x4, x5, x6, x7, x8, x9, x10, x11⟩ := HX.out.cells
      dsimp only at p0 p1 p2 p3 p4 p5
      go_enter Tryz.func73, Tryz.ntmps73
      simp only [List.append]
      go_wp2
      go_ret
      exact ⟨ret_b HR.out.symm, HB.out⟩
  · have z_nt : (x.nt == 0) = false := by simpa using h_nt
    have HR := Lib.hid (show aloneO ⟨false, true, false, false, false, false⟩ x = false by simp [aloneO, isZ, isV, z_nt])
    clear h_nt
    obtain ⟨p0, p1, p2, p3, p4, p5⟩ := HP.out.cells
    obtain ⟨x0, x1, x2, x3, x4, x5, x6, x7, x8, x9, x10, x11⟩ := HX.out.cells
    dsimp only at p0 p1 p2 p3 p4 p5
    go_enter Tryz.func73, Tryz.ntmps73
    simp only [List.append]
    go_wp2
    go_ret
    exact ⟨ret_b HR.out.symm, HB.out⟩

set_option maxRecDepth 100000 in
set_option maxHeartbeats 4000000 in
theorem alone2_any (x : Opp) (q : Option Addr) (c : Nat) (w : World) (ha : Pa w x q c) : Calls Tryz.prog 73 #[.agg #[.bool true, .bool true, .bool false, .bool false, .bool false, .bool false], .agg (opA x q c)] w fun e w' => e = .returned (.bool (aloneO ⟨true, true, false, false, false, false⟩ x)) ∧ Below w.heap.size w w' := by
  obtain ⟨HP, HX, HA, HB⟩ := fit_start w ⟨true, true, false, false, false, false⟩ #[.bool true, .bool true, .bool false, .bool false, .bool false, .bool false] rfl x q c ha
  by_cases h_path : x.path.length = 0
  · have z_path : ((x.path.length : Int) == 0) = true := by rw [h_path]; rfl
    have y_path : (x.path.length == 0) = true := by rw [h_path]; rfl
    by_cases h_p : x.p = 0
    · have z_p : (x.p == 0) = true := by simpa using h_p
      by_cases h_vk : x.vk = 0
      · have z_vk : (x.vk == 0) = true := by simpa using h_vk
        by_cases h_vn : x.vn = 0
        · have z_vn : (x.vn == 0) = true := by simpa using h_vn
          by_cases h_vt : x.vt = ⟨#[]⟩
          · have z_vt := vt_eq h_vt
            have HR := Lib.hid (show aloneO ⟨true, true, false, false, false, false⟩ x = (!x.on) by simp [aloneO, isZ, isV, y_path, z_p, z_vk, z_vn, h_vt])
            clear h_path
            clear h_p
            clear h_vk
            clear h_vn
            clear h_vt
            obtain ⟨p0, p1, p2, p3, p4, p5⟩ := HP.out.cells
            obtain ⟨x0, x1, x2, x3, x4, x5, x6, x7, x8, x9, x10, x11⟩ := HX.out.cells
            dsimp only at p0 p1 p2 p3 p4 p5
            go_enter Tryz.func73, Tryz.ntmps73
            simp only [List.append]
            go_wp2
            go_ret
            exact ⟨ret_b HR.out.symm, HB.out⟩
          · have z_vt : x.vt.toList.isEmpty = false := str_ne h_vt
            have HR := Lib.hid (show aloneO ⟨true, true, false, false, false, false⟩ x = false by simp [aloneO, isZ, isV, y_path, z_p, z_vk, z_vn, h_vt])
            clear h_path
            clear h_p
            clear h_vk
            clear h_vn
            clear h_vt
            obtain ⟨p0, p1, p2, p3, p4, p5⟩ := HP.out.cells
            obtain ⟨x0, x1, x2, x3, x4, x5, x6, x7, x8, x9, x10, x11⟩ := HX.out.cells
            dsimp only at p0 p1 p2 p3 p4 p5
            go_enter Tryz.func73, Tryz.ntmps73
            simp only [List.append]
            go_wp2
            go_ret
            exact ⟨ret_b HR.out.symm, HB.out⟩
        · have z_vn : (x.vn == 0) = false := by simpa using h_vn
          have HR := Lib.hid (show aloneO ⟨true, true, false, false, false, false⟩ x = false by simp [aloneO, isZ, isV, y_path, z_p, z_vk, z_vn])
          clear h_path
          clear h_p
          clear h_vk
          clear h_vn
          obtain ⟨p0, p1, p2, p3, p4, p5⟩ := HP.out.cells
          obtain ⟨x0, x1, x2, x3, x4, x5, x6, x7, x8, x9, x10, x11⟩ := HX.out.cells
          dsimp only at p0 p1 p2 p3 p4 p5
          go_enter Tryz.func73, Tryz.ntmps73
          simp only [List.append]
          go_wp2
          go_ret
          exact ⟨ret_b HR.out.symm, HB.out⟩
      · have z_vk : (x.vk == 0) = false := by simpa using h_vk
        have HR := Lib.hid (show aloneO ⟨true, true, false, false, false, false⟩ x = false by simp [aloneO, isZ, isV, y_path, z_p, z_vk])
        clear h_path
        clear h_p
        clear h_vk
        obtain ⟨p0, p1, p2, p3, p4, p5⟩ := HP.out.cells
        obtain ⟨x0, x1, x2, x3, x4, x5, x6, x7, x8, x9, x10, x11⟩ := HX.out.cells
        dsimp only at p0 p1 p2 p3 p4 p5
        go_enter Tryz.func73, Tryz.ntmps73
        simp only [List.append]
        go_wp2
        go_ret
        exact ⟨ret_b HR.out.symm, HB.out⟩
    · have z_p : (x.p == 0) = false := by simpa using h_p
      have HR := Lib.hid (show aloneO ⟨true, true, false, false, false, false⟩ x = false by simp [aloneO, isZ, isV, y_path, z_p])
      clear h_path
      clear h_p
      obtain ⟨p0, p1, p2, p3, p4, p5⟩ := HP.out.cells
      obtain ⟨x0, x1, x2, x3, x4, x5, x6, x7, x8, x9, x10, x11⟩ := HX.out.cells
      dsimp only at p0 p1 p2 p3 p4 p5
      go_enter Tryz.func73, Tryz.ntmps73
      simp only [List.append]
      go_wp2
      go_ret
      exact ⟨ret_b HR.out.symm, HB.out⟩
  · have z_path : ((x.path.length : Int) == 0) = false := by rw [beq_eq_false_iff_ne]; omega
    have y_path : (x.path.length == 0) = false := by rw [beq_eq_false_iff_ne]; exact h_path
    have HR := Lib.hid (show aloneO ⟨true, true, false, false, false, false⟩ x = false by simp [aloneO, isZ, isV, y_path])
    clear h_path
    obtain ⟨p0, p1, p2, p3, p4, p5⟩ := HP.out.cells
    obtain ⟨x0, x1, x2, x3, x4, x5, x6, x7, x8, x9, x10, x11⟩ := HX.out.cells
    dsimp only at p0 p1 p2 p3 p4 p5
    go_enter Tryz.func73, Tryz.ntmps73
    simp only [List.append]
    go_wp2
    go_ret
    exact ⟨ret_b HR.out.symm, HB.out⟩

set_option maxRecDepth 100000 in
set_option maxHeartbeats 4000000 in
theorem alone3_any (x : Opp) (q : Option Addr) (c : Nat) (w : World) (ha : Pa w x q c) : Calls Tryz.prog 73 #[.agg #[.bool true, .bool false, .bool false, .bool false, .bool true, .bool false], .agg (opA x q c)] w fun e w' => e = .returned (.bool (aloneO ⟨true, false, false, false, true, false⟩ x)) ∧ Below w.heap.size w w' := by
  obtain ⟨HP, HX, HA, HB⟩ := fit_start w ⟨true, false, false, false, true, false⟩ #[.bool true, .bool false, .bool false, .bool false, .bool true, .bool false] rfl x q c ha
  by_cases h_rt : x.rt = 0
  · have z_rt : (x.rt == 0) = true := by simpa using h_rt
    by_cases h_rr : x.rr = 0
    · have z_rr : (x.rr == 0) = true := by simpa using h_rr
      by_cases h_key : x.key = ⟨#[]⟩
      · have z_key := key_eq h_key
        by_cases h_path : x.path.length = 0
        · have z_path : ((x.path.length : Int) == 0) = true := by rw [h_path]; rfl
          have y_path : (x.path.length == 0) = true := by rw [h_path]; rfl
          have HR := Lib.hid (show aloneO ⟨true, false, false, false, true, false⟩ x = (!x.on) by simp [aloneO, isZ, isV, z_rt, z_rr, h_key, y_path])
          clear h_rt
          clear h_rr
          clear h_key
          clear h_path
          obtain ⟨p0, p1, p2, p3, p4, p5⟩ := HP.out.cells
          obtain ⟨x0, x1, x2, x3, x4, x5, x6, x7, x8, x9, x10, x11⟩ := HX.out.cells
          dsimp only at p0 p1 p2 p3 p4 p5
          go_enter Tryz.func73, Tryz.ntmps73
          simp only [List.append]
          go_wp2
          go_ret
          exact ⟨ret_b HR.out.symm, HB.out⟩
        · have z_path : ((x.path.length : Int) == 0) = false := by rw [beq_eq_false_iff_ne]; omega
          have y_path : (x.path.length == 0) = false := by rw [beq_eq_false_iff_ne]; exact h_path
          have HR := Lib.hid (show aloneO ⟨true, false, false, false, true, false⟩ x = false by simp [aloneO, isZ, isV, z_rt, z_rr, h_key, y_path])
          clear h_rt
          clear h_rr
          clear h_key
          clear h_path
          obtain ⟨p0, p1, p2, p3, p4, p5⟩ := HP.out.cells
          obtain ⟨x0, x1, x2, x3, x4, x5, x6, x7, x8, x9, x10, x11⟩ := HX.out.cells
          dsimp only at p0 p1 p2 p3 p4 p5
          go_enter Tryz.func73, Tryz.ntmps73
          simp only [List.append]
          go_wp2
          go_ret
          exact ⟨ret_b HR.out.symm, HB.out⟩
      · have z_key : x.key.toList.isEmpty = false := str_ne h_key
        have HR := Lib.hid (show aloneO ⟨true, false, false, false, true, false⟩ x = false by simp [aloneO, isZ, isV, z_rt, z_rr, h_key])
        clear h_rt
        clear h_rr
        clear h_key
        obtain ⟨p0, p1, p2, p3, p4, p5⟩ := HP.out.cells
        obtain ⟨x0, x1, x2, x3, x4, x5, x6, x7, x8, x9, x10, x11⟩ := HX.out.cells
        dsimp only at p0 p1 p2 p3 p4 p5
        go_enter Tryz.func73, Tryz.ntmps73
        simp only [List.append]
        go_wp2
        go_ret
        exact ⟨ret_b HR.out.symm, HB.out⟩
    · have z_rr : (x.rr == 0) = false := by simpa using h_rr
      have HR := Lib.hid (show aloneO ⟨true, false, false, false, true, false⟩ x = false by simp [aloneO, isZ, isV, z_rt, z_rr])
      clear h_rt
      clear h_rr
      obtain ⟨p0, p1, p2, p3, p4, p5⟩ := HP.out.cells
      obtain ⟨x0, x1, x2, x3, x4, x5, x6, x7, x8, x9, x10, x11⟩ := HX.out.cells
      dsimp only at p0 p1 p2 p3 p4 p5
      go_enter Tryz.func73, Tryz.ntmps73
      simp only [List.append]
      go_wp2
      go_ret
      exact ⟨ret_b HR.out.symm, HB.out⟩
  · have z_rt : (x.rt == 0) = false := by simpa using h_rt
    have HR := Lib.hid (show aloneO ⟨true, false, false, false, true, false⟩ x = false by simp [aloneO, isZ, isV, z_rt])
    clear h_rt
    obtain ⟨p0, p1, p2, p3, p4, p5⟩ := HP.out.cells
    obtain ⟨x0, x1, x2, x3, x4, x5, x6, x7, x8, x9, x10, x11⟩ := HX.out.cells
    dsimp only at p0 p1 p2 p3 p4 p5
    go_enter Tryz.func73, Tryz.ntmps73
    simp only [List.append]
    go_wp2
    go_ret
    exact ⟨ret_b HR.out.symm, HB.out⟩

set_option maxRecDepth 100000 in
set_option maxHeartbeats 4000000 in
theorem alone4_any (x : Opp) (q : Option Addr) (c : Nat) (w : World) (ha : Pa w x q c) : Calls Tryz.prog 73 #[.agg #[.bool true, .bool false, .bool false, .bool false, .bool false, .bool true], .agg (opA x q c)] w fun e w' => e = .returned (.bool (aloneO ⟨true, false, false, false, false, true⟩ x)) ∧ Below w.heap.size w w' := by
  obtain ⟨HP, HX, HA, HB⟩ := fit_start w ⟨true, false, false, false, false, true⟩ #[.bool true, .bool false, .bool false, .bool false, .bool false, .bool true] rfl x q c ha
  by_cases h_rt : x.rt = 0
  · have z_rt : (x.rt == 0) = true := by simpa using h_rt
    by_cases h_rr : x.rr = 0
    · have z_rr : (x.rr == 0) = true := by simpa using h_rr
      by_cases h_key : x.key = ⟨#[]⟩
      · have z_key := key_eq h_key
        by_cases h_path : x.path.length = 0
        · have z_path : ((x.path.length : Int) == 0) = true := by rw [h_path]; rfl
          have y_path : (x.path.length == 0) = true := by rw [h_path]; rfl
          by_cases h_p : x.p = 0
          · have z_p : (x.p == 0) = true := by simpa using h_p
            by_cases h_vk : x.vk = 0
            · have z_vk : (x.vk == 0) = true := by simpa using h_vk
              by_cases h_vn : x.vn = 0
              · have z_vn : (x.vn == 0) = true := by simpa using h_vn
                by_cases h_vt : x.vt = ⟨#[]⟩
                · have z_vt := vt_eq h_vt
                  have HR := Lib.hid (show aloneO ⟨true, false, false, false, false, true⟩ x = true by simp [aloneO, isZ, isV, z_rt, z_rr, h_key, y_path, z_p, z_vk, z_vn, h_vt])
                  clear h_rt
                  clear h_rr
                  clear h_key
                  clear h_path
                  clear h_p
                  clear h_vk
                  clear h_vn
                  clear h_vt
                  obtain ⟨p0, p1, p2, p3, p4, p5⟩ := HP.out.cells
                  obtain ⟨x0, x1, x2, x3, x4, x5, x6, x7, x8, x9, x10, x11⟩ := HX.out.cells
                  dsimp only at p0 p1 p2 p3 p4 p5
                  go_enter Tryz.func73, Tryz.ntmps73
                  simp only [List.append]
                  go_wp2
                  go_ret
                  exact ⟨ret_b HR.out.symm, HB.out⟩
                · have z_vt : x.vt.toList.isEmpty = false := str_ne h_vt
                  have HR := Lib.hid (show aloneO ⟨true, false, false, false, false, true⟩ x = false by simp [aloneO, isZ, isV, z_rt, z_rr, h_key, y_path, z_p, z_vk, z_vn, h_vt])
                  clear h_rt
                  clear h_rr
                  clear h_key
                  clear h_path
                  clear h_p
                  clear h_vk
                  clear h_vn
                  clear h_vt
                  obtain ⟨p0, p1, p2, p3, p4, p5⟩ := HP.out.cells
                  obtain ⟨x0, x1, x2, x3, x4, x5, x6, x7, x8, x9, x10, x11⟩ := HX.out.cells
                  dsimp only at p0 p1 p2 p3 p4 p5
                  go_enter Tryz.func73, Tryz.ntmps73
                  simp only [List.append]
                  go_wp2
                  go_ret
                  exact ⟨ret_b HR.out.symm, HB.out⟩
              · have z_vn : (x.vn == 0) = false := by simpa using h_vn
                have HR := Lib.hid (show aloneO ⟨true, false, false, false, false, true⟩ x = false by simp [aloneO, isZ, isV, z_rt, z_rr, h_key, y_path, z_p, z_vk, z_vn])
                clear h_rt
                clear h_rr
                clear h_key
                clear h_path
                clear h_p
                clear h_vk
                clear h_vn
                obtain ⟨p0, p1, p2, p3, p4, p5⟩ := HP.out.cells
                obtain ⟨x0, x1, x2, x3, x4, x5, x6, x7, x8, x9, x10, x11⟩ := HX.out.cells
                dsimp only at p0 p1 p2 p3 p4 p5
                go_enter Tryz.func73, Tryz.ntmps73
                simp only [List.append]
                go_wp2
                go_ret
                exact ⟨ret_b HR.out.symm, HB.out⟩
            · have z_vk : (x.vk == 0) = false := by simpa using h_vk
              have HR := Lib.hid (show aloneO ⟨true, false, false, false, false, true⟩ x = false by simp [aloneO, isZ, isV, z_rt, z_rr, h_key, y_path, z_p, z_vk])
              clear h_rt
              clear h_rr
              clear h_key
              clear h_path
              clear h_p
              clear h_vk
              obtain ⟨p0, p1, p2, p3, p4, p5⟩ := HP.out.cells
              obtain ⟨x0, x1, x2, x3, x4, x5, x6, x7, x8, x9, x10, x11⟩ := HX.out.cells
              dsimp only at p0 p1 p2 p3 p4 p5
              go_enter Tryz.func73, Tryz.ntmps73
              simp only [List.append]
              go_wp2
              go_ret
              exact ⟨ret_b HR.out.symm, HB.out⟩
          · have z_p : (x.p == 0) = false := by simpa using h_p
            have HR := Lib.hid (show aloneO ⟨true, false, false, false, false, true⟩ x = false by simp [aloneO, isZ, isV, z_rt, z_rr, h_key, y_path, z_p])
            clear h_rt
            clear h_rr
            clear h_key
            clear h_path
            clear h_p
            obtain ⟨p0, p1, p2, p3, p4, p5⟩ := HP.out.cells
            obtain ⟨x0, x1, x2, x3, x4, x5, x6, x7, x8, x9, x10, x11⟩ := HX.out.cells
            dsimp only at p0 p1 p2 p3 p4 p5
            go_enter Tryz.func73, Tryz.ntmps73
            simp only [List.append]
            go_wp2
            go_ret
            exact ⟨ret_b HR.out.symm, HB.out⟩
        · have z_path : ((x.path.length : Int) == 0) = false := by rw [beq_eq_false_iff_ne]; omega
          have y_path : (x.path.length == 0) = false := by rw [beq_eq_false_iff_ne]; exact h_path
          have HR := Lib.hid (show aloneO ⟨true, false, false, false, false, true⟩ x = false by simp [aloneO, isZ, isV, z_rt, z_rr, h_key, y_path])
          clear h_rt
          clear h_rr
          clear h_key
          clear h_path
          obtain ⟨p0, p1, p2, p3, p4, p5⟩ := HP.out.cells
          obtain ⟨x0, x1, x2, x3, x4, x5, x6, x7, x8, x9, x10, x11⟩ := HX.out.cells
          dsimp only at p0 p1 p2 p3 p4 p5
          go_enter Tryz.func73, Tryz.ntmps73
          simp only [List.append]
          go_wp2
          go_ret
          exact ⟨ret_b HR.out.symm, HB.out⟩
      · have z_key : x.key.toList.isEmpty = false := str_ne h_key
        have HR := Lib.hid (show aloneO ⟨true, false, false, false, false, true⟩ x = false by simp [aloneO, isZ, isV, z_rt, z_rr, h_key])
        clear h_rt
        clear h_rr
        clear h_key
        obtain ⟨p0, p1, p2, p3, p4, p5⟩ := HP.out.cells
        obtain ⟨x0, x1, x2, x3, x4, x5, x6, x7, x8, x9, x10, x11⟩ := HX.out.cells
        dsimp only at p0 p1 p2 p3 p4 p5
        go_enter Tryz.func73, Tryz.ntmps73
        simp only [List.append]
        go_wp2
        go_ret
        exact ⟨ret_b HR.out.symm, HB.out⟩
    · have z_rr : (x.rr == 0) = false := by simpa using h_rr
      have HR := Lib.hid (show aloneO ⟨true, false, false, false, false, true⟩ x = false by simp [aloneO, isZ, isV, z_rt, z_rr])
      clear h_rt
      clear h_rr
      obtain ⟨p0, p1, p2, p3, p4, p5⟩ := HP.out.cells
      obtain ⟨x0, x1, x2, x3, x4, x5, x6, x7, x8, x9, x10, x11⟩ := HX.out.cells
      dsimp only at p0 p1 p2 p3 p4 p5
      go_enter Tryz.func73, Tryz.ntmps73
      simp only [List.append]
      go_wp2
      go_ret
      exact ⟨ret_b HR.out.symm, HB.out⟩
  · have z_rt : (x.rt == 0) = false := by simpa using h_rt
    have HR := Lib.hid (show aloneO ⟨true, false, false, false, false, true⟩ x = false by simp [aloneO, isZ, isV, z_rt])
    clear h_rt
    obtain ⟨p0, p1, p2, p3, p4, p5⟩ := HP.out.cells
    obtain ⟨x0, x1, x2, x3, x4, x5, x6, x7, x8, x9, x10, x11⟩ := HX.out.cells
    dsimp only at p0 p1 p2 p3 p4 p5
    go_enter Tryz.func73, Tryz.ntmps73
    simp only [List.append]
    go_wp2
    go_ret
    exact ⟨ret_b HR.out.symm, HB.out⟩

set_option maxRecDepth 100000 in
set_option maxHeartbeats 4000000 in
theorem alone5_any (x : Opp) (q : Option Addr) (c : Nat) (w : World) (ha : Pa w x q c) : Calls Tryz.prog 73 #[.agg #[.bool true, .bool false, .bool true, .bool false, .bool false, .bool false], .agg (opA x q c)] w fun e w' => e = .returned (.bool (aloneO ⟨true, false, true, false, false, false⟩ x)) ∧ Below w.heap.size w w' := by
  obtain ⟨HP, HX, HA, HB⟩ := fit_start w ⟨true, false, true, false, false, false⟩ #[.bool true, .bool false, .bool true, .bool false, .bool false, .bool false] rfl x q c ha
  by_cases h_key : x.key = ⟨#[]⟩
  · have z_key := key_eq h_key
    by_cases h_path : x.path.length = 0
    · have z_path : ((x.path.length : Int) == 0) = true := by rw [h_path]; rfl
      have y_path : (x.path.length == 0) = true := by rw [h_path]; rfl
      by_cases h_p : x.p = 0
      · have z_p : (x.p == 0) = true := by simpa using h_p
        by_cases h_vk : x.vk = 0
        · have z_vk : (x.vk == 0) = true := by simpa using h_vk
          by_cases h_vn : x.vn = 0
          · have z_vn : (x.vn == 0) = true := by simpa using h_vn
            by_cases h_vt : x.vt = ⟨#[]⟩
            · have z_vt := vt_eq h_vt
              have HR := Lib.hid (show aloneO ⟨true, false, true, false, false, false⟩ x = (!x.on) by simp [aloneO, isZ, isV, h_key, y_path, z_p, z_vk, z_vn, h_vt])
              clear h_key
              clear h_path
              clear h_p
              clear h_vk
              clear h_vn
              clear h_vt
              obtain ⟨p0, p1, p2, p3, p4, p5⟩ := HP.out.cells
              obtain ⟨x0, x1, x2, x3, x4, x5, x6, x7, x8, x9, x10, x11⟩ := HX.out.cells
              dsimp only at p0 p1 p2 p3 p4 p5
              go_enter Tryz.func73, Tryz.ntmps73
              simp only [List.append]
              go_wp2
              go_ret
              exact ⟨ret_b HR.out.symm, HB.out⟩
            · have z_vt : x.vt.toList.isEmpty = false := str_ne h_vt
              have HR := Lib.hid (show aloneO ⟨true, false, true, false, false, false⟩ x = false by simp [aloneO, isZ, isV, h_key, y_path, z_p, z_vk, z_vn, h_vt])
              clear h_key
              clear h_path
              clear h_p
              clear h_vk
              clear h_vn
              clear h_vt
              obtain ⟨p0, p1, p2, p3, p4, p5⟩ := HP.out.cells
              obtain ⟨x0, x1, x2, x3, x4, x5, x6, x7, x8, x9, x10, x11⟩ := HX.out.cells
              dsimp only at p0 p1 p2 p3 p4 p5
              go_enter Tryz.func73, Tryz.ntmps73
              simp only [List.append]
              go_wp2
              go_ret
              exact ⟨ret_b HR.out.symm, HB.out⟩
          · have z_vn : (x.vn == 0) = false := by simpa using h_vn
            have HR := Lib.hid (show aloneO ⟨true, false, true, false, false, false⟩ x = false by simp [aloneO, isZ, isV, h_key, y_path, z_p, z_vk, z_vn])
            clear h_key
            clear h_path
            clear h_p
            clear h_vk
            clear h_vn
            obtain ⟨p0, p1, p2, p3, p4, p5⟩ := HP.out.cells
            obtain ⟨x0, x1, x2, x3, x4, x5, x6, x7, x8, x9, x10, x11⟩ := HX.out.cells
            dsimp only at p0 p1 p2 p3 p4 p5
            go_enter Tryz.func73, Tryz.ntmps73
            simp only [List.append]
            go_wp2
            go_ret
            exact ⟨ret_b HR.out.symm, HB.out⟩
        · have z_vk : (x.vk == 0) = false := by simpa using h_vk
          have HR := Lib.hid (show aloneO ⟨true, false, true, false, false, false⟩ x = false by simp [aloneO, isZ, isV, h_key, y_path, z_p, z_vk])
          clear h_key
          clear h_path
          clear h_p
          clear h_vk
          obtain ⟨p0, p1, p2, p3, p4, p5⟩ := HP.out.cells
          obtain ⟨x0, x1, x2, x3, x4, x5, x6, x7, x8, x9, x10, x11⟩ := HX.out.cells
          dsimp only at p0 p1 p2 p3 p4 p5
          go_enter Tryz.func73, Tryz.ntmps73
          simp only [List.append]
          go_wp2
          go_ret
          exact ⟨ret_b HR.out.symm, HB.out⟩
      · have z_p : (x.p == 0) = false := by simpa using h_p
        have HR := Lib.hid (show aloneO ⟨true, false, true, false, false, false⟩ x = false by simp [aloneO, isZ, isV, h_key, y_path, z_p])
        clear h_key
        clear h_path
        clear h_p
        obtain ⟨p0, p1, p2, p3, p4, p5⟩ := HP.out.cells
        obtain ⟨x0, x1, x2, x3, x4, x5, x6, x7, x8, x9, x10, x11⟩ := HX.out.cells
        dsimp only at p0 p1 p2 p3 p4 p5
        go_enter Tryz.func73, Tryz.ntmps73
        simp only [List.append]
        go_wp2
        go_ret
        exact ⟨ret_b HR.out.symm, HB.out⟩
    · have z_path : ((x.path.length : Int) == 0) = false := by rw [beq_eq_false_iff_ne]; omega
      have y_path : (x.path.length == 0) = false := by rw [beq_eq_false_iff_ne]; exact h_path
      have HR := Lib.hid (show aloneO ⟨true, false, true, false, false, false⟩ x = false by simp [aloneO, isZ, isV, h_key, y_path])
      clear h_key
      clear h_path
      obtain ⟨p0, p1, p2, p3, p4, p5⟩ := HP.out.cells
      obtain ⟨x0, x1, x2, x3, x4, x5, x6, x7, x8, x9, x10, x11⟩ := HX.out.cells
      dsimp only at p0 p1 p2 p3 p4 p5
      go_enter Tryz.func73, Tryz.ntmps73
      simp only [List.append]
      go_wp2
      go_ret
      exact ⟨ret_b HR.out.symm, HB.out⟩
  · have z_key : x.key.toList.isEmpty = false := str_ne h_key
    have HR := Lib.hid (show aloneO ⟨true, false, true, false, false, false⟩ x = false by simp [aloneO, isZ, isV, h_key])
    clear h_key
    obtain ⟨p0, p1, p2, p3, p4, p5⟩ := HP.out.cells
    obtain ⟨x0, x1, x2, x3, x4, x5, x6, x7, x8, x9, x10, x11⟩ := HX.out.cells
    dsimp only at p0 p1 p2 p3 p4 p5
    go_enter Tryz.func73, Tryz.ntmps73
    simp only [List.append]
    go_wp2
    go_ret
    exact ⟨ret_b HR.out.symm, HB.out⟩

set_option maxRecDepth 100000 in
set_option maxHeartbeats 4000000 in
theorem alone6_any (x : Opp) (q : Option Addr) (c : Nat) (w : World) (ha : Pa w x q c) : Calls Tryz.prog 73 #[.agg #[.bool true, .bool false, .bool false, .bool true, .bool true, .bool false], .agg (opA x q c)] w fun e w' => e = .returned (.bool (aloneO ⟨true, false, false, true, true, false⟩ x)) ∧ Below w.heap.size w w' := by
  obtain ⟨HP, HX, HA, HB⟩ := fit_start w ⟨true, false, false, true, true, false⟩ #[.bool true, .bool false, .bool false, .bool true, .bool true, .bool false] rfl x q c ha
  by_cases h_rt : x.rt = 0
  · have z_rt : (x.rt == 0) = true := by simpa using h_rt
    by_cases h_rr : x.rr = 0
    · have z_rr : (x.rr == 0) = true := by simpa using h_rr
      by_cases h_key : x.key = ⟨#[]⟩
      · have z_key := key_eq h_key
        have HR := Lib.hid (show aloneO ⟨true, false, false, true, true, false⟩ x = (!x.on) by simp [aloneO, isZ, isV, z_rt, z_rr, h_key])
        clear h_rt
        clear h_rr
        clear h_key
        obtain ⟨p0, p1, p2, p3, p4, p5⟩ := HP.out.cells
        obtain ⟨x0, x1, x2, x3, x4, x5, x6, x7, x8, x9, x10, x11⟩ := HX.out.cells
        dsimp only at p0 p1 p2 p3 p4 p5
        go_enter Tryz.func73, Tryz.ntmps73
        simp only [List.append]
        go_wp2
        go_ret
        exact ⟨ret_b HR.out.symm, HB.out⟩
      · have z_key : x.key.toList.isEmpty = false := str_ne h_key
        have HR := Lib.hid (show aloneO ⟨true, false, false, true, true, false⟩ x = false by simp [aloneO, isZ, isV, z_rt, z_rr, h_key])
        clear h_rt
        clear h_rr
        clear h_key
        obtain ⟨p0, p1, p2, p3, p4, p5⟩ := HP.out.cells
        obtain ⟨x0, x1, x2, x3, x4, x5, x6, x7, x8, x9, x10, x11⟩ := HX.out.cells
        dsimp only at p0 p1 p2 p3 p4 p5
        go_enter Tryz.func73, Tryz.ntmps73
        simp only [List.append]
        go_wp2
        go_ret
        exact ⟨ret_b HR.out.symm, HB.out⟩
    · have z_rr : (x.rr == 0) = false := by simpa using h_rr
      have HR := Lib.hid (show aloneO ⟨true, false, false, true, true, false⟩ x = false by simp [aloneO, isZ, isV, z_rt, z_rr])
      clear h_rt
      clear h_rr
      obtain ⟨p0, p1, p2, p3, p4, p5⟩ := HP.out.cells
      obtain ⟨x0, x1, x2, x3, x4, x5, x6, x7, x8, x9, x10, x11⟩ := HX.out.cells
      dsimp only at p0 p1 p2 p3 p4 p5
      go_enter Tryz.func73, Tryz.ntmps73
      simp only [List.append]
      go_wp2
      go_ret
      exact ⟨ret_b HR.out.symm, HB.out⟩
  · have z_rt : (x.rt == 0) = false := by simpa using h_rt
    have HR := Lib.hid (show aloneO ⟨true, false, false, true, true, false⟩ x = false by simp [aloneO, isZ, isV, z_rt])
    clear h_rt
    obtain ⟨p0, p1, p2, p3, p4, p5⟩ := HP.out.cells
    obtain ⟨x0, x1, x2, x3, x4, x5, x6, x7, x8, x9, x10, x11⟩ := HX.out.cells
    dsimp only at p0 p1 p2 p3 p4 p5
    go_enter Tryz.func73, Tryz.ntmps73
    simp only [List.append]
    go_wp2
    go_ret
    exact ⟨ret_b HR.out.symm, HB.out⟩
end Go.Proofs.YthifdefjmfakgaaGreat
