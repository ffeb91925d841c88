/-
  THE LOCK's functions and types, under the seat's numbers.
  No conditions.
  takeBack: ops that were tried are taken back, the last one first.
  No conditions but sizes.
  ONE MORE OP WAS TRIED: the rows, the cells.
  No conditions but sizes.
-/
import Derived.Test.YthifdefjmfakgaaGreatGA
import Derived.Conc.MuLone
import Derived.KernelRfl
import Derived.Test.YthifdefjmfakgaaGreatH6
import Derived.Test.YthifdefjmfakgaaGreatGrTry
import Derived.Deep.LoopGhost
import Derived.Test.YthifdefjmfakgaaGreatH8
namespace Go.Proofs.YthifdefjmfakgaaGreat
open Go.Conc.Locks
abbrev muLink : MuLink := { lock := 65, unlock := 66, ilock := 108, iunlock := 109, lockSlow := 135, unlockSlow := 138, disable := 131, enable := 133, acquire := 134, relMerge := 136, cas32 := 132, add32 := 137, tMutex := 97, tIMutex := 95, tPMutex := 169, tPIMutex := 181, tPI32 := 183, tUP := 185, tNoCopy := 92, tU32 := 93 }
theorem muLib : MuLib Tryz.prog muLink := ⟨Tryz.func65, Tryz.func66, Tryz.func108, Tryz.func109, Tryz.func131, Tryz.func133, Tryz.func134, Tryz.func136, Tryz.func132, Tryz.func137, Tryz.underlying95, Tryz.runUnderlying95, Tryz.sizeOf95, Tryz.isAgg95, Tryz.zeroValue95, Tryz.underlying97, Tryz.runUnderlying97, Tryz.sizeOf97, Tryz.isAgg97, Tryz.zeroValue97, Tryz.underlying169, Tryz.runUnderlying169, Tryz.sizeOf169, Tryz.isAgg169, Tryz.zeroValue169, Tryz.underlying181, Tryz.runUnderlying181, Tryz.sizeOf181, Tryz.isAgg181, Tryz.zeroValue181, Tryz.underlying183, Tryz.runUnderlying183, Tryz.sizeOf183, Tryz.isAgg183, Tryz.zeroValue183, Tryz.underlying185, Tryz.runUnderlying185, Tryz.sizeOf185, Tryz.isAgg185, Tryz.zeroValue185, Tryz.underlying92, Tryz.runUnderlying92, Tryz.sizeOf92, Tryz.isAgg92, Tryz.zeroValue92, Tryz.underlying21, Tryz.runUnderlying21, Tryz.sizeOf21, Tryz.isAgg21, Tryz.zeroValue21, (by kernel_rfl)⟩
theorem lock_any (b : Nat) (w : World) (hc : w.cell? ⟨b, 0, none⟩ = some (.int .i32 0)) (hz : w.frozen? ⟨b, 0, none⟩ = false) :
    Calls Tryz.prog 65 #[.pointer (some ⟨b, 0, none⟩)] w fun e w' => e = .returned (.tuple #[]) ∧ w' = w.setCell ⟨b, 0, none⟩ (.int .i32 1) := Go.MuLone.lock_free muLib ⟨b, 0, none⟩ w hc hz
theorem unlock_any (b : Nat) (u : FrameMode) (w : World) (hc : w.cell? ⟨b, 0, none⟩ = some (.int .i32 1)) (hz : w.frozen? ⟨b, 0, none⟩ = false) :
    CallsD Tryz.prog 66 #[.pointer (some ⟨b, 0, none⟩)] u w fun e u' w' => u' = u ∧ (e = .returned (.tuple #[]) ∧ w' = w.setCell ⟨b, 0, none⟩ (.int .i32 0)) := Go.MuLone.unlock_deferred muLib ⟨b, 0, none⟩ u w hc hz
end Go.Proofs.YthifdefjmfakgaaGreat

namespace Go.Proofs.YthifdefjmfakgaaGreat
open Go.RowKit
open Tm (Sp Tr has put cut kids)

/-- which calls leave alone: the lock, the block, the lines -/
structure Like2 (X X' : Gx) : Prop where
  lk : X'.lk = X.lk
  b : X'.b = X.b
  po : X'.po = X.po
  ls : X'.ls = X.ls
theorem Like2.refl (X : Gx) : Like2 X X := ⟨rfl, rfl, rfl, rfl⟩
theorem Like2.trans {X Y Z : Gx} (h : Like2 X Y) (k : Like2 Y Z) : Like2 X Z := ⟨k.lk.trans h.lk, k.b.trans h.b, k.po.trans h.po, k.ls.trans h.ls⟩
theorem Like.two {X X' : Gx} (h : Like X X') : Like2 X X' := ⟨h.lk, h.b, h.po, h.ls⟩
theorem run_takeG {l : List Pm.Wr} {i : Nat} {x : Pm.Wr} (h : l[i]? = some x) : Gm.run (l.take (i + 1)) = Gm.aft (Gm.run (l.take i)) x := by
  rw [List.take_add_one, h]
  exact Gm.run_snoc _ _
theorem ops_newG {l : List Pm.Wr} (h : Gm.Ops l) {i : Nat} {x : Pm.Wr} (hx : l[i]? = some x) : (Gm.run (l.take i)).s x.s = none := by
  have h1 : l.take (i + 1) = l.take i ++ [x] := by rw [List.take_add_one, hx]; rfl
  have h2 := h.take (i + 1)
  rw [h1] at h2
  exact h2.new
/-- what takes the last one back: the graph as it was, and its row shorter -/
theorem Grf.back {w w5 : World} {X X5 : Gx} {χ χ5 : Nat → Nat} {k : Nat} (h : Grf w X χ) (hk : X.us.length = k + 1) (hc : Core w5 X5 χ5 (Gm.run (X.ops.take k))) (hl : Like X X5) (hg : Goes w χ w5 χ5) {p : Option Addr} {c : Nat} (hp : X.pu = .slice p (k + 1) c) :
    Grf (w5.setCell ⟨X.b, 3, none⟩ (.slice p k c)) { X5 with pu := .slice p k c, us := X.us.take k } χ5 := by
  have hru := hc.ru
  rw [hl.pu, hl.us, hp, hk] at hru
  have hpn : p ≠ none := fun e => by
    subst e
    obtain ⟨-, ⟨-, h2⟩ | ⟨g, cap, cur, hv, -⟩⟩ := hru
    · omega
    · cases hv
  have hr := own_take1 (m := k) hru (by omega) hpn
  rw [← List.map_take] at hr
  have hlen : (X.us.take k).length = k := by rw [List.length_take]; omega
  have hc2 := hc.setPu (.slice p k c) (X.us.take k) (by rw [hlen]; exact hr) (fun j hj => by
    have h1 := hc.cu j (by rw [hl.pu, hp]; cases p <;> exact hj)
    exact h1)
  have hops : X5.ops = X.ops := by unfold Gx.ops; rw [hl.ls]
  refine ⟨?_, ?_, fun i u x hu hx => ?_⟩
  · show Core _ _ χ5 (Gm.run (X5.ops.take (X.us.take k).length))
    rw [hlen, hops, ← hl.b]
    exact hc2
  · show (X.us.take k).length ≤ X5.ls.length
    rw [hlen, hl.ls]
    have := h.fewer
    omega
  · have hu' : (X.us.take k)[i]? = some u := hu
    have hx' : X5.ops[i]? = some x := hx
    rw [hops] at hx'
    have hik : i < k := by
      obtain ⟨h1, -⟩ := List.getElem?_eq_some_iff.1 hu'
      omega
    rw [List.getElem?_take_of_lt hik] at hu'
    show UkOk _ χ5 (Gm.run (X5.ops.take i)) x u
    rw [hops]
    refine (h.un i u x hu' hx').keep fun j hj => ?_
    have hlt := h.lt j (by rw [hj]; decide)
    refine ⟨(hg.keep j hlt).trans hj, ?_⟩
    have h1 := hg.turns.block j hlt (by rw [hj]; decide)
    have hne : j ≠ X.b := fun e => by rw [e, h.cb] at hj; cases hj
    exact ((set_turns X.b w5 3 _).block j (Nat.lt_of_lt_of_le hlt hg.turns.size) hne).trans h1
/-- what takeBack leaves -/
def Taken (X : Gx) (χ : Nat → Nat) (c : Nat) (w : World) (e : Ending) (w' : World) : Prop := e = .returned (.tuple #[]) ∧ ∃ X' χ', Grf w' X' χ' ∧ Like2 X X' ∧ X'.us = X.us.take c ∧ Goes w χ w' χ'
def UndoP (w : World) (X : Gx) (χ : Nat → Nat) (g : Gm.G) : Uk → Prop
  | .pass => Core w X χ g
  | .cr b => Calls Tryz.prog 140 #[ptV X.b, ptV b] w (Undone X χ g w)
  | .mv b c _ => Calls Tryz.prog 143 #[ptV X.b, ptV b, ptV c] w (Undone X χ g w)
  | .pt b c _ => Calls Tryz.prog 144 #[ptV X.b, ptV b, ptV c] w (Undone X χ g w)
/-- what takes the last op back that was tried -/
theorem undo_any {X : Gx} {χ : Nat → Nat} {k : Nat} {u : Uk} (w : World) (h : Grf w X χ) (hk : X.us.length = k + 1) (hu : X.us[k]? = some u) : UndoP w X χ (Gm.run (X.ops.take k)) u := by
  have hlt : k < X.ops.length := by unfold Gx.ops; rw [List.length_map]; have := h.fewer; omega
  obtain ⟨x, hx⟩ : ∃ x, X.ops[k]? = some x := ⟨_, List.getElem?_eq_getElem hlt⟩
  have hok := h.un k u x hu hx
  have hc := h.toCore
  rw [hk, run_takeG hx] at hc
  have hgd := (h.ops.take k).good
  have hnew := ops_newG h.ops hx
  have hxo := h.ops.ok x (List.mem_of_getElem? hx)
  obtain ⟨k1, k2, k3⟩ := Gm.okX_iff.1 hxo
  generalize Gm.run (X.ops.take k) = g at *
  cases u with
  | pass =>
    have h1 : Gm.tryG g x = none := hok
    unfold Gm.aft at hc
    rw [h1] at hc
    exact hc
  | cr b =>
    obtain ⟨e1, e2, e3⟩ := hok
    unfold Gm.aft Gm.tryG at hc
    rw [if_pos e1] at hc
    refine undoCr_any x.s (if Gm.has g (Gm.ref x.x) = true then Gm.ref x.x else (0, 1), x.x.key) w hc hgd k1 hnew ?_ e3 e2
    show Gm.has g (if Gm.has g (Gm.ref x.x) = true then Gm.ref x.x else (0, 1)) = true
    split
    · assumption
    · exact Gm.has_top Gm.top_trash
  | mv b c was =>
    obtain ⟨e1, e2, e3, e4, e5, e6, e7⟩ := hok
    unfold Gm.aft at hc
    unfold Gm.tryG at hc e2
    rw [if_neg (by omega)] at hc e2
    split at e2
    · cases e2
    · next hif =>
      rw [if_neg hif, if_pos e1] at hc
      exact undoMv_any (Gm.node x.x) (Gm.ref x.x, x.x.key) was w hc hgd e7 e5 e6 e3 e4
  | pt b c was =>
    obtain ⟨e1, e2, e3, e4, e5, e6, e7⟩ := hok
    unfold Gm.aft at hc
    unfold Gm.tryG at hc e2
    rw [if_neg (by omega)] at hc e2
    split at e2
    · cases e2
    · next hif =>
      rw [if_neg hif, if_neg (by omega)] at hc
      exact undoPt_any (Gm.node x.x) was w hc hgd (Gm.right_point k2 e1).1 e7 e5 e6

set_option maxRecDepth 100000 in
set_option maxHeartbeats 4000000 in
theorem takeBack_any {X : Gx} {χ : Nat → Nat} (c0 : Nat) (w : World) (h : Grf w X χ) (hc : c0 ≤ 100) :
    Calls Tryz.prog 39 #[ptV X.b, .int .i64 (c0 : Int)] w (Taken X χ c0 w) := by
  have HG0 := Lib.hid h
  have HC0 := Lib.hid hc
  clear h hc
  go_enter Tryz.func39, Tryz.ntmps39
  go_wp2_with fail
  go_loopg [] (X.us.length + 1) (fun gk wr => ∃ X' χ' m, Grf wr X' χ' ∧ Like2 X X' ∧ X'.us = X.us.take m ∧ X'.us.length = m ∧ (c0 ≤ m ∨ m = X.us.length) ∧ Goes w χ wr χ' ∧ m < gk)
  case atStart => exact ⟨X, χ, X.us.length, HG0.out, Like2.refl X, by rw [List.take_length], rfl, Or.inr rfl, Goes.refl _ _, Nat.lt_succ_self _⟩
  case round =>
    obtain ⟨X1, χ1, m, hG, hL, hu, hm, hcm, hgo, hlt⟩ := hrel
    obtain ⟨g1, rfl⟩ : ∃ g1, gk = g1 + 1 := ⟨gk - 1, by omega⟩
    have HG := Lib.hid hG
    have HL := Lib.hid hL
    have HU := Lib.hid (And.intro hu (And.intro hm (And.intro hcm (And.intro hgo hlt))))
    have hm60 : m ≤ 60 := by have := hG.fewer; have := hG.few; omega
    obtain ⟨p, c, hpu, hp0⟩ := own_sliceG hG.ru
    rw [hm] at hpu
    have HPU := Lib.hid hpu
    have HP0 := Lib.hid hp0
    have y3 : wr.cell? ⟨X.b, 3, none⟩ = some (.slice p m c) := by rw [← hL.b, ← hpu]; exact hG.cU
    have f3 : wr.frozen? ⟨X.b, 3, none⟩ = false := by rw [← hL.b]; exact hG.free 3
    clear hG hL hu hm hcm hgo hlt hpu hp0
    by_cases hgt : c0 < m
    · obtain ⟨k, rfl⟩ : ∃ k, m = k + 1 := ⟨m - 1, by omega⟩
      have d0 : decide ((c0 : Int) < ((k + 1 : Nat) : Int)) = true := decide_eq_true (by omega)
      have d1 : decide ((c0 : Int) < (k : Int) + 1) = true := decide_eq_true (by omega)
      have HGT := Lib.hid hgt
      obtain ⟨gu, hgu⟩ := HP0.out (by rw [HU.out.2.1]; omega)
      subst hgu
      obtain ⟨u, hu⟩ : ∃ u, X1.us[k]? = some u := ⟨_, List.getElem?_eq_getElem (by rw [HU.out.2.1]; omega)⟩
      have HUU := Lib.hid hu
      have yk : wr.cell? ⟨gu, k, none⟩ = some (Uk.val u) := by
        have h1 := HG.out.ru
        rw [HPU.out, HU.out.2.1] at h1
        exact own_1 h1 k _ (by rw [List.getElem?_map, hu]; rfl)
      have hw1 : IntKind.i64.wrap (((k : Int) + 1) - 1) = (k : Int) := by rw [wraps_i64 _ (by omega) (by omega)]; omega
      have hkc : k ≤ c := by
        have h1 := HG.out.ru
        rw [HPU.out, HU.out.2.1] at h1
        have := own_capG h1
        omega
      have HX := undo_any wr HG.out HU.out.2.1 hu
      have HNX := Lib.hid (fun (w5 : World) (X5 : Gx) (χ5 : Nat → Nat) (hc5 : Core w5 X5 χ5 (Gm.run (X1.ops.take k))) (hl5 : Like X1 X5) (hg5 : Goes wr χ1 w5 χ5) => show ∃ X' χ' m, Grf (w5.setCell ⟨X.b, 3, none⟩ (.slice (some ⟨gu, 0, none⟩) k c)) X' χ' ∧ Like2 X X' ∧ X'.us = X.us.take m ∧ X'.us.length = m ∧ (c0 ≤ m ∨ m = X.us.length) ∧ Goes w χ (w5.setCell ⟨X.b, 3, none⟩ (.slice (some ⟨gu, 0, none⟩) k c)) χ' ∧ m < g1 from by
        have hb := HG.out.back HU.out.2.1 hc5 hl5 hg5 HPU.out
        rw [HL.out.b] at hb
        have hlen : (X1.us.take k).length = k := by rw [List.length_take, HU.out.2.1]; omega
        refine ⟨_, _, k, hb, ⟨hl5.lk.trans HL.out.lk, hl5.b.trans HL.out.b, hl5.po.trans HL.out.po, hl5.ls.trans HL.out.ls⟩, ?_, hlen, Or.inl (by have := HGT.out; omega), ?_, by have := HU.out.2.2.2.2; omega⟩
        · show X1.us.take k = X.us.take k
          rw [HU.out.1, List.take_take, Nat.min_eq_left (Nat.le_succ k)]
        · have h1 := goes_set hc5 3 (.slice (some ⟨gu, 0, none⟩) k c)
          rw [hl5.b, HL.out.b] at h1
          exact (HU.out.2.2.2.1.trans hg5).trans h1)
      have HY := Lib.hid (fun (w5 : World) (X5 : Gx) (χ5 : Nat → Nat) (hc5 : Core w5 X5 χ5 (Gm.run (X1.ops.take k))) (hl5 : Like X1 X5) => show w5.cell? ⟨X.b, 3, none⟩ = some (.slice (some ⟨gu, 0, none⟩) (k + 1) c) ∧ w5.frozen? ⟨X.b, 3, none⟩ = false from by
        rw [← HL.out.b, ← hl5.b, ← HPU.out, ← hl5.pu]
        exact ⟨hc5.cU, hc5.free 3⟩)
      clear hgt hu
      cases u with
      | pass =>
        have hcp : Core wr X1 χ1 (Gm.run (X1.ops.take k)) := HX
        have HN := Lib.hid (HNX.out wr X1 χ1 hcp (Like.refl X1) (Goes.refl _ _))
        have hnn : ∀ W, Sem.run Tryz.prog (binOp BinOp.neq 106 Value.nilFunc Value.nilFunc) W = .ok (.bool false) W := fun W => by kernel_rfl
        have yk' : wr.cell? ⟨gu, k, none⟩ = some .nilFunc := yk
        clear HNX HY hcp yk HX
        go_wp2_with (refine wpList_value (by kernel_rfl) (fnR.take rfl rfl rfl hkc) ?_)
        go_roundg g1
        case rel => exact HN.out
        case measure => omega
      | cr b =>
        have hcall : Calls Tryz.prog 140 _ wr (Undone X1 χ1 (Gm.run (X1.ops.take k)) wr) := HX
        rw [HL.out.b] at hcall
        have HCL := Lib.hid hcall
        have hnn : ∀ W, Sem.run Tryz.prog (binOp BinOp.neq 106 (Uk.val (.cr b)) Value.nilFunc) W = .ok (.bool true) W := fun W => by kernel_rfl
        simp only [Uk.val] at hnn
        have yk' := yk
        simp only [Uk.val] at yk'
        clear HX hcall yk
        go_upto_region 5 with (go_at_call 140; refine HCL.out.mono ?_; rintro e w5 ⟨rfl, X5, χ5, hc5, hl5, hg5⟩)
        have HN := Lib.hid (HNX.out w5 X5 χ5 hc5 hl5 hg5)
        obtain ⟨y5, f5⟩ := HY.out w5 X5 χ5 hc5 hl5
        clear HNX HY HCL hc5 hl5 hg5 y3 f3 yk'
        go_wp2_with (refine wpList_value (by kernel_rfl) (fnR.take rfl rfl rfl hkc) ?_)
        go_roundg g1
        case rel => exact HN.out
        case measure => omega
      | mv b c0_ was =>
        have hcall : Calls Tryz.prog 143 _ wr (Undone X1 χ1 (Gm.run (X1.ops.take k)) wr) := HX
        rw [HL.out.b] at hcall
        have HCL := Lib.hid hcall
        have hnn : ∀ W, Sem.run Tryz.prog (binOp BinOp.neq 106 (Uk.val (.mv b c0_ was)) Value.nilFunc) W = .ok (.bool true) W := fun W => by kernel_rfl
        simp only [Uk.val] at hnn
        have yk' := yk
        simp only [Uk.val] at yk'
        clear HX hcall yk
        go_upto_region 5 with (go_at_call 143; refine HCL.out.mono ?_; rintro e w5 ⟨rfl, X5, χ5, hc5, hl5, hg5⟩)
        have HN := Lib.hid (HNX.out w5 X5 χ5 hc5 hl5 hg5)
        obtain ⟨y5, f5⟩ := HY.out w5 X5 χ5 hc5 hl5
        clear HNX HY HCL hc5 hl5 hg5 y3 f3 yk'
        go_wp2_with (refine wpList_value (by kernel_rfl) (fnR.take rfl rfl rfl hkc) ?_)
        go_roundg g1
        case rel => exact HN.out
        case measure => omega
      | pt b c0_ was =>
        have hcall : Calls Tryz.prog 144 _ wr (Undone X1 χ1 (Gm.run (X1.ops.take k)) wr) := HX
        rw [HL.out.b] at hcall
        have HCL := Lib.hid hcall
        have hnn : ∀ W, Sem.run Tryz.prog (binOp BinOp.neq 106 (Uk.val (.pt b c0_ was)) Value.nilFunc) W = .ok (.bool true) W := fun W => by kernel_rfl
        simp only [Uk.val] at hnn
        have yk' := yk
        simp only [Uk.val] at yk'
        clear HX hcall yk
        go_upto_region 5 with (go_at_call 144; refine HCL.out.mono ?_; rintro e w5 ⟨rfl, X5, χ5, hc5, hl5, hg5⟩)
        have HN := Lib.hid (HNX.out w5 X5 χ5 hc5 hl5 hg5)
        obtain ⟨y5, f5⟩ := HY.out w5 X5 χ5 hc5 hl5
        clear HNX HY HCL hc5 hl5 hg5 y3 f3 yk'
        go_wp2_with (refine wpList_value (by kernel_rfl) (fnR.take rfl rfl rfl hkc) ?_)
        go_roundg g1
        case rel => exact HN.out
        case measure => omega
    · have d0 : decide ((c0 : Int) < (m : Int)) = false := decide_eq_false (by omega)
      have d1 : decide (c0 < m) = false := decide_eq_false hgt
      have HE := Lib.hid (show Taken X χ c0 w (.returned (.tuple #[])) wr from ⟨rfl, X1, χ1, HG.out, HL.out, by
        rcases HU.out.2.2.1 with h1 | h1
        · rw [HU.out.1, show m = c0 from by omega]
        · rw [HU.out.1, h1, List.take_length, List.take_of_length_le (by omega)], HU.out.2.2.2.1⟩)
      clear HG HL HU hgt
      go_wp2
      go_end0
      exact HE.out
end Go.Proofs.YthifdefjmfakgaaGreat

namespace Go.Proofs.YthifdefjmfakgaaGreat
open Go.RowKit
open Tm (Sp Tr has put cut kids)

/-- the state's own cells and rows turned -/
theorem Core.rows {w w' : World} {X : Gx} {χ χ' : Nat → Nat} {g : Gm.G} (h : Core w X χ g) (ht : Turns (fun k => χ k = 1 ∨ χ k = 2 ∨ χ k = 3) w w') (hχ : ∀ k, χ k ≠ 0 → χ' k = χ k) (hl : ∀ k, χ' k ≠ 0 → k < w'.heap.size) (lk : Int) (po pu : Value) (ls : List (Pm.Wr × Nat)) (us : List Uk)
    (ha : AgAt w' X.b ({ X with lk := lk, po := po, pu := pu, us := us, ls := ls } : Gx).cells) (ro : w'.ownsRow 0 104 1 po ls.length (ls.map fun e => ptV e.2)) (co : ∀ k, po.ownBlock = some k → χ' k = 2)
    (ru : w'.ownsRow 0 106 1 pu us.length (us.map Uk.val)) (cu : ∀ k, pu.ownBlock = some k → χ' k = 3) (ln : ∀ e ∈ ls, χ' e.2 = 6 ∧ AgAt w' e.2 (lnA e.1)) (ops : Gm.Ops (ls.map Prod.fst)) (few : ls.length ≤ 60)
    (dom : ∀ n, (g.s n).isSome = true → ∃ e ∈ ls, e.1.s = n) : Core w' { X with lk := lk, po := po, pu := pu, us := us, ls := ls } χ' g := by
  have h4 : ∀ k, χ k = 4 → ¬ (χ k = 1 ∨ χ k = 2 ∨ χ k = 3) := fun k hk => by omega
  have h5 : ∀ k, χ k = 5 → ¬ (χ k = 1 ∨ χ k = 2 ∨ χ k = 3) := fun k hk => by omega
  exact ⟨hl, ha, (hχ _ (by rw [h.cb]; decide)).trans h.cb, ro, co, ru, cu, (h.tree.turns ht h4).more (fun k hk => (hχ k (by rw [hk]; decide)).trans hk) (fun k hk => hl k (by rw [hk]; decide)),
    (h.ms.turns ht h5).more (fun k hk => (hχ k (by rw [hk]; decide)).trans hk) (fun k hk => hl k (by rw [hk]; decide)), ln, h.tk, h.hs, h.hm, h.good, ops, few, dom⟩
/-- a row's new block gets its colour -/
def rowed (χ : Nat → Nat) (v : Value) (c : Nat) : Nat → Nat := fun k => if χ k ≠ 0 then χ k else if v.ownBlock = some k then c else 0
theorem rowed_old {χ : Nat → Nat} {v : Value} {c k : Nat} (h : χ k ≠ 0) : rowed χ v c k = χ k := if_pos h
theorem rowed_own {χ : Nat → Nat} {v : Value} {c k : Nat} (hv : v.ownBlock = some k) (h : χ k = 0 ∨ χ k = c) : rowed χ v c k = c := by
  unfold rowed
  split
  · next e => exact h.resolve_left e
  · first | rfl | rw [if_pos hv]
theorem rowed_none {χ : Nat → Nat} {v : Value} {c k : Nat} (h : rowed χ v c k ≠ 0) : χ k ≠ 0 ∨ v.ownBlock = some k := by
  unfold rowed at h
  split at h
  · next e => exact Or.inl e
  · split at h
    · next e => exact Or.inr e
    · exact absurd rfl h
theorem Grf.setLk {w : World} {X : Gx} {χ : Nat → Nat} (h : Grf w X χ) (lk : Int) : Grf (w.setCell ⟨X.b, 0, none⟩ (.int .i32 lk)) { X with lk := lk } χ :=
  ⟨h.toCore.setLk lk, h.fewer, fun i u x hu hx => (h.un i u x hu hx).keep fun k hk => ⟨hk, (set_turns X.b w 0 _).block k (h.lt k (by rw [hk]; decide)) fun e => by rw [e, h.cb] at hk; cases hk⟩⟩
/-- one more was tried -/
theorem Grf.push {w1 w5 wa w6 : World} {X1 X5 : Gx} {χ1 χ5 : Nat → Nat} {m : Nat} {x : Pm.Wr} {u : Uk} (h : Grf w1 X1 χ1) (hm : X1.us.length = m) (hx : X1.ops[m]? = some x) (hc : Core w5 X5 χ5 (Gm.aft (Gm.run (X1.ops.take m)) x)) (hl : Like X1 X5) (hg : Goes w1 χ1 w5 χ5)
    (hu : UkOk w5 χ5 (Gm.run (X1.ops.take m)) x u) (hba : Below w5.heap.size w5 wa) {p : Option Addr} {c : Nat} (ho : w6.ownsRow 0 106 1 (.slice p (m + 1) c) (m + 1) (X1.us.map Uk.val ++ [Uk.val u])) (hgr : wa.grownBy w6 X1.pu.ownBlock)
    (hne : ∀ g, (Value.slice p (m + 1) c).ownBlock = some g → X1.pu.ownBlock = some g ∨ wa.heap.size ≤ g) :
    ∃ X' χ', Grf (w6.setCell ⟨X1.b, 3, none⟩ (.slice p (m + 1) c)) X' χ' ∧ Like2 X1 X' ∧ X'.us = X1.us ++ [u] ∧ Goes w1 χ1 (w6.setCell ⟨X1.b, 3, none⟩ (.slice p (m + 1) c)) χ' := by
  have hca := hc.kept hba
  have hops : X5.ops = X1.ops := by unfold Gx.ops; rw [hl.ls]
  have hT : Turns (fun k => χ5 k = 1 ∨ χ5 k = 2 ∨ χ5 k = 3) wa (w6.setCell ⟨X1.b, 3, none⟩ (.slice p (m + 1) c)) := by
    refine ((Turns.of_grown hgr).mono fun k _ hk => Or.inr (Or.inr (hc.cu k (by rw [hl.pu]; exact hk)))).trans ((set_turns X1.b w6 3 _).mono fun k _ hk => Or.inl (Or.inl ?_))
    rw [hk, ← hl.b]; exact hc.cb
  have hpb : ∀ k, X1.pu.ownBlock = some k → χ5 k = 3 := fun k hk => hc.cu k (by rw [hl.pu]; exact hk)
  have hXb : χ5 X1.b = 1 := by rw [← hl.b]; exact hc.cb
  have hnb : X1.pu.ownBlock ≠ some X1.b := fun e => by have := hpb _ e; rw [hXb] at this; cases this
  have hnew : ∀ k, (Value.slice p (m + 1) c).ownBlock = some k → χ5 k = 0 ∨ χ5 k = 3 := fun k hk => by
    rcases hne k hk with h1 | h1
    · exact Or.inr (hpb k h1)
    · exact Or.inl (hca.zero h1)
  have hsz : wa.heap.size ≤ w6.heap.size := (Turns.of_grown hgr).size
  have hlen : (X1.us ++ [u]).length = m + 1 := by rw [List.length_append, hm]; rfl
  have hrow : w6.ownsRow 0 106 1 (.slice p (m + 1) c) (X1.us ++ [u]).length ((X1.us ++ [u]).map Uk.val) := by rw [hlen, List.map_append]; exact ho
  have hat : AgAt w6 X1.b X5.cells := by
    have h1 := hca.at_
    rw [hl.b] at h1
    exact AgAt.block h1 ((Turns.of_grown hgr).block _ (AgAt.lt h1) hnb)
  have hcells : AgAt (w6.setCell ⟨X1.b, 3, none⟩ (.slice p (m + 1) c)) X5.b ({ X5 with lk := X5.lk, po := X5.po, pu := .slice p (m + 1) c, us := X1.us ++ [u], ls := X5.ls } : Gx).cells := by
    rw [hl.b]
    exact hat.put 3 _
  have hcore := hca.rows (w' := w6.setCell ⟨X1.b, 3, none⟩ (.slice p (m + 1) c)) (χ' := rowed χ5 (.slice p (m + 1) c) 3) hT (fun k hk => rowed_old hk) (fun k hk => by
      rcases rowed_none hk with h1 | h1
      · exact Nat.lt_of_lt_of_le (hca.lt k h1) hT.size
      · have := (World.ownsRow.lt ho k h1).2
        simpa using this) X5.lk X5.po (.slice p (m + 1) c) X5.ls (X1.us ++ [u]) hcells ?_ (fun k hk => (rowed_old (by rw [hca.co k hk]; decide)).trans (hca.co k hk)) ?_ (fun k hk => rowed_own hk (hnew k hk))
      (fun e he => ⟨(rowed_old (by rw [(hca.ln e he).1]; decide)).trans (hca.ln e he).1, (hca.ln e he).2.block (hT.block _ (hca.ln e he).2.lt (by rw [(hca.ln e he).1]; decide))⟩) hc.ops hc.few hc.dom
  · refine ⟨{ X5 with lk := X5.lk, po := X5.po, pu := .slice p (m + 1) c, us := X1.us ++ [u], ls := X5.ls }, rowed χ5 (.slice p (m + 1) c) 3, ⟨?_, ?_, fun i v y hv hy => ?_⟩, ⟨hl.lk, hl.b, hl.po, hl.ls⟩, rfl, ?_⟩
    · show Core _ _ _ (Gm.run (X5.ops.take (X1.us ++ [u]).length))
      rw [hlen, hops, run_takeG hx]
      exact hcore
    · show (X1.us ++ [u]).length ≤ X5.ls.length
      rw [hlen, hl.ls]
      have := (List.getElem?_eq_some_iff.1 hx).1
      unfold Gx.ops at this
      rw [List.length_map] at this
      omega
    · have hv' : (X1.us ++ [u])[i]? = some v := hv
      have hy' : X5.ops[i]? = some y := hy
      show UkOk _ _ (Gm.run (X5.ops.take i)) y v
      rw [hops] at hy' ⊢
      have hkeep : ∀ k, χ5 k = 6 → rowed χ5 (.slice p (m + 1) c) 3 k = 6 ∧ (w6.setCell ⟨X1.b, 3, none⟩ (.slice p (m + 1) c)).heap[k]? = w5.heap[k]? := fun k hk => by
        have hlt := hc.lt k (by rw [hk]; decide)
        refine ⟨(rowed_old (by rw [hk]; decide)).trans hk, ?_⟩
        exact (hT.block k (Nat.lt_of_lt_of_le hlt hba.size) (by rw [hk]; decide)).trans (hba.block k hlt)
      rw [List.getElem?_append] at hv'
      split at hv'
      · next hlt =>
        refine (h.un i v y hv' hy').keep fun k hk => ?_
        have hlk := h.lt k (by rw [hk]; decide)
        have h5 := (hg.keep k hlk).trans hk
        have h6 := hkeep k h5
        exact ⟨h6.1, h6.2.trans (hg.turns.block k hlk (by rw [hk]; decide))⟩
      · next hge =>
        have him : i = m := by
          have := (List.getElem?_eq_some_iff.1 hv').1
          simp at this
          omega
        subst him
        rw [hm, Nat.sub_self] at hv'
        have : u = v := by simpa using hv'
        subst this
        rw [hx] at hy'
        cases hy'
        exact hu.keep hkeep
    · refine hg.trans ((Goes.of_below hba).trans ⟨hT.mono fun k _ hk => by omega, fun k hk => ?_⟩)
      unfold rowed
      split
      · rfl
      · next e =>
        have e0 : χ5 k = 0 := by omega
        rw [e0]
        split
        · next hk2 =>
          rcases hne k hk2 with h1 | h1
          · rw [hpb k h1] at e0; cases e0
          · omega
        · rfl
  · refine (set_turns X1.b w6 3 _).own ?_ (fun k hk e => by subst e; have := hca.co _ hk; rw [hXb] at this; cases this)
    exact (Turns.of_grown hgr).own hca.ro (fun k hk e => by have h1 := hca.co k hk; rw [hpb k e] at h1; cases h1)
  · refine (set_turns X1.b w6 3 _).own hrow (fun k hk e => ?_)
    subst e
    rcases hnew _ hk with h1 | h1
    · rw [hXb] at h1; cases h1
    · rw [hXb] at h1; cases h1
end Go.Proofs.YthifdefjmfakgaaGreat
