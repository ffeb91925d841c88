/-
  VALUEFORMS: what the walk carries; the walk; the form that the step to the statement takes. Conditions: the row's listed variables ('Laid').
-/
import Derived.Test.YtfakbbbkfmnnhaaGreatDoorLaidB
import Derived.LaidLaws
import Derived.Stop.LaidErr
import Derived.Lib.LaidTab
import Derived.LaidHandle
import Derived.MakeChecks
import Derived.Test.YtfakbbbkfmnnhaaGreatDoorVRight8
import Derived.Test.YtfakbbbkfmnnhaaGreatDoorVMA
import Derived.Test.YtfakbbbkfmnnhaaGreatDoorVMB
import Derived.Deep.RegionHeld3
import Derived.Deep.DeepCutAuto
namespace Go.Proofs.YtfakbbbkfmnnhaaGreatDoor

section
open Go.RowKit Go.ChangeShapes

theorem powData : (Rows.laid_internal_strconv_uint64pow10 : DataW Unit) = Lib.tabData .u64 Lib.pow10Tab := by kernel_rfl
theorem typePow : (Tryz.prog.globals[2]?).map (·.type) = some 121 := by kernel_rfl
theorem typeSyn : (Tryz.prog.globals[0]?).map (·.type) = some 75 := by kernel_rfl
theorem typeRan : (Tryz.prog.globals[1]?).map (·.type) = some 75 := by kernel_rfl
theorem cellsPow : Tryz.prog.cellsOf 121 = 20 := by kernel_rfl
theorem cellsU64 : Tryz.prog.cellsOf 87 = 1 := by kernel_rfl
theorem cellsES : Tryz.prog.cellsOf 127 = 1 := by kernel_rfl
theorem cellsStr : Tryz.prog.cellsOf 9 = 1 := by kernel_rfl
theorem starES : "*" ++ "errors.errorString" = "*errors.errorString" := by decide
theorem rowES (u : TypeId) (h : Tryz.prog.typeName? 3 u = some "*errors.errorString") : u = 125 :=
  typeName_ptr_named (nm := "errors.errorString") (by rw [starES]; kernel_rfl) (by kernel_rfl) (by decide) u (by rw [starES]; exact h)

theorem laid_of_list {W : World} {r : List (String × DataW Unit)} (h : laidMet Tryz.prog (("math/bits.deBruijn32tab", Rows.laid_math_bits_deBruijn32tab) :: ("math/bits.deBruijn64tab", Rows.laid_math_bits_deBruijn64tab) :: ("internal/strconv.uint64pow10", Rows.laid_internal_strconv_uint64pow10) :: ("strconv.ErrRange", Rows.laid_strconv_ErrRange) :: ("strconv.ErrSyntax", Rows.laid_strconv_ErrSyntax) :: r) W) : Laid W := by
  have h2 := h.tail.tail
  have h3 := h2.tail
  rw [powData] at h2
  obtain ⟨a0, s0, hv0, -, -, -⟩ := laid_sentinel h3 gRan typeRan Tryz.underlying75 rowES Tryz.underlying125 Tryz.underlying127 rfl rfl Tryz.underlying9 cellsES cellsStr
  obtain ⟨a1, s1, hv1, -, -, -⟩ := laid_sentinel h3.tail gSyn typeSyn Tryz.underlying75 rowES Tryz.underlying125 Tryz.underlying127 rfl rfl Tryz.underlying9 cellsES cellsStr
  exact ⟨Lib.tabIs_of_head gPow typePow Tryz.underlying121 Tryz.underlying87 cellsU64 cellsPow h2, ⟨_, _, hv1⟩, _, _, hv0⟩

end

section
open Go.RowKit

theorem VTwo.only {w0 w w' : World} {k n k' n' : Int} {t t' : ByteArray} {b : Nat} (h : VTwo w0 k n t k' n' t' w) (ho : Only b w w') (hb : w0.heap.size + 1 < b) : VTwo w0 k n t k' n' t' w' :=
  ⟨h.1.only ho (by omega), h.2.1.only ho (by omega), ho.below h.2.2 (by omega) h.2.2.size⟩
/-- what region 7 needs, and what comes behind it -/
def SF (w0 : World) (k n : Int) (t : ByteArray) (k' n' : Int) (t' : ByteArray) (px : Option Addr) (x : List UInt8) (P1 P2 : Nat) (pk pn : Int) (pt : ByteArray) (g cap : Nat) (l2 : List UInt8) (Br bR Bq bQ : Nat) (w : World) : Prop :=
  VTwo w0 k n t k' n' t' w ∧ Bs w px x ∧ (ThreeAt w P1 pk pn pt ∧ ThreeAt w P2 pk pn pt) ∧ Own 5 w w0.heap.size (.slice (some ⟨g, 0, none⟩) (l2.length + 2) cap) (l2 ++ [61, 62]) ∧ Rdr w Br bR l2 0 ∧ RRdr w Bq bQ l2 0
theorem SF.kept {w0 w w' : World} {k n : Int} {t : ByteArray} {k' n' : Int} {t' : ByteArray} {px : Option Addr} {x : List UInt8} {P1 P2 : Nat} {pk pn : Int} {pt : ByteArray} {g cap : Nat} {l2 : List UInt8} {Br bR Bq bQ : Nat} (h : SF w0 k n t k' n' t' px x P1 P2 pk pn pt g cap l2 Br bR Bq bQ w) (hb : Below w.heap.size w w') : SF w0 k n t k' n' t' px x P1 P2 pk pn pt g cap l2 Br bR Bq bQ w' := by
  obtain ⟨h1, h2, ⟨h4, h5⟩, h6, h7, h8⟩ := h
  exact ⟨h1.kept hb, h2.kept hb, ⟨h4.kept hb, h5.kept hb⟩, h6.below hb, h7.kept hb, h8.kept hb⟩
theorem put_err (k n : Int) (t : List UInt8) : (putV k n t).2 = (if Vm.rightV k n t = true then 0 else 1) := by unfold putV; split <;> rfl

end

section
open Go.RowKit

set_option maxRecDepth 100000 in
set_option maxHeartbeats 20000000 in
theorem valueForms_go (k n : Int) (t : ByteArray) (k' n' : Int) (t' : ByteArray) (p2 : Option Addr) (c2 : Nat) (l2 : List UInt8) (s : ByteArray) (p : Int) (w : World)
    (ht : t.size ≤ 140737488351232) (ht' : t'.size ≤ 140737488351232) (hbs : Bs w p2 l2) (hp2 : p2 = none → c2 = 0) (hl2 : l2.length ≤ 140737488351232) (hss : s.size ≤ 140737488351232) (hL : Laid w) :
    Calls Tryz.prog 3 #[.agg #[.int .i64 k, .int .i64 n, .string t], .agg #[.int .i64 k', .int .i64 n', .string t'], .slice p2 l2.length c2, .string s, .int .i64 p] w fun e w' => e = .returned (.bool true) ∧ Below w.heap.size w w' := by
  have F1 := Lib.hid (VTwo.start w k n t k' n' t')
  have HBS := Lib.hid hbs
  have HL := Lib.hid hL
  have HLent := Lib.hid (lent_any p2 c2 l2 _ (hbs.kept F1.out.2.2) (by omega) hp2)
  have HPA := Lib.hid (fun W h => vparse_any s W (by omega) h)
  have HRP := Lib.hid (fun W => refVparse_any s W (by omega))
  rw [parseV_alike] at HPA
  generalize refParseV s.data.toList = q at *
  obtain ⟨pk, pn, ptl, pok⟩ := q
  dsimp only at HPA HRP
  generalize strV ptl = pt at *
  have HPW := Lib.hid (fun W => vput_any k n t W (by omega))
  have HRW := Lib.hid (fun W => refVput_any k n t W (by omega))
  have HEN := Lib.hid (put_err k n t.data.toList)
  generalize putV k n t.data.toList = pw at *
  obtain ⟨x, en⟩ := pw
  dsimp only at HPW HRW HEN
  clear hbs hL
  go_enter Tryz.func3, Tryz.ntmps3
  go_wp2_with fail
  refine HLent.out.mono ?_
  rintro e w1 ⟨g, cap, rfl, hown1, hb1, hcap⟩
  have HO1 := Lib.hid (hown1.base (show w.heap.size ≤ _ by simp; omega))
  have F2 := Lib.hid (F1.out.kept hb1)
  have hg1 : w.heap.size + 2 ≤ g ∧ g < w1.heap.size := by
    obtain ⟨p, c, e, -, -, -, -, hh⟩ := hown1.bs
    simp only [Value.slice.injEq] at e
    have := hh ⟨g, 0, none⟩ e.1.symm
    simpa using this
  have HC1 := Lib.hid hcap
  have hbg : Bs w1 (some ⟨g, 0, none⟩) l2 := fun h0 => ⟨g, 0, rfl, fun i hi => by
    rw [Nat.zero_add, hown1.cell i (by simp; omega), by8_app_l _ _ _ hi]⟩
  have HOp := Lib.hid (open_any (some ⟨g, 0, none⟩) cap l2 w1 hbg (by omega) (fun h => by cases h))
  clear hown1 hb1 hbg hcap
  go_wp2_with fail
  refine HOp.out.mono ?_
  rintro e w2 ⟨bR, rfl, hr2, hb2⟩
  have hbR : w1.heap.size ≤ bR ∧ bR < w2.heap.size := ⟨hr2.1, hr2.lt⟩
  have HR2 := Lib.hid hr2
  have HO2 := Lib.hid (HO1.out.below hb2)
  have F3 := Lib.hid (F2.out.kept hb2)
  clear hr2 hb2
  have HRO := Lib.hid (refOpen_any p2 c2 l2 w2 (HBS.out.kept F3.out.2.2) (by omega) hp2)
  go_wp2_with fail
  refine HRO.out.mono ?_
  rintro e w3 ⟨bQ, rfl, hq3, hb3⟩
  have hbQ : w2.heap.size ≤ bQ ∧ bQ < w3.heap.size := ⟨hq3.1, hq3.lt⟩
  have HQ3 := Lib.hid hq3
  have HR3 := Lib.hid (HR2.out.kept hb3)
  have HO3 := Lib.hid (HO2.out.below hb3)
  have F4 := Lib.hid (F3.out.kept hb3)
  clear hq3 hb3
  have z0 := F4.out.1.cell0
  have z1 := F4.out.1.cell1
  have z2 := F4.out.1.cell2
  go_wp2_with fail
  refine (HPW.out _).mono ?_
  rintro e w4 ⟨vx, rfl, hown4, hb4⟩
  dsimp only at hown4
  obtain ⟨px, kx, rfl, hbsx, -⟩ := hown4.bs
  have HX4 := Lib.hid hbsx
  have HQ4 := Lib.hid (HQ3.out.kept hb4)
  have HR4 := Lib.hid (HR3.out.kept hb4)
  have HO4 := Lib.hid (HO3.out.below hb4)
  have F5 := Lib.hid (F4.out.kept hb4)
  clear hown4 hbsx hb4 z0 z1 z2
  go_wp2_with fail
  refine (HPA.out _ (HL.out.kept F5.out.2.2)).mono ?_
  rintro e w6 ⟨rfl, hb6⟩
  have hb6' := hb6.trans (((Below.refl w6.heap.size w6).alloc (Nat.le_refl _) (.cells #[.int .i64 pk, .int .i64 pn, .string pt] 23)).mono hb6.size)
  have HT6 := Lib.hid (ThreeAt.start w6 pk pn pt)
  have HX6 := Lib.hid (HX4.out.kept hb6')
  have HQ6 := Lib.hid (HQ4.out.kept hb6')
  have HR6 := Lib.hid (HR4.out.kept hb6')
  have HO6 := Lib.hid (HO4.out.below hb6')
  have F7 := Lib.hid (F5.out.kept hb6')
  clear hb6 hb6'
  go_wp2_with fail
  refine (HRP.out _).mono ?_
  rintro e w7 ⟨rfl, hb7⟩
  have hb7' := hb7.trans (((Below.refl w7.heap.size w7).alloc (Nat.le_refl _) (.cells #[.int .i64 pk, .int .i64 pn, .string pt] 23)).mono hb7.size)
  have S8a := Lib.hid (show SF w k n t k' n' t' px x w6.heap.size w7.heap.size pk pn pt g cap l2 w1.heap.size bR w2.heap.size bQ _ from ⟨F7.out.kept hb7', HX6.out.kept hb7', ⟨HT6.out.kept hb7', ThreeAt.start w7 pk pn pt⟩, HO6.out.below hb7', HR6.out.kept hb7', HQ6.out.kept hb7'⟩)
  clear hb7 hb7'
  go_upto_region 7 with fail
  go_cut [74] (fun s74 wx => s74 = .bool false ∧ SF w k n t k' n' t' px x w6.heap.size w7.heap.size pk pn pt g cap l2 w1.heap.size bR w2.heap.size bQ wx)
  case first =>
    have HRR := Lib.hid (fun W => refVRight_any k n t W (by omega))
    cases hRB : Vm.rightV k n t.data.toList with
    | true =>
      obtain rfl : en = 0 := by have h := HEN.out; rw [hRB, if_pos rfl] at h; exact h
      rw [hRB] at HRR
      clear hRB
      refine wp_region_held_drew (S := (SF w k n t k' n' t' px x w6.heap.size w7.heap.size pk pn pt g cap l2 w1.heap.size bR w2.heap.size bQ)) (by kernel_rfl) (S8a.out.kept ((Below.refl _ _).drew)) (fun hS => ?_)
      refine wpAnyH_take (i := 0) (v := ?_) rfl (by kernel_rfl) (by kernel_rfl) (by kernel_rfl) (fun _ _ _ h => h) (Or.inl ⟨by kernel_rfl, ?_⟩) hS ?_
      rotate_left
      · intro W hSW
        go_simp
        all_goals with_reducible rfl
      refine wpAnyH_take (i := 1) (v := ?_) rfl (by kernel_rfl) (by kernel_rfl) (by kernel_rfl) (fun _ _ _ h => h) (Or.inl ⟨by kernel_rfl, ?_⟩) hS ?_
      rotate_left
      · intro W hSW
        have k1 := hSW.2.1.conv (P := Tryz.prog) kx 24 5 9 Tryz.underlying24 Tryz.underlying5 Tryz.underlying9
        go_simp
        all_goals with_reducible rfl
      refine wpAnyH_take (i := 2) (v := ?_) rfl (by kernel_rfl) (by kernel_rfl) (by kernel_rfl) (fun _ _ _ h => h) (Or.inl ⟨by kernel_rfl, ?_⟩) hS ?_
      rotate_left
      · intro W hSW
        have a0 := hSW.1.1.cell0
        have a1 := hSW.1.1.cell1
        have a2 := hSW.1.1.cell2
        go_simp
        all_goals with_reducible rfl
      refine wpAnyH_ready (rs := [3]) (by kernel_rfl) (by simp) ?_
      refine AllReadyH.cons rfl (fun K hK => ?_) AllReadyH.nil
      go_simp
      go_wp2_with ((go_at_call 10; refine (HRW.out _).mono ?_; rintro e w8 ⟨vy, rfl, hown8, hbn⟩; obtain ⟨py, ky, rfl, hbsy, hrest⟩ := hown8.bs; have HY := Lib.hid hbsy; clear hown8 hbsy hrest))
      refine hK.out _ _ (hS.kept hbn) (fun hS => ?_)
      clear hK K
      refine wpAnyH_ready (rs := [4]) (by kernel_rfl) (by simp) ?_
      refine AllReadyH.cons rfl (fun K hK => ?_) AllReadyH.nil
      have k2 := HY.out.conv (P := Tryz.prog) ky 24 5 9 Tryz.underlying24 Tryz.underlying5 Tryz.underlying9
      go_simp
      refine hK.out _ _ hS (fun hS => ?_)
      clear hK K
      clear k2
      refine wpAnyH_take (i := 5) (v := ?_) rfl (by kernel_rfl) (by kernel_rfl) (by kernel_rfl) (fun _ _ _ h => h) (Or.inl ⟨by kernel_rfl, ?_⟩) hS ?_
      rotate_left
      · intro W hSW
        go_simp
        all_goals with_reducible rfl
      refine wpAnyH_take (i := 6) (v := ?_) rfl (by kernel_rfl) (by kernel_rfl) (by kernel_rfl) (fun _ _ _ h => h) (Or.inl ⟨by kernel_rfl, ?_⟩) hS ?_
      rotate_left
      · intro W hSW
        go_simp
        all_goals with_reducible rfl
      refine wpAnyH_take (i := 7) (v := ?_) rfl (by kernel_rfl) (by kernel_rfl) (by kernel_rfl) (fun _ _ _ h => h) (Or.inl ⟨by kernel_rfl, ?_⟩) hS ?_
      rotate_left
      · intro W hSW
        go_simp
        all_goals with_reducible rfl
      refine wpAnyH_take (i := 10) (v := ?_) rfl (by kernel_rfl) (by kernel_rfl) (by kernel_rfl) (fun _ _ _ h => h) (Or.inl ⟨by kernel_rfl, ?_⟩) hS ?_
      rotate_left
      · intro W hSW
        have a0 := hSW.1.1.cell0
        have a1 := hSW.1.1.cell1
        have a2 := hSW.1.1.cell2
        go_simp
        all_goals with_reducible rfl
      refine wpAnyH_ready (rs := [8]) (by kernel_rfl) (by simp) ?_
      refine AllReadyH.cons rfl (fun K hK => ?_) AllReadyH.nil
      go_simp
      go_wp2_with ((go_at_call 11; refine (lawNum3_any 0 _).mono ?_; rintro e w' ⟨rfl, rfl⟩))
      refine hK.out _ _ hS (fun hS => ?_)
      clear hK K
      refine wpAnyH_take (i := 9) (v := ?_) rfl (by kernel_rfl) (by kernel_rfl) (by kernel_rfl) (fun _ _ _ h => h) (Or.inl ⟨by kernel_rfl, ?_⟩) hS ?_
      rotate_left
      · intro W hSW
        go_simp
        all_goals with_reducible rfl
      refine wpAnyH_ready (rs := [11]) (by kernel_rfl) (by simp) ?_
      refine AllReadyH.cons rfl (fun K hK => ?_) AllReadyH.nil
      go_simp
      go_wp2_with ((go_at_call 12; refine (HRR.out _).mono ?_; rintro e wn ⟨rfl, hbn⟩))
      refine hK.out _ _ (hS.kept hbn) (fun hS => ?_)
      clear hK K
      refine wpAnyH_take (i := 12) (v := ?_) rfl (by kernel_rfl) (by kernel_rfl) (by kernel_rfl) (fun _ _ _ h => h) (Or.inl ⟨by kernel_rfl, ?_⟩) hS ?_
      rotate_left
      · intro W hSW
        go_simp
        all_goals with_reducible rfl
      refine wpAnyH_take (i := 13) (v := ?_) rfl (by kernel_rfl) (by kernel_rfl) (by kernel_rfl) (fun _ _ _ h => h) (Or.inl ⟨by kernel_rfl, ?_⟩) hS ?_
      rotate_left
      · intro W hSW
        go_simp
        all_goals with_reducible rfl
      refine wpAnyH_take (i := 14) (v := ?_) rfl (by kernel_rfl) (by kernel_rfl) (by kernel_rfl) (fun _ _ _ h => h) (Or.inl ⟨by kernel_rfl, ?_⟩) hS ?_
      rotate_left
      · intro W hSW
        go_simp
        all_goals with_reducible rfl
      refine wpAnyH_take (i := 15) (v := ?_) rfl (by kernel_rfl) (by kernel_rfl) (by kernel_rfl) (fun _ _ _ h => h) (Or.inl ⟨by kernel_rfl, ?_⟩) hS ?_
      rotate_left
      · intro W hSW
        have a0 := hSW.1.1.cell0
        have a1 := hSW.1.1.cell1
        have a2 := hSW.1.1.cell2
        go_simp
        all_goals with_reducible rfl
      refine wpAnyH_ready (rs := [16]) (by kernel_rfl) (by simp) ?_
      refine AllReadyH.cons rfl (fun K hK => ?_) AllReadyH.nil
      go_simp
      go_wp2_with ((go_at_call 12; refine (HRR.out _).mono ?_; rintro e wn ⟨rfl, hbn⟩))
      refine hK.out _ _ (hS.kept hbn) (fun hS => ?_)
      clear hK K
      refine wpAnyH_take (i := 17) (v := ?_) rfl (by kernel_rfl) (by kernel_rfl) (by kernel_rfl) (fun _ _ _ h => h) (Or.inl ⟨by kernel_rfl, ?_⟩) hS ?_
      rotate_left
      · intro W hSW
        go_simp
        all_goals with_reducible rfl
      refine wpAnyH_take (i := 18) (v := ?_) rfl (by kernel_rfl) (by kernel_rfl) (by kernel_rfl) (fun _ _ _ h => h) (Or.inl ⟨by kernel_rfl, ?_⟩) hS ?_
      rotate_left
      · intro W hSW
        go_simp
        all_goals with_reducible rfl
      go_simp
      refine wpAnyH_take (i := 19) (v := undef) rfl (by kernel_rfl) (by kernel_rfl) (by kernel_rfl) (fun _ _ _ h => h) (Or.inr ⟨by kernel_rfl, rfl⟩) hS ?_
      refine wpAnyH_take (i := 20) (v := undef) rfl (by kernel_rfl) (by kernel_rfl) (by kernel_rfl) (fun _ _ _ h => h) (Or.inr ⟨by kernel_rfl, rfl⟩) hS ?_
      go_simp
      refine wpAnyH_take (i := 21) (v := undef) rfl (by kernel_rfl) (by kernel_rfl) (by kernel_rfl) (fun _ _ _ h => h) (Or.inr ⟨by kernel_rfl, rfl⟩) hS ?_
      go_simp
      refine wpAnyH_take (i := 22) (v := ?_) rfl (by kernel_rfl) (by kernel_rfl) (by kernel_rfl) (fun _ _ _ h => h) (Or.inl ⟨by kernel_rfl, ?_⟩) hS ?_
      rotate_left
      · intro W hSW
        go_simp
        all_goals with_reducible rfl
      refine wpAnyH_take (i := 23) (v := ?_) rfl (by kernel_rfl) (by kernel_rfl) (by kernel_rfl) (fun _ _ _ h => h) (Or.inl ⟨by kernel_rfl, ?_⟩) hS ?_
      rotate_left
      · intro W hSW
        go_simp
        all_goals with_reducible rfl
      refine wpAnyH_take (i := 24) (v := ?_) rfl (by kernel_rfl) (by kernel_rfl) (by kernel_rfl) (fun _ _ _ h => h) (Or.inl ⟨by kernel_rfl, ?_⟩) hS ?_
      rotate_left
      · intro W hSW
        go_simp
        all_goals with_reducible rfl
      refine wpAnyH_take (i := 25) (v := ?_) rfl (by kernel_rfl) (by kernel_rfl) (by kernel_rfl) (fun _ _ _ h => h) (Or.inl ⟨by kernel_rfl, ?_⟩) hS ?_
      rotate_left
      · intro W hSW
        have y0 := hSW.2.2.1.1.cell0
        have y1 := hSW.2.2.1.1.cell1
        have y2 := hSW.2.2.1.1.cell2
        go_simp
        all_goals with_reducible rfl
      refine wpAnyH_take (i := 26) (v := ?_) rfl (by kernel_rfl) (by kernel_rfl) (by kernel_rfl) (fun _ _ _ h => h) (Or.inl ⟨by kernel_rfl, ?_⟩) hS ?_
      rotate_left
      · intro W hSW
        have u0 := hSW.2.2.1.2.cell0
        have u1 := hSW.2.2.1.2.cell1
        have u2 := hSW.2.2.1.2.cell2
        go_simp
        all_goals with_reducible rfl
      refine wpAnyH_take (i := 27) (v := ?_) rfl (by kernel_rfl) (by kernel_rfl) (by kernel_rfl) (fun _ _ _ h => h) (Or.inl ⟨by kernel_rfl, ?_⟩) hS ?_
      rotate_left
      · intro W hSW
        go_simp
        all_goals with_reducible rfl
      refine wpAnyH_take (i := 28) (v := ?_) rfl (by kernel_rfl) (by kernel_rfl) (by kernel_rfl) (fun _ _ _ h => h) (Or.inl ⟨by kernel_rfl, ?_⟩) hS ?_
      rotate_left
      · intro W hSW
        go_simp
        all_goals with_reducible rfl
      refine wpAnyH_take (i := 29) (v := ?_) rfl (by kernel_rfl) (by kernel_rfl) (by kernel_rfl) (fun _ _ _ h => h) (Or.inl ⟨by kernel_rfl, ?_⟩) hS ?_
      rotate_left
      · intro W hSW
        go_simp
        all_goals with_reducible rfl
      refine wpAnyH_take (i := 30) (v := ?_) rfl (by kernel_rfl) (by kernel_rfl) (by kernel_rfl) (fun _ _ _ h => h) (Or.inl ⟨by kernel_rfl, ?_⟩) hS ?_
      rotate_left
      · intro W hSW
        go_simp
        all_goals with_reducible rfl
      refine wpAnyH_take (i := 31) (v := ?_) rfl (by kernel_rfl) (by kernel_rfl) (by kernel_rfl) (fun _ _ _ h => h) (Or.inl ⟨by kernel_rfl, ?_⟩) hS ?_
      rotate_left
      · intro W hSW
        go_simp
        all_goals with_reducible rfl
      refine wpAnyH_take (i := 32) (v := ?_) rfl (by kernel_rfl) (by kernel_rfl) (by kernel_rfl) (fun _ _ _ h => h) (Or.inl ⟨by kernel_rfl, ?_⟩) hS ?_
      rotate_left
      · intro W hSW
        go_simp
        all_goals with_reducible rfl
      refine wpAnyH_take (i := 33) (v := ?_) rfl (by kernel_rfl) (by kernel_rfl) (by kernel_rfl) (fun _ _ _ h => h) (Or.inl ⟨by kernel_rfl, ?_⟩) hS ?_
      rotate_left
      · intro W hSW
        go_simp
        all_goals with_reducible rfl
      refine wpAnyH_done (by kernel_rfl) ?_ _
      have HS9 := Lib.hid hS
      clear hS
      go_simp
      go_wp2_with fail
      go_meet
      exact ⟨rfl, HS9.out⟩
    | false =>
      obtain rfl : en = 1 := by have h := HEN.out; rw [hRB, if_neg (by simp)] at h; exact h
      rw [hRB] at HRR
      clear hRB
      refine wp_region_held_drew (S := (SF w k n t k' n' t' px x w6.heap.size w7.heap.size pk pn pt g cap l2 w1.heap.size bR w2.heap.size bQ)) (by kernel_rfl) (S8a.out.kept ((Below.refl _ _).drew)) (fun hS => ?_)
      refine wpAnyH_take (i := 0) (v := ?_) rfl (by kernel_rfl) (by kernel_rfl) (by kernel_rfl) (fun _ _ _ h => h) (Or.inl ⟨by kernel_rfl, ?_⟩) hS ?_
      rotate_left
      · intro W hSW
        go_simp
        all_goals with_reducible rfl
      refine wpAnyH_take (i := 1) (v := ?_) rfl (by kernel_rfl) (by kernel_rfl) (by kernel_rfl) (fun _ _ _ h => h) (Or.inl ⟨by kernel_rfl, ?_⟩) hS ?_
      rotate_left
      · intro W hSW
        have k1 := hSW.2.1.conv (P := Tryz.prog) kx 24 5 9 Tryz.underlying24 Tryz.underlying5 Tryz.underlying9
        go_simp
        all_goals with_reducible rfl
      refine wpAnyH_take (i := 2) (v := ?_) rfl (by kernel_rfl) (by kernel_rfl) (by kernel_rfl) (fun _ _ _ h => h) (Or.inl ⟨by kernel_rfl, ?_⟩) hS ?_
      rotate_left
      · intro W hSW
        have a0 := hSW.1.1.cell0
        have a1 := hSW.1.1.cell1
        have a2 := hSW.1.1.cell2
        go_simp
        all_goals with_reducible rfl
      refine wpAnyH_ready (rs := [3]) (by kernel_rfl) (by simp) ?_
      refine AllReadyH.cons rfl (fun K hK => ?_) AllReadyH.nil
      go_simp
      go_wp2_with ((go_at_call 10; refine (HRW.out _).mono ?_; rintro e w8 ⟨vy, rfl, hown8, hbn⟩; obtain ⟨py, ky, rfl, hbsy, hrest⟩ := hown8.bs; have HY := Lib.hid hbsy; clear hown8 hbsy hrest))
      refine hK.out _ _ (hS.kept hbn) (fun hS => ?_)
      clear hK K
      refine wpAnyH_ready (rs := [4]) (by kernel_rfl) (by simp) ?_
      refine AllReadyH.cons rfl (fun K hK => ?_) AllReadyH.nil
      have k2 := HY.out.conv (P := Tryz.prog) ky 24 5 9 Tryz.underlying24 Tryz.underlying5 Tryz.underlying9
      go_simp
      refine hK.out _ _ hS (fun hS => ?_)
      clear hK K
      clear k2
      refine wpAnyH_take (i := 5) (v := ?_) rfl (by kernel_rfl) (by kernel_rfl) (by kernel_rfl) (fun _ _ _ h => h) (Or.inl ⟨by kernel_rfl, ?_⟩) hS ?_
      rotate_left
      · intro W hSW
        go_simp
        all_goals with_reducible rfl
      refine wpAnyH_take (i := 6) (v := ?_) rfl (by kernel_rfl) (by kernel_rfl) (by kernel_rfl) (fun _ _ _ h => h) (Or.inl ⟨by kernel_rfl, ?_⟩) hS ?_
      rotate_left
      · intro W hSW
        go_simp
        all_goals with_reducible rfl
      refine wpAnyH_take (i := 7) (v := ?_) rfl (by kernel_rfl) (by kernel_rfl) (by kernel_rfl) (fun _ _ _ h => h) (Or.inl ⟨by kernel_rfl, ?_⟩) hS ?_
      rotate_left
      · intro W hSW
        go_simp
        all_goals with_reducible rfl
      refine wpAnyH_take (i := 10) (v := ?_) rfl (by kernel_rfl) (by kernel_rfl) (by kernel_rfl) (fun _ _ _ h => h) (Or.inl ⟨by kernel_rfl, ?_⟩) hS ?_
      rotate_left
      · intro W hSW
        have a0 := hSW.1.1.cell0
        have a1 := hSW.1.1.cell1
        have a2 := hSW.1.1.cell2
        go_simp
        all_goals with_reducible rfl
      refine wpAnyH_ready (rs := [8]) (by kernel_rfl) (by simp) ?_
      refine AllReadyH.cons rfl (fun K hK => ?_) AllReadyH.nil
      go_simp
      go_wp2_with ((go_at_call 11; refine (lawNum3_any 1 _).mono ?_; rintro e w' ⟨rfl, rfl⟩))
      refine hK.out _ _ hS (fun hS => ?_)
      clear hK K
      refine wpAnyH_take (i := 9) (v := ?_) rfl (by kernel_rfl) (by kernel_rfl) (by kernel_rfl) (fun _ _ _ h => h) (Or.inl ⟨by kernel_rfl, ?_⟩) hS ?_
      rotate_left
      · intro W hSW
        go_simp
        all_goals with_reducible rfl
      refine wpAnyH_ready (rs := [11]) (by kernel_rfl) (by simp) ?_
      refine AllReadyH.cons rfl (fun K hK => ?_) AllReadyH.nil
      go_simp
      go_wp2_with ((go_at_call 12; refine (HRR.out _).mono ?_; rintro e wn ⟨rfl, hbn⟩))
      refine hK.out _ _ (hS.kept hbn) (fun hS => ?_)
      clear hK K
      refine wpAnyH_take (i := 12) (v := ?_) rfl (by kernel_rfl) (by kernel_rfl) (by kernel_rfl) (fun _ _ _ h => h) (Or.inl ⟨by kernel_rfl, ?_⟩) hS ?_
      rotate_left
      · intro W hSW
        go_simp
        all_goals with_reducible rfl
      refine wpAnyH_take (i := 13) (v := ?_) rfl (by kernel_rfl) (by kernel_rfl) (by kernel_rfl) (fun _ _ _ h => h) (Or.inl ⟨by kernel_rfl, ?_⟩) hS ?_
      rotate_left
      · intro W hSW
        go_simp
        all_goals with_reducible rfl
      refine wpAnyH_take (i := 14) (v := ?_) rfl (by kernel_rfl) (by kernel_rfl) (by kernel_rfl) (fun _ _ _ h => h) (Or.inl ⟨by kernel_rfl, ?_⟩) hS ?_
      rotate_left
      · intro W hSW
        go_simp
        all_goals with_reducible rfl
      refine wpAnyH_take (i := 15) (v := ?_) rfl (by kernel_rfl) (by kernel_rfl) (by kernel_rfl) (fun _ _ _ h => h) (Or.inl ⟨by kernel_rfl, ?_⟩) hS ?_
      rotate_left
      · intro W hSW
        have a0 := hSW.1.1.cell0
        have a1 := hSW.1.1.cell1
        have a2 := hSW.1.1.cell2
        go_simp
        all_goals with_reducible rfl
      refine wpAnyH_ready (rs := [16]) (by kernel_rfl) (by simp) ?_
      refine AllReadyH.cons rfl (fun K hK => ?_) AllReadyH.nil
      go_simp
      go_wp2_with ((go_at_call 12; refine (HRR.out _).mono ?_; rintro e wn ⟨rfl, hbn⟩))
      refine hK.out _ _ (hS.kept hbn) (fun hS => ?_)
      clear hK K
      refine wpAnyH_take (i := 17) (v := ?_) rfl (by kernel_rfl) (by kernel_rfl) (by kernel_rfl) (fun _ _ _ h => h) (Or.inl ⟨by kernel_rfl, ?_⟩) hS ?_
      rotate_left
      · intro W hSW
        go_simp
        all_goals with_reducible rfl
      refine wpAnyH_take (i := 18) (v := ?_) rfl (by kernel_rfl) (by kernel_rfl) (by kernel_rfl) (fun _ _ _ h => h) (Or.inl ⟨by kernel_rfl, ?_⟩) hS ?_
      rotate_left
      · intro W hSW
        go_simp
        all_goals with_reducible rfl
      refine wpAnyH_take (i := 19) (v := ?_) rfl (by kernel_rfl) (by kernel_rfl) (by kernel_rfl) (fun _ _ _ h => h) (Or.inl ⟨by kernel_rfl, ?_⟩) hS ?_
      rotate_left
      · intro W hSW
        go_simp
        all_goals with_reducible rfl
      refine wpAnyH_ready (rs := [20]) (by kernel_rfl) (by simp) ?_
      refine AllReadyH.cons rfl (fun K hK => ?_) AllReadyH.nil
      go_simp
      go_wp2_with ((go_at_call 11; refine (lawNum3_any 1 _).mono ?_; rintro e w' ⟨rfl, rfl⟩))
      refine hK.out _ _ hS (fun hS => ?_)
      clear hK K
      refine wpAnyH_take (i := 21) (v := ?_) rfl (by kernel_rfl) (by kernel_rfl) (by kernel_rfl) (fun _ _ _ h => h) (Or.inl ⟨by kernel_rfl, ?_⟩) hS ?_
      rotate_left
      · intro W hSW
        go_simp
        all_goals with_reducible rfl
      refine wpAnyH_take (i := 22) (v := ?_) rfl (by kernel_rfl) (by kernel_rfl) (by kernel_rfl) (fun _ _ _ h => h) (Or.inl ⟨by kernel_rfl, ?_⟩) hS ?_
      rotate_left
      · intro W hSW
        go_simp
        all_goals with_reducible rfl
      refine wpAnyH_take (i := 23) (v := ?_) rfl (by kernel_rfl) (by kernel_rfl) (by kernel_rfl) (fun _ _ _ h => h) (Or.inl ⟨by kernel_rfl, ?_⟩) hS ?_
      rotate_left
      · intro W hSW
        go_simp
        all_goals with_reducible rfl
      refine wpAnyH_take (i := 24) (v := ?_) rfl (by kernel_rfl) (by kernel_rfl) (by kernel_rfl) (fun _ _ _ h => h) (Or.inl ⟨by kernel_rfl, ?_⟩) hS ?_
      rotate_left
      · intro W hSW
        go_simp
        all_goals with_reducible rfl
      refine wpAnyH_take (i := 25) (v := ?_) rfl (by kernel_rfl) (by kernel_rfl) (by kernel_rfl) (fun _ _ _ h => h) (Or.inl ⟨by kernel_rfl, ?_⟩) hS ?_
      rotate_left
      · intro W hSW
        have y0 := hSW.2.2.1.1.cell0
        have y1 := hSW.2.2.1.1.cell1
        have y2 := hSW.2.2.1.1.cell2
        go_simp
        all_goals with_reducible rfl
      refine wpAnyH_take (i := 26) (v := ?_) rfl (by kernel_rfl) (by kernel_rfl) (by kernel_rfl) (fun _ _ _ h => h) (Or.inl ⟨by kernel_rfl, ?_⟩) hS ?_
      rotate_left
      · intro W hSW
        have u0 := hSW.2.2.1.2.cell0
        have u1 := hSW.2.2.1.2.cell1
        have u2 := hSW.2.2.1.2.cell2
        go_simp
        all_goals with_reducible rfl
      refine wpAnyH_take (i := 27) (v := ?_) rfl (by kernel_rfl) (by kernel_rfl) (by kernel_rfl) (fun _ _ _ h => h) (Or.inl ⟨by kernel_rfl, ?_⟩) hS ?_
      rotate_left
      · intro W hSW
        go_simp
        all_goals with_reducible rfl
      refine wpAnyH_take (i := 28) (v := ?_) rfl (by kernel_rfl) (by kernel_rfl) (by kernel_rfl) (fun _ _ _ h => h) (Or.inl ⟨by kernel_rfl, ?_⟩) hS ?_
      rotate_left
      · intro W hSW
        go_simp
        all_goals with_reducible rfl
      refine wpAnyH_take (i := 29) (v := ?_) rfl (by kernel_rfl) (by kernel_rfl) (by kernel_rfl) (fun _ _ _ h => h) (Or.inl ⟨by kernel_rfl, ?_⟩) hS ?_
      rotate_left
      · intro W hSW
        go_simp
        all_goals with_reducible rfl
      refine wpAnyH_take (i := 30) (v := ?_) rfl (by kernel_rfl) (by kernel_rfl) (by kernel_rfl) (fun _ _ _ h => h) (Or.inl ⟨by kernel_rfl, ?_⟩) hS ?_
      rotate_left
      · intro W hSW
        go_simp
        all_goals with_reducible rfl
      refine wpAnyH_take (i := 31) (v := ?_) rfl (by kernel_rfl) (by kernel_rfl) (by kernel_rfl) (fun _ _ _ h => h) (Or.inl ⟨by kernel_rfl, ?_⟩) hS ?_
      rotate_left
      · intro W hSW
        go_simp
        all_goals with_reducible rfl
      refine wpAnyH_take (i := 32) (v := ?_) rfl (by kernel_rfl) (by kernel_rfl) (by kernel_rfl) (fun _ _ _ h => h) (Or.inl ⟨by kernel_rfl, ?_⟩) hS ?_
      rotate_left
      · intro W hSW
        go_simp
        all_goals with_reducible rfl
      refine wpAnyH_take (i := 33) (v := ?_) rfl (by kernel_rfl) (by kernel_rfl) (by kernel_rfl) (fun _ _ _ h => h) (Or.inl ⟨by kernel_rfl, ?_⟩) hS ?_
      rotate_left
      · intro W hSW
        go_simp
        all_goals with_reducible rfl
      refine wpAnyH_done (by kernel_rfl) ?_ _
      have HS9 := Lib.hid hS
      clear hS
      go_simp
      go_wp2_with fail
      go_meet
      exact ⟨rfl, HS9.out⟩
  case rest =>
    obtain ⟨rfl, hS⟩ := hcut
    have S9 := Lib.hid hS
    clear hS S8a
    have HTR := Lib.hid (fun W h => vtake_any w1.heap.size bR l2 W h)
    have HRT := Lib.hid (fun W h => refVtake_any w2.heap.size bQ l2 W h)
    generalize takeV l2 = tk at *
    obtain ⟨ta, tb, tcl, lr, er⟩ := tk
    dsimp only at HTR HRT
    generalize strB tcl = tc at *
    go_upto_region 9 with fail
    have hdw := Below.drew (Below.refl wc.heap.size wc)
    have S10 := Lib.hid (S9.out.kept hdw)
    clear hdw
    refine wp_region_any (by kernel_rfl) ?_
    try (change wpAny _ _ _ _ _ _ _ (World.drew _))
    refine wpAny_take (i := 0) (v := ?_) rfl (by kernel_rfl) (by kernel_rfl) (by kernel_rfl) (fun _ _ _ h => h) (Or.inl ⟨by kernel_rfl, ?_⟩) ?_
    rotate_left
    · intro w; go_simp
      all_goals with_reducible rfl
    refine wpAny_take (i := 2) (v := ?_) rfl (by kernel_rfl) (by kernel_rfl) (by kernel_rfl) (fun _ _ _ h => h) (Or.inl ⟨by kernel_rfl, ?_⟩) ?_
    rotate_left
    · intro w; go_simp
      all_goals with_reducible rfl
    refine wpAny_ready (rs := [1]) (by kernel_rfl) (by simp) ?_
    refine AllReady.cons rfl (fun K hK => ?_) AllReady.nil
    go_simp
    go_wp2_with ((go_at_call 13; refine (HTR.out _ S10.out.2.2.2.2.1).mono ?_; rintro e w9 ⟨rfl, hr9, ho9⟩))
    have HW9 := Lib.hid (hr9.weak)
    have HQ9 := Lib.hid (S10.out.2.2.2.2.2.only ho9 (by omega))
    have HO9 := Lib.hid (OwnX.only S10.out.2.2.2.1 ho9 (by omega))
    have F9 := Lib.hid (S10.out.1.only ho9 (by omega))
    clear hr9 ho9
    try (refine hK _ _ ?_)
    try (clear hK K)
    refine wpAny_ready (rs := [3]) (by kernel_rfl) (by simp) ?_
    refine AllReady.cons rfl (fun K hK => ?_) AllReady.nil
    go_simp
    go_wp2_with ((go_at_call 14; refine (HRT.out _ HQ9.out).mono ?_; rintro e w10 ⟨rfl, hq10, ho10⟩))
    have HQ10 := Lib.hid hq10
    have HW10 := Lib.hid (HW9.out.only ho10 (by omega))
    have HO10 := Lib.hid (OwnX.only HO9.out ho10 (by omega))
    have F10 := Lib.hid (F9.out.only ho10 (by omega))
    clear hq10 ho10
    try (refine hK _ _ ?_)
    try (clear hK K)
    refine wpAny_take (i := 4) (v := ?_) rfl (by kernel_rfl) (by kernel_rfl) (by kernel_rfl) (fun _ _ _ h => h) (Or.inl ⟨by kernel_rfl, ?_⟩) ?_
    rotate_left
    · intro w; go_simp
      all_goals with_reducible rfl
    refine wpAny_take (i := 5) (v := ?_) rfl (by kernel_rfl) (by kernel_rfl) (by kernel_rfl) (fun _ _ _ h => h) (Or.inl ⟨by kernel_rfl, ?_⟩) ?_
    rotate_left
    · intro w; go_simp
      all_goals with_reducible rfl
    refine wpAny_take (i := 6) (v := ?_) rfl (by kernel_rfl) (by kernel_rfl) (by kernel_rfl) (fun _ _ _ h => h) (Or.inl ⟨by kernel_rfl, ?_⟩) ?_
    rotate_left
    · intro w; go_simp
      all_goals with_reducible rfl
    refine wpAny_take (i := 8) (v := ?_) rfl (by kernel_rfl) (by kernel_rfl) (by kernel_rfl) (fun _ _ _ h => h) (Or.inl ⟨by kernel_rfl, ?_⟩) ?_
    rotate_left
    · intro w; go_simp
      all_goals with_reducible rfl
    refine wpAny_ready (rs := [7]) (by kernel_rfl) (by simp) ?_
    refine AllReady.cons rfl (fun K hK => ?_) AllReady.nil
    go_simp
    go_wp2_with ((go_at_call 15; refine (left_weak bR lr.length er _ HW10.out).mono ?_; rintro e w' ⟨rfl, rfl⟩))
    try (refine hK _ _ ?_)
    try (clear hK K)
    refine wpAny_ready (rs := [9]) (by kernel_rfl) (by simp) ?_
    refine AllReady.cons rfl (fun K hK => ?_) AllReady.nil
    go_simp
    go_wp2_with ((go_at_call 16; refine (refLeft_any _ bQ lr er _ HQ10.out).mono ?_; rintro e w11 ⟨rfl, hb11⟩))
    have HQ11 := Lib.hid (HQ10.out.kept hb11)
    have HW11 := Lib.hid (HW10.out.kept hb11)
    have HO11 := Lib.hid (HO10.out.below hb11)
    have F11 := Lib.hid (F10.out.kept hb11)
    clear hb11
    try (refine hK _ _ ?_)
    try (clear hK K)
    refine wpAny_take (i := 10) (v := ?_) rfl (by kernel_rfl) (by kernel_rfl) (by kernel_rfl) (fun _ _ _ h => h) (Or.inl ⟨by kernel_rfl, ?_⟩) ?_
    rotate_left
    · intro w; go_simp
      all_goals with_reducible rfl
    refine wpAny_take (i := 11) (v := ?_) rfl (by kernel_rfl) (by kernel_rfl) (by kernel_rfl) (fun _ _ _ h => h) (Or.inl ⟨by kernel_rfl, ?_⟩) ?_
    rotate_left
    · intro w; go_simp
      all_goals with_reducible rfl
    refine wpAny_take (i := 12) (v := ?_) rfl (by kernel_rfl) (by kernel_rfl) (by kernel_rfl) (fun _ _ _ h => h) (Or.inl ⟨by kernel_rfl, ?_⟩) ?_
    rotate_left
    · intro w; go_simp
      all_goals with_reducible rfl
    refine wpAny_take (i := 13) (v := ?_) rfl (by kernel_rfl) (by kernel_rfl) (by kernel_rfl) (fun _ _ _ h => h) (Or.inl ⟨by kernel_rfl, ?_⟩) ?_
    rotate_left
    · intro w; go_simp
      all_goals with_reducible rfl
    refine wpAny_take (i := 16) (v := ?_) rfl (by kernel_rfl) (by kernel_rfl) (by kernel_rfl) (fun _ _ _ h => h) (Or.inl ⟨by kernel_rfl, ?_⟩) ?_
    rotate_left
    · intro w; go_simp
      all_goals with_reducible rfl
    refine wpAny_take (i := 17) (v := ?_) rfl (by kernel_rfl) (by kernel_rfl) (by kernel_rfl) (fun _ _ _ h => h) (Or.inl ⟨by kernel_rfl, ?_⟩) ?_
    rotate_left
    · intro w; go_simp
      all_goals with_reducible rfl
    refine wpAny_take (i := 18) (v := ?_) rfl (by kernel_rfl) (by kernel_rfl) (by kernel_rfl) (fun _ _ _ h => h) (Or.inl ⟨by kernel_rfl, ?_⟩) ?_
    rotate_left
    · intro w; go_simp
      all_goals with_reducible rfl
    refine wpAny_of_held (S := fun W => W.cell? ⟨bQ, 2, none⟩ = some (.int .i64 (er : Int))) _ _ _ _ ?_
    have hS : w11.cell? ⟨bQ, 2, none⟩ = some (.int .i64 (er : Int)) := HQ11.out.2.1
    refine wpAnyH_take (i := 19) (v := ?_) rfl (by kernel_rfl) (by kernel_rfl) (by kernel_rfl) (fun _ _ _ h => h) (Or.inl ⟨by kernel_rfl, ?_⟩) hS ?_
    rotate_left
    · intro W hSW
      have x0 := hSW
      go_simp
      all_goals with_reducible rfl
    refine wpAnyH_ready (rs := [14]) (by kernel_rfl) (by simp) ?_
    refine AllReadyH.cons rfl (fun K hK => ?_) AllReadyH.nil
    go_simp
    go_wp2_with ((go_at_call 17; refine (err_weak bR lr.length er _ HW11.out).mono ?_; rintro e w' ⟨rfl, rfl⟩))
    refine hK.out _ _ hS (fun hS => ?_)
    clear hK K
    refine wpAnyH_ready (rs := [15]) (by kernel_rfl) (by simp) ?_
    refine AllReadyH.cons rfl (fun K hK => ?_) AllReadyH.nil
    go_simp
    go_wp2_with ((go_at_call 11; refine (lawNum3_any _ _).mono ?_; rintro e w' ⟨rfl, rfl⟩))
    refine hK.out _ _ hS (fun hS => ?_)
    clear hK K
    refine wpAnyH_take (i := 20) (v := ?_) rfl (by kernel_rfl) (by kernel_rfl) (by kernel_rfl) (fun _ _ _ h => h) (Or.inl ⟨by kernel_rfl, ?_⟩) hS ?_
    rotate_left
    · intro W hSW
      go_simp
      all_goals with_reducible rfl
    refine wpAnyH_take (i := 21) (v := ?_) rfl (by kernel_rfl) (by kernel_rfl) (by kernel_rfl) (fun _ _ _ h => h) (Or.inl ⟨by kernel_rfl, ?_⟩) hS ?_
    rotate_left
    · intro W hSW
      go_simp
      all_goals with_reducible rfl
    refine wpAnyH_take (i := 22) (v := ?_) rfl (by kernel_rfl) (by kernel_rfl) (by kernel_rfl) (fun _ _ _ h => h) (Or.inl ⟨by kernel_rfl, ?_⟩) hS ?_
    rotate_left
    · intro W hSW
      go_simp
      all_goals with_reducible rfl
    refine wpAnyH_take (i := 23) (v := ?_) rfl (by kernel_rfl) (by kernel_rfl) (by kernel_rfl) (fun _ _ _ h => h) (Or.inl ⟨by kernel_rfl, ?_⟩) hS ?_
    rotate_left
    · intro W hSW
      go_simp
      all_goals with_reducible rfl
    refine wpAnyH_take (i := 24) (v := ?_) rfl (by kernel_rfl) (by kernel_rfl) (by kernel_rfl) (fun _ _ _ h => h) (Or.inl ⟨by kernel_rfl, ?_⟩) hS ?_
    rotate_left
    · intro W hSW
      go_simp
      all_goals with_reducible rfl
    have HSY := Lib.hid (fun W (hO : Own 5 W w.heap.size (.slice (some ⟨g, 0, none⟩) (l2.length + 2) cap) (l2 ++ [61, 62])) (hB : Bs W p2 l2) => stays_any _ g cap p2 c2 l2 W hO HC1.out hB (by omega))
    refine wpAnyH_ready (rs := [25]) (by kernel_rfl) (by simp) ?_
    refine AllReadyH.cons rfl (fun K hK => ?_) AllReadyH.nil
    go_simp
    go_wp2_with ((go_at_call 18; refine (HSY.out _ HO11.out (HBS.out.kept F11.out.2.2)).mono ?_; rintro e w13 ⟨rfl, qn, rfl⟩))
    refine hK.out _ _ hS (fun hS => ?_)
    clear hK K
    refine wpAnyH_take (i := 26) (v := ?_) rfl (by kernel_rfl) (by kernel_rfl) (by kernel_rfl) (fun _ _ _ h => h) (Or.inl ⟨by kernel_rfl, ?_⟩) hS ?_
    rotate_left
    · intro W hSW
      go_simp
      all_goals with_reducible rfl
    refine wpAnyH_take (i := 27) (v := ?_) rfl (by kernel_rfl) (by kernel_rfl) (by kernel_rfl) (fun _ _ _ h => h) (Or.inl ⟨by kernel_rfl, ?_⟩) hS ?_
    rotate_left
    · intro W hSW
      go_simp
      all_goals with_reducible rfl
    refine wpAnyH_done (by kernel_rfl) ?_ _
    clear hS
    have F13 := Lib.hid (F11.out.kept (below_drewN (Below.refl _ _) qn))
    go_simp
    have HVR := Lib.hid (fun W => vright_any k n t W (by omega))
    have HVQ := Lib.hid (fun W => refVRight_any k n t W (by omega))
    have HPR := Lib.hid (fun W h => vprint_all k n t W h (by omega))
    have HPQ := Lib.hid (fun W => refVprint_any k n t W (by omega))
    have HR8 := Lib.hid (fun W => vright8_any p k n t W (by omega))
    have HQ8 := Lib.hid (fun W => refVright8_any p k n t W (by omega))
    have HSM := Lib.hid (fun W => vsame_any k n t k' n' t' W)
    generalize Vm.rightV k n t.data.toList = rv at *
    generalize strV (printV k n t.data.toList) = ps at *
    generalize right8V p k n t.data.toList = r8 at *
    by_cases hk : k = k'
    · subst hk
      by_cases hn : n = n'
      · subst hn
        by_cases htt : t.data.toList = t'.data.toList
        · obtain rfl := str_eq2 htt
          rw [show sameV k n t k n t = true from decide_eq_true ⟨rfl, rfl, rfl⟩] at HSM
          clear htt
          go_upto_region 11 with fail
          refine wp_region_held_drew (S := (VTwo w k n t k n t)) (by kernel_rfl) (F13.out.kept ((Below.refl _ _).drew)) (fun hS => ?_)
          refine wpAnyH_take (i := 0) (v := ?_) rfl (by kernel_rfl) (by kernel_rfl) (by kernel_rfl) (fun _ _ _ h => h) (Or.inl ⟨by kernel_rfl, ?_⟩) hS ?_
          rotate_left
          · intro W hSW
            have a0 := hSW.1.cell0
            have a1 := hSW.1.cell1
            have a2 := hSW.1.cell2
            go_simp
            all_goals with_reducible rfl
          refine wpAnyH_take (i := 2) (v := ?_) rfl (by kernel_rfl) (by kernel_rfl) (by kernel_rfl) (fun _ _ _ h => h) (Or.inl ⟨by kernel_rfl, ?_⟩) hS ?_
          rotate_left
          · intro W hSW
            have a0 := hSW.1.cell0
            have a1 := hSW.1.cell1
            have a2 := hSW.1.cell2
            go_simp
            all_goals with_reducible rfl
          refine wpAnyH_ready (rs := [1]) (by kernel_rfl) (by simp) ?_
          refine AllReadyH.cons rfl (fun K hK => ?_) AllReadyH.nil
          go_simp
          go_wp2_with ((go_at_call 19; refine (HVR.out _).mono ?_; rintro e wa ⟨rfl, hbn⟩))
          refine hK.out _ _ (hS.kept hbn) (fun hS => ?_)
          clear hK K
          refine wpAnyH_ready (rs := [3]) (by kernel_rfl) (by simp) ?_
          refine AllReadyH.cons rfl (fun K hK => ?_) AllReadyH.nil
          go_simp
          go_wp2_with ((go_at_call 12; refine (HVQ.out _).mono ?_; rintro e wb ⟨rfl, hbn⟩))
          refine hK.out _ _ (hS.kept hbn) (fun hS => ?_)
          clear hK K
          refine wpAnyH_take (i := 4) (v := ?_) rfl (by kernel_rfl) (by kernel_rfl) (by kernel_rfl) (fun _ _ _ h => h) (Or.inl ⟨by kernel_rfl, ?_⟩) hS ?_
          rotate_left
          · intro W hSW
            go_simp
            all_goals with_reducible rfl
          refine wpAnyH_take (i := 5) (v := ?_) rfl (by kernel_rfl) (by kernel_rfl) (by kernel_rfl) (fun _ _ _ h => h) (Or.inl ⟨by kernel_rfl, ?_⟩) hS ?_
          rotate_left
          · intro W hSW
            go_simp
            all_goals with_reducible rfl
          refine wpAnyH_take (i := 6) (v := ?_) rfl (by kernel_rfl) (by kernel_rfl) (by kernel_rfl) (fun _ _ _ h => h) (Or.inl ⟨by kernel_rfl, ?_⟩) hS ?_
          rotate_left
          · intro W hSW
            have a0 := hSW.1.cell0
            have a1 := hSW.1.cell1
            have a2 := hSW.1.cell2
            go_simp
            all_goals with_reducible rfl
          refine wpAnyH_take (i := 7) (v := ?_) rfl (by kernel_rfl) (by kernel_rfl) (by kernel_rfl) (fun _ _ _ h => h) (Or.inl ⟨by kernel_rfl, ?_⟩) hS ?_
          rotate_left
          · intro W hSW
            have b0 := hSW.2.1.cell0
            have b1 := hSW.2.1.cell1
            have b2 := hSW.2.1.cell2
            go_simp
            all_goals with_reducible rfl
          refine wpAnyH_take (i := 9) (v := ?_) rfl (by kernel_rfl) (by kernel_rfl) (by kernel_rfl) (fun _ _ _ h => h) (Or.inl ⟨by kernel_rfl, ?_⟩) hS ?_
          rotate_left
          · intro W hSW
            have a0 := hSW.1.cell0
            have a1 := hSW.1.cell1
            have a2 := hSW.1.cell2
            go_simp
            all_goals with_reducible rfl
          refine wpAnyH_take (i := 10) (v := ?_) rfl (by kernel_rfl) (by kernel_rfl) (by kernel_rfl) (fun _ _ _ h => h) (Or.inl ⟨by kernel_rfl, ?_⟩) hS ?_
          rotate_left
          · intro W hSW
            have b0 := hSW.2.1.cell0
            have b1 := hSW.2.1.cell1
            have b2 := hSW.2.1.cell2
            go_simp
            all_goals with_reducible rfl
          refine wpAnyH_take (i := 11) (v := ?_) rfl (by kernel_rfl) (by kernel_rfl) (by kernel_rfl) (fun _ _ _ h => h) (Or.inl ⟨by kernel_rfl, ?_⟩) hS ?_
          rotate_left
          · intro W hSW
            go_simp
            all_goals with_reducible rfl
          refine wpAnyH_ready (rs := [8]) (by kernel_rfl) (by simp) ?_
          refine AllReadyH.cons rfl (fun K hK => ?_) AllReadyH.nil
          go_simp
          go_wp2_with ((go_at_call 20; refine (HSM.out _).mono ?_; rintro e wc3 ⟨rfl, hbn⟩))
          refine hK.out _ _ (hS.kept hbn) (fun hS => ?_)
          clear hK K
          refine wpAnyH_take (i := 12) (v := ?_) rfl (by kernel_rfl) (by kernel_rfl) (by kernel_rfl) (fun _ _ _ h => h) (Or.inl ⟨by kernel_rfl, ?_⟩) hS ?_
          rotate_left
          · intro W hSW
            go_simp
            all_goals with_reducible rfl
          refine wpAnyH_take (i := 13) (v := ?_) rfl (by kernel_rfl) (by kernel_rfl) (by kernel_rfl) (fun _ _ _ h => h) (Or.inl ⟨by kernel_rfl, ?_⟩) hS ?_
          rotate_left
          · intro W hSW
            go_simp
            all_goals with_reducible rfl
          refine wpAnyH_take (i := 14) (v := ?_) rfl (by kernel_rfl) (by kernel_rfl) (by kernel_rfl) (fun _ _ _ h => h) (Or.inl ⟨by kernel_rfl, ?_⟩) hS ?_
          rotate_left
          · intro W hSW
            go_simp
            all_goals with_reducible rfl
          refine wpAnyH_take (i := 15) (v := ?_) rfl (by kernel_rfl) (by kernel_rfl) (by kernel_rfl) (fun _ _ _ h => h) (Or.inl ⟨by kernel_rfl, ?_⟩) hS ?_
          rotate_left
          · intro W hSW
            have a0 := hSW.1.cell0
            have a1 := hSW.1.cell1
            have a2 := hSW.1.cell2
            go_simp
            all_goals with_reducible rfl
          refine wpAnyH_take (i := 17) (v := ?_) rfl (by kernel_rfl) (by kernel_rfl) (by kernel_rfl) (fun _ _ _ h => h) (Or.inl ⟨by kernel_rfl, ?_⟩) hS ?_
          rotate_left
          · intro W hSW
            have a0 := hSW.1.cell0
            have a1 := hSW.1.cell1
            have a2 := hSW.1.cell2
            go_simp
            all_goals with_reducible rfl
          refine wpAnyH_ready (rs := [16]) (by kernel_rfl) (by simp) ?_
          refine AllReadyH.cons rfl (fun K hK => ?_) AllReadyH.nil
          go_simp
          go_wp2_with ((go_at_call 21; refine (HPR.out _ (HL.out.kept hS.2.2)).mono ?_; rintro e wz ⟨rfl, hbn⟩))
          refine hK.out _ _ (hS.kept hbn) (fun hS => ?_)
          clear hK K
          refine wpAnyH_ready (rs := [18]) (by kernel_rfl) (by simp) ?_
          refine AllReadyH.cons rfl (fun K hK => ?_) AllReadyH.nil
          go_simp
          go_wp2_with ((go_at_call 22; refine (HPQ.out _).mono ?_; rintro e wq ⟨rfl, hbn⟩))
          refine hK.out _ _ (hS.kept hbn) (fun hS => ?_)
          clear hK K
          refine wpAnyH_take (i := 19) (v := ?_) rfl (by kernel_rfl) (by kernel_rfl) (by kernel_rfl) (fun _ _ _ h => h) (Or.inl ⟨by kernel_rfl, ?_⟩) hS ?_
          rotate_left
          · intro W hSW
            go_simp
            all_goals with_reducible rfl
          refine wpAnyH_take (i := 20) (v := ?_) rfl (by kernel_rfl) (by kernel_rfl) (by kernel_rfl) (fun _ _ _ h => h) (Or.inl ⟨by kernel_rfl, ?_⟩) hS ?_
          rotate_left
          · intro W hSW
            go_simp
            all_goals with_reducible rfl
          refine wpAnyH_take (i := 21) (v := ?_) rfl (by kernel_rfl) (by kernel_rfl) (by kernel_rfl) (fun _ _ _ h => h) (Or.inl ⟨by kernel_rfl, ?_⟩) hS ?_
          rotate_left
          · intro W hSW
            go_simp
            all_goals with_reducible rfl
          refine wpAnyH_take (i := 22) (v := ?_) rfl (by kernel_rfl) (by kernel_rfl) (by kernel_rfl) (fun _ _ _ h => h) (Or.inl ⟨by kernel_rfl, ?_⟩) hS ?_
          rotate_left
          · intro W hSW
            go_simp
            all_goals with_reducible rfl
          refine wpAnyH_take (i := 23) (v := ?_) rfl (by kernel_rfl) (by kernel_rfl) (by kernel_rfl) (fun _ _ _ h => h) (Or.inl ⟨by kernel_rfl, ?_⟩) hS ?_
          rotate_left
          · intro W hSW
            have a0 := hSW.1.cell0
            have a1 := hSW.1.cell1
            have a2 := hSW.1.cell2
            go_simp
            all_goals with_reducible rfl
          refine wpAnyH_take (i := 25) (v := ?_) rfl (by kernel_rfl) (by kernel_rfl) (by kernel_rfl) (fun _ _ _ h => h) (Or.inl ⟨by kernel_rfl, ?_⟩) hS ?_
          rotate_left
          · intro W hSW
            go_simp
            all_goals with_reducible rfl
          refine wpAnyH_take (i := 26) (v := ?_) rfl (by kernel_rfl) (by kernel_rfl) (by kernel_rfl) (fun _ _ _ h => h) (Or.inl ⟨by kernel_rfl, ?_⟩) hS ?_
          rotate_left
          · intro W hSW
            have a0 := hSW.1.cell0
            have a1 := hSW.1.cell1
            have a2 := hSW.1.cell2
            go_simp
            all_goals with_reducible rfl
          refine wpAnyH_ready (rs := [24]) (by kernel_rfl) (by simp) ?_
          refine AllReadyH.cons rfl (fun K hK => ?_) AllReadyH.nil
          go_simp
          go_wp2_with ((go_at_call 23; refine (HR8.out _).mono ?_; rintro e wr ⟨rfl, hbn⟩))
          refine hK.out _ _ (hS.kept hbn) (fun hS => ?_)
          clear hK K
          refine wpAnyH_ready (rs := [27]) (by kernel_rfl) (by simp) ?_
          refine AllReadyH.cons rfl (fun K hK => ?_) AllReadyH.nil
          go_simp
          go_wp2_with ((go_at_call 24; refine (HQ8.out _).mono ?_; rintro e wt ⟨rfl, hbn⟩))
          refine hK.out _ _ (hS.kept hbn) (fun hS => ?_)
          clear hK K
          refine wpAnyH_take (i := 28) (v := ?_) rfl (by kernel_rfl) (by kernel_rfl) (by kernel_rfl) (fun _ _ _ h => h) (Or.inl ⟨by kernel_rfl, ?_⟩) hS ?_
          rotate_left
          · intro W hSW
            go_simp
            all_goals with_reducible rfl
          refine wpAnyH_take (i := 29) (v := ?_) rfl (by kernel_rfl) (by kernel_rfl) (by kernel_rfl) (fun _ _ _ h => h) (Or.inl ⟨by kernel_rfl, ?_⟩) hS ?_
          rotate_left
          · intro W hSW
            go_simp
            all_goals with_reducible rfl
          refine wpAnyH_take (i := 30) (v := ?_) rfl (by kernel_rfl) (by kernel_rfl) (by kernel_rfl) (fun _ _ _ h => h) (Or.inl ⟨by kernel_rfl, ?_⟩) hS ?_
          rotate_left
          · intro W hSW
            go_simp
            all_goals with_reducible rfl
          refine wpAnyH_ready (rs := [31]) (by kernel_rfl) (by simp) ?_
          refine AllReadyH.cons rfl (fun K hK => ?_) AllReadyH.nil
          go_simp
          go_wp2_with ((go_at_call 25; refine (knows3_any _).mono ?_; rintro e wk ⟨rfl, hbn⟩))
          refine hK.out _ _ (hS.kept hbn) (fun hS => ?_)
          clear hK K
          refine wpAnyH_take (i := 32) (v := ?_) rfl (by kernel_rfl) (by kernel_rfl) (by kernel_rfl) (fun _ _ _ h => h) (Or.inl ⟨by kernel_rfl, ?_⟩) hS ?_
          rotate_left
          · intro W hSW
            go_simp
            all_goals with_reducible rfl
          refine wpAnyH_take (i := 33) (v := ?_) rfl (by kernel_rfl) (by kernel_rfl) (by kernel_rfl) (fun _ _ _ h => h) (Or.inl ⟨by kernel_rfl, ?_⟩) hS ?_
          rotate_left
          · intro W hSW
            go_simp
            all_goals with_reducible rfl
          refine wpAnyH_done (by kernel_rfl) ?_ _
          have HS13 := Lib.hid hS
          clear hS
          go_simp
          go_wp2
          go_ret
          exact ⟨rfl, HS13.out.2.2⟩
        · rw [show sameV k n t k n t' = false from decide_eq_false (fun h => htt h.2.2)] at HSM
          have te := str_ne2 htt
          clear htt
          go_upto_region 11 with fail
          refine wp_region_held_drew (S := (VTwo w k n t k n t')) (by kernel_rfl) (F13.out.kept ((Below.refl _ _).drew)) (fun hS => ?_)
          refine wpAnyH_take (i := 0) (v := ?_) rfl (by kernel_rfl) (by kernel_rfl) (by kernel_rfl) (fun _ _ _ h => h) (Or.inl ⟨by kernel_rfl, ?_⟩) hS ?_
          rotate_left
          · intro W hSW
            have a0 := hSW.1.cell0
            have a1 := hSW.1.cell1
            have a2 := hSW.1.cell2
            go_simp
            all_goals with_reducible rfl
          refine wpAnyH_take (i := 2) (v := ?_) rfl (by kernel_rfl) (by kernel_rfl) (by kernel_rfl) (fun _ _ _ h => h) (Or.inl ⟨by kernel_rfl, ?_⟩) hS ?_
          rotate_left
          · intro W hSW
            have a0 := hSW.1.cell0
            have a1 := hSW.1.cell1
            have a2 := hSW.1.cell2
            go_simp
            all_goals with_reducible rfl
          refine wpAnyH_ready (rs := [1]) (by kernel_rfl) (by simp) ?_
          refine AllReadyH.cons rfl (fun K hK => ?_) AllReadyH.nil
          go_simp
          go_wp2_with ((go_at_call 19; refine (HVR.out _).mono ?_; rintro e wa ⟨rfl, hbn⟩))
          refine hK.out _ _ (hS.kept hbn) (fun hS => ?_)
          clear hK K
          refine wpAnyH_ready (rs := [3]) (by kernel_rfl) (by simp) ?_
          refine AllReadyH.cons rfl (fun K hK => ?_) AllReadyH.nil
          go_simp
          go_wp2_with ((go_at_call 12; refine (HVQ.out _).mono ?_; rintro e wb ⟨rfl, hbn⟩))
          refine hK.out _ _ (hS.kept hbn) (fun hS => ?_)
          clear hK K
          refine wpAnyH_take (i := 4) (v := ?_) rfl (by kernel_rfl) (by kernel_rfl) (by kernel_rfl) (fun _ _ _ h => h) (Or.inl ⟨by kernel_rfl, ?_⟩) hS ?_
          rotate_left
          · intro W hSW
            go_simp
            all_goals with_reducible rfl
          refine wpAnyH_take (i := 5) (v := ?_) rfl (by kernel_rfl) (by kernel_rfl) (by kernel_rfl) (fun _ _ _ h => h) (Or.inl ⟨by kernel_rfl, ?_⟩) hS ?_
          rotate_left
          · intro W hSW
            go_simp
            all_goals with_reducible rfl
          refine wpAnyH_take (i := 6) (v := ?_) rfl (by kernel_rfl) (by kernel_rfl) (by kernel_rfl) (fun _ _ _ h => h) (Or.inl ⟨by kernel_rfl, ?_⟩) hS ?_
          rotate_left
          · intro W hSW
            have a0 := hSW.1.cell0
            have a1 := hSW.1.cell1
            have a2 := hSW.1.cell2
            go_simp
            all_goals with_reducible rfl
          refine wpAnyH_take (i := 7) (v := ?_) rfl (by kernel_rfl) (by kernel_rfl) (by kernel_rfl) (fun _ _ _ h => h) (Or.inl ⟨by kernel_rfl, ?_⟩) hS ?_
          rotate_left
          · intro W hSW
            have b0 := hSW.2.1.cell0
            have b1 := hSW.2.1.cell1
            have b2 := hSW.2.1.cell2
            go_simp
            all_goals with_reducible rfl
          refine wpAnyH_take (i := 9) (v := ?_) rfl (by kernel_rfl) (by kernel_rfl) (by kernel_rfl) (fun _ _ _ h => h) (Or.inl ⟨by kernel_rfl, ?_⟩) hS ?_
          rotate_left
          · intro W hSW
            have a0 := hSW.1.cell0
            have a1 := hSW.1.cell1
            have a2 := hSW.1.cell2
            go_simp
            all_goals with_reducible rfl
          refine wpAnyH_take (i := 10) (v := ?_) rfl (by kernel_rfl) (by kernel_rfl) (by kernel_rfl) (fun _ _ _ h => h) (Or.inl ⟨by kernel_rfl, ?_⟩) hS ?_
          rotate_left
          · intro W hSW
            have b0 := hSW.2.1.cell0
            have b1 := hSW.2.1.cell1
            have b2 := hSW.2.1.cell2
            go_simp
            all_goals with_reducible rfl
          refine wpAnyH_take (i := 11) (v := ?_) rfl (by kernel_rfl) (by kernel_rfl) (by kernel_rfl) (fun _ _ _ h => h) (Or.inl ⟨by kernel_rfl, ?_⟩) hS ?_
          rotate_left
          · intro W hSW
            go_simp
            all_goals with_reducible rfl
          refine wpAnyH_ready (rs := [8]) (by kernel_rfl) (by simp) ?_
          refine AllReadyH.cons rfl (fun K hK => ?_) AllReadyH.nil
          go_simp
          go_wp2_with ((go_at_call 20; refine (HSM.out _).mono ?_; rintro e wc3 ⟨rfl, hbn⟩))
          refine hK.out _ _ (hS.kept hbn) (fun hS => ?_)
          clear hK K
          refine wpAnyH_take (i := 12) (v := ?_) rfl (by kernel_rfl) (by kernel_rfl) (by kernel_rfl) (fun _ _ _ h => h) (Or.inl ⟨by kernel_rfl, ?_⟩) hS ?_
          rotate_left
          · intro W hSW
            go_simp
            all_goals with_reducible rfl
          refine wpAnyH_take (i := 13) (v := ?_) rfl (by kernel_rfl) (by kernel_rfl) (by kernel_rfl) (fun _ _ _ h => h) (Or.inl ⟨by kernel_rfl, ?_⟩) hS ?_
          rotate_left
          · intro W hSW
            go_simp
            all_goals with_reducible rfl
          refine wpAnyH_take (i := 14) (v := ?_) rfl (by kernel_rfl) (by kernel_rfl) (by kernel_rfl) (fun _ _ _ h => h) (Or.inl ⟨by kernel_rfl, ?_⟩) hS ?_
          rotate_left
          · intro W hSW
            go_simp
            all_goals with_reducible rfl
          refine wpAnyH_take (i := 15) (v := ?_) rfl (by kernel_rfl) (by kernel_rfl) (by kernel_rfl) (fun _ _ _ h => h) (Or.inl ⟨by kernel_rfl, ?_⟩) hS ?_
          rotate_left
          · intro W hSW
            have a0 := hSW.1.cell0
            have a1 := hSW.1.cell1
            have a2 := hSW.1.cell2
            go_simp
            all_goals with_reducible rfl
          refine wpAnyH_take (i := 17) (v := ?_) rfl (by kernel_rfl) (by kernel_rfl) (by kernel_rfl) (fun _ _ _ h => h) (Or.inl ⟨by kernel_rfl, ?_⟩) hS ?_
          rotate_left
          · intro W hSW
            have a0 := hSW.1.cell0
            have a1 := hSW.1.cell1
            have a2 := hSW.1.cell2
            go_simp
            all_goals with_reducible rfl
          refine wpAnyH_ready (rs := [16]) (by kernel_rfl) (by simp) ?_
          refine AllReadyH.cons rfl (fun K hK => ?_) AllReadyH.nil
          go_simp
          go_wp2_with ((go_at_call 21; refine (HPR.out _ (HL.out.kept hS.2.2)).mono ?_; rintro e wz ⟨rfl, hbn⟩))
          refine hK.out _ _ (hS.kept hbn) (fun hS => ?_)
          clear hK K
          refine wpAnyH_ready (rs := [18]) (by kernel_rfl) (by simp) ?_
          refine AllReadyH.cons rfl (fun K hK => ?_) AllReadyH.nil
          go_simp
          go_wp2_with ((go_at_call 22; refine (HPQ.out _).mono ?_; rintro e wq ⟨rfl, hbn⟩))
          refine hK.out _ _ (hS.kept hbn) (fun hS => ?_)
          clear hK K
          refine wpAnyH_take (i := 19) (v := ?_) rfl (by kernel_rfl) (by kernel_rfl) (by kernel_rfl) (fun _ _ _ h => h) (Or.inl ⟨by kernel_rfl, ?_⟩) hS ?_
          rotate_left
          · intro W hSW
            go_simp
            all_goals with_reducible rfl
          refine wpAnyH_take (i := 20) (v := ?_) rfl (by kernel_rfl) (by kernel_rfl) (by kernel_rfl) (fun _ _ _ h => h) (Or.inl ⟨by kernel_rfl, ?_⟩) hS ?_
          rotate_left
          · intro W hSW
            go_simp
            all_goals with_reducible rfl
          refine wpAnyH_take (i := 21) (v := ?_) rfl (by kernel_rfl) (by kernel_rfl) (by kernel_rfl) (fun _ _ _ h => h) (Or.inl ⟨by kernel_rfl, ?_⟩) hS ?_
          rotate_left
          · intro W hSW
            go_simp
            all_goals with_reducible rfl
          refine wpAnyH_take (i := 22) (v := ?_) rfl (by kernel_rfl) (by kernel_rfl) (by kernel_rfl) (fun _ _ _ h => h) (Or.inl ⟨by kernel_rfl, ?_⟩) hS ?_
          rotate_left
          · intro W hSW
            go_simp
            all_goals with_reducible rfl
          refine wpAnyH_take (i := 23) (v := ?_) rfl (by kernel_rfl) (by kernel_rfl) (by kernel_rfl) (fun _ _ _ h => h) (Or.inl ⟨by kernel_rfl, ?_⟩) hS ?_
          rotate_left
          · intro W hSW
            have a0 := hSW.1.cell0
            have a1 := hSW.1.cell1
            have a2 := hSW.1.cell2
            go_simp
            all_goals with_reducible rfl
          refine wpAnyH_take (i := 25) (v := ?_) rfl (by kernel_rfl) (by kernel_rfl) (by kernel_rfl) (fun _ _ _ h => h) (Or.inl ⟨by kernel_rfl, ?_⟩) hS ?_
          rotate_left
          · intro W hSW
            go_simp
            all_goals with_reducible rfl
          refine wpAnyH_take (i := 26) (v := ?_) rfl (by kernel_rfl) (by kernel_rfl) (by kernel_rfl) (fun _ _ _ h => h) (Or.inl ⟨by kernel_rfl, ?_⟩) hS ?_
          rotate_left
          · intro W hSW
            have a0 := hSW.1.cell0
            have a1 := hSW.1.cell1
            have a2 := hSW.1.cell2
            go_simp
            all_goals with_reducible rfl
          refine wpAnyH_ready (rs := [24]) (by kernel_rfl) (by simp) ?_
          refine AllReadyH.cons rfl (fun K hK => ?_) AllReadyH.nil
          go_simp
          go_wp2_with ((go_at_call 23; refine (HR8.out _).mono ?_; rintro e wr ⟨rfl, hbn⟩))
          refine hK.out _ _ (hS.kept hbn) (fun hS => ?_)
          clear hK K
          refine wpAnyH_ready (rs := [27]) (by kernel_rfl) (by simp) ?_
          refine AllReadyH.cons rfl (fun K hK => ?_) AllReadyH.nil
          go_simp
          go_wp2_with ((go_at_call 24; refine (HQ8.out _).mono ?_; rintro e wt ⟨rfl, hbn⟩))
          refine hK.out _ _ (hS.kept hbn) (fun hS => ?_)
          clear hK K
          refine wpAnyH_take (i := 28) (v := ?_) rfl (by kernel_rfl) (by kernel_rfl) (by kernel_rfl) (fun _ _ _ h => h) (Or.inl ⟨by kernel_rfl, ?_⟩) hS ?_
          rotate_left
          · intro W hSW
            go_simp
            all_goals with_reducible rfl
          refine wpAnyH_take (i := 29) (v := ?_) rfl (by kernel_rfl) (by kernel_rfl) (by kernel_rfl) (fun _ _ _ h => h) (Or.inl ⟨by kernel_rfl, ?_⟩) hS ?_
          rotate_left
          · intro W hSW
            go_simp
            all_goals with_reducible rfl
          refine wpAnyH_take (i := 30) (v := ?_) rfl (by kernel_rfl) (by kernel_rfl) (by kernel_rfl) (fun _ _ _ h => h) (Or.inl ⟨by kernel_rfl, ?_⟩) hS ?_
          rotate_left
          · intro W hSW
            go_simp
            all_goals with_reducible rfl
          refine wpAnyH_ready (rs := [31]) (by kernel_rfl) (by simp) ?_
          refine AllReadyH.cons rfl (fun K hK => ?_) AllReadyH.nil
          go_simp
          go_wp2_with ((go_at_call 25; refine (knows3_any _).mono ?_; rintro e wk ⟨rfl, hbn⟩))
          refine hK.out _ _ (hS.kept hbn) (fun hS => ?_)
          clear hK K
          refine wpAnyH_take (i := 32) (v := ?_) rfl (by kernel_rfl) (by kernel_rfl) (by kernel_rfl) (fun _ _ _ h => h) (Or.inl ⟨by kernel_rfl, ?_⟩) hS ?_
          rotate_left
          · intro W hSW
            go_simp
            all_goals with_reducible rfl
          refine wpAnyH_take (i := 33) (v := ?_) rfl (by kernel_rfl) (by kernel_rfl) (by kernel_rfl) (fun _ _ _ h => h) (Or.inl ⟨by kernel_rfl, ?_⟩) hS ?_
          rotate_left
          · intro W hSW
            go_simp
            all_goals with_reducible rfl
          refine wpAnyH_done (by kernel_rfl) ?_ _
          have HS13 := Lib.hid hS
          clear hS
          go_simp
          go_wp2
          go_ret
          exact ⟨rfl, HS13.out.2.2⟩
      · rw [show sameV k n t k n' t' = false from decide_eq_false (fun h => hn h.2.1)] at HSM
        have ne : (n == n') = false := by simpa using hn
        go_upto_region 11 with fail
        refine wp_region_held_drew (S := (VTwo w k n t k n' t')) (by kernel_rfl) (F13.out.kept ((Below.refl _ _).drew)) (fun hS => ?_)
        refine wpAnyH_take (i := 0) (v := ?_) rfl (by kernel_rfl) (by kernel_rfl) (by kernel_rfl) (fun _ _ _ h => h) (Or.inl ⟨by kernel_rfl, ?_⟩) hS ?_
        rotate_left
        · intro W hSW
          have a0 := hSW.1.cell0
          have a1 := hSW.1.cell1
          have a2 := hSW.1.cell2
          go_simp
          all_goals with_reducible rfl
        refine wpAnyH_take (i := 2) (v := ?_) rfl (by kernel_rfl) (by kernel_rfl) (by kernel_rfl) (fun _ _ _ h => h) (Or.inl ⟨by kernel_rfl, ?_⟩) hS ?_
        rotate_left
        · intro W hSW
          have a0 := hSW.1.cell0
          have a1 := hSW.1.cell1
          have a2 := hSW.1.cell2
          go_simp
          all_goals with_reducible rfl
        refine wpAnyH_ready (rs := [1]) (by kernel_rfl) (by simp) ?_
        refine AllReadyH.cons rfl (fun K hK => ?_) AllReadyH.nil
        go_simp
        go_wp2_with ((go_at_call 19; refine (HVR.out _).mono ?_; rintro e wa ⟨rfl, hbn⟩))
        refine hK.out _ _ (hS.kept hbn) (fun hS => ?_)
        clear hK K
        refine wpAnyH_ready (rs := [3]) (by kernel_rfl) (by simp) ?_
        refine AllReadyH.cons rfl (fun K hK => ?_) AllReadyH.nil
        go_simp
        go_wp2_with ((go_at_call 12; refine (HVQ.out _).mono ?_; rintro e wb ⟨rfl, hbn⟩))
        refine hK.out _ _ (hS.kept hbn) (fun hS => ?_)
        clear hK K
        refine wpAnyH_take (i := 4) (v := ?_) rfl (by kernel_rfl) (by kernel_rfl) (by kernel_rfl) (fun _ _ _ h => h) (Or.inl ⟨by kernel_rfl, ?_⟩) hS ?_
        rotate_left
        · intro W hSW
          go_simp
          all_goals with_reducible rfl
        refine wpAnyH_take (i := 5) (v := ?_) rfl (by kernel_rfl) (by kernel_rfl) (by kernel_rfl) (fun _ _ _ h => h) (Or.inl ⟨by kernel_rfl, ?_⟩) hS ?_
        rotate_left
        · intro W hSW
          go_simp
          all_goals with_reducible rfl
        refine wpAnyH_take (i := 6) (v := ?_) rfl (by kernel_rfl) (by kernel_rfl) (by kernel_rfl) (fun _ _ _ h => h) (Or.inl ⟨by kernel_rfl, ?_⟩) hS ?_
        rotate_left
        · intro W hSW
          have a0 := hSW.1.cell0
          have a1 := hSW.1.cell1
          have a2 := hSW.1.cell2
          go_simp
          all_goals with_reducible rfl
        refine wpAnyH_take (i := 7) (v := ?_) rfl (by kernel_rfl) (by kernel_rfl) (by kernel_rfl) (fun _ _ _ h => h) (Or.inl ⟨by kernel_rfl, ?_⟩) hS ?_
        rotate_left
        · intro W hSW
          have b0 := hSW.2.1.cell0
          have b1 := hSW.2.1.cell1
          have b2 := hSW.2.1.cell2
          go_simp
          all_goals with_reducible rfl
        refine wpAnyH_take (i := 9) (v := ?_) rfl (by kernel_rfl) (by kernel_rfl) (by kernel_rfl) (fun _ _ _ h => h) (Or.inl ⟨by kernel_rfl, ?_⟩) hS ?_
        rotate_left
        · intro W hSW
          have a0 := hSW.1.cell0
          have a1 := hSW.1.cell1
          have a2 := hSW.1.cell2
          go_simp
          all_goals with_reducible rfl
        refine wpAnyH_take (i := 10) (v := ?_) rfl (by kernel_rfl) (by kernel_rfl) (by kernel_rfl) (fun _ _ _ h => h) (Or.inl ⟨by kernel_rfl, ?_⟩) hS ?_
        rotate_left
        · intro W hSW
          have b0 := hSW.2.1.cell0
          have b1 := hSW.2.1.cell1
          have b2 := hSW.2.1.cell2
          go_simp
          all_goals with_reducible rfl
        refine wpAnyH_take (i := 11) (v := ?_) rfl (by kernel_rfl) (by kernel_rfl) (by kernel_rfl) (fun _ _ _ h => h) (Or.inl ⟨by kernel_rfl, ?_⟩) hS ?_
        rotate_left
        · intro W hSW
          go_simp
          all_goals with_reducible rfl
        refine wpAnyH_ready (rs := [8]) (by kernel_rfl) (by simp) ?_
        refine AllReadyH.cons rfl (fun K hK => ?_) AllReadyH.nil
        go_simp
        go_wp2_with ((go_at_call 20; refine (HSM.out _).mono ?_; rintro e wc3 ⟨rfl, hbn⟩))
        refine hK.out _ _ (hS.kept hbn) (fun hS => ?_)
        clear hK K
        refine wpAnyH_take (i := 12) (v := ?_) rfl (by kernel_rfl) (by kernel_rfl) (by kernel_rfl) (fun _ _ _ h => h) (Or.inl ⟨by kernel_rfl, ?_⟩) hS ?_
        rotate_left
        · intro W hSW
          go_simp
          all_goals with_reducible rfl
        refine wpAnyH_take (i := 13) (v := ?_) rfl (by kernel_rfl) (by kernel_rfl) (by kernel_rfl) (fun _ _ _ h => h) (Or.inl ⟨by kernel_rfl, ?_⟩) hS ?_
        rotate_left
        · intro W hSW
          go_simp
          all_goals with_reducible rfl
        refine wpAnyH_take (i := 14) (v := ?_) rfl (by kernel_rfl) (by kernel_rfl) (by kernel_rfl) (fun _ _ _ h => h) (Or.inl ⟨by kernel_rfl, ?_⟩) hS ?_
        rotate_left
        · intro W hSW
          go_simp
          all_goals with_reducible rfl
        refine wpAnyH_take (i := 15) (v := ?_) rfl (by kernel_rfl) (by kernel_rfl) (by kernel_rfl) (fun _ _ _ h => h) (Or.inl ⟨by kernel_rfl, ?_⟩) hS ?_
        rotate_left
        · intro W hSW
          have a0 := hSW.1.cell0
          have a1 := hSW.1.cell1
          have a2 := hSW.1.cell2
          go_simp
          all_goals with_reducible rfl
        refine wpAnyH_take (i := 17) (v := ?_) rfl (by kernel_rfl) (by kernel_rfl) (by kernel_rfl) (fun _ _ _ h => h) (Or.inl ⟨by kernel_rfl, ?_⟩) hS ?_
        rotate_left
        · intro W hSW
          have a0 := hSW.1.cell0
          have a1 := hSW.1.cell1
          have a2 := hSW.1.cell2
          go_simp
          all_goals with_reducible rfl
        refine wpAnyH_ready (rs := [16]) (by kernel_rfl) (by simp) ?_
        refine AllReadyH.cons rfl (fun K hK => ?_) AllReadyH.nil
        go_simp
        go_wp2_with ((go_at_call 21; refine (HPR.out _ (HL.out.kept hS.2.2)).mono ?_; rintro e wz ⟨rfl, hbn⟩))
        refine hK.out _ _ (hS.kept hbn) (fun hS => ?_)
        clear hK K
        refine wpAnyH_ready (rs := [18]) (by kernel_rfl) (by simp) ?_
        refine AllReadyH.cons rfl (fun K hK => ?_) AllReadyH.nil
        go_simp
        go_wp2_with ((go_at_call 22; refine (HPQ.out _).mono ?_; rintro e wq ⟨rfl, hbn⟩))
        refine hK.out _ _ (hS.kept hbn) (fun hS => ?_)
        clear hK K
        refine wpAnyH_take (i := 19) (v := ?_) rfl (by kernel_rfl) (by kernel_rfl) (by kernel_rfl) (fun _ _ _ h => h) (Or.inl ⟨by kernel_rfl, ?_⟩) hS ?_
        rotate_left
        · intro W hSW
          go_simp
          all_goals with_reducible rfl
        refine wpAnyH_take (i := 20) (v := ?_) rfl (by kernel_rfl) (by kernel_rfl) (by kernel_rfl) (fun _ _ _ h => h) (Or.inl ⟨by kernel_rfl, ?_⟩) hS ?_
        rotate_left
        · intro W hSW
          go_simp
          all_goals with_reducible rfl
        refine wpAnyH_take (i := 21) (v := ?_) rfl (by kernel_rfl) (by kernel_rfl) (by kernel_rfl) (fun _ _ _ h => h) (Or.inl ⟨by kernel_rfl, ?_⟩) hS ?_
        rotate_left
        · intro W hSW
          go_simp
          all_goals with_reducible rfl
        refine wpAnyH_take (i := 22) (v := ?_) rfl (by kernel_rfl) (by kernel_rfl) (by kernel_rfl) (fun _ _ _ h => h) (Or.inl ⟨by kernel_rfl, ?_⟩) hS ?_
        rotate_left
        · intro W hSW
          go_simp
          all_goals with_reducible rfl
        refine wpAnyH_take (i := 23) (v := ?_) rfl (by kernel_rfl) (by kernel_rfl) (by kernel_rfl) (fun _ _ _ h => h) (Or.inl ⟨by kernel_rfl, ?_⟩) hS ?_
        rotate_left
        · intro W hSW
          have a0 := hSW.1.cell0
          have a1 := hSW.1.cell1
          have a2 := hSW.1.cell2
          go_simp
          all_goals with_reducible rfl
        refine wpAnyH_take (i := 25) (v := ?_) rfl (by kernel_rfl) (by kernel_rfl) (by kernel_rfl) (fun _ _ _ h => h) (Or.inl ⟨by kernel_rfl, ?_⟩) hS ?_
        rotate_left
        · intro W hSW
          go_simp
          all_goals with_reducible rfl
        refine wpAnyH_take (i := 26) (v := ?_) rfl (by kernel_rfl) (by kernel_rfl) (by kernel_rfl) (fun _ _ _ h => h) (Or.inl ⟨by kernel_rfl, ?_⟩) hS ?_
        rotate_left
        · intro W hSW
          have a0 := hSW.1.cell0
          have a1 := hSW.1.cell1
          have a2 := hSW.1.cell2
          go_simp
          all_goals with_reducible rfl
        refine wpAnyH_ready (rs := [24]) (by kernel_rfl) (by simp) ?_
        refine AllReadyH.cons rfl (fun K hK => ?_) AllReadyH.nil
        go_simp
        go_wp2_with ((go_at_call 23; refine (HR8.out _).mono ?_; rintro e wr ⟨rfl, hbn⟩))
        refine hK.out _ _ (hS.kept hbn) (fun hS => ?_)
        clear hK K
        refine wpAnyH_ready (rs := [27]) (by kernel_rfl) (by simp) ?_
        refine AllReadyH.cons rfl (fun K hK => ?_) AllReadyH.nil
        go_simp
        go_wp2_with ((go_at_call 24; refine (HQ8.out _).mono ?_; rintro e wt ⟨rfl, hbn⟩))
        refine hK.out _ _ (hS.kept hbn) (fun hS => ?_)
        clear hK K
        refine wpAnyH_take (i := 28) (v := ?_) rfl (by kernel_rfl) (by kernel_rfl) (by kernel_rfl) (fun _ _ _ h => h) (Or.inl ⟨by kernel_rfl, ?_⟩) hS ?_
        rotate_left
        · intro W hSW
          go_simp
          all_goals with_reducible rfl
        refine wpAnyH_take (i := 29) (v := ?_) rfl (by kernel_rfl) (by kernel_rfl) (by kernel_rfl) (fun _ _ _ h => h) (Or.inl ⟨by kernel_rfl, ?_⟩) hS ?_
        rotate_left
        · intro W hSW
          go_simp
          all_goals with_reducible rfl
        refine wpAnyH_take (i := 30) (v := ?_) rfl (by kernel_rfl) (by kernel_rfl) (by kernel_rfl) (fun _ _ _ h => h) (Or.inl ⟨by kernel_rfl, ?_⟩) hS ?_
        rotate_left
        · intro W hSW
          go_simp
          all_goals with_reducible rfl
        refine wpAnyH_ready (rs := [31]) (by kernel_rfl) (by simp) ?_
        refine AllReadyH.cons rfl (fun K hK => ?_) AllReadyH.nil
        go_simp
        go_wp2_with ((go_at_call 25; refine (knows3_any _).mono ?_; rintro e wk ⟨rfl, hbn⟩))
        refine hK.out _ _ (hS.kept hbn) (fun hS => ?_)
        clear hK K
        refine wpAnyH_take (i := 32) (v := ?_) rfl (by kernel_rfl) (by kernel_rfl) (by kernel_rfl) (fun _ _ _ h => h) (Or.inl ⟨by kernel_rfl, ?_⟩) hS ?_
        rotate_left
        · intro W hSW
          go_simp
          all_goals with_reducible rfl
        refine wpAnyH_take (i := 33) (v := ?_) rfl (by kernel_rfl) (by kernel_rfl) (by kernel_rfl) (fun _ _ _ h => h) (Or.inl ⟨by kernel_rfl, ?_⟩) hS ?_
        rotate_left
        · intro W hSW
          go_simp
          all_goals with_reducible rfl
        refine wpAnyH_done (by kernel_rfl) ?_ _
        have HS13 := Lib.hid hS
        clear hS
        go_simp
        go_wp2
        go_ret
        exact ⟨rfl, HS13.out.2.2⟩
    · rw [show sameV k n t k' n' t' = false from decide_eq_false (fun h => hk h.1)] at HSM
      have ke : (k == k') = false := by simpa using hk
      go_upto_region 11 with fail
      refine wp_region_held_drew (S := (VTwo w k n t k' n' t')) (by kernel_rfl) (F13.out.kept ((Below.refl _ _).drew)) (fun hS => ?_)
      refine wpAnyH_take (i := 0) (v := ?_) rfl (by kernel_rfl) (by kernel_rfl) (by kernel_rfl) (fun _ _ _ h => h) (Or.inl ⟨by kernel_rfl, ?_⟩) hS ?_
      rotate_left
      · intro W hSW
        have a0 := hSW.1.cell0
        have a1 := hSW.1.cell1
        have a2 := hSW.1.cell2
        go_simp
        all_goals with_reducible rfl
      refine wpAnyH_take (i := 2) (v := ?_) rfl (by kernel_rfl) (by kernel_rfl) (by kernel_rfl) (fun _ _ _ h => h) (Or.inl ⟨by kernel_rfl, ?_⟩) hS ?_
      rotate_left
      · intro W hSW
        have a0 := hSW.1.cell0
        have a1 := hSW.1.cell1
        have a2 := hSW.1.cell2
        go_simp
        all_goals with_reducible rfl
      refine wpAnyH_ready (rs := [1]) (by kernel_rfl) (by simp) ?_
      refine AllReadyH.cons rfl (fun K hK => ?_) AllReadyH.nil
      go_simp
      go_wp2_with ((go_at_call 19; refine (HVR.out _).mono ?_; rintro e wa ⟨rfl, hbn⟩))
      refine hK.out _ _ (hS.kept hbn) (fun hS => ?_)
      clear hK K
      refine wpAnyH_ready (rs := [3]) (by kernel_rfl) (by simp) ?_
      refine AllReadyH.cons rfl (fun K hK => ?_) AllReadyH.nil
      go_simp
      go_wp2_with ((go_at_call 12; refine (HVQ.out _).mono ?_; rintro e wb ⟨rfl, hbn⟩))
      refine hK.out _ _ (hS.kept hbn) (fun hS => ?_)
      clear hK K
      refine wpAnyH_take (i := 4) (v := ?_) rfl (by kernel_rfl) (by kernel_rfl) (by kernel_rfl) (fun _ _ _ h => h) (Or.inl ⟨by kernel_rfl, ?_⟩) hS ?_
      rotate_left
      · intro W hSW
        go_simp
        all_goals with_reducible rfl
      refine wpAnyH_take (i := 5) (v := ?_) rfl (by kernel_rfl) (by kernel_rfl) (by kernel_rfl) (fun _ _ _ h => h) (Or.inl ⟨by kernel_rfl, ?_⟩) hS ?_
      rotate_left
      · intro W hSW
        go_simp
        all_goals with_reducible rfl
      refine wpAnyH_take (i := 6) (v := ?_) rfl (by kernel_rfl) (by kernel_rfl) (by kernel_rfl) (fun _ _ _ h => h) (Or.inl ⟨by kernel_rfl, ?_⟩) hS ?_
      rotate_left
      · intro W hSW
        have a0 := hSW.1.cell0
        have a1 := hSW.1.cell1
        have a2 := hSW.1.cell2
        go_simp
        all_goals with_reducible rfl
      refine wpAnyH_take (i := 7) (v := ?_) rfl (by kernel_rfl) (by kernel_rfl) (by kernel_rfl) (fun _ _ _ h => h) (Or.inl ⟨by kernel_rfl, ?_⟩) hS ?_
      rotate_left
      · intro W hSW
        have b0 := hSW.2.1.cell0
        have b1 := hSW.2.1.cell1
        have b2 := hSW.2.1.cell2
        go_simp
        all_goals with_reducible rfl
      refine wpAnyH_take (i := 9) (v := ?_) rfl (by kernel_rfl) (by kernel_rfl) (by kernel_rfl) (fun _ _ _ h => h) (Or.inl ⟨by kernel_rfl, ?_⟩) hS ?_
      rotate_left
      · intro W hSW
        have a0 := hSW.1.cell0
        have a1 := hSW.1.cell1
        have a2 := hSW.1.cell2
        go_simp
        all_goals with_reducible rfl
      refine wpAnyH_take (i := 10) (v := ?_) rfl (by kernel_rfl) (by kernel_rfl) (by kernel_rfl) (fun _ _ _ h => h) (Or.inl ⟨by kernel_rfl, ?_⟩) hS ?_
      rotate_left
      · intro W hSW
        have b0 := hSW.2.1.cell0
        have b1 := hSW.2.1.cell1
        have b2 := hSW.2.1.cell2
        go_simp
        all_goals with_reducible rfl
      refine wpAnyH_take (i := 11) (v := ?_) rfl (by kernel_rfl) (by kernel_rfl) (by kernel_rfl) (fun _ _ _ h => h) (Or.inl ⟨by kernel_rfl, ?_⟩) hS ?_
      rotate_left
      · intro W hSW
        go_simp
        all_goals with_reducible rfl
      refine wpAnyH_ready (rs := [8]) (by kernel_rfl) (by simp) ?_
      refine AllReadyH.cons rfl (fun K hK => ?_) AllReadyH.nil
      go_simp
      go_wp2_with ((go_at_call 20; refine (HSM.out _).mono ?_; rintro e wc3 ⟨rfl, hbn⟩))
      refine hK.out _ _ (hS.kept hbn) (fun hS => ?_)
      clear hK K
      refine wpAnyH_take (i := 12) (v := ?_) rfl (by kernel_rfl) (by kernel_rfl) (by kernel_rfl) (fun _ _ _ h => h) (Or.inl ⟨by kernel_rfl, ?_⟩) hS ?_
      rotate_left
      · intro W hSW
        go_simp
        all_goals with_reducible rfl
      refine wpAnyH_take (i := 13) (v := ?_) rfl (by kernel_rfl) (by kernel_rfl) (by kernel_rfl) (fun _ _ _ h => h) (Or.inl ⟨by kernel_rfl, ?_⟩) hS ?_
      rotate_left
      · intro W hSW
        go_simp
        all_goals with_reducible rfl
      refine wpAnyH_take (i := 14) (v := ?_) rfl (by kernel_rfl) (by kernel_rfl) (by kernel_rfl) (fun _ _ _ h => h) (Or.inl ⟨by kernel_rfl, ?_⟩) hS ?_
      rotate_left
      · intro W hSW
        go_simp
        all_goals with_reducible rfl
      refine wpAnyH_take (i := 15) (v := ?_) rfl (by kernel_rfl) (by kernel_rfl) (by kernel_rfl) (fun _ _ _ h => h) (Or.inl ⟨by kernel_rfl, ?_⟩) hS ?_
      rotate_left
      · intro W hSW
        have a0 := hSW.1.cell0
        have a1 := hSW.1.cell1
        have a2 := hSW.1.cell2
        go_simp
        all_goals with_reducible rfl
      refine wpAnyH_take (i := 17) (v := ?_) rfl (by kernel_rfl) (by kernel_rfl) (by kernel_rfl) (fun _ _ _ h => h) (Or.inl ⟨by kernel_rfl, ?_⟩) hS ?_
      rotate_left
      · intro W hSW
        have a0 := hSW.1.cell0
        have a1 := hSW.1.cell1
        have a2 := hSW.1.cell2
        go_simp
        all_goals with_reducible rfl
      refine wpAnyH_ready (rs := [16]) (by kernel_rfl) (by simp) ?_
      refine AllReadyH.cons rfl (fun K hK => ?_) AllReadyH.nil
      go_simp
      go_wp2_with ((go_at_call 21; refine (HPR.out _ (HL.out.kept hS.2.2)).mono ?_; rintro e wz ⟨rfl, hbn⟩))
      refine hK.out _ _ (hS.kept hbn) (fun hS => ?_)
      clear hK K
      refine wpAnyH_ready (rs := [18]) (by kernel_rfl) (by simp) ?_
      refine AllReadyH.cons rfl (fun K hK => ?_) AllReadyH.nil
      go_simp
      go_wp2_with ((go_at_call 22; refine (HPQ.out _).mono ?_; rintro e wq ⟨rfl, hbn⟩))
      refine hK.out _ _ (hS.kept hbn) (fun hS => ?_)
      clear hK K
      refine wpAnyH_take (i := 19) (v := ?_) rfl (by kernel_rfl) (by kernel_rfl) (by kernel_rfl) (fun _ _ _ h => h) (Or.inl ⟨by kernel_rfl, ?_⟩) hS ?_
      rotate_left
      · intro W hSW
        go_simp
        all_goals with_reducible rfl
      refine wpAnyH_take (i := 20) (v := ?_) rfl (by kernel_rfl) (by kernel_rfl) (by kernel_rfl) (fun _ _ _ h => h) (Or.inl ⟨by kernel_rfl, ?_⟩) hS ?_
      rotate_left
      · intro W hSW
        go_simp
        all_goals with_reducible rfl
      refine wpAnyH_take (i := 21) (v := ?_) rfl (by kernel_rfl) (by kernel_rfl) (by kernel_rfl) (fun _ _ _ h => h) (Or.inl ⟨by kernel_rfl, ?_⟩) hS ?_
      rotate_left
      · intro W hSW
        go_simp
        all_goals with_reducible rfl
      refine wpAnyH_take (i := 22) (v := ?_) rfl (by kernel_rfl) (by kernel_rfl) (by kernel_rfl) (fun _ _ _ h => h) (Or.inl ⟨by kernel_rfl, ?_⟩) hS ?_
      rotate_left
      · intro W hSW
        go_simp
        all_goals with_reducible rfl
      refine wpAnyH_take (i := 23) (v := ?_) rfl (by kernel_rfl) (by kernel_rfl) (by kernel_rfl) (fun _ _ _ h => h) (Or.inl ⟨by kernel_rfl, ?_⟩) hS ?_
      rotate_left
      · intro W hSW
        have a0 := hSW.1.cell0
        have a1 := hSW.1.cell1
        have a2 := hSW.1.cell2
        go_simp
        all_goals with_reducible rfl
      refine wpAnyH_take (i := 25) (v := ?_) rfl (by kernel_rfl) (by kernel_rfl) (by kernel_rfl) (fun _ _ _ h => h) (Or.inl ⟨by kernel_rfl, ?_⟩) hS ?_
      rotate_left
      · intro W hSW
        go_simp
        all_goals with_reducible rfl
      refine wpAnyH_take (i := 26) (v := ?_) rfl (by kernel_rfl) (by kernel_rfl) (by kernel_rfl) (fun _ _ _ h => h) (Or.inl ⟨by kernel_rfl, ?_⟩) hS ?_
      rotate_left
      · intro W hSW
        have a0 := hSW.1.cell0
        have a1 := hSW.1.cell1
        have a2 := hSW.1.cell2
        go_simp
        all_goals with_reducible rfl
      refine wpAnyH_ready (rs := [24]) (by kernel_rfl) (by simp) ?_
      refine AllReadyH.cons rfl (fun K hK => ?_) AllReadyH.nil
      go_simp
      go_wp2_with ((go_at_call 23; refine (HR8.out _).mono ?_; rintro e wr ⟨rfl, hbn⟩))
      refine hK.out _ _ (hS.kept hbn) (fun hS => ?_)
      clear hK K
      refine wpAnyH_ready (rs := [27]) (by kernel_rfl) (by simp) ?_
      refine AllReadyH.cons rfl (fun K hK => ?_) AllReadyH.nil
      go_simp
      go_wp2_with ((go_at_call 24; refine (HQ8.out _).mono ?_; rintro e wt ⟨rfl, hbn⟩))
      refine hK.out _ _ (hS.kept hbn) (fun hS => ?_)
      clear hK K
      refine wpAnyH_take (i := 28) (v := ?_) rfl (by kernel_rfl) (by kernel_rfl) (by kernel_rfl) (fun _ _ _ h => h) (Or.inl ⟨by kernel_rfl, ?_⟩) hS ?_
      rotate_left
      · intro W hSW
        go_simp
        all_goals with_reducible rfl
      refine wpAnyH_take (i := 29) (v := ?_) rfl (by kernel_rfl) (by kernel_rfl) (by kernel_rfl) (fun _ _ _ h => h) (Or.inl ⟨by kernel_rfl, ?_⟩) hS ?_
      rotate_left
      · intro W hSW
        go_simp
        all_goals with_reducible rfl
      refine wpAnyH_take (i := 30) (v := ?_) rfl (by kernel_rfl) (by kernel_rfl) (by kernel_rfl) (fun _ _ _ h => h) (Or.inl ⟨by kernel_rfl, ?_⟩) hS ?_
      rotate_left
      · intro W hSW
        go_simp
        all_goals with_reducible rfl
      refine wpAnyH_ready (rs := [31]) (by kernel_rfl) (by simp) ?_
      refine AllReadyH.cons rfl (fun K hK => ?_) AllReadyH.nil
      go_simp
      go_wp2_with ((go_at_call 25; refine (knows3_any _).mono ?_; rintro e wk ⟨rfl, hbn⟩))
      refine hK.out _ _ (hS.kept hbn) (fun hS => ?_)
      clear hK K
      refine wpAnyH_take (i := 32) (v := ?_) rfl (by kernel_rfl) (by kernel_rfl) (by kernel_rfl) (fun _ _ _ h => h) (Or.inl ⟨by kernel_rfl, ?_⟩) hS ?_
      rotate_left
      · intro W hSW
        go_simp
        all_goals with_reducible rfl
      refine wpAnyH_take (i := 33) (v := ?_) rfl (by kernel_rfl) (by kernel_rfl) (by kernel_rfl) (fun _ _ _ h => h) (Or.inl ⟨by kernel_rfl, ?_⟩) hS ?_
      rotate_left
      · intro W hSW
        go_simp
        all_goals with_reducible rfl
      refine wpAnyH_done (by kernel_rfl) ?_ _
      have HS13 := Lib.hid hS
      clear hS
      go_simp
      go_wp2
      go_ret
      exact ⟨rfl, HS13.out.2.2⟩

end

section
open Go.RowKit

theorem laid_of_vforms {W : World} (h : laidMetH Tryz.prog Rows.valueFormsRow.laid W) : Laid W := by
  rw [MakeChecks.laidMetH_plain _ _ _ (by kernel_rfl)] at h
  exact laid_of_list h

theorem valueForms_walk (k n : Int) (t : ByteArray) (k' n' : Int) (t' : ByteArray) (p2 : Option Addr) (c2 : Nat) (l2 : List UInt8) (s : ByteArray) (p : Int) (w : World)
    (_ : (Lit.int .i64 k).wf = true) (_ : (Lit.int .i64 n).wf = true) (ht : t.size ≤ 140737488351232) (_ : (Lit.int .i64 k').wf = true) (_ : (Lit.int .i64 n').wf = true) (ht' : t'.size ≤ 140737488351232)
    (hbs : Bs w p2 l2) (_ : l2.length ≤ c2) (hp2 : p2 = none → c2 = 0) (hl2 : l2.length ≤ 140737488351232) (hss : s.size ≤ 140737488351232) (_ : (Lit.int .i64 p).wf = true) (hL : laidMetH Tryz.prog Rows.valueFormsRow.laid w) :
    Calls Tryz.prog 3 #[.agg #[.int .i64 k, .int .i64 n, .string t], .agg #[.int .i64 k', .int .i64 n', .string t'], .slice p2 l2.length c2, .string s, .int .i64 p] w fun e w' => e = .returned (.bool true) ∧ Below w.heap.size w w' :=
  valueForms_go k n t k' n' t' p2 c2 l2 s p w ht ht' hbs hp2 (Nat.le_trans hl2 (by decide)) hss (laid_of_vforms hL)

end

end Go.Proofs.YtfakbbbkfmnnhaaGreatDoor
