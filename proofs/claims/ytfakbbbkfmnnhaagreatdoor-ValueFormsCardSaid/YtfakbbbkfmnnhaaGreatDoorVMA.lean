/-
  THE DOCUMENT's READER (Num, Text, Fail), its Put and Take of values; Lent and Stays. No conditions.
-/
import Derived.Test.YtfakbbbkfmnnhaaGreatDoorFrame
import Derived.Deep.DeepFit
import Derived.Test.YtfakbbbkfmnnhaaGreatDoorRefReader
import Derived.Test.YtfakbbbkfmnnhaaGreatDoorRefUnframe
import Derived.Test.YtfakbbbkfmnnhaaGreatDoorVTake
import Derived.Test.YtfakbbbkfmnnhaaGreatDoorVPrint
import Derived.Deep.RegionHeld3
import Derived.Test.YtfakbbbkfmnnhaaGreatDoorRef
import Derived.Test.YtfakbbbkfmnnhaaGreatDoorVPut
namespace Go.Proofs.YtfakbbbkfmnnhaaGreatDoor

section
open Go.RowKit

set_option maxRecDepth 100000 in
set_option maxHeartbeats 400000 in
theorem lent_any (p : Option Addr) (c : Nat) (l : List UInt8) (w : World) (h : Bs w p l) (hl : l.length ≤ 140737488355328) (hpn : p = none → c = 0) :
    Calls Tryz.prog 4 #[.slice p l.length c] w fun e w' => ∃ g cap, e = .returned (.slice (some ⟨g, 0, none⟩) l.length cap) ∧ Own 5 w' w.heap.size (.slice (some ⟨g, 0, none⟩) (l.length + 2) cap) (l ++ [61, 62]) ∧ Below w.heap.size w w' ∧ l.length + 2 ≤ cap := by
  obtain ⟨i0, hi, hz0, hz1, hz2⟩ := info_parts info_u8
  have HO := Lib.hid (Own.lit (E := 5) w #[] [] rfl (by decide))
  have hb0 : Below w.heap.size w (w.alloc (.cells #[] 5)) := (Below.refl _ _).alloc (Nat.le_refl _) _
  have HB := Lib.hid (h.kept hb0)
  clear h
  go_enter Tryz.func4, Tryz.ntmps4
  go_wp2_with (at_builtin; refine wpList_append_bs rfl _ _ 24 rfl w.heap.size 5 i0 Tryz.underlying24 hi hz0 hz1 hz2 _ _ rfl HO.out p c l rfl HB.out hpn ?b1 ?b2 ?_)
  case b1 => simp; omega
  case b2 => simp
  intro v1 w1 hown1 hbel1 hgrow1 hnil1
  clear hgrow1 hnil1
  have hown1' : Own 5 w1 w.heap.size v1 l := hown1
  have hbw1 := hb0.trans hbel1
  have hs1 := hbw1.size
  have HO1 := Lib.hid (hown1'.alloc (.cells #[.int .u8 61, .int .u8 62] 5))
  obtain ⟨p2, c2, e2, hbs2, -⟩ := (Own.lit (E := 5) w1 #[.int .u8 61, .int .u8 62] [61, 62] rfl (by decide)).bs
  simp only [Value.slice.injEq] at e2
  obtain ⟨rfl, -, rfl⟩ := e2
  have HB2 := Lib.hid hbs2
  have hbw2 := hbw1.alloc hs1 (.cells #[.int .u8 61, .int .u8 62] 5)
  clear hown1 hown1' hbel1 hbs2 hb0 hbw1
  go_wp2_with (at_builtin; refine wpList_append_bs rfl _ _ 24 rfl w.heap.size 5 i0 Tryz.underlying24 hi hz0 hz1 hz2 _ _ rfl HO1.out (some ⟨w1.heap.size, 0, none⟩) 2 [61, 62] rfl HB2.out (by simp) ?d1 ?d2 ?_)
  case d1 => simp; omega
  case d2 => simp; omega
  intro v3 w3 hown3 hbel3 hgrow3 hnil3
  have hown3' : Own 5 w3 w.heap.size v3 (l ++ [61, 62]) := hown3
  have hbw3 := hbw2.trans hbel3
  have hv : ∃ g cap, v3 = .slice (some ⟨g, 0, none⟩) (l.length + 2) cap ∧ l.length + 2 ≤ cap := by
    have h0 : w3.ownsRow w.heap.size 5 1 v3 (l ++ [61, 62]).length (vals (l ++ [61, 62])) := hown3'
    rcases h0.2 with ⟨-, hn⟩ | ⟨g, cap, cur, hv, -, -, hnc, -⟩
    · simp at hn
    · exact ⟨g, cap, by rw [hv]; simp, by simpa using hnc⟩
  clear hown3 hbel3 hgrow3 hnil3 hbw2
  obtain ⟨g, cap, hv, hcap⟩ := hv
  subst hv
  have HO3 := Lib.hid hown3'
  clear hown3'
  go_wp2
  go_ret
  exact ⟨g, cap, rfl, HO3.out, hbw3, hcap⟩

theorem Own.cell {E : TypeId} {w : World} {B g n cap : Nat} {l : List UInt8} (h : Own E w B (.slice (some ⟨g, 0, none⟩) n cap) l) (i : Nat) (hi : i < l.length) : w.cell? ⟨g, i, none⟩ = some (.int .u8 (by8 l i : Nat)) := by
  obtain ⟨p, c, e, hbs, -⟩ := h.bs
  simp only [Value.slice.injEq] at e
  obtain ⟨rfl, -, -⟩ := e
  have := hbs.get i hi
  rwa [Nat.zero_add] at this

theorem by8_app_l (l m : List UInt8) (i : Nat) (h : i < l.length) : by8 (l ++ m) i = by8 l i := by
  simp [by8, List.getD, List.getElem?_append_left h]
theorem by8_app_r (l m : List UInt8) (i : Nat) : by8 (l ++ m) (l.length + i) = by8 m i := by
  simp [by8, List.getD, List.getElem?_append_right (Nat.le_add_right l.length i)]

set_option maxRecDepth 100000 in
set_option maxHeartbeats 800000 in
theorem stays_any (B g cap : Nat) (p : Option Addr) (c : Nat) (l : List UInt8) (w : World) (hown : Own 5 w B (.slice (some ⟨g, 0, none⟩) (l.length + 2) cap) (l ++ [61, 62])) (hcap : l.length + 2 ≤ cap) (h : Bs w p l) (hl : l.length ≤ 140737488355328) :
    Calls Tryz.prog 18 #[.slice (some ⟨g, 0, none⟩) l.length cap, .slice p l.length c] w fun e w' => e = .returned (.bool true) ∧ ∃ q, w' = w.drewN q := by
  have hb1 : Bs w (some ⟨g, 0, none⟩) l := fun h0 => ⟨g, 0, rfl, fun i hi => by
    rw [Nat.zero_add, hown.cell i (by simp; omega), by8_app_l _ _ _ hi]⟩
  have k1 : ∀ q C, (convert 24 9 (.slice (some ⟨g, 0, none⟩) l.length C)).run Tryz.prog (w.drewN q) = .ok (.string (strB l)) (w.drewN q) := by
    intro q C
    have hb : Bs (w.drewN q) (some ⟨g, 0, none⟩) l := fun h0 => by obtain ⟨b, o, e, hc⟩ := hb1 h0; exact ⟨b, o, e, fun i hi => hc i hi⟩
    exact hb.conv C 24 5 9 Tryz.underlying24 Tryz.underlying5 Tryz.underlying9
  have k2 : ∀ q C, (convert 24 9 (.slice p l.length C)).run Tryz.prog (w.drewN q) = .ok (.string (strB l)) (w.drewN q) := by
    intro q C
    have hb : Bs (w.drewN q) p l := fun h0 => by obtain ⟨b, o, e, hc⟩ := h h0; exact ⟨b, o, e, fun i hi => hc i hi⟩
    exact hb.conv C 24 5 9 Tryz.underlying24 Tryz.underlying5 Tryz.underlying9
  have c1 : w.cell? ⟨g, l.length, none⟩ = some (.int .u8 61) := by
    have := hown.cell l.length (by simp)
    rw [this]
    have e := by8_app_r l [61, 62] 0
    rw [Nat.add_zero] at e
    rw [e]
    rfl
  have c2 : w.cell? ⟨g, l.length + 1, none⟩ = some (.int .u8 62) := by
    rw [hown.cell (l.length + 1) (by simp), by8_app_r l [61, 62] 1]
    rfl
  clear hb1 h hown
  generalize strB l = s at *
  go_enter Tryz.func18, Tryz.ntmps18
  go_wp2
  have g1 : (0 : Int) ≤ (l.length : Int) := by omega
  have g2 : (l.length : Int) < (l.length : Int) + 2 := by omega
  have g3 : (l.length : Int) ≤ (cap : Int) := by omega
  have g4 : IntKind.i64.wrap ((l.length : Int) + 1) = (l.length : Int) + 1 := IntWalk.i64_in _ (by omega)
  have g5 : (0 : Int) ≤ (l.length : Int) + 1 := by omega
  have g6 : (l.length : Int) + 1 < (l.length : Int) + 2 := by omega
  have g7 : ((l.length : Int) + 1).toNat = l.length + 1 := by omega
  go_quiet (fail)
  go_wp2
  go_ret
  exact ⟨rfl, _, rfl⟩

end

section
open Go.RowKit

set_option maxRecDepth 100000 in
theorem refNumM_any (B b : Nat) (l : List UInt8) (w : World) (h : RRdr w B b l 0) :
    Calls Tryz.prog 40 #[.pointer (some ⟨b, 0, none⟩)] w fun e w' => e = .returned (.int .i64 ((uptoR l 281474976710655).1 : Nat)) ∧ RRdr w' B b (uptoR l 281474976710655).2.1 (uptoR l 281474976710655).2.2 ∧ Only b w w' := by
  have HU := Lib.hid (refUpto_any B b l 281474976710655 w h)
  generalize uptoR l 281474976710655 = q at *
  obtain ⟨n, l1, e1⟩ := q
  dsimp only at *
  clear h
  go_enter Tryz.func40, Tryz.ntmps40
  go_wp2_with fail
  refine HU.out.mono ?_
  rintro e w' ⟨rfl, hr, ho⟩
  have HR := Lib.hid hr
  have HO := Lib.hid ho
  clear hr ho
  go_wp2
  go_ret
  exact ⟨rfl, HR.out, HO.out⟩

set_option maxRecDepth 100000 in
theorem refFail_any (B b : Nat) (l : List UInt8) (err e : Nat) (w : World) (h : RRdr w B b l err) : Calls Tryz.prog 42 #[.pointer (some ⟨b, 0, none⟩), .int .i64 (e : Int)] w fun r w' => r = .returned (.tuple #[]) ∧ RRdr w' B b l (if err = 0 then e else err) ∧ Only b w w' := by
  have HS := Lib.hid (h.fail e)
  have HH := Lib.hid h
  obtain ⟨h0, h2, f1, f2, -⟩ := h
  by_cases he : err = 0
  · subst he
    rw [if_pos rfl]
    have HO := Lib.hid (Only.set b 2 w (.int .i64 (e : Int)))
    go_enter Tryz.func42, Tryz.ntmps42
    go_wp2
    go_end0
    exact ⟨rfl, HS.out, HO.out⟩
  · rw [if_neg he]
    have te : ((err : Int) == 0) = false := by rw [beq_eq_false_iff_ne]; omega
    clear he
    go_enter Tryz.func42, Tryz.ntmps42
    go_wp2
    go_end0
    exact ⟨rfl, HH.out, Only.refl _ _⟩

/-- what region 11 reads -/
def S11 (b : Nat) (ad : Addr) (L : List UInt8) (c a : Nat) (w : World) : Prop := w.cell? ⟨b, 0, none⟩ = some (.slice (some ad) L.length c) ∧ w.cell? ⟨b, 1, none⟩ = some (.int .i64 (a : Int)) ∧ Bs w (some ad) L
theorem S11.kept {b : Nat} {ad : Addr} {L : List UInt8} {c a : Nat} {w w' : World} (h : S11 b ad L c a w) (hb : Below w.heap.size w w') : S11 b ad L c a w' := by
  have hlt : b < w.heap.size := cell_lt h.1
  exact ⟨by rw [hb.cell (by simpa using hlt)]; exact h.1, by rw [hb.cell (by simpa using hlt)]; exact h.2.1, h.2.2.kept hb⟩

set_option maxRecDepth 100000 in
set_option maxHeartbeats 1500000 in
theorem refText_rd (B b : Nat) (l : List UInt8) (w : World) (h : RRdr w B b l 0) :
    Calls Tryz.prog 41 #[.pointer (some ⟨b, 0, none⟩)] w fun e w' => e = .returned (.string (strB (textR l).1)) ∧ RRdr w' B b (textR l).2.1 (textR l).2.2 ∧ Only b w w' := by
  have H := Lib.hid h
  have NS := numR_small l 281474976710655
  have hN2 := numR_two l
  have HU : textR l = (if (numR l 1048576).2.2 ≠ 0 then ([], l, (numR l 1048576).2.2) else if l.length - (numR l 1048576).2.1 < (numR l 1048576).1 then ([], l, 20) else ((l.drop (numR l 1048576).2.1).take (numR l 1048576).1, l.drop ((numR l 1048576).2.1 + (numR l 1048576).1), 0)) := rfl
  rcases hr : numR l 281474976710655 with ⟨n, s, e⟩
  rw [hr] at NS hN2
  dsimp only at NS hN2
  rw [hN2] at HU
  have hlt := h.lt
  have HLF := Lib.hid (fun W hW => refLeft_any B b l 0 W hW)
  obtain ⟨h0, h2, f1, f2, p, c, a, L, c0, c1, h3, h4, hl, h6, h7⟩ := h
  have HNQ := Lib.hid (refNumber_quiet p c a L n s e (by rw [← hl]; exact hr) (by unfold maxLen; omega))
  have h6d : ∀ k, Bs (w.drewN k) p L := fun k => h6.kept (below_drewN (Below.refl _ _) _)
  have H6 := Lib.hid (And.intro h6 h6d)
  clear hr h6d h6 hN2
  by_cases he : e = 0
  · subst he
    obtain ⟨ns7, nsM, nsL⟩ := NS
    obtain ⟨ns1, ns2⟩ := nsL rfl
    rw [if_neg (show ¬ ((0 : Nat) ≠ 0) by simp)] at HU
    clear nsL
    by_cases hm : 1048576 < n
    · rw [if_pos hm] at HU
      dsimp only at HU
      rw [if_pos (by decide)] at HU
      have HUh := Lib.hid HU
      have HF := Lib.hid (fun k => (H.out.kept (below_drewN (Below.refl w.heap.size w) k)).fail 21)
      have hm' : (1048576 : Int) < (n : Int) := by omega
      clear HU hl hm
      go_enter Tryz.func41, Tryz.ntmps41
      go_wp2
      go_quiet ((go_at_call 59; exact Calls.quiet_of_same (HNQ.out _ (by first | exact H6.out.1 | exact H6.out.2 _))))
      go_wp2
      go_ret
      rw [HUh.out]
      exact ⟨rfl, HF.out nq, (Only.of_below (below_drewN (Below.refl _ _) nq)).trans (Only.set b 2 _ _)⟩
    · rw [if_neg hm] at HU
      dsimp only at HU
      rw [if_neg (show ¬ ((0 : Nat) ≠ 0) by simp)] at HU
      have hm' : decide ((1048576 : Int) < (n : Int)) = false := decide_eq_false (by omega)
      have hn48 : (n : Int) ≤ 1048576 := by omega
      by_cases hs : l.length - s < n
      · rw [if_pos hs] at HU
        have HUh := Lib.hid HU
        have tl : (l.length : Int) - (s : Int) < (n : Int) := by omega
        have hll : (l.length : Int) ≤ 140737488355328 := by rw [hl, List.length_drop]; omega
        have hss : (s : Int) ≤ 100 := by omega
        clear HU hl hm hs
        go_enter Tryz.func41, Tryz.ntmps41
        go_wp2
        go_quiet ((go_at_call 59; exact Calls.quiet_of_same (HNQ.out _ (by first | exact H6.out.1 | exact H6.out.2 _))))
        have HK := Lib.hid (H.out.kept (below_drewN (Below.refl w.heap.size w) nq))
        have HB := Lib.hid (below_drewN (Below.refl w.heap.size w) nq)
        go_wp2_with fail
        refine (HLF.out _ HK.out).mono ?_
        rintro e w2 ⟨rfl, hb2⟩
        have HK2 := Lib.hid (HK.out.kept hb2)
        have HB2 := Lib.hid (HB.out.trans (hb2.mono HB.out.size))
        clear hb2
        have g2 := HK2.out.2.1
        have g3 := HK2.out.2.2.2.1
        have HF := Lib.hid (HK2.out.fail 20)
        go_wp2
        go_ret
        rw [HUh.out]
        exact ⟨rfl, HF.out, (Only.of_below HB2.out).trans (Only.set b 2 _ _)⟩
      · rw [if_neg hs] at HU
        have hsn : s + n ≤ l.length := by omega
        have hll : l.length = L.length - a := by rw [hl, List.length_drop]
        have hLp : 0 < L.length := by omega
        obtain ⟨b', o', rfl, hcell⟩ := H6.out.1 hLp
        have HS0 := Lib.hid (show S11 b ⟨b', o', none⟩ L c a w from ⟨c0, c1, H6.out.1⟩)
        have hml : ((L.drop (a + s)).take n).length = n := by simp; omega
        have HMM := Lib.hid (show strB ((L.drop (a + s)).take n) = strB ((l.drop s).take n) by rw [hl, List.drop_drop])
        have hsum1 : IntKind.i64.wrap ((a : Int) + (s : Int)) = (a : Int) + (s : Int) := by rw [IntKind.wrap_i64]; omega
        have hsum2 : IntKind.i64.wrap ((a : Int) + (s : Int) + (n : Int)) = (a : Int) + (s : Int) + (n : Int) := by rw [IntKind.wrap_i64]; omega
        have hn1 : ((a : Int) + (s : Int)).toNat = a + s := by omega
        have hn2 : ((a : Int) + (s : Int) + (n : Int)).toNat = a + s + n := by omega
        have hn3 : a + s + n - (a + s) = n := by omega
        have hg1 : 0 ≤ (a : Int) + (s : Int) := by omega
        have hg2 : (a : Int) + (s : Int) ≤ (a : Int) + (s : Int) + (n : Int) := by omega
        have hg3 : (a : Int) + (s : Int) + (n : Int) ≤ (c : Int) := by omega
        have hg4 : (l.length : Int) - (s : Int) < 9223372036854775807 := by omega
        have hg5 : decide ((l.length : Int) - (s : Int) < (n : Int)) = false := decide_eq_false (by omega)
        have hg6 : -9223372036854775808 ≤ (l.length : Int) - (s : Int) := by omega
        have hwl : IntKind.i64.wrap ((l.length : Int) - (s : Int)) = (l.length : Int) - (s : Int) := by rw [IntKind.wrap_i64]; omega
        have HUh := Lib.hid HU
        clear HU hl hs hm hcell
        by_cases hcs : c = a + s
        · subst hcs
          have hg7 : (a : Int) + (s : Int) + (n : Int) ≤ (a : Int) + (s : Int) := by omega
          have hg8 : 0 ≤ (a : Int) + (s : Int) + (n : Int) := by omega
          have hKB : ∀ W : World, Bs W (some ⟨b', o', none⟩) L → Bs W (some ⟨b', o', none⟩) ((L.drop (a + s)).take n) := fun W _ h0 => by rw [hml] at h0; exact absurd h0 (by omega)
          go_enter Tryz.func41, Tryz.ntmps41
          go_wp2
          go_quiet ((go_at_call 59; exact Calls.quiet_of_same (HNQ.out _ (by first | exact H6.out.1 | exact H6.out.2 _))))
          have HK := Lib.hid (H.out.kept (below_drewN (Below.refl w.heap.size w) nq))
          have HB := Lib.hid (below_drewN (Below.refl w.heap.size w) nq)
          go_wp2_with fail
          refine (HLF.out _ HK.out).mono ?_
          rintro e w2 ⟨rfl, hb2⟩
          have HK2 := Lib.hid (HK.out.kept hb2)
          have HB2 := Lib.hid (HB.out.trans (hb2.mono HB.out.size))
          have HS := Lib.hid (HS0.out.kept (HB.out.trans (hb2.mono HB.out.size)))
          clear hb2
          go_wp2
          refine wp_region_held_drew (S := (S11 b ⟨b', o', none⟩ L (a + s) a)) (by kernel_rfl) (HS.out.kept ((Below.refl w2.heap.size w2).drew)) (fun hS => ?_)
          refine wpAnyH_take (i := 0) (v := ?_) rfl (by kernel_rfl) (by kernel_rfl) (by kernel_rfl) (fun _ _ _ h => h) (Or.inl ⟨by kernel_rfl, ?_⟩) hS ?_
          rotate_left
          · intro W hSW
            go_simp
            all_goals with_reducible rfl
          refine wpAnyH_take (i := 1) (v := ?_) rfl (by kernel_rfl) (by kernel_rfl) (by kernel_rfl) (fun _ _ _ h => h) (Or.inl ⟨by kernel_rfl, ?_⟩) hS ?_
          rotate_left
          · intro W hSW
            go_simp
            all_goals with_reducible rfl
          refine wpAnyH_take (i := 2) (v := ?_) rfl (by kernel_rfl) (by kernel_rfl) (by kernel_rfl) (fun _ _ _ h => h) (Or.inl ⟨by kernel_rfl, ?_⟩) hS ?_
          rotate_left
          · intro W hSW
            go_simp
            all_goals with_reducible rfl
          refine wpAnyH_take (i := 3) (v := ?_) rfl (by kernel_rfl) (by kernel_rfl) (by kernel_rfl) (fun _ _ _ h => h) (Or.inl ⟨by kernel_rfl, ?_⟩) hS ?_
          rotate_left
          · intro W hSW
            have x0 := hSW.1
            have x1 := hSW.2.1
            go_simp
            all_goals with_reducible rfl
          refine wpAnyH_take (i := 4) (v := ?_) rfl (by kernel_rfl) (by kernel_rfl) (by kernel_rfl) (fun _ _ _ h => h) (Or.inl ⟨by kernel_rfl, ?_⟩) hS ?_
          rotate_left
          · intro W hSW
            go_simp
            all_goals with_reducible rfl
          refine wpAnyH_take (i := 5) (v := ?_) rfl (by kernel_rfl) (by kernel_rfl) (by kernel_rfl) (fun _ _ _ h => h) (Or.inl ⟨by kernel_rfl, ?_⟩) hS ?_
          rotate_left
          · intro W hSW
            go_simp
            all_goals with_reducible rfl
          refine wpAnyH_take (i := 6) (v := ?_) rfl (by kernel_rfl) (by kernel_rfl) (by kernel_rfl) (fun _ _ _ h => h) (Or.inl ⟨by kernel_rfl, ?_⟩) hS ?_
          rotate_left
          · intro W hSW
            go_simp
            all_goals with_reducible rfl
          refine wpAnyH_take (i := 7) (v := ?_) rfl (by kernel_rfl) (by kernel_rfl) (by kernel_rfl) (fun _ _ _ h => h) (Or.inl ⟨by kernel_rfl, ?_⟩) hS ?_
          rotate_left
          · intro W hSW
            have x0 := hSW.1
            have x1 := hSW.2.1
            go_simp
            all_goals with_reducible rfl
          refine wpAnyH_take (i := 8) (v := ?_) rfl (by kernel_rfl) (by kernel_rfl) (by kernel_rfl) (fun _ _ _ h => h) (Or.inl ⟨by kernel_rfl, ?_⟩) hS ?_
          rotate_left
          · intro W hSW
            go_simp
            all_goals with_reducible rfl
          refine wpAnyH_take (i := 9) (v := ?_) rfl (by kernel_rfl) (by kernel_rfl) (by kernel_rfl) (fun _ _ _ h => h) (Or.inl ⟨by kernel_rfl, ?_⟩) hS ?_
          rotate_left
          · intro W hSW
            go_simp
            all_goals with_reducible rfl
          refine wpAnyH_take (i := 10) (v := ?_) rfl (by kernel_rfl) (by kernel_rfl) (by kernel_rfl) (fun _ _ _ h => h) (Or.inl ⟨by kernel_rfl, ?_⟩) hS ?_
          rotate_left
          · intro W hSW
            go_simp
            all_goals with_reducible rfl
          refine wpAnyH_take (i := 11) (v := ?_) rfl (by kernel_rfl) (by kernel_rfl) (by kernel_rfl) (fun _ _ _ h => h) (Or.inl ⟨by kernel_rfl, ?_⟩) hS ?_
          rotate_left
          · intro W hSW
            go_simp
            all_goals with_reducible rfl
          refine wpAnyH_take (i := 12) (v := ?_) rfl (by kernel_rfl) (by kernel_rfl) (by kernel_rfl) (fun _ _ _ h => h) (Or.inl ⟨by kernel_rfl, ?_⟩) hS ?_
          rotate_left
          · intro W hSW
            go_simp
            all_goals with_reducible rfl
          refine wpAnyH_take (i := 13) (v := ?_) rfl (by kernel_rfl) (by kernel_rfl) (by kernel_rfl) (fun _ _ _ h => h) (Or.inl ⟨by kernel_rfl, ?_⟩) hS ?_
          rotate_left
          · intro W hSW
            have x0 := hSW.1
            have x1 := hSW.2.1
            go_simp
            all_goals with_reducible rfl
          refine wpAnyH_take (i := 14) (v := ?_) rfl (by kernel_rfl) (by kernel_rfl) (by kernel_rfl) (fun _ _ _ h => h) (Or.inl ⟨by kernel_rfl, ?_⟩) hS ?_
          rotate_left
          · intro W hSW
            go_simp
            all_goals with_reducible rfl
          refine wpAnyH_take (i := 15) (v := ?_) rfl (by kernel_rfl) (by kernel_rfl) (by kernel_rfl) (fun _ _ _ h => h) (Or.inl ⟨by kernel_rfl, ?_⟩) hS ?_
          rotate_left
          · intro W hSW
            go_simp
            all_goals with_reducible rfl
          refine wpAnyH_take (i := 16) (v := ?_) rfl (by kernel_rfl) (by kernel_rfl) (by kernel_rfl) (fun _ _ _ h => h) (Or.inl ⟨by kernel_rfl, ?_⟩) hS ?_
          rotate_left
          · intro W hSW
            go_simp
            all_goals with_reducible rfl
          refine wpAnyH_take (i := 17) (v := ?_) rfl (by kernel_rfl) (by kernel_rfl) (by kernel_rfl) (fun _ _ _ h => h) (Or.inl ⟨by kernel_rfl, ?_⟩) hS ?_
          rotate_left
          · intro W hSW
            go_simp
            all_goals with_reducible rfl
          refine wpAnyH_take (i := 18) (v := ?_) rfl (by kernel_rfl) (by kernel_rfl) (by kernel_rfl) (fun _ _ _ h => h) (Or.inl ⟨by kernel_rfl, ?_⟩) hS ?_
          rotate_left
          · intro W hSW
            go_simp
            all_goals with_reducible rfl
          refine wpAnyH_take (i := 19) (v := ?_) rfl (by kernel_rfl) (by kernel_rfl) (by kernel_rfl) (fun _ _ _ h => h) (Or.inl ⟨by kernel_rfl, ?_⟩) hS ?_
          rotate_left
          · intro W hSW
            have k1 := (hKB W hSW.2.2).conv (P := Tryz.prog) 0 24 5 9 Tryz.underlying24 Tryz.underlying5 Tryz.underlying9
            rw [hml] at k1
            go_simp
            all_goals with_reducible rfl
          refine wpAnyH_take (i := 20) (v := ?_) rfl (by kernel_rfl) (by kernel_rfl) (by kernel_rfl) (fun _ _ _ h => h) (Or.inl ⟨by kernel_rfl, ?_⟩) hS ?_
          rotate_left
          · intro W hSW
            go_simp
            all_goals with_reducible rfl
          refine wpAnyH_done (by kernel_rfl) ?_ _
          clear hS
          have HK3 := Lib.hid (HK2.out.kept ((Below.refl w2.heap.size w2).drew))
          have HB3 := Lib.hid HB2.out.drew
          obtain ⟨a', e1, -, hp⟩ := HK3.out.pass (s + n) hsn
          have e2 : (a : Int) = (a' : Int) := by
            have h3 := (HS.out.kept ((Below.refl w2.heap.size w2).drew)).2.1
            rw [h3] at e1
            simpa using e1
          have HPASS := Lib.hid (show RRdr (w2.drew.setCell ⟨b, 1, none⟩ (.int .i64 ((a : Int) + (s : Int) + (n : Int)))) B b (l.drop (s + n)) 0 by
            rw [show (a : Int) + (s : Int) + (n : Int) = (a' : Int) + ((s + n : Nat) : Int) by omega]; exact hp)
          have x1 : w2.drew.cell? ⟨b, 1, none⟩ = some (.int .i64 (a : Int)) := (HS.out.kept ((Below.refl w2.heap.size w2).drew)).2.1
          have x2 := HK3.out.2.2.1
          clear hp e1 e2
          go_wp2
          go_ret
          rw [HUh.out]
          exact ⟨ret_str HMM.out, HPASS.out, (Only.of_below HB3.out).trans (Only.set b 1 _ _)⟩
        · have hKB : ∀ W : World, Bs W (some ⟨b', o', none⟩) L → Bs W (some ⟨b', o' + (a + s), none⟩) ((L.drop (a + s)).take n) := fun W hW h0 => by
            obtain ⟨b2, o2, e, hc⟩ := hW hLp
            simp only [Option.some.injEq, Addr.mk.injEq] at e
            obtain ⟨rfl, rfl, -⟩ := e
            refine ⟨b', o' + (a + s), rfl, fun i hi => ?_⟩
            rw [hml] at hi
            rw [by8_take_drop _ _ _ _ (by omega), Nat.add_assoc]
            exact hc (a + s + i) (by omega)
          go_enter Tryz.func41, Tryz.ntmps41
          go_wp2
          go_quiet ((go_at_call 59; exact Calls.quiet_of_same (HNQ.out _ (by first | exact H6.out.1 | exact H6.out.2 _))))
          have HK := Lib.hid (H.out.kept (below_drewN (Below.refl w.heap.size w) nq))
          have HB := Lib.hid (below_drewN (Below.refl w.heap.size w) nq)
          go_wp2_with fail
          refine (HLF.out _ HK.out).mono ?_
          rintro e w2 ⟨rfl, hb2⟩
          have HK2 := Lib.hid (HK.out.kept hb2)
          have HB2 := Lib.hid (HB.out.trans (hb2.mono HB.out.size))
          have HS := Lib.hid (HS0.out.kept (HB.out.trans (hb2.mono HB.out.size)))
          clear hb2
          go_wp2
          refine wp_region_held_drew (S := (S11 b ⟨b', o', none⟩ L c a)) (by kernel_rfl) (HS.out.kept ((Below.refl w2.heap.size w2).drew)) (fun hS => ?_)
          refine wpAnyH_take (i := 0) (v := ?_) rfl (by kernel_rfl) (by kernel_rfl) (by kernel_rfl) (fun _ _ _ h => h) (Or.inl ⟨by kernel_rfl, ?_⟩) hS ?_
          rotate_left
          · intro W hSW
            go_simp
            all_goals with_reducible rfl
          refine wpAnyH_take (i := 1) (v := ?_) rfl (by kernel_rfl) (by kernel_rfl) (by kernel_rfl) (fun _ _ _ h => h) (Or.inl ⟨by kernel_rfl, ?_⟩) hS ?_
          rotate_left
          · intro W hSW
            go_simp
            all_goals with_reducible rfl
          refine wpAnyH_take (i := 2) (v := ?_) rfl (by kernel_rfl) (by kernel_rfl) (by kernel_rfl) (fun _ _ _ h => h) (Or.inl ⟨by kernel_rfl, ?_⟩) hS ?_
          rotate_left
          · intro W hSW
            go_simp
            all_goals with_reducible rfl
          refine wpAnyH_take (i := 3) (v := ?_) rfl (by kernel_rfl) (by kernel_rfl) (by kernel_rfl) (fun _ _ _ h => h) (Or.inl ⟨by kernel_rfl, ?_⟩) hS ?_
          rotate_left
          · intro W hSW
            have x0 := hSW.1
            have x1 := hSW.2.1
            go_simp
            all_goals with_reducible rfl
          refine wpAnyH_take (i := 4) (v := ?_) rfl (by kernel_rfl) (by kernel_rfl) (by kernel_rfl) (fun _ _ _ h => h) (Or.inl ⟨by kernel_rfl, ?_⟩) hS ?_
          rotate_left
          · intro W hSW
            go_simp
            all_goals with_reducible rfl
          refine wpAnyH_take (i := 5) (v := ?_) rfl (by kernel_rfl) (by kernel_rfl) (by kernel_rfl) (fun _ _ _ h => h) (Or.inl ⟨by kernel_rfl, ?_⟩) hS ?_
          rotate_left
          · intro W hSW
            go_simp
            all_goals with_reducible rfl
          refine wpAnyH_take (i := 6) (v := ?_) rfl (by kernel_rfl) (by kernel_rfl) (by kernel_rfl) (fun _ _ _ h => h) (Or.inl ⟨by kernel_rfl, ?_⟩) hS ?_
          rotate_left
          · intro W hSW
            go_simp
            all_goals with_reducible rfl
          refine wpAnyH_take (i := 7) (v := ?_) rfl (by kernel_rfl) (by kernel_rfl) (by kernel_rfl) (fun _ _ _ h => h) (Or.inl ⟨by kernel_rfl, ?_⟩) hS ?_
          rotate_left
          · intro W hSW
            have x0 := hSW.1
            have x1 := hSW.2.1
            go_simp
            all_goals with_reducible rfl
          refine wpAnyH_take (i := 8) (v := ?_) rfl (by kernel_rfl) (by kernel_rfl) (by kernel_rfl) (fun _ _ _ h => h) (Or.inl ⟨by kernel_rfl, ?_⟩) hS ?_
          rotate_left
          · intro W hSW
            go_simp
            all_goals with_reducible rfl
          refine wpAnyH_take (i := 9) (v := ?_) rfl (by kernel_rfl) (by kernel_rfl) (by kernel_rfl) (fun _ _ _ h => h) (Or.inl ⟨by kernel_rfl, ?_⟩) hS ?_
          rotate_left
          · intro W hSW
            go_simp
            all_goals with_reducible rfl
          refine wpAnyH_take (i := 10) (v := ?_) rfl (by kernel_rfl) (by kernel_rfl) (by kernel_rfl) (fun _ _ _ h => h) (Or.inl ⟨by kernel_rfl, ?_⟩) hS ?_
          rotate_left
          · intro W hSW
            go_simp
            all_goals with_reducible rfl
          refine wpAnyH_take (i := 11) (v := ?_) rfl (by kernel_rfl) (by kernel_rfl) (by kernel_rfl) (fun _ _ _ h => h) (Or.inl ⟨by kernel_rfl, ?_⟩) hS ?_
          rotate_left
          · intro W hSW
            go_simp
            all_goals with_reducible rfl
          refine wpAnyH_take (i := 12) (v := ?_) rfl (by kernel_rfl) (by kernel_rfl) (by kernel_rfl) (fun _ _ _ h => h) (Or.inl ⟨by kernel_rfl, ?_⟩) hS ?_
          rotate_left
          · intro W hSW
            go_simp
            all_goals with_reducible rfl
          refine wpAnyH_take (i := 13) (v := ?_) rfl (by kernel_rfl) (by kernel_rfl) (by kernel_rfl) (fun _ _ _ h => h) (Or.inl ⟨by kernel_rfl, ?_⟩) hS ?_
          rotate_left
          · intro W hSW
            have x0 := hSW.1
            have x1 := hSW.2.1
            go_simp
            all_goals with_reducible rfl
          refine wpAnyH_take (i := 14) (v := ?_) rfl (by kernel_rfl) (by kernel_rfl) (by kernel_rfl) (fun _ _ _ h => h) (Or.inl ⟨by kernel_rfl, ?_⟩) hS ?_
          rotate_left
          · intro W hSW
            go_simp
            all_goals with_reducible rfl
          refine wpAnyH_take (i := 15) (v := ?_) rfl (by kernel_rfl) (by kernel_rfl) (by kernel_rfl) (fun _ _ _ h => h) (Or.inl ⟨by kernel_rfl, ?_⟩) hS ?_
          rotate_left
          · intro W hSW
            go_simp
            all_goals with_reducible rfl
          refine wpAnyH_take (i := 16) (v := ?_) rfl (by kernel_rfl) (by kernel_rfl) (by kernel_rfl) (fun _ _ _ h => h) (Or.inl ⟨by kernel_rfl, ?_⟩) hS ?_
          rotate_left
          · intro W hSW
            go_simp
            all_goals with_reducible rfl
          refine wpAnyH_take (i := 17) (v := ?_) rfl (by kernel_rfl) (by kernel_rfl) (by kernel_rfl) (fun _ _ _ h => h) (Or.inl ⟨by kernel_rfl, ?_⟩) hS ?_
          rotate_left
          · intro W hSW
            go_simp
            all_goals with_reducible rfl
          refine wpAnyH_take (i := 18) (v := ?_) rfl (by kernel_rfl) (by kernel_rfl) (by kernel_rfl) (fun _ _ _ h => h) (Or.inl ⟨by kernel_rfl, ?_⟩) hS ?_
          rotate_left
          · intro W hSW
            go_simp
            all_goals with_reducible rfl
          refine wpAnyH_take (i := 19) (v := ?_) rfl (by kernel_rfl) (by kernel_rfl) (by kernel_rfl) (fun _ _ _ h => h) (Or.inl ⟨by kernel_rfl, ?_⟩) hS ?_
          rotate_left
          · intro W hSW
            have k1 := (hKB W hSW.2.2).conv (P := Tryz.prog) (c - (a + s)) 24 5 9 Tryz.underlying24 Tryz.underlying5 Tryz.underlying9
            rw [hml] at k1
            go_simp
            all_goals with_reducible rfl
          refine wpAnyH_take (i := 20) (v := ?_) rfl (by kernel_rfl) (by kernel_rfl) (by kernel_rfl) (fun _ _ _ h => h) (Or.inl ⟨by kernel_rfl, ?_⟩) hS ?_
          rotate_left
          · intro W hSW
            go_simp
            all_goals with_reducible rfl
          refine wpAnyH_done (by kernel_rfl) ?_ _
          clear hS
          have HK3 := Lib.hid (HK2.out.kept ((Below.refl w2.heap.size w2).drew))
          have HB3 := Lib.hid HB2.out.drew
          obtain ⟨a', e1, -, hp⟩ := HK3.out.pass (s + n) hsn
          have e2 : (a : Int) = (a' : Int) := by
            have h3 := (HS.out.kept ((Below.refl w2.heap.size w2).drew)).2.1
            rw [h3] at e1
            simpa using e1
          have HPASS := Lib.hid (show RRdr (w2.drew.setCell ⟨b, 1, none⟩ (.int .i64 ((a : Int) + (s : Int) + (n : Int)))) B b (l.drop (s + n)) 0 by
            rw [show (a : Int) + (s : Int) + (n : Int) = (a' : Int) + ((s + n : Nat) : Int) by omega]; exact hp)
          have x1 : w2.drew.cell? ⟨b, 1, none⟩ = some (.int .i64 (a : Int)) := (HS.out.kept ((Below.refl w2.heap.size w2).drew)).2.1
          have x2 := HK3.out.2.2.1
          clear hp e1 e2
          go_wp2
          go_ret
          rw [HUh.out]
          exact ⟨ret_str HMM.out, HPASS.out, (Only.of_below HB3.out).trans (Only.set b 1 _ _)⟩
  · rw [if_pos he] at HU
    dsimp only at HU
    rw [if_pos he] at HU
    have HUh := Lib.hid HU
    have te : ((e : Int) != 0) = true := by rw [bne_iff_ne]; omega
    have te2 : ((e : Int) == 0) = false := by rw [beq_eq_false_iff_ne]; omega
    have HF := Lib.hid (fun k => (H.out.kept (below_drewN (Below.refl w.heap.size w) k)).fail e)
    clear HU he NS hl
    go_enter Tryz.func41, Tryz.ntmps41
    go_wp2
    go_quiet ((go_at_call 59; exact Calls.quiet_of_same (HNQ.out _ (by first | exact H6.out.1 | exact H6.out.2 _))))
    go_wp2
    go_ret
    rw [HUh.out]
    exact ⟨rfl, HF.out nq, (Only.of_below (below_drewN (Below.refl _ _) nq)).trans (Only.set b 2 _ _)⟩

end

section
open Go.RowKit

theorem RRdr.three {w : World} {B b v : Nat} {l : List UInt8} {err : Nat} {k n : Int} {t : ByteArray} (h : RRdr w B b l err) (hk : ThreeAt w v k n t) (hne : v ≠ b) (o : Nat) (x : Value) : RRdr (w.setCell ⟨v, o, none⟩ x) B b l err := by
  obtain ⟨h0, h2, f1, f2, p, c, a, L, c0, c1, h3, h4, h5, h6, h7⟩ := h
  have m : ∀ o', (⟨v, o, none⟩ : Addr) ≠ ⟨b, o', none⟩ := fun o' e => by injection e with e1; exact hne e1
  exact ⟨h0, by rw [cell_other (m _)]; exact h2, by simpa using f1, by simpa using f2, p, c, a, L, by rw [cell_other (m _)]; exact c0, by rw [cell_other (m _)]; exact c1, h3, h4, h5, h6.three hk _ _, h7⟩

/-- what the document's Take carries: the result's cell, the value's box, the reader -/
def RTk (w0 : World) (B b : Nat) (R V : Nat) (k n : Int) (t : ByteArray) (l : List UInt8) (err : Nat) (w : World) : Prop :=
  (w0.heap.size ≤ R ∧ w0.heap.size ≤ V ∧ R ≠ V ∧ b < w0.heap.size) ∧ ThreeAt w R 0 0 ⟨#[]⟩ ∧ ThreeAt w V k n t ∧ RRdr w B b l err ∧ Only b w0 w
theorem RTk.kept {w0 w w' : World} {B b R V : Nat} {k n : Int} {t : ByteArray} {l : List UInt8} {err : Nat} (h : RTk w0 B b R V k n t l err w) (hb : Below w.heap.size w w') : RTk w0 B b R V k n t l err w' :=
  ⟨h.1, h.2.1.kept hb, h.2.2.1.kept hb, h.2.2.2.1.kept hb, h.2.2.2.2.trans (Only.ofBelow (b := b) hb)⟩
theorem RTk.read {w0 w w' : World} {B b R V : Nat} {k n : Int} {t : ByteArray} {l l' : List UInt8} {err err' : Nat} (h : RTk w0 B b R V k n t l err w) (hr : RRdr w' B b l' err') (ho : Only b w w') : RTk w0 B b R V k n t l' err' w' := by
  obtain ⟨⟨h1, h2, h3, h4⟩, h5, h6, h7, h8⟩ := h
  exact ⟨⟨h1, h2, h3, h4⟩, h5.only ho (by omega), h6.only ho (by omega), hr, h8.trans ho⟩
theorem RTk.set1 {w0 w : World} {B b R V : Nat} {k n : Int} {t : ByteArray} {l : List UInt8} {err : Nat} (h : RTk w0 B b R V k n t l err w) (n' : Int) : RTk w0 B b R V k n' t l err (w.setCell ⟨V, 1, none⟩ (.int .i64 n')) := by
  obtain ⟨⟨h1, h2, h3, h4⟩, h5, h6, h7, h8⟩ := h
  exact ⟨⟨h1, h2, h3, h4⟩, (Below.heap_setCell w ⟨V, 1, none⟩ (.int .i64 n') R h3).trans h5, h6.set1 n', h7.three h6 (by omega) 1 _, h8.far1 h2 1 _⟩
theorem RTk.set2 {w0 w : World} {B b R V : Nat} {k n : Int} {t : ByteArray} {l : List UInt8} {err : Nat} (h : RTk w0 B b R V k n t l err w) (t' : ByteArray) : RTk w0 B b R V k n t' l err (w.setCell ⟨V, 2, none⟩ (.string t')) := by
  obtain ⟨⟨h1, h2, h3, h4⟩, h5, h6, h7, h8⟩ := h
  exact ⟨⟨h1, h2, h3, h4⟩, (Below.heap_setCell w ⟨V, 2, none⟩ (.string t') R h3).trans h5, h6.set2 t', h7.three h6 (by omega) 2 _, h8.far1 h2 2 _⟩
/-- the answer is laid into its cell -/
theorem RTk.answer {w0 w : World} {B b R V : Nat} {k n : Int} {t : ByteArray} {l : List UInt8} {err : Nat} (h : RTk w0 B b R V k n t l err w) (k' n' : Int) (t' : ByteArray) :
    RRdr (((w.setCell ⟨R, 0, none⟩ (.int .i64 k')).setCell ⟨R, 1, none⟩ (.int .i64 n')).setCell ⟨R, 2, none⟩ (.string t')) B b l err ∧
    Only b w0 (((w.setCell ⟨R, 0, none⟩ (.int .i64 k')).setCell ⟨R, 1, none⟩ (.int .i64 n')).setCell ⟨R, 2, none⟩ (.string t')) := by
  obtain ⟨⟨h1, h2, h3, h4⟩, h5, h6, h7, h8⟩ := h
  have a1 : ThreeAt (w.setCell ⟨R, 0, none⟩ (.int .i64 k')) R k' 0 ⟨#[]⟩ := Go.Joins.block_setCell h5 (i := 0) (.int .i64 k')
  have a2 := a1.set1 n'
  exact ⟨((h7.three h5 (by omega) 0 _).three a1 (by omega) 1 _).three a2 (by omega) 2 _, ((h8.far1 h1 0 _).far1 h1 1 _).far1 h1 2 _⟩

set_option maxRecDepth 100000 in
set_option maxHeartbeats 2000000 in
theorem refVtake_any (B b : Nat) (l : List UInt8) (w : World) (h : RRdr w B b l 0) :
    Calls Tryz.prog 14 #[.pointer (some ⟨b, 0, none⟩)] w fun e w' => e = .returned (.agg #[.int .i64 (takeV l).1, .int .i64 (takeV l).2.1, .string (strB (takeV l).2.2.1)]) ∧ RRdr w' B b (takeV l).2.2.2.1 (takeV l).2.2.2.2 ∧ Only b w w' := by
  have hblt : b < w.heap.size := h.lt
  have hl62 : l.length ≤ 140737488355328 := by
    obtain ⟨-, -, -, -, p, c, a, L, -, -, h3, h4, h5, -, -⟩ := h
    rw [h5, List.length_drop]; omega
  have hb := (Below.refl w.heap.size w).alloc (Nat.le_refl _) (.cells #[.int .i64 0, .int .i64 0, .string ⟨#[]⟩] 23)
  have HO0 := Lib.hid (Only.ofBelow (b := b) hb)
  have HT0 := Lib.hid (ThreeAt.start w 0 0 ⟨#[]⟩)
  have HU1 := Lib.hid (refNumM_any B b l _ (h.kept hb))
  have HLT := uptoR_lt l
  have hlen1 : (uptoR l 281474976710655).2.1.length ≤ 140737488355328 := Nat.le_trans (uptoR_len l _) hl62
  have HER := Lib.hid (uptoR_err l 281474976710655)
  have HTD : Hid (takeV l = if (rawV l).2.2.2.2 ≠ 0 then (0, 0, [], (rawV l).2.2.2.1, (rawV l).2.2.2.2)
    else if Vm.rightV (rawV l).1 (rawV l).2.1 (rawV l).2.2.1 = true then ((rawV l).1, (rawV l).2.1, (rawV l).2.2.1, (rawV l).2.2.2.1, 0)
    else (0, 0, [], (rawV l).2.2.2.1, 21)) := Lib.hid rfl
  have HRW : Hid (rawV l = if (uptoR l 281474976710655).1 = 1 ∨ (uptoR l 281474976710655).1 = 2 then (((uptoR l 281474976710655).1 : Int), unfoldV (uptoR (uptoR l 281474976710655).2.1 281474976710655).1, [], (uptoR (uptoR l 281474976710655).2.1 281474976710655).2.1, (uptoR (uptoR l 281474976710655).2.1 281474976710655).2.2)
    else if (uptoR l 281474976710655).1 = 3 then (3, 0, (textR (uptoR l 281474976710655).2.1).1, (textR (uptoR l 281474976710655).2.1).2.1, (textR (uptoR l 281474976710655).2.1).2.2)
    else if (uptoR l 281474976710655).1 = 4 then (4, ((uptoR (uptoR l 281474976710655).2.1 281474976710655).1 : Int), [], (uptoR (uptoR l 281474976710655).2.1 281474976710655).2.1, (uptoR (uptoR l 281474976710655).2.1 281474976710655).2.2)
    else (((uptoR l 281474976710655).1 : Int), 0, [], (uptoR l 281474976710655).2.1, (uptoR l 281474976710655).2.2)) := Lib.hid rfl
  clear h hb
  generalize uptoR l 281474976710655 = q1 at *
  obtain ⟨kk, l1, e1⟩ := q1
  dsimp only at *
  have HU2 := Lib.hid (fun W h => refNumM_any B b l1 W h)
  have HUX := Lib.hid (fun W h => refText_rd B b l1 W h)
  have HLT2 := uptoR_lt l1
  generalize uptoR l1 281474976710655 = q2 at *
  obtain ⟨m, l2, e2⟩ := q2
  have HTLe := Lib.hid (textR_le l1)
  generalize textR l1 = q3 at *
  obtain ⟨tl, l3, e3⟩ := q3
  dsimp only at *
  have hk5 : kk = 1 ∨ kk = 2 ∨ kk = 3 ∨ kk = 4 ∨ (kk ≠ 1 ∧ kk ≠ 2 ∧ kk ≠ 3 ∧ kk ≠ 4) := by omega
  have hee : kk ≠ 0 → e1 = 0 := fun hk => Classical.byContradiction fun he => hk (HER.out he)
  rcases hk5 with rfl | rfl | rfl | rfl | ⟨g1, g2, g3, g4⟩
  · obtain rfl := hee (by decide)
    have HRAWX := Lib.hid (show rawV l = (1, unfoldV m, [], l2, e2) by rw [HRW.out]; rw [if_pos (by decide)]; rfl)
    by_cases hm : m % 2 = 1
    · have hE1 : ((m : Int) + 1).tdiv 2 = (((m + 1) / 2 : Nat) : Int) := rfl
      have HE2 := Lib.hid (show -(((m + 1) / 2 : Nat) : Int) = unfoldV m by unfold unfoldV; rw [if_pos hm])
      have hq : (m + 1) / 2 ≤ 281474976710656 := by omega
      have e5 : (((m : Int) % 2) == 1) = true := by rw [beq_iff_eq]; omega
      generalize hu : unfoldV m = u at *
      have HU := Lib.hid hu
      generalize (m + 1) / 2 = qq at *
      obtain rfl := HE2.out
      clear hm hu
      have HRAW := HRAWX
      have htt : (⟨#[]⟩ : ByteArray).size ≤ 4611686018427387904 := by decide
      by_cases he : e2 = 0
      · subst he
        cases hR : Vm.rightV (1) ((-(qq : Int))) [] with
        | false =>
          have HT : Hid (takeV l = (0, 0, [], l2, 21)) := Lib.hid (by rw [HTD.out, HRAW.out]; dsimp only; rw [if_neg (by simp), hR]; rfl)
          have HRB := Lib.hid (show Vm.rightV (1) ((-(qq : Int))) (⟨#[]⟩ : ByteArray).data.toList = false from hR)
          clear hR
          go_enter Tryz.func14, Tryz.ntmps14
          go_wp2_with fail
          refine HU1.out.mono ?_
          rintro e w1 ⟨rfl, hr1, ho1⟩
          have hsz := ho1.size
          have hT := (HT0.out.only ho1 (by omega))
          have hb1 := (Below.refl w1.heap.size w1).alloc (Nat.le_refl _) (.cells #[.int .i64 (1 : Int), .int .i64 0, .string ⟨#[]⟩] 23)
          have hVs : w.heap.size < w1.heap.size := hT.size
          have K1 := Lib.hid (show RTk w B b w.heap.size w1.heap.size (1 : Int) 0 ⟨#[]⟩ l1 0 _ from ⟨⟨Nat.le_refl _, by omega, by omega, hblt⟩, hT.kept hb1, ThreeAt.start w1 (1 : Int) 0 ⟨#[]⟩, hr1.kept hb1, (HO0.out.trans ho1).trans (Only.ofBelow (b := b) hb1)⟩)
          clear hr1 ho1 hT hb1 hsz
          go_wp2_with fail
          refine (HU2.out _ K1.out.2.2.2.1).mono ?_
          rintro e w2 ⟨rfl, hr2, ho2⟩
          have K2 := Lib.hid (K1.out.read hr2 ho2)
          clear hr2 ho2
          have K2b := Lib.hid (K2.out.set1 ((m : Int) / 2))
          have K3 := Lib.hid (K2b.out.set1 (-(qq : Int)))
          have v0 := K2.out.2.2.1.cell1
          have v1 := K2.out.2.2.1.free 1
          have v2 := K2b.out.2.2.1.cell1
          have v3 := K2b.out.2.2.1.free 1
          have r2 := K3.out.2.2.2.1.2.1
          have x0 := K3.out.2.2.1.cell0
          have x1 := K3.out.2.2.1.cell1
          have x2 := K3.out.2.2.1.cell2
          go_wp2_with fail
          refine (refVRight_any 1 (-(qq : Int)) ⟨#[]⟩ _ htt).mono ?_
          rw [HRB.out]
          rintro e w7 ⟨rfl, hb7⟩
          have K7 := Lib.hid (K3.out.kept hb7)
          clear hb7 x0 x1 x2 r2
          go_wp2_with fail
          refine (refFail_any B b l2 0 21 _ K7.out.2.2.2.1).mono ?_
          rintro e w8 ⟨rfl, hr8, ho8⟩
          rw [if_pos rfl] at hr8
          have K8 := Lib.hid (K7.out.read hr8 ho8)
          clear hr8 ho8
          obtain ⟨q0, q1, q2⟩ := K8.out.2.1.read (0) (0) ⟨#[]⟩
          have HF := Lib.hid (K8.out.answer (0) (0) ⟨#[]⟩)
          have y0 := K8.out.2.1.free 0
          have y1 := K8.out.2.1.free 1
          have y2 := K8.out.2.1.free 2
          have z0 := K8.out.2.1.cell0
          have z1 := K8.out.2.1.cell1
          have z2 := K8.out.2.1.cell2
          go_wp2
          refine bodyPost_ret (v := .agg #[.int .i64 (0), .int .i64 (0), .string ⟨#[]⟩]) (by simp [results, Tryz.results14, go_sem, q0, q1, q2]) rfl ?_
          rw [HT.out]
          exact ⟨rfl, HF.out.1, HF.out.2⟩
        | true =>
          have HT : Hid (takeV l = (1, (-(qq : Int)), [], l2, 0)) := Lib.hid (by rw [HTD.out, HRAW.out]; dsimp only; rw [if_neg (by simp), hR]; rfl)
          have HRB := Lib.hid (show Vm.rightV (1) ((-(qq : Int))) (⟨#[]⟩ : ByteArray).data.toList = true from hR)
          clear hR
          go_enter Tryz.func14, Tryz.ntmps14
          go_wp2_with fail
          refine HU1.out.mono ?_
          rintro e w1 ⟨rfl, hr1, ho1⟩
          have hsz := ho1.size
          have hT := (HT0.out.only ho1 (by omega))
          have hb1 := (Below.refl w1.heap.size w1).alloc (Nat.le_refl _) (.cells #[.int .i64 (1 : Int), .int .i64 0, .string ⟨#[]⟩] 23)
          have hVs : w.heap.size < w1.heap.size := hT.size
          have K1 := Lib.hid (show RTk w B b w.heap.size w1.heap.size (1 : Int) 0 ⟨#[]⟩ l1 0 _ from ⟨⟨Nat.le_refl _, by omega, by omega, hblt⟩, hT.kept hb1, ThreeAt.start w1 (1 : Int) 0 ⟨#[]⟩, hr1.kept hb1, (HO0.out.trans ho1).trans (Only.ofBelow (b := b) hb1)⟩)
          clear hr1 ho1 hT hb1 hsz
          go_wp2_with fail
          refine (HU2.out _ K1.out.2.2.2.1).mono ?_
          rintro e w2 ⟨rfl, hr2, ho2⟩
          have K2 := Lib.hid (K1.out.read hr2 ho2)
          clear hr2 ho2
          have K2b := Lib.hid (K2.out.set1 ((m : Int) / 2))
          have K3 := Lib.hid (K2b.out.set1 (-(qq : Int)))
          have v0 := K2.out.2.2.1.cell1
          have v1 := K2.out.2.2.1.free 1
          have v2 := K2b.out.2.2.1.cell1
          have v3 := K2b.out.2.2.1.free 1
          have r2 := K3.out.2.2.2.1.2.1
          have x0 := K3.out.2.2.1.cell0
          have x1 := K3.out.2.2.1.cell1
          have x2 := K3.out.2.2.1.cell2
          go_wp2_with fail
          refine (refVRight_any 1 (-(qq : Int)) ⟨#[]⟩ _ htt).mono ?_
          rw [HRB.out]
          rintro e w7 ⟨rfl, hb7⟩
          have K7 := Lib.hid (K3.out.kept hb7)
          clear hb7 x0 x1 x2 r2
          have x0 := K7.out.2.2.1.cell0
          have x1 := K7.out.2.2.1.cell1
          have x2 := K7.out.2.2.1.cell2
          obtain ⟨q0, q1, q2⟩ := K7.out.2.1.read (1) ((-(qq : Int))) ⟨#[]⟩
          have HF := Lib.hid (K7.out.answer (1) ((-(qq : Int))) ⟨#[]⟩)
          have y0 := K7.out.2.1.free 0
          have y1 := K7.out.2.1.free 1
          have y2 := K7.out.2.1.free 2
          have z0 := K7.out.2.1.cell0
          have z1 := K7.out.2.1.cell1
          have z2 := K7.out.2.1.cell2
          go_wp2
          refine bodyPost_ret (v := .agg #[.int .i64 (1), .int .i64 ((-(qq : Int))), .string ⟨#[]⟩]) (by simp [results, Tryz.results14, go_sem, q0, q1, q2]) rfl ?_
          rw [HT.out]
          exact ⟨rfl, HF.out.1, HF.out.2⟩
      · have HT : Hid (takeV l = (0, 0, [], l2, e2)) := Lib.hid (by rw [HTD.out, HRAW.out]; dsimp only; rw [if_pos he])
        have te : ((e2 : Int) != 0) = true := by rw [bne_iff_ne]; omega
        clear he
        go_enter Tryz.func14, Tryz.ntmps14
        go_wp2_with fail
        refine HU1.out.mono ?_
        rintro e w1 ⟨rfl, hr1, ho1⟩
        have hsz := ho1.size
        have hT := (HT0.out.only ho1 (by omega))
        have hb1 := (Below.refl w1.heap.size w1).alloc (Nat.le_refl _) (.cells #[.int .i64 (1 : Int), .int .i64 0, .string ⟨#[]⟩] 23)
        have hVs : w.heap.size < w1.heap.size := hT.size
        have K1 := Lib.hid (show RTk w B b w.heap.size w1.heap.size (1 : Int) 0 ⟨#[]⟩ l1 0 _ from ⟨⟨Nat.le_refl _, by omega, by omega, hblt⟩, hT.kept hb1, ThreeAt.start w1 (1 : Int) 0 ⟨#[]⟩, hr1.kept hb1, (HO0.out.trans ho1).trans (Only.ofBelow (b := b) hb1)⟩)
        clear hr1 ho1 hT hb1 hsz
        go_wp2_with fail
        refine (HU2.out _ K1.out.2.2.2.1).mono ?_
        rintro e w2 ⟨rfl, hr2, ho2⟩
        have K2 := Lib.hid (K1.out.read hr2 ho2)
        clear hr2 ho2
        have K2b := Lib.hid (K2.out.set1 ((m : Int) / 2))
        have K3 := Lib.hid (K2b.out.set1 (-(qq : Int)))
        have v0 := K2.out.2.2.1.cell1
        have v1 := K2.out.2.2.1.free 1
        have v2 := K2b.out.2.2.1.cell1
        have v3 := K2b.out.2.2.1.free 1
        have r2 := K3.out.2.2.2.1.2.1
        obtain ⟨q0, q1, q2⟩ := K3.out.2.1.read (0) (0) ⟨#[]⟩
        have HF := Lib.hid (K3.out.answer (0) (0) ⟨#[]⟩)
        have y0 := K3.out.2.1.free 0
        have y1 := K3.out.2.1.free 1
        have y2 := K3.out.2.1.free 2
        have z0 := K3.out.2.1.cell0
        have z1 := K3.out.2.1.cell1
        have z2 := K3.out.2.1.cell2
        go_wp2
        refine bodyPost_ret (v := .agg #[.int .i64 (0), .int .i64 (0), .string ⟨#[]⟩]) (by simp [results, Tryz.results14, go_sem, q0, q1, q2]) rfl ?_
        rw [HT.out]
        exact ⟨rfl, HF.out.1, HF.out.2⟩
    · have HE := Lib.hid (show (m : Int) / 2 = unfoldV m by unfold unfoldV; rw [if_neg hm]; omega)
      have e5 : (((m : Int) % 2) == 1) = false := by rw [beq_eq_false_iff_ne]; omega
      rw [← HE.out] at HRAWX
      clear hm
      have HRAW := HRAWX
      have htt : (⟨#[]⟩ : ByteArray).size ≤ 4611686018427387904 := by decide
      by_cases he : e2 = 0
      · subst he
        cases hR : Vm.rightV (1) (((m : Int) / 2)) [] with
        | false =>
          have HT : Hid (takeV l = (0, 0, [], l2, 21)) := Lib.hid (by rw [HTD.out, HRAW.out]; dsimp only; rw [if_neg (by simp), hR]; rfl)
          have HRB := Lib.hid (show Vm.rightV (1) (((m : Int) / 2)) (⟨#[]⟩ : ByteArray).data.toList = false from hR)
          clear hR
          go_enter Tryz.func14, Tryz.ntmps14
          go_wp2_with fail
          refine HU1.out.mono ?_
          rintro e w1 ⟨rfl, hr1, ho1⟩
          have hsz := ho1.size
          have hT := (HT0.out.only ho1 (by omega))
          have hb1 := (Below.refl w1.heap.size w1).alloc (Nat.le_refl _) (.cells #[.int .i64 (1 : Int), .int .i64 0, .string ⟨#[]⟩] 23)
          have hVs : w.heap.size < w1.heap.size := hT.size
          have K1 := Lib.hid (show RTk w B b w.heap.size w1.heap.size (1 : Int) 0 ⟨#[]⟩ l1 0 _ from ⟨⟨Nat.le_refl _, by omega, by omega, hblt⟩, hT.kept hb1, ThreeAt.start w1 (1 : Int) 0 ⟨#[]⟩, hr1.kept hb1, (HO0.out.trans ho1).trans (Only.ofBelow (b := b) hb1)⟩)
          clear hr1 ho1 hT hb1 hsz
          go_wp2_with fail
          refine (HU2.out _ K1.out.2.2.2.1).mono ?_
          rintro e w2 ⟨rfl, hr2, ho2⟩
          have K2 := Lib.hid (K1.out.read hr2 ho2)
          clear hr2 ho2
          have K3 := Lib.hid (K2.out.set1 ((m : Int) / 2))
          have v0 := K2.out.2.2.1.cell1
          have v1 := K2.out.2.2.1.free 1
          have r2 := K3.out.2.2.2.1.2.1
          have x0 := K3.out.2.2.1.cell0
          have x1 := K3.out.2.2.1.cell1
          have x2 := K3.out.2.2.1.cell2
          go_wp2_with fail
          refine (refVRight_any 1 ((m : Int) / 2) ⟨#[]⟩ _ htt).mono ?_
          rw [HRB.out]
          rintro e w7 ⟨rfl, hb7⟩
          have K7 := Lib.hid (K3.out.kept hb7)
          clear hb7 x0 x1 x2 r2
          go_wp2_with fail
          refine (refFail_any B b l2 0 21 _ K7.out.2.2.2.1).mono ?_
          rintro e w8 ⟨rfl, hr8, ho8⟩
          rw [if_pos rfl] at hr8
          have K8 := Lib.hid (K7.out.read hr8 ho8)
          clear hr8 ho8
          obtain ⟨q0, q1, q2⟩ := K8.out.2.1.read (0) (0) ⟨#[]⟩
          have HF := Lib.hid (K8.out.answer (0) (0) ⟨#[]⟩)
          have y0 := K8.out.2.1.free 0
          have y1 := K8.out.2.1.free 1
          have y2 := K8.out.2.1.free 2
          have z0 := K8.out.2.1.cell0
          have z1 := K8.out.2.1.cell1
          have z2 := K8.out.2.1.cell2
          go_wp2
          refine bodyPost_ret (v := .agg #[.int .i64 (0), .int .i64 (0), .string ⟨#[]⟩]) (by simp [results, Tryz.results14, go_sem, q0, q1, q2]) rfl ?_
          rw [HT.out]
          exact ⟨rfl, HF.out.1, HF.out.2⟩
        | true =>
          have HT : Hid (takeV l = (1, ((m : Int) / 2), [], l2, 0)) := Lib.hid (by rw [HTD.out, HRAW.out]; dsimp only; rw [if_neg (by simp), hR]; rfl)
          have HRB := Lib.hid (show Vm.rightV (1) (((m : Int) / 2)) (⟨#[]⟩ : ByteArray).data.toList = true from hR)
          clear hR
          go_enter Tryz.func14, Tryz.ntmps14
          go_wp2_with fail
          refine HU1.out.mono ?_
          rintro e w1 ⟨rfl, hr1, ho1⟩
          have hsz := ho1.size
          have hT := (HT0.out.only ho1 (by omega))
          have hb1 := (Below.refl w1.heap.size w1).alloc (Nat.le_refl _) (.cells #[.int .i64 (1 : Int), .int .i64 0, .string ⟨#[]⟩] 23)
          have hVs : w.heap.size < w1.heap.size := hT.size
          have K1 := Lib.hid (show RTk w B b w.heap.size w1.heap.size (1 : Int) 0 ⟨#[]⟩ l1 0 _ from ⟨⟨Nat.le_refl _, by omega, by omega, hblt⟩, hT.kept hb1, ThreeAt.start w1 (1 : Int) 0 ⟨#[]⟩, hr1.kept hb1, (HO0.out.trans ho1).trans (Only.ofBelow (b := b) hb1)⟩)
          clear hr1 ho1 hT hb1 hsz
          go_wp2_with fail
          refine (HU2.out _ K1.out.2.2.2.1).mono ?_
          rintro e w2 ⟨rfl, hr2, ho2⟩
          have K2 := Lib.hid (K1.out.read hr2 ho2)
          clear hr2 ho2
          have K3 := Lib.hid (K2.out.set1 ((m : Int) / 2))
          have v0 := K2.out.2.2.1.cell1
          have v1 := K2.out.2.2.1.free 1
          have r2 := K3.out.2.2.2.1.2.1
          have x0 := K3.out.2.2.1.cell0
          have x1 := K3.out.2.2.1.cell1
          have x2 := K3.out.2.2.1.cell2
          go_wp2_with fail
          refine (refVRight_any 1 ((m : Int) / 2) ⟨#[]⟩ _ htt).mono ?_
          rw [HRB.out]
          rintro e w7 ⟨rfl, hb7⟩
          have K7 := Lib.hid (K3.out.kept hb7)
          clear hb7 x0 x1 x2 r2
          have x0 := K7.out.2.2.1.cell0
          have x1 := K7.out.2.2.1.cell1
          have x2 := K7.out.2.2.1.cell2
          obtain ⟨q0, q1, q2⟩ := K7.out.2.1.read (1) (((m : Int) / 2)) ⟨#[]⟩
          have HF := Lib.hid (K7.out.answer (1) (((m : Int) / 2)) ⟨#[]⟩)
          have y0 := K7.out.2.1.free 0
          have y1 := K7.out.2.1.free 1
          have y2 := K7.out.2.1.free 2
          have z0 := K7.out.2.1.cell0
          have z1 := K7.out.2.1.cell1
          have z2 := K7.out.2.1.cell2
          go_wp2
          refine bodyPost_ret (v := .agg #[.int .i64 (1), .int .i64 (((m : Int) / 2)), .string ⟨#[]⟩]) (by simp [results, Tryz.results14, go_sem, q0, q1, q2]) rfl ?_
          rw [HT.out]
          exact ⟨rfl, HF.out.1, HF.out.2⟩
      · have HT : Hid (takeV l = (0, 0, [], l2, e2)) := Lib.hid (by rw [HTD.out, HRAW.out]; dsimp only; rw [if_pos he])
        have te : ((e2 : Int) != 0) = true := by rw [bne_iff_ne]; omega
        clear he
        go_enter Tryz.func14, Tryz.ntmps14
        go_wp2_with fail
        refine HU1.out.mono ?_
        rintro e w1 ⟨rfl, hr1, ho1⟩
        have hsz := ho1.size
        have hT := (HT0.out.only ho1 (by omega))
        have hb1 := (Below.refl w1.heap.size w1).alloc (Nat.le_refl _) (.cells #[.int .i64 (1 : Int), .int .i64 0, .string ⟨#[]⟩] 23)
        have hVs : w.heap.size < w1.heap.size := hT.size
        have K1 := Lib.hid (show RTk w B b w.heap.size w1.heap.size (1 : Int) 0 ⟨#[]⟩ l1 0 _ from ⟨⟨Nat.le_refl _, by omega, by omega, hblt⟩, hT.kept hb1, ThreeAt.start w1 (1 : Int) 0 ⟨#[]⟩, hr1.kept hb1, (HO0.out.trans ho1).trans (Only.ofBelow (b := b) hb1)⟩)
        clear hr1 ho1 hT hb1 hsz
        go_wp2_with fail
        refine (HU2.out _ K1.out.2.2.2.1).mono ?_
        rintro e w2 ⟨rfl, hr2, ho2⟩
        have K2 := Lib.hid (K1.out.read hr2 ho2)
        clear hr2 ho2
        have K3 := Lib.hid (K2.out.set1 ((m : Int) / 2))
        have v0 := K2.out.2.2.1.cell1
        have v1 := K2.out.2.2.1.free 1
        have r2 := K3.out.2.2.2.1.2.1
        obtain ⟨q0, q1, q2⟩ := K3.out.2.1.read (0) (0) ⟨#[]⟩
        have HF := Lib.hid (K3.out.answer (0) (0) ⟨#[]⟩)
        have y0 := K3.out.2.1.free 0
        have y1 := K3.out.2.1.free 1
        have y2 := K3.out.2.1.free 2
        have z0 := K3.out.2.1.cell0
        have z1 := K3.out.2.1.cell1
        have z2 := K3.out.2.1.cell2
        go_wp2
        refine bodyPost_ret (v := .agg #[.int .i64 (0), .int .i64 (0), .string ⟨#[]⟩]) (by simp [results, Tryz.results14, go_sem, q0, q1, q2]) rfl ?_
        rw [HT.out]
        exact ⟨rfl, HF.out.1, HF.out.2⟩
  · obtain rfl := hee (by decide)
    have HRAWX := Lib.hid (show rawV l = (2, unfoldV m, [], l2, e2) by rw [HRW.out]; rw [if_pos (by decide)]; rfl)
    by_cases hm : m % 2 = 1
    · have hE1 : ((m : Int) + 1).tdiv 2 = (((m + 1) / 2 : Nat) : Int) := rfl
      have HE2 := Lib.hid (show -(((m + 1) / 2 : Nat) : Int) = unfoldV m by unfold unfoldV; rw [if_pos hm])
      have hq : (m + 1) / 2 ≤ 281474976710656 := by omega
      have e5 : (((m : Int) % 2) == 1) = true := by rw [beq_iff_eq]; omega
      generalize hu : unfoldV m = u at *
      have HU := Lib.hid hu
      generalize (m + 1) / 2 = qq at *
      obtain rfl := HE2.out
      clear hm hu
      have HRAW := HRAWX
      have htt : (⟨#[]⟩ : ByteArray).size ≤ 4611686018427387904 := by decide
      by_cases he : e2 = 0
      · subst he
        cases hR : Vm.rightV (2) ((-(qq : Int))) [] with
        | false =>
          have HT : Hid (takeV l = (0, 0, [], l2, 21)) := Lib.hid (by rw [HTD.out, HRAW.out]; dsimp only; rw [if_neg (by simp), hR]; rfl)
          have HRB := Lib.hid (show Vm.rightV (2) ((-(qq : Int))) (⟨#[]⟩ : ByteArray).data.toList = false from hR)
          clear hR
          go_enter Tryz.func14, Tryz.ntmps14
          go_wp2_with fail
          refine HU1.out.mono ?_
          rintro e w1 ⟨rfl, hr1, ho1⟩
          have hsz := ho1.size
          have hT := (HT0.out.only ho1 (by omega))
          have hb1 := (Below.refl w1.heap.size w1).alloc (Nat.le_refl _) (.cells #[.int .i64 (2 : Int), .int .i64 0, .string ⟨#[]⟩] 23)
          have hVs : w.heap.size < w1.heap.size := hT.size
          have K1 := Lib.hid (show RTk w B b w.heap.size w1.heap.size (2 : Int) 0 ⟨#[]⟩ l1 0 _ from ⟨⟨Nat.le_refl _, by omega, by omega, hblt⟩, hT.kept hb1, ThreeAt.start w1 (2 : Int) 0 ⟨#[]⟩, hr1.kept hb1, (HO0.out.trans ho1).trans (Only.ofBelow (b := b) hb1)⟩)
          clear hr1 ho1 hT hb1 hsz
          go_wp2_with fail
          refine (HU2.out _ K1.out.2.2.2.1).mono ?_
          rintro e w2 ⟨rfl, hr2, ho2⟩
          have K2 := Lib.hid (K1.out.read hr2 ho2)
          clear hr2 ho2
          have K2b := Lib.hid (K2.out.set1 ((m : Int) / 2))
          have K3 := Lib.hid (K2b.out.set1 (-(qq : Int)))
          have v0 := K2.out.2.2.1.cell1
          have v1 := K2.out.2.2.1.free 1
          have v2 := K2b.out.2.2.1.cell1
          have v3 := K2b.out.2.2.1.free 1
          have r2 := K3.out.2.2.2.1.2.1
          have x0 := K3.out.2.2.1.cell0
          have x1 := K3.out.2.2.1.cell1
          have x2 := K3.out.2.2.1.cell2
          go_wp2_with fail
          refine (refVRight_any 2 (-(qq : Int)) ⟨#[]⟩ _ htt).mono ?_
          rw [HRB.out]
          rintro e w7 ⟨rfl, hb7⟩
          have K7 := Lib.hid (K3.out.kept hb7)
          clear hb7 x0 x1 x2 r2
          go_wp2_with fail
          refine (refFail_any B b l2 0 21 _ K7.out.2.2.2.1).mono ?_
          rintro e w8 ⟨rfl, hr8, ho8⟩
          rw [if_pos rfl] at hr8
          have K8 := Lib.hid (K7.out.read hr8 ho8)
          clear hr8 ho8
          obtain ⟨q0, q1, q2⟩ := K8.out.2.1.read (0) (0) ⟨#[]⟩
          have HF := Lib.hid (K8.out.answer (0) (0) ⟨#[]⟩)
          have y0 := K8.out.2.1.free 0
          have y1 := K8.out.2.1.free 1
          have y2 := K8.out.2.1.free 2
          have z0 := K8.out.2.1.cell0
          have z1 := K8.out.2.1.cell1
          have z2 := K8.out.2.1.cell2
          go_wp2
          refine bodyPost_ret (v := .agg #[.int .i64 (0), .int .i64 (0), .string ⟨#[]⟩]) (by simp [results, Tryz.results14, go_sem, q0, q1, q2]) rfl ?_
          rw [HT.out]
          exact ⟨rfl, HF.out.1, HF.out.2⟩
        | true =>
          have HT : Hid (takeV l = (2, (-(qq : Int)), [], l2, 0)) := Lib.hid (by rw [HTD.out, HRAW.out]; dsimp only; rw [if_neg (by simp), hR]; rfl)
          have HRB := Lib.hid (show Vm.rightV (2) ((-(qq : Int))) (⟨#[]⟩ : ByteArray).data.toList = true from hR)
          clear hR
          go_enter Tryz.func14, Tryz.ntmps14
          go_wp2_with fail
          refine HU1.out.mono ?_
          rintro e w1 ⟨rfl, hr1, ho1⟩
          have hsz := ho1.size
          have hT := (HT0.out.only ho1 (by omega))
          have hb1 := (Below.refl w1.heap.size w1).alloc (Nat.le_refl _) (.cells #[.int .i64 (2 : Int), .int .i64 0, .string ⟨#[]⟩] 23)
          have hVs : w.heap.size < w1.heap.size := hT.size
          have K1 := Lib.hid (show RTk w B b w.heap.size w1.heap.size (2 : Int) 0 ⟨#[]⟩ l1 0 _ from ⟨⟨Nat.le_refl _, by omega, by omega, hblt⟩, hT.kept hb1, ThreeAt.start w1 (2 : Int) 0 ⟨#[]⟩, hr1.kept hb1, (HO0.out.trans ho1).trans (Only.ofBelow (b := b) hb1)⟩)
          clear hr1 ho1 hT hb1 hsz
          go_wp2_with fail
          refine (HU2.out _ K1.out.2.2.2.1).mono ?_
          rintro e w2 ⟨rfl, hr2, ho2⟩
          have K2 := Lib.hid (K1.out.read hr2 ho2)
          clear hr2 ho2
          have K2b := Lib.hid (K2.out.set1 ((m : Int) / 2))
          have K3 := Lib.hid (K2b.out.set1 (-(qq : Int)))
          have v0 := K2.out.2.2.1.cell1
          have v1 := K2.out.2.2.1.free 1
          have v2 := K2b.out.2.2.1.cell1
          have v3 := K2b.out.2.2.1.free 1
          have r2 := K3.out.2.2.2.1.2.1
          have x0 := K3.out.2.2.1.cell0
          have x1 := K3.out.2.2.1.cell1
          have x2 := K3.out.2.2.1.cell2
          go_wp2_with fail
          refine (refVRight_any 2 (-(qq : Int)) ⟨#[]⟩ _ htt).mono ?_
          rw [HRB.out]
          rintro e w7 ⟨rfl, hb7⟩
          have K7 := Lib.hid (K3.out.kept hb7)
          clear hb7 x0 x1 x2 r2
          have x0 := K7.out.2.2.1.cell0
          have x1 := K7.out.2.2.1.cell1
          have x2 := K7.out.2.2.1.cell2
          obtain ⟨q0, q1, q2⟩ := K7.out.2.1.read (2) ((-(qq : Int))) ⟨#[]⟩
          have HF := Lib.hid (K7.out.answer (2) ((-(qq : Int))) ⟨#[]⟩)
          have y0 := K7.out.2.1.free 0
          have y1 := K7.out.2.1.free 1
          have y2 := K7.out.2.1.free 2
          have z0 := K7.out.2.1.cell0
          have z1 := K7.out.2.1.cell1
          have z2 := K7.out.2.1.cell2
          go_wp2
          refine bodyPost_ret (v := .agg #[.int .i64 (2), .int .i64 ((-(qq : Int))), .string ⟨#[]⟩]) (by simp [results, Tryz.results14, go_sem, q0, q1, q2]) rfl ?_
          rw [HT.out]
          exact ⟨rfl, HF.out.1, HF.out.2⟩
      · have HT : Hid (takeV l = (0, 0, [], l2, e2)) := Lib.hid (by rw [HTD.out, HRAW.out]; dsimp only; rw [if_pos he])
        have te : ((e2 : Int) != 0) = true := by rw [bne_iff_ne]; omega
        clear he
        go_enter Tryz.func14, Tryz.ntmps14
        go_wp2_with fail
        refine HU1.out.mono ?_
        rintro e w1 ⟨rfl, hr1, ho1⟩
        have hsz := ho1.size
        have hT := (HT0.out.only ho1 (by omega))
        have hb1 := (Below.refl w1.heap.size w1).alloc (Nat.le_refl _) (.cells #[.int .i64 (2 : Int), .int .i64 0, .string ⟨#[]⟩] 23)
        have hVs : w.heap.size < w1.heap.size := hT.size
        have K1 := Lib.hid (show RTk w B b w.heap.size w1.heap.size (2 : Int) 0 ⟨#[]⟩ l1 0 _ from ⟨⟨Nat.le_refl _, by omega, by omega, hblt⟩, hT.kept hb1, ThreeAt.start w1 (2 : Int) 0 ⟨#[]⟩, hr1.kept hb1, (HO0.out.trans ho1).trans (Only.ofBelow (b := b) hb1)⟩)
        clear hr1 ho1 hT hb1 hsz
        go_wp2_with fail
        refine (HU2.out _ K1.out.2.2.2.1).mono ?_
        rintro e w2 ⟨rfl, hr2, ho2⟩
        have K2 := Lib.hid (K1.out.read hr2 ho2)
        clear hr2 ho2
        have K2b := Lib.hid (K2.out.set1 ((m : Int) / 2))
        have K3 := Lib.hid (K2b.out.set1 (-(qq : Int)))
        have v0 := K2.out.2.2.1.cell1
        have v1 := K2.out.2.2.1.free 1
        have v2 := K2b.out.2.2.1.cell1
        have v3 := K2b.out.2.2.1.free 1
        have r2 := K3.out.2.2.2.1.2.1
        obtain ⟨q0, q1, q2⟩ := K3.out.2.1.read (0) (0) ⟨#[]⟩
        have HF := Lib.hid (K3.out.answer (0) (0) ⟨#[]⟩)
        have y0 := K3.out.2.1.free 0
        have y1 := K3.out.2.1.free 1
        have y2 := K3.out.2.1.free 2
        have z0 := K3.out.2.1.cell0
        have z1 := K3.out.2.1.cell1
        have z2 := K3.out.2.1.cell2
        go_wp2
        refine bodyPost_ret (v := .agg #[.int .i64 (0), .int .i64 (0), .string ⟨#[]⟩]) (by simp [results, Tryz.results14, go_sem, q0, q1, q2]) rfl ?_
        rw [HT.out]
        exact ⟨rfl, HF.out.1, HF.out.2⟩
    · have HE := Lib.hid (show (m : Int) / 2 = unfoldV m by unfold unfoldV; rw [if_neg hm]; omega)
      have e5 : (((m : Int) % 2) == 1) = false := by rw [beq_eq_false_iff_ne]; omega
      rw [← HE.out] at HRAWX
      clear hm
      have HRAW := HRAWX
      have htt : (⟨#[]⟩ : ByteArray).size ≤ 4611686018427387904 := by decide
      by_cases he : e2 = 0
      · subst he
        cases hR : Vm.rightV (2) (((m : Int) / 2)) [] with
        | false =>
          have HT : Hid (takeV l = (0, 0, [], l2, 21)) := Lib.hid (by rw [HTD.out, HRAW.out]; dsimp only; rw [if_neg (by simp), hR]; rfl)
          have HRB := Lib.hid (show Vm.rightV (2) (((m : Int) / 2)) (⟨#[]⟩ : ByteArray).data.toList = false from hR)
          clear hR
          go_enter Tryz.func14, Tryz.ntmps14
          go_wp2_with fail
          refine HU1.out.mono ?_
          rintro e w1 ⟨rfl, hr1, ho1⟩
          have hsz := ho1.size
          have hT := (HT0.out.only ho1 (by omega))
          have hb1 := (Below.refl w1.heap.size w1).alloc (Nat.le_refl _) (.cells #[.int .i64 (2 : Int), .int .i64 0, .string ⟨#[]⟩] 23)
          have hVs : w.heap.size < w1.heap.size := hT.size
          have K1 := Lib.hid (show RTk w B b w.heap.size w1.heap.size (2 : Int) 0 ⟨#[]⟩ l1 0 _ from ⟨⟨Nat.le_refl _, by omega, by omega, hblt⟩, hT.kept hb1, ThreeAt.start w1 (2 : Int) 0 ⟨#[]⟩, hr1.kept hb1, (HO0.out.trans ho1).trans (Only.ofBelow (b := b) hb1)⟩)
          clear hr1 ho1 hT hb1 hsz
          go_wp2_with fail
          refine (HU2.out _ K1.out.2.2.2.1).mono ?_
          rintro e w2 ⟨rfl, hr2, ho2⟩
          have K2 := Lib.hid (K1.out.read hr2 ho2)
          clear hr2 ho2
          have K3 := Lib.hid (K2.out.set1 ((m : Int) / 2))
          have v0 := K2.out.2.2.1.cell1
          have v1 := K2.out.2.2.1.free 1
          have r2 := K3.out.2.2.2.1.2.1
          have x0 := K3.out.2.2.1.cell0
          have x1 := K3.out.2.2.1.cell1
          have x2 := K3.out.2.2.1.cell2
          go_wp2_with fail
          refine (refVRight_any 2 ((m : Int) / 2) ⟨#[]⟩ _ htt).mono ?_
          rw [HRB.out]
          rintro e w7 ⟨rfl, hb7⟩
          have K7 := Lib.hid (K3.out.kept hb7)
          clear hb7 x0 x1 x2 r2
          go_wp2_with fail
          refine (refFail_any B b l2 0 21 _ K7.out.2.2.2.1).mono ?_
          rintro e w8 ⟨rfl, hr8, ho8⟩
          rw [if_pos rfl] at hr8
          have K8 := Lib.hid (K7.out.read hr8 ho8)
          clear hr8 ho8
          obtain ⟨q0, q1, q2⟩ := K8.out.2.1.read (0) (0) ⟨#[]⟩
          have HF := Lib.hid (K8.out.answer (0) (0) ⟨#[]⟩)
          have y0 := K8.out.2.1.free 0
          have y1 := K8.out.2.1.free 1
          have y2 := K8.out.2.1.free 2
          have z0 := K8.out.2.1.cell0
          have z1 := K8.out.2.1.cell1
          have z2 := K8.out.2.1.cell2
          go_wp2
          refine bodyPost_ret (v := .agg #[.int .i64 (0), .int .i64 (0), .string ⟨#[]⟩]) (by simp [results, Tryz.results14, go_sem, q0, q1, q2]) rfl ?_
          rw [HT.out]
          exact ⟨rfl, HF.out.1, HF.out.2⟩
        | true =>
          have HT : Hid (takeV l = (2, ((m : Int) / 2), [], l2, 0)) := Lib.hid (by rw [HTD.out, HRAW.out]; dsimp only; rw [if_neg (by simp), hR]; rfl)
          have HRB := Lib.hid (show Vm.rightV (2) (((m : Int) / 2)) (⟨#[]⟩ : ByteArray).data.toList = true from hR)
          clear hR
          go_enter Tryz.func14, Tryz.ntmps14
          go_wp2_with fail
          refine HU1.out.mono ?_
          rintro e w1 ⟨rfl, hr1, ho1⟩
          have hsz := ho1.size
          have hT := (HT0.out.only ho1 (by omega))
          have hb1 := (Below.refl w1.heap.size w1).alloc (Nat.le_refl _) (.cells #[.int .i64 (2 : Int), .int .i64 0, .string ⟨#[]⟩] 23)
          have hVs : w.heap.size < w1.heap.size := hT.size
          have K1 := Lib.hid (show RTk w B b w.heap.size w1.heap.size (2 : Int) 0 ⟨#[]⟩ l1 0 _ from ⟨⟨Nat.le_refl _, by omega, by omega, hblt⟩, hT.kept hb1, ThreeAt.start w1 (2 : Int) 0 ⟨#[]⟩, hr1.kept hb1, (HO0.out.trans ho1).trans (Only.ofBelow (b := b) hb1)⟩)
          clear hr1 ho1 hT hb1 hsz
          go_wp2_with fail
          refine (HU2.out _ K1.out.2.2.2.1).mono ?_
          rintro e w2 ⟨rfl, hr2, ho2⟩
          have K2 := Lib.hid (K1.out.read hr2 ho2)
          clear hr2 ho2
          have K3 := Lib.hid (K2.out.set1 ((m : Int) / 2))
          have v0 := K2.out.2.2.1.cell1
          have v1 := K2.out.2.2.1.free 1
          have r2 := K3.out.2.2.2.1.2.1
          have x0 := K3.out.2.2.1.cell0
          have x1 := K3.out.2.2.1.cell1
          have x2 := K3.out.2.2.1.cell2
          go_wp2_with fail
          refine (refVRight_any 2 ((m : Int) / 2) ⟨#[]⟩ _ htt).mono ?_
          rw [HRB.out]
          rintro e w7 ⟨rfl, hb7⟩
          have K7 := Lib.hid (K3.out.kept hb7)
          clear hb7 x0 x1 x2 r2
          have x0 := K7.out.2.2.1.cell0
          have x1 := K7.out.2.2.1.cell1
          have x2 := K7.out.2.2.1.cell2
          obtain ⟨q0, q1, q2⟩ := K7.out.2.1.read (2) (((m : Int) / 2)) ⟨#[]⟩
          have HF := Lib.hid (K7.out.answer (2) (((m : Int) / 2)) ⟨#[]⟩)
          have y0 := K7.out.2.1.free 0
          have y1 := K7.out.2.1.free 1
          have y2 := K7.out.2.1.free 2
          have z0 := K7.out.2.1.cell0
          have z1 := K7.out.2.1.cell1
          have z2 := K7.out.2.1.cell2
          go_wp2
          refine bodyPost_ret (v := .agg #[.int .i64 (2), .int .i64 (((m : Int) / 2)), .string ⟨#[]⟩]) (by simp [results, Tryz.results14, go_sem, q0, q1, q2]) rfl ?_
          rw [HT.out]
          exact ⟨rfl, HF.out.1, HF.out.2⟩
      · have HT : Hid (takeV l = (0, 0, [], l2, e2)) := Lib.hid (by rw [HTD.out, HRAW.out]; dsimp only; rw [if_pos he])
        have te : ((e2 : Int) != 0) = true := by rw [bne_iff_ne]; omega
        clear he
        go_enter Tryz.func14, Tryz.ntmps14
        go_wp2_with fail
        refine HU1.out.mono ?_
        rintro e w1 ⟨rfl, hr1, ho1⟩
        have hsz := ho1.size
        have hT := (HT0.out.only ho1 (by omega))
        have hb1 := (Below.refl w1.heap.size w1).alloc (Nat.le_refl _) (.cells #[.int .i64 (2 : Int), .int .i64 0, .string ⟨#[]⟩] 23)
        have hVs : w.heap.size < w1.heap.size := hT.size
        have K1 := Lib.hid (show RTk w B b w.heap.size w1.heap.size (2 : Int) 0 ⟨#[]⟩ l1 0 _ from ⟨⟨Nat.le_refl _, by omega, by omega, hblt⟩, hT.kept hb1, ThreeAt.start w1 (2 : Int) 0 ⟨#[]⟩, hr1.kept hb1, (HO0.out.trans ho1).trans (Only.ofBelow (b := b) hb1)⟩)
        clear hr1 ho1 hT hb1 hsz
        go_wp2_with fail
        refine (HU2.out _ K1.out.2.2.2.1).mono ?_
        rintro e w2 ⟨rfl, hr2, ho2⟩
        have K2 := Lib.hid (K1.out.read hr2 ho2)
        clear hr2 ho2
        have K3 := Lib.hid (K2.out.set1 ((m : Int) / 2))
        have v0 := K2.out.2.2.1.cell1
        have v1 := K2.out.2.2.1.free 1
        have r2 := K3.out.2.2.2.1.2.1
        obtain ⟨q0, q1, q2⟩ := K3.out.2.1.read (0) (0) ⟨#[]⟩
        have HF := Lib.hid (K3.out.answer (0) (0) ⟨#[]⟩)
        have y0 := K3.out.2.1.free 0
        have y1 := K3.out.2.1.free 1
        have y2 := K3.out.2.1.free 2
        have z0 := K3.out.2.1.cell0
        have z1 := K3.out.2.1.cell1
        have z2 := K3.out.2.1.cell2
        go_wp2
        refine bodyPost_ret (v := .agg #[.int .i64 (0), .int .i64 (0), .string ⟨#[]⟩]) (by simp [results, Tryz.results14, go_sem, q0, q1, q2]) rfl ?_
        rw [HT.out]
        exact ⟨rfl, HF.out.1, HF.out.2⟩
  · obtain rfl := hee (by decide)
    have hl1 : l1.length ≤ 140737488355328 := hlen1
    have HRAW := Lib.hid (show rawV l = (3, 0, tl, l3, e3) by rw [HRW.out]; rw [if_neg (by decide), if_pos rfl])
    have htt : ((strB tl) : ByteArray).size ≤ 4611686018427387904 := by rw [show (strB tl).size = tl.length from by simp [strB, ByteArray.size]]; have := HTLe.out; have := hl1; omega
    by_cases he : e3 = 0
    · subst he
      cases hR : Vm.rightV (3) (0) tl with
      | false =>
        have HT : Hid (takeV l = (0, 0, [], l3, 21)) := Lib.hid (by rw [HTD.out, HRAW.out]; dsimp only; rw [if_neg (by simp), hR]; rfl)
        have HRB := Lib.hid (show Vm.rightV (3) (0) ((strB tl) : ByteArray).data.toList = false from hR)
        clear hR
        go_enter Tryz.func14, Tryz.ntmps14
        go_wp2_with fail
        refine HU1.out.mono ?_
        rintro e w1 ⟨rfl, hr1, ho1⟩
        have hsz := ho1.size
        have hT := (HT0.out.only ho1 (by omega))
        have hb1 := (Below.refl w1.heap.size w1).alloc (Nat.le_refl _) (.cells #[.int .i64 (3 : Int), .int .i64 0, .string ⟨#[]⟩] 23)
        have hVs : w.heap.size < w1.heap.size := hT.size
        have K1 := Lib.hid (show RTk w B b w.heap.size w1.heap.size (3 : Int) 0 ⟨#[]⟩ l1 0 _ from ⟨⟨Nat.le_refl _, by omega, by omega, hblt⟩, hT.kept hb1, ThreeAt.start w1 (3 : Int) 0 ⟨#[]⟩, hr1.kept hb1, (HO0.out.trans ho1).trans (Only.ofBelow (b := b) hb1)⟩)
        clear hr1 ho1 hT hb1 hsz
        go_wp2_with fail
        refine (HUX.out _ K1.out.2.2.2.1).mono ?_
        rintro e w2 ⟨rfl, hr2, ho2⟩
        have K2 := Lib.hid (K1.out.read hr2 ho2)
        clear hr2 ho2
        have K3 := Lib.hid (K2.out.set2 (strB tl))
        have v0 := K2.out.2.2.1.cell2
        have v1 := K2.out.2.2.1.free 2
        have r2 := K3.out.2.2.2.1.2.1
        have x0 := K3.out.2.2.1.cell0
        have x1 := K3.out.2.2.1.cell1
        have x2 := K3.out.2.2.1.cell2
        go_wp2_with fail
        refine (refVRight_any 3 0 (strB tl) _ htt).mono ?_
        rw [HRB.out]
        rintro e w7 ⟨rfl, hb7⟩
        have K7 := Lib.hid (K3.out.kept hb7)
        clear hb7 x0 x1 x2 r2
        go_wp2_with fail
        refine (refFail_any B b l3 0 21 _ K7.out.2.2.2.1).mono ?_
        rintro e w8 ⟨rfl, hr8, ho8⟩
        rw [if_pos rfl] at hr8
        have K8 := Lib.hid (K7.out.read hr8 ho8)
        clear hr8 ho8
        obtain ⟨q0, q1, q2⟩ := K8.out.2.1.read (0) (0) ⟨#[]⟩
        have HF := Lib.hid (K8.out.answer (0) (0) ⟨#[]⟩)
        have y0 := K8.out.2.1.free 0
        have y1 := K8.out.2.1.free 1
        have y2 := K8.out.2.1.free 2
        have z0 := K8.out.2.1.cell0
        have z1 := K8.out.2.1.cell1
        have z2 := K8.out.2.1.cell2
        go_wp2
        refine bodyPost_ret (v := .agg #[.int .i64 (0), .int .i64 (0), .string ⟨#[]⟩]) (by simp [results, Tryz.results14, go_sem, q0, q1, q2]) rfl ?_
        rw [HT.out]
        exact ⟨rfl, HF.out.1, HF.out.2⟩
      | true =>
        have HT : Hid (takeV l = (3, 0, tl, l3, 0)) := Lib.hid (by rw [HTD.out, HRAW.out]; dsimp only; rw [if_neg (by simp), hR]; rfl)
        have HRB := Lib.hid (show Vm.rightV (3) (0) ((strB tl) : ByteArray).data.toList = true from hR)
        clear hR
        go_enter Tryz.func14, Tryz.ntmps14
        go_wp2_with fail
        refine HU1.out.mono ?_
        rintro e w1 ⟨rfl, hr1, ho1⟩
        have hsz := ho1.size
        have hT := (HT0.out.only ho1 (by omega))
        have hb1 := (Below.refl w1.heap.size w1).alloc (Nat.le_refl _) (.cells #[.int .i64 (3 : Int), .int .i64 0, .string ⟨#[]⟩] 23)
        have hVs : w.heap.size < w1.heap.size := hT.size
        have K1 := Lib.hid (show RTk w B b w.heap.size w1.heap.size (3 : Int) 0 ⟨#[]⟩ l1 0 _ from ⟨⟨Nat.le_refl _, by omega, by omega, hblt⟩, hT.kept hb1, ThreeAt.start w1 (3 : Int) 0 ⟨#[]⟩, hr1.kept hb1, (HO0.out.trans ho1).trans (Only.ofBelow (b := b) hb1)⟩)
        clear hr1 ho1 hT hb1 hsz
        go_wp2_with fail
        refine (HUX.out _ K1.out.2.2.2.1).mono ?_
        rintro e w2 ⟨rfl, hr2, ho2⟩
        have K2 := Lib.hid (K1.out.read hr2 ho2)
        clear hr2 ho2
        have K3 := Lib.hid (K2.out.set2 (strB tl))
        have v0 := K2.out.2.2.1.cell2
        have v1 := K2.out.2.2.1.free 2
        have r2 := K3.out.2.2.2.1.2.1
        have x0 := K3.out.2.2.1.cell0
        have x1 := K3.out.2.2.1.cell1
        have x2 := K3.out.2.2.1.cell2
        go_wp2_with fail
        refine (refVRight_any 3 0 (strB tl) _ htt).mono ?_
        rw [HRB.out]
        rintro e w7 ⟨rfl, hb7⟩
        have K7 := Lib.hid (K3.out.kept hb7)
        clear hb7 x0 x1 x2 r2
        have x0 := K7.out.2.2.1.cell0
        have x1 := K7.out.2.2.1.cell1
        have x2 := K7.out.2.2.1.cell2
        obtain ⟨q0, q1, q2⟩ := K7.out.2.1.read (3) (0) (strB tl)
        have HF := Lib.hid (K7.out.answer (3) (0) (strB tl))
        have y0 := K7.out.2.1.free 0
        have y1 := K7.out.2.1.free 1
        have y2 := K7.out.2.1.free 2
        have z0 := K7.out.2.1.cell0
        have z1 := K7.out.2.1.cell1
        have z2 := K7.out.2.1.cell2
        go_wp2
        refine bodyPost_ret (v := .agg #[.int .i64 (3), .int .i64 (0), .string (strB tl)]) (by simp [results, Tryz.results14, go_sem, q0, q1, q2]) rfl ?_
        rw [HT.out]
        exact ⟨rfl, HF.out.1, HF.out.2⟩
    · have HT : Hid (takeV l = (0, 0, [], l3, e3)) := Lib.hid (by rw [HTD.out, HRAW.out]; dsimp only; rw [if_pos he])
      have te : ((e3 : Int) != 0) = true := by rw [bne_iff_ne]; omega
      clear he
      go_enter Tryz.func14, Tryz.ntmps14
      go_wp2_with fail
      refine HU1.out.mono ?_
      rintro e w1 ⟨rfl, hr1, ho1⟩
      have hsz := ho1.size
      have hT := (HT0.out.only ho1 (by omega))
      have hb1 := (Below.refl w1.heap.size w1).alloc (Nat.le_refl _) (.cells #[.int .i64 (3 : Int), .int .i64 0, .string ⟨#[]⟩] 23)
      have hVs : w.heap.size < w1.heap.size := hT.size
      have K1 := Lib.hid (show RTk w B b w.heap.size w1.heap.size (3 : Int) 0 ⟨#[]⟩ l1 0 _ from ⟨⟨Nat.le_refl _, by omega, by omega, hblt⟩, hT.kept hb1, ThreeAt.start w1 (3 : Int) 0 ⟨#[]⟩, hr1.kept hb1, (HO0.out.trans ho1).trans (Only.ofBelow (b := b) hb1)⟩)
      clear hr1 ho1 hT hb1 hsz
      go_wp2_with fail
      refine (HUX.out _ K1.out.2.2.2.1).mono ?_
      rintro e w2 ⟨rfl, hr2, ho2⟩
      have K2 := Lib.hid (K1.out.read hr2 ho2)
      clear hr2 ho2
      have K3 := Lib.hid (K2.out.set2 (strB tl))
      have v0 := K2.out.2.2.1.cell2
      have v1 := K2.out.2.2.1.free 2
      have r2 := K3.out.2.2.2.1.2.1
      obtain ⟨q0, q1, q2⟩ := K3.out.2.1.read (0) (0) ⟨#[]⟩
      have HF := Lib.hid (K3.out.answer (0) (0) ⟨#[]⟩)
      have y0 := K3.out.2.1.free 0
      have y1 := K3.out.2.1.free 1
      have y2 := K3.out.2.1.free 2
      have z0 := K3.out.2.1.cell0
      have z1 := K3.out.2.1.cell1
      have z2 := K3.out.2.1.cell2
      go_wp2
      refine bodyPost_ret (v := .agg #[.int .i64 (0), .int .i64 (0), .string ⟨#[]⟩]) (by simp [results, Tryz.results14, go_sem, q0, q1, q2]) rfl ?_
      rw [HT.out]
      exact ⟨rfl, HF.out.1, HF.out.2⟩
  · obtain rfl := hee (by decide)
    have HRAW := Lib.hid (show rawV l = (4, (m : Int), [], l2, e2) by rw [HRW.out]; rw [if_neg (by decide), if_neg (by decide), if_pos rfl])
    have htt : (⟨#[]⟩ : ByteArray).size ≤ 4611686018427387904 := by decide
    by_cases he : e2 = 0
    · subst he
      cases hR : Vm.rightV (4) ((m : Int)) [] with
      | false =>
        have HT : Hid (takeV l = (0, 0, [], l2, 21)) := Lib.hid (by rw [HTD.out, HRAW.out]; dsimp only; rw [if_neg (by simp), hR]; rfl)
        have HRB := Lib.hid (show Vm.rightV (4) ((m : Int)) (⟨#[]⟩ : ByteArray).data.toList = false from hR)
        clear hR
        go_enter Tryz.func14, Tryz.ntmps14
        go_wp2_with fail
        refine HU1.out.mono ?_
        rintro e w1 ⟨rfl, hr1, ho1⟩
        have hsz := ho1.size
        have hT := (HT0.out.only ho1 (by omega))
        have hb1 := (Below.refl w1.heap.size w1).alloc (Nat.le_refl _) (.cells #[.int .i64 (4 : Int), .int .i64 0, .string ⟨#[]⟩] 23)
        have hVs : w.heap.size < w1.heap.size := hT.size
        have K1 := Lib.hid (show RTk w B b w.heap.size w1.heap.size (4 : Int) 0 ⟨#[]⟩ l1 0 _ from ⟨⟨Nat.le_refl _, by omega, by omega, hblt⟩, hT.kept hb1, ThreeAt.start w1 (4 : Int) 0 ⟨#[]⟩, hr1.kept hb1, (HO0.out.trans ho1).trans (Only.ofBelow (b := b) hb1)⟩)
        clear hr1 ho1 hT hb1 hsz
        go_wp2_with fail
        refine (HU2.out _ K1.out.2.2.2.1).mono ?_
        rintro e w2 ⟨rfl, hr2, ho2⟩
        have K2 := Lib.hid (K1.out.read hr2 ho2)
        clear hr2 ho2
        have K3 := Lib.hid (K2.out.set1 (m : Int))
        have v0 := K2.out.2.2.1.cell1
        have v1 := K2.out.2.2.1.free 1
        have r2 := K3.out.2.2.2.1.2.1
        have x0 := K3.out.2.2.1.cell0
        have x1 := K3.out.2.2.1.cell1
        have x2 := K3.out.2.2.1.cell2
        go_wp2_with fail
        refine (refVRight_any 4 (m : Int) ⟨#[]⟩ _ htt).mono ?_
        rw [HRB.out]
        rintro e w7 ⟨rfl, hb7⟩
        have K7 := Lib.hid (K3.out.kept hb7)
        clear hb7 x0 x1 x2 r2
        go_wp2_with fail
        refine (refFail_any B b l2 0 21 _ K7.out.2.2.2.1).mono ?_
        rintro e w8 ⟨rfl, hr8, ho8⟩
        rw [if_pos rfl] at hr8
        have K8 := Lib.hid (K7.out.read hr8 ho8)
        clear hr8 ho8
        obtain ⟨q0, q1, q2⟩ := K8.out.2.1.read (0) (0) ⟨#[]⟩
        have HF := Lib.hid (K8.out.answer (0) (0) ⟨#[]⟩)
        have y0 := K8.out.2.1.free 0
        have y1 := K8.out.2.1.free 1
        have y2 := K8.out.2.1.free 2
        have z0 := K8.out.2.1.cell0
        have z1 := K8.out.2.1.cell1
        have z2 := K8.out.2.1.cell2
        go_wp2
        refine bodyPost_ret (v := .agg #[.int .i64 (0), .int .i64 (0), .string ⟨#[]⟩]) (by simp [results, Tryz.results14, go_sem, q0, q1, q2]) rfl ?_
        rw [HT.out]
        exact ⟨rfl, HF.out.1, HF.out.2⟩
      | true =>
        have HT : Hid (takeV l = (4, (m : Int), [], l2, 0)) := Lib.hid (by rw [HTD.out, HRAW.out]; dsimp only; rw [if_neg (by simp), hR]; rfl)
        have HRB := Lib.hid (show Vm.rightV (4) ((m : Int)) (⟨#[]⟩ : ByteArray).data.toList = true from hR)
        clear hR
        go_enter Tryz.func14, Tryz.ntmps14
        go_wp2_with fail
        refine HU1.out.mono ?_
        rintro e w1 ⟨rfl, hr1, ho1⟩
        have hsz := ho1.size
        have hT := (HT0.out.only ho1 (by omega))
        have hb1 := (Below.refl w1.heap.size w1).alloc (Nat.le_refl _) (.cells #[.int .i64 (4 : Int), .int .i64 0, .string ⟨#[]⟩] 23)
        have hVs : w.heap.size < w1.heap.size := hT.size
        have K1 := Lib.hid (show RTk w B b w.heap.size w1.heap.size (4 : Int) 0 ⟨#[]⟩ l1 0 _ from ⟨⟨Nat.le_refl _, by omega, by omega, hblt⟩, hT.kept hb1, ThreeAt.start w1 (4 : Int) 0 ⟨#[]⟩, hr1.kept hb1, (HO0.out.trans ho1).trans (Only.ofBelow (b := b) hb1)⟩)
        clear hr1 ho1 hT hb1 hsz
        go_wp2_with fail
        refine (HU2.out _ K1.out.2.2.2.1).mono ?_
        rintro e w2 ⟨rfl, hr2, ho2⟩
        have K2 := Lib.hid (K1.out.read hr2 ho2)
        clear hr2 ho2
        have K3 := Lib.hid (K2.out.set1 (m : Int))
        have v0 := K2.out.2.2.1.cell1
        have v1 := K2.out.2.2.1.free 1
        have r2 := K3.out.2.2.2.1.2.1
        have x0 := K3.out.2.2.1.cell0
        have x1 := K3.out.2.2.1.cell1
        have x2 := K3.out.2.2.1.cell2
        go_wp2_with fail
        refine (refVRight_any 4 (m : Int) ⟨#[]⟩ _ htt).mono ?_
        rw [HRB.out]
        rintro e w7 ⟨rfl, hb7⟩
        have K7 := Lib.hid (K3.out.kept hb7)
        clear hb7 x0 x1 x2 r2
        have x0 := K7.out.2.2.1.cell0
        have x1 := K7.out.2.2.1.cell1
        have x2 := K7.out.2.2.1.cell2
        obtain ⟨q0, q1, q2⟩ := K7.out.2.1.read (4) ((m : Int)) ⟨#[]⟩
        have HF := Lib.hid (K7.out.answer (4) ((m : Int)) ⟨#[]⟩)
        have y0 := K7.out.2.1.free 0
        have y1 := K7.out.2.1.free 1
        have y2 := K7.out.2.1.free 2
        have z0 := K7.out.2.1.cell0
        have z1 := K7.out.2.1.cell1
        have z2 := K7.out.2.1.cell2
        go_wp2
        refine bodyPost_ret (v := .agg #[.int .i64 (4), .int .i64 ((m : Int)), .string ⟨#[]⟩]) (by simp [results, Tryz.results14, go_sem, q0, q1, q2]) rfl ?_
        rw [HT.out]
        exact ⟨rfl, HF.out.1, HF.out.2⟩
    · have HT : Hid (takeV l = (0, 0, [], l2, e2)) := Lib.hid (by rw [HTD.out, HRAW.out]; dsimp only; rw [if_pos he])
      have te : ((e2 : Int) != 0) = true := by rw [bne_iff_ne]; omega
      clear he
      go_enter Tryz.func14, Tryz.ntmps14
      go_wp2_with fail
      refine HU1.out.mono ?_
      rintro e w1 ⟨rfl, hr1, ho1⟩
      have hsz := ho1.size
      have hT := (HT0.out.only ho1 (by omega))
      have hb1 := (Below.refl w1.heap.size w1).alloc (Nat.le_refl _) (.cells #[.int .i64 (4 : Int), .int .i64 0, .string ⟨#[]⟩] 23)
      have hVs : w.heap.size < w1.heap.size := hT.size
      have K1 := Lib.hid (show RTk w B b w.heap.size w1.heap.size (4 : Int) 0 ⟨#[]⟩ l1 0 _ from ⟨⟨Nat.le_refl _, by omega, by omega, hblt⟩, hT.kept hb1, ThreeAt.start w1 (4 : Int) 0 ⟨#[]⟩, hr1.kept hb1, (HO0.out.trans ho1).trans (Only.ofBelow (b := b) hb1)⟩)
      clear hr1 ho1 hT hb1 hsz
      go_wp2_with fail
      refine (HU2.out _ K1.out.2.2.2.1).mono ?_
      rintro e w2 ⟨rfl, hr2, ho2⟩
      have K2 := Lib.hid (K1.out.read hr2 ho2)
      clear hr2 ho2
      have K3 := Lib.hid (K2.out.set1 (m : Int))
      have v0 := K2.out.2.2.1.cell1
      have v1 := K2.out.2.2.1.free 1
      have r2 := K3.out.2.2.2.1.2.1
      obtain ⟨q0, q1, q2⟩ := K3.out.2.1.read (0) (0) ⟨#[]⟩
      have HF := Lib.hid (K3.out.answer (0) (0) ⟨#[]⟩)
      have y0 := K3.out.2.1.free 0
      have y1 := K3.out.2.1.free 1
      have y2 := K3.out.2.1.free 2
      have z0 := K3.out.2.1.cell0
      have z1 := K3.out.2.1.cell1
      have z2 := K3.out.2.1.cell2
      go_wp2
      refine bodyPost_ret (v := .agg #[.int .i64 (0), .int .i64 (0), .string ⟨#[]⟩]) (by simp [results, Tryz.results14, go_sem, q0, q1, q2]) rfl ?_
      rw [HT.out]
      exact ⟨rfl, HF.out.1, HF.out.2⟩
  · have k1 : ((kk : Int) == 1) = false := by rw [beq_eq_false_iff_ne]; omega
    have k2 : ((kk : Int) == 2) = false := by rw [beq_eq_false_iff_ne]; omega
    have k3 : ((kk : Int) == 3) = false := by rw [beq_eq_false_iff_ne]; omega
    have k4 : ((kk : Int) == 4) = false := by rw [beq_eq_false_iff_ne]; omega
    have HRAW := Lib.hid (show rawV l = ((kk : Int), 0, [], l1, e1) by rw [HRW.out]; rw [if_neg (by omega), if_neg g3, if_neg g4])
    have htt : (⟨#[]⟩ : ByteArray).size ≤ 4611686018427387904 := by decide
    by_cases he : e1 = 0
    · subst he
      cases hR : Vm.rightV ((kk : Int)) (0) [] with
      | false =>
        have HT : Hid (takeV l = (0, 0, [], l1, 21)) := Lib.hid (by rw [HTD.out, HRAW.out]; dsimp only; rw [if_neg (by simp), hR]; rfl)
        have HRB := Lib.hid (show Vm.rightV ((kk : Int)) (0) (⟨#[]⟩ : ByteArray).data.toList = false from hR)
        clear hR
        go_enter Tryz.func14, Tryz.ntmps14
        go_wp2_with fail
        refine HU1.out.mono ?_
        rintro e w1 ⟨rfl, hr1, ho1⟩
        have hsz := ho1.size
        have hT := (HT0.out.only ho1 (by omega))
        have hb1 := (Below.refl w1.heap.size w1).alloc (Nat.le_refl _) (.cells #[.int .i64 (kk : Int), .int .i64 0, .string ⟨#[]⟩] 23)
        have hVs : w.heap.size < w1.heap.size := hT.size
        have K1 := Lib.hid (show RTk w B b w.heap.size w1.heap.size (kk : Int) 0 ⟨#[]⟩ l1 _ _ from ⟨⟨Nat.le_refl _, by omega, by omega, hblt⟩, hT.kept hb1, ThreeAt.start w1 (kk : Int) 0 ⟨#[]⟩, hr1.kept hb1, (HO0.out.trans ho1).trans (Only.ofBelow (b := b) hb1)⟩)
        clear hr1 ho1 hT hb1 hsz
        have r2 := K1.out.2.2.2.1.2.1
        have x0 := K1.out.2.2.1.cell0
        have x1 := K1.out.2.2.1.cell1
        have x2 := K1.out.2.2.1.cell2
        go_wp2_with fail
        refine (refVRight_any (kk : Int) 0 ⟨#[]⟩ _ htt).mono ?_
        rw [HRB.out]
        rintro e w7 ⟨rfl, hb7⟩
        have K7 := Lib.hid (K1.out.kept hb7)
        clear hb7 x0 x1 x2 r2
        go_wp2_with fail
        refine (refFail_any B b l1 0 21 _ K7.out.2.2.2.1).mono ?_
        rintro e w8 ⟨rfl, hr8, ho8⟩
        rw [if_pos rfl] at hr8
        have K8 := Lib.hid (K7.out.read hr8 ho8)
        clear hr8 ho8
        obtain ⟨q0, q1, q2⟩ := K8.out.2.1.read (0) (0) ⟨#[]⟩
        have HF := Lib.hid (K8.out.answer (0) (0) ⟨#[]⟩)
        have y0 := K8.out.2.1.free 0
        have y1 := K8.out.2.1.free 1
        have y2 := K8.out.2.1.free 2
        have z0 := K8.out.2.1.cell0
        have z1 := K8.out.2.1.cell1
        have z2 := K8.out.2.1.cell2
        go_wp2
        refine bodyPost_ret (v := .agg #[.int .i64 (0), .int .i64 (0), .string ⟨#[]⟩]) (by simp [results, Tryz.results14, go_sem, q0, q1, q2]) rfl ?_
        rw [HT.out]
        exact ⟨rfl, HF.out.1, HF.out.2⟩
      | true =>
        have HT : Hid (takeV l = ((kk : Int), 0, [], l1, 0)) := Lib.hid (by rw [HTD.out, HRAW.out]; dsimp only; rw [if_neg (by simp), hR]; rfl)
        have HRB := Lib.hid (show Vm.rightV ((kk : Int)) (0) (⟨#[]⟩ : ByteArray).data.toList = true from hR)
        clear hR
        go_enter Tryz.func14, Tryz.ntmps14
        go_wp2_with fail
        refine HU1.out.mono ?_
        rintro e w1 ⟨rfl, hr1, ho1⟩
        have hsz := ho1.size
        have hT := (HT0.out.only ho1 (by omega))
        have hb1 := (Below.refl w1.heap.size w1).alloc (Nat.le_refl _) (.cells #[.int .i64 (kk : Int), .int .i64 0, .string ⟨#[]⟩] 23)
        have hVs : w.heap.size < w1.heap.size := hT.size
        have K1 := Lib.hid (show RTk w B b w.heap.size w1.heap.size (kk : Int) 0 ⟨#[]⟩ l1 _ _ from ⟨⟨Nat.le_refl _, by omega, by omega, hblt⟩, hT.kept hb1, ThreeAt.start w1 (kk : Int) 0 ⟨#[]⟩, hr1.kept hb1, (HO0.out.trans ho1).trans (Only.ofBelow (b := b) hb1)⟩)
        clear hr1 ho1 hT hb1 hsz
        have r2 := K1.out.2.2.2.1.2.1
        have x0 := K1.out.2.2.1.cell0
        have x1 := K1.out.2.2.1.cell1
        have x2 := K1.out.2.2.1.cell2
        go_wp2_with fail
        refine (refVRight_any (kk : Int) 0 ⟨#[]⟩ _ htt).mono ?_
        rw [HRB.out]
        rintro e w7 ⟨rfl, hb7⟩
        have K7 := Lib.hid (K1.out.kept hb7)
        clear hb7 x0 x1 x2 r2
        have x0 := K7.out.2.2.1.cell0
        have x1 := K7.out.2.2.1.cell1
        have x2 := K7.out.2.2.1.cell2
        obtain ⟨q0, q1, q2⟩ := K7.out.2.1.read ((kk : Int)) (0) ⟨#[]⟩
        have HF := Lib.hid (K7.out.answer ((kk : Int)) (0) ⟨#[]⟩)
        have y0 := K7.out.2.1.free 0
        have y1 := K7.out.2.1.free 1
        have y2 := K7.out.2.1.free 2
        have z0 := K7.out.2.1.cell0
        have z1 := K7.out.2.1.cell1
        have z2 := K7.out.2.1.cell2
        go_wp2
        refine bodyPost_ret (v := .agg #[.int .i64 ((kk : Int)), .int .i64 (0), .string ⟨#[]⟩]) (by simp [results, Tryz.results14, go_sem, q0, q1, q2]) rfl ?_
        rw [HT.out]
        exact ⟨rfl, HF.out.1, HF.out.2⟩
    · have HT : Hid (takeV l = (0, 0, [], l1, e1)) := Lib.hid (by rw [HTD.out, HRAW.out]; dsimp only; rw [if_pos he])
      have te : ((e1 : Int) != 0) = true := by rw [bne_iff_ne]; omega
      clear he
      go_enter Tryz.func14, Tryz.ntmps14
      go_wp2_with fail
      refine HU1.out.mono ?_
      rintro e w1 ⟨rfl, hr1, ho1⟩
      have hsz := ho1.size
      have hT := (HT0.out.only ho1 (by omega))
      have hb1 := (Below.refl w1.heap.size w1).alloc (Nat.le_refl _) (.cells #[.int .i64 (kk : Int), .int .i64 0, .string ⟨#[]⟩] 23)
      have hVs : w.heap.size < w1.heap.size := hT.size
      have K1 := Lib.hid (show RTk w B b w.heap.size w1.heap.size (kk : Int) 0 ⟨#[]⟩ l1 _ _ from ⟨⟨Nat.le_refl _, by omega, by omega, hblt⟩, hT.kept hb1, ThreeAt.start w1 (kk : Int) 0 ⟨#[]⟩, hr1.kept hb1, (HO0.out.trans ho1).trans (Only.ofBelow (b := b) hb1)⟩)
      clear hr1 ho1 hT hb1 hsz
      go_upto_region 13 with fail
      generalize hWA : w1.alloc (.cells #[.int .i64 (kk : Int), .int .i64 0, .string ⟨#[]⟩] 23) = wA at *
      have HWA := Lib.hid hWA
      clear hWA
      have r2 := K1.out.2.2.2.1.2.1
      obtain ⟨q0, q1, q2⟩ := K1.out.2.1.read (0) (0) ⟨#[]⟩
      have HF := Lib.hid (K1.out.answer (0) (0) ⟨#[]⟩)
      have y0 := K1.out.2.1.free 0
      have y1 := K1.out.2.1.free 1
      have y2 := K1.out.2.1.free 2
      have z0 := K1.out.2.1.cell0
      have z1 := K1.out.2.1.cell1
      have z2 := K1.out.2.1.cell2
      go_wp2
      refine bodyPost_ret (v := .agg #[.int .i64 (0), .int .i64 (0), .string ⟨#[]⟩]) (by simp [results, Tryz.results14, go_sem, q0, q1, q2]) rfl ?_
      rw [HT.out]
      exact ⟨rfl, HF.out.1, HF.out.2⟩

end

section
open Go.RowKit

set_option maxRecDepth 100000 in
set_option maxHeartbeats 4000000 in
theorem refVput_any (k n : Int) (t : ByteArray) (w : World) (ht : t.size ≤ 4611686018427387904) : Calls Tryz.prog 10 #[.agg #[.int .i64 k, .int .i64 n, .string t]] w (Made 5 w (putV k n t.data.toList).1) := by
  obtain ⟨i0, hi, hz0, hz1, hz2⟩ := info_parts info_u8
  have HB := Lib.hid ((Below.refl w.heap.size w).alloc (Nat.le_refl _) (.cells #[.int .i64 k, .int .i64 n, .string t] 23))
  have HT := Lib.hid (ThreeAt.start w k n t)
  have HRT := Lib.hid (fun W => refVRight_any k n t W ht)
  cases hR : Vm.rightV k n t.data.toList with
  | false =>
    have HR := Lib.hid (show putV k n t.data.toList = ([], 1) by unfold putV; rw [if_neg (by simp [hR])])
    have HRB := Lib.hid hR
    clear hR
    go_enter Tryz.func10, Tryz.ntmps10
    go_wp2_with fail
    refine (HRT.out _).mono ?_
    rw [HRB.out]
    rintro e w1 ⟨rfl, hb1⟩
    have HB1 := Lib.hid (HB.out.trans (hb1.mono HB.out.size))
    clear hb1
    go_wp2
    go_ret
    rw [HR.out]
    exact ⟨_, rfl, Own.nil _ _ _, HB1.out⟩
  | true =>
    have HR := Lib.hid (show putV k n t.data.toList = (Wm.numB k.toNat ++ restV k n t.data.toList, 0) by unfold putV; rw [if_pos hR])
    have HRB := Lib.hid hR
    have HK := Lib.hid (right_kind hR)
    have hk := right_kind hR
    have HN1 := Lib.hid (show (numW k).1 = Wm.numB k.toNat by unfold numW; rw [if_pos (by omega)])
    have s1 := numB_small k.toNat
    have HNM := Lib.hid (fun hk => right_num hR hk)
    have HTX := Lib.hid (fun (hk : k = 3) => right_text (t := t.data.toList) (n := n) (hk ▸ hR))
    have HFL := Lib.hid (fun (hk : k = 4) => right_flag (t := t.data.toList) (n := n) (hk ▸ hR))
    have HRV : Hid (restV k n t.data.toList = if k = 3 then Wm.numB t.data.toList.length ++ t.data.toList else if k = 4 then Wm.numB n.toNat else if k = 0 then [] else Wm.numB (foldV n)) := Lib.hid rfl
    generalize Wm.numB k.toNat = x at *
    generalize restV k n t.data.toList = y at *
    clear hR hk
    rcases HK.out with rfl | rfl | rfl | rfl | rfl
    · obtain rfl : y = [] := by have h := HRV.out; rw [if_neg (by decide), if_neg (by decide), if_pos rfl] at h; exact h
      go_enter Tryz.func10, Tryz.ntmps10
      go_wp2_with fail
      refine (HRT.out _).mono ?_
      rw [HRB.out]
      rintro e w1 ⟨rfl, hb1⟩
      have HT1 := Lib.hid (HT.out.kept hb1)
      have HB1 := Lib.hid (HB.out.trans (hb1.mono HB.out.size))
      have x0 := HT1.out.cell0
      clear hb1
      go_wp2_with fail
      refine (refNum_any 0 _).mono ?_
      rw [HN1.out]
      rintro e w2 ⟨v2, rfl, hown2, hb2⟩
      have HT2 := Lib.hid (HT1.out.kept hb2)
      have HB2 := Lib.hid (HB1.out.trans (hb2.mono HB1.out.size))
      have hs1 := HT1.out.size
      have HO2 := Lib.hid hown2
      obtain ⟨p2, k2, rfl, -⟩ := hown2.bs
      have hs2 := hb2.size
      clear hown2 hb2 x0
      have x0 := HT2.out.cell0
      have x1 := HT2.out.cell1
      have x2 := HT2.out.cell2
      go_wp2
      go_ret
      rw [HR.out]
      exact ⟨_, rfl, (show Own 5 w2 w.heap.size _ (x ++ []) by rw [List.append_nil]; exact HO2.out.base (Nat.le_of_lt hs1)), HB2.out⟩
    · obtain ⟨n0, n1⟩ := HNM.out (by simp)
      have hf := foldV_le n n0 n1
      obtain rfl : y = Wm.numB (foldV n) := by have h := HRV.out; rw [if_neg (by decide), if_neg (by decide), if_neg (by decide)] at h; exact h
      have s2 := numB_small (foldV n)
      by_cases hn : n < 0
      · have HN2 := Lib.hid (show (numW (-2 * n - 1)).1 = Wm.numB (foldV n) by unfold numW foldV; rw [if_pos (by omega), if_pos hn])
        generalize Wm.numB (foldV n) = y at *
        have d0 : decide (0 ≤ n) = false := decide_eq_false (by omega)
        clear hf
        go_enter Tryz.func10, Tryz.ntmps10
        go_wp2_with fail
        refine (HRT.out _).mono ?_
        rw [HRB.out]
        rintro e w1 ⟨rfl, hb1⟩
        have HT1 := Lib.hid (HT.out.kept hb1)
        have HB1 := Lib.hid (HB.out.trans (hb1.mono HB.out.size))
        have x0 := HT1.out.cell0
        clear hb1
        go_wp2_with fail
        refine (refNum_any 1 _).mono ?_
        rw [HN1.out]
        rintro e w2 ⟨v2, rfl, hown2, hb2⟩
        have HT2 := Lib.hid (HT1.out.kept hb2)
        have HB2 := Lib.hid (HB1.out.trans (hb2.mono HB1.out.size))
        have hs1 := HT1.out.size
        have HO2 := Lib.hid hown2
        obtain ⟨p2, k2, rfl, -⟩ := hown2.bs
        have hs2 := hb2.size
        clear hown2 hb2 x0
        have x0 := HT2.out.cell0
        have x1 := HT2.out.cell1
        have x2 := HT2.out.cell2
        go_wp2_with fail
        refine (refNum_any (-2 * n - 1) _).mono ?_
        rw [HN2.out]
        rintro e w3 ⟨v3, rfl, hown3, hb3⟩
        obtain ⟨p3, k3, rfl, hbs3, -, -, hpn3, -⟩ := hown3.bs
        have HO3 := Lib.hid (HO2.out.below hb3)
        have HBS := Lib.hid hbs3
        have HB3 := Lib.hid (HB2.out.trans (hb3.mono HB2.out.size))
        have hs3 : w.heap.size ≤ w3.heap.size := HB3.out.size
        clear hown3 hbs3 hb3 x0 x1 x2
        go_wp2_with (at_builtin; refine wpList_append_bs rfl _ _ 24 rfl w.heap.size 5 i0 Tryz.underlying24 hi hz0 hz1 hz2 _ x rfl (HO3.out.base (Nat.le_of_lt hs1)) p3 k3 y rfl HBS.out hpn3 ?b0 ?b1 ?_)
        case b0 => omega
        case b1 => omega
        intro v4 w4 hown4 hbel4 hgrow4 hnil4
        clear hgrow4 hnil4
        have HO4 := Lib.hid (show Own 5 w4 w.heap.size v4 (x ++ y) from hown4)
        have HB4 := Lib.hid (HB3.out.trans hbel4)
        clear hown4 hbel4
        go_wp2
        go_ret
        rw [HR.out]
        exact ⟨_, rfl, HO4.out, HB4.out⟩
      · have HN2 := Lib.hid (show (numW (2 * n)).1 = Wm.numB (foldV n) by unfold numW foldV; rw [if_pos (by omega), if_neg hn])
        generalize Wm.numB (foldV n) = y at *
        have d0 : 0 ≤ n := by omega
        clear hf hn
        go_enter Tryz.func10, Tryz.ntmps10
        go_wp2_with fail
        refine (HRT.out _).mono ?_
        rw [HRB.out]
        rintro e w1 ⟨rfl, hb1⟩
        have HT1 := Lib.hid (HT.out.kept hb1)
        have HB1 := Lib.hid (HB.out.trans (hb1.mono HB.out.size))
        have x0 := HT1.out.cell0
        clear hb1
        go_wp2_with fail
        refine (refNum_any 1 _).mono ?_
        rw [HN1.out]
        rintro e w2 ⟨v2, rfl, hown2, hb2⟩
        have HT2 := Lib.hid (HT1.out.kept hb2)
        have HB2 := Lib.hid (HB1.out.trans (hb2.mono HB1.out.size))
        have hs1 := HT1.out.size
        have HO2 := Lib.hid hown2
        obtain ⟨p2, k2, rfl, -⟩ := hown2.bs
        have hs2 := hb2.size
        clear hown2 hb2 x0
        have x0 := HT2.out.cell0
        have x1 := HT2.out.cell1
        have x2 := HT2.out.cell2
        go_wp2_with fail
        refine (refNum_any (2 * n) _).mono ?_
        rw [HN2.out]
        rintro e w3 ⟨v3, rfl, hown3, hb3⟩
        obtain ⟨p3, k3, rfl, hbs3, -, -, hpn3, -⟩ := hown3.bs
        have HO3 := Lib.hid (HO2.out.below hb3)
        have HBS := Lib.hid hbs3
        have HB3 := Lib.hid (HB2.out.trans (hb3.mono HB2.out.size))
        have hs3 : w.heap.size ≤ w3.heap.size := HB3.out.size
        clear hown3 hbs3 hb3 x0 x1 x2
        go_wp2_with (at_builtin; refine wpList_append_bs rfl _ _ 24 rfl w.heap.size 5 i0 Tryz.underlying24 hi hz0 hz1 hz2 _ x rfl (HO3.out.base (Nat.le_of_lt hs1)) p3 k3 y rfl HBS.out hpn3 ?b0 ?b1 ?_)
        case b0 => omega
        case b1 => omega
        intro v4 w4 hown4 hbel4 hgrow4 hnil4
        clear hgrow4 hnil4
        have HO4 := Lib.hid (show Own 5 w4 w.heap.size v4 (x ++ y) from hown4)
        have HB4 := Lib.hid (HB3.out.trans hbel4)
        clear hown4 hbel4
        go_wp2
        go_ret
        rw [HR.out]
        exact ⟨_, rfl, HO4.out, HB4.out⟩
    · obtain ⟨n0, n1⟩ := HNM.out (by simp)
      have hf := foldV_le n n0 n1
      obtain rfl : y = Wm.numB (foldV n) := by have h := HRV.out; rw [if_neg (by decide), if_neg (by decide), if_neg (by decide)] at h; exact h
      have s2 := numB_small (foldV n)
      by_cases hn : n < 0
      · have HN2 := Lib.hid (show (numW (-2 * n - 1)).1 = Wm.numB (foldV n) by unfold numW foldV; rw [if_pos (by omega), if_pos hn])
        generalize Wm.numB (foldV n) = y at *
        have d0 : decide (0 ≤ n) = false := decide_eq_false (by omega)
        clear hf
        go_enter Tryz.func10, Tryz.ntmps10
        go_wp2_with fail
        refine (HRT.out _).mono ?_
        rw [HRB.out]
        rintro e w1 ⟨rfl, hb1⟩
        have HT1 := Lib.hid (HT.out.kept hb1)
        have HB1 := Lib.hid (HB.out.trans (hb1.mono HB.out.size))
        have x0 := HT1.out.cell0
        clear hb1
        go_wp2_with fail
        refine (refNum_any 2 _).mono ?_
        rw [HN1.out]
        rintro e w2 ⟨v2, rfl, hown2, hb2⟩
        have HT2 := Lib.hid (HT1.out.kept hb2)
        have HB2 := Lib.hid (HB1.out.trans (hb2.mono HB1.out.size))
        have hs1 := HT1.out.size
        have HO2 := Lib.hid hown2
        obtain ⟨p2, k2, rfl, -⟩ := hown2.bs
        have hs2 := hb2.size
        clear hown2 hb2 x0
        have x0 := HT2.out.cell0
        have x1 := HT2.out.cell1
        have x2 := HT2.out.cell2
        go_wp2_with fail
        refine (refNum_any (-2 * n - 1) _).mono ?_
        rw [HN2.out]
        rintro e w3 ⟨v3, rfl, hown3, hb3⟩
        obtain ⟨p3, k3, rfl, hbs3, -, -, hpn3, -⟩ := hown3.bs
        have HO3 := Lib.hid (HO2.out.below hb3)
        have HBS := Lib.hid hbs3
        have HB3 := Lib.hid (HB2.out.trans (hb3.mono HB2.out.size))
        have hs3 : w.heap.size ≤ w3.heap.size := HB3.out.size
        clear hown3 hbs3 hb3 x0 x1 x2
        go_wp2_with (at_builtin; refine wpList_append_bs rfl _ _ 24 rfl w.heap.size 5 i0 Tryz.underlying24 hi hz0 hz1 hz2 _ x rfl (HO3.out.base (Nat.le_of_lt hs1)) p3 k3 y rfl HBS.out hpn3 ?b0 ?b1 ?_)
        case b0 => omega
        case b1 => omega
        intro v4 w4 hown4 hbel4 hgrow4 hnil4
        clear hgrow4 hnil4
        have HO4 := Lib.hid (show Own 5 w4 w.heap.size v4 (x ++ y) from hown4)
        have HB4 := Lib.hid (HB3.out.trans hbel4)
        clear hown4 hbel4
        go_wp2
        go_ret
        rw [HR.out]
        exact ⟨_, rfl, HO4.out, HB4.out⟩
      · have HN2 := Lib.hid (show (numW (2 * n)).1 = Wm.numB (foldV n) by unfold numW foldV; rw [if_pos (by omega), if_neg hn])
        generalize Wm.numB (foldV n) = y at *
        have d0 : 0 ≤ n := by omega
        clear hf hn
        go_enter Tryz.func10, Tryz.ntmps10
        go_wp2_with fail
        refine (HRT.out _).mono ?_
        rw [HRB.out]
        rintro e w1 ⟨rfl, hb1⟩
        have HT1 := Lib.hid (HT.out.kept hb1)
        have HB1 := Lib.hid (HB.out.trans (hb1.mono HB.out.size))
        have x0 := HT1.out.cell0
        clear hb1
        go_wp2_with fail
        refine (refNum_any 2 _).mono ?_
        rw [HN1.out]
        rintro e w2 ⟨v2, rfl, hown2, hb2⟩
        have HT2 := Lib.hid (HT1.out.kept hb2)
        have HB2 := Lib.hid (HB1.out.trans (hb2.mono HB1.out.size))
        have hs1 := HT1.out.size
        have HO2 := Lib.hid hown2
        obtain ⟨p2, k2, rfl, -⟩ := hown2.bs
        have hs2 := hb2.size
        clear hown2 hb2 x0
        have x0 := HT2.out.cell0
        have x1 := HT2.out.cell1
        have x2 := HT2.out.cell2
        go_wp2_with fail
        refine (refNum_any (2 * n) _).mono ?_
        rw [HN2.out]
        rintro e w3 ⟨v3, rfl, hown3, hb3⟩
        obtain ⟨p3, k3, rfl, hbs3, -, -, hpn3, -⟩ := hown3.bs
        have HO3 := Lib.hid (HO2.out.below hb3)
        have HBS := Lib.hid hbs3
        have HB3 := Lib.hid (HB2.out.trans (hb3.mono HB2.out.size))
        have hs3 : w.heap.size ≤ w3.heap.size := HB3.out.size
        clear hown3 hbs3 hb3 x0 x1 x2
        go_wp2_with (at_builtin; refine wpList_append_bs rfl _ _ 24 rfl w.heap.size 5 i0 Tryz.underlying24 hi hz0 hz1 hz2 _ x rfl (HO3.out.base (Nat.le_of_lt hs1)) p3 k3 y rfl HBS.out hpn3 ?b0 ?b1 ?_)
        case b0 => omega
        case b1 => omega
        intro v4 w4 hown4 hbel4 hgrow4 hnil4
        clear hgrow4 hnil4
        have HO4 := Lib.hid (show Own 5 w4 w.heap.size v4 (x ++ y) from hown4)
        have HB4 := Lib.hid (HB3.out.trans hbel4)
        clear hown4 hbel4
        go_wp2
        go_ret
        rw [HR.out]
        exact ⟨_, rfl, HO4.out, HB4.out⟩
    · obtain ⟨rfl, hl⟩ := HTX.out rfl
      obtain rfl : y = Wm.numB t.data.toList.length ++ t.data.toList := by have h := HRV.out; rw [if_pos rfl] at h; exact h
      have s2 := numB_small t.data.toList.length
      have HN2 := Lib.hid (show (textW t.data.toList).1 = Wm.numB t.data.toList.length ++ t.data.toList by unfold textW; rw [if_pos (by omega)])
      have s3 : (Wm.numB t.data.toList.length ++ t.data.toList).length ≤ 100 := by rw [List.length_append]; omega
      have hts : t.size ≤ 64 := by rw [← str_len]; exact hl
      generalize Wm.numB t.data.toList.length ++ t.data.toList = y at *
      clear hl s2
      go_enter Tryz.func10, Tryz.ntmps10
      go_wp2_with fail
      refine (HRT.out _).mono ?_
      rw [HRB.out]
      rintro e w1 ⟨rfl, hb1⟩
      have HT1 := Lib.hid (HT.out.kept hb1)
      have HB1 := Lib.hid (HB.out.trans (hb1.mono HB.out.size))
      have x0 := HT1.out.cell0
      clear hb1
      go_wp2_with fail
      refine (refNum_any 3 _).mono ?_
      rw [HN1.out]
      rintro e w2 ⟨v2, rfl, hown2, hb2⟩
      have HT2 := Lib.hid (HT1.out.kept hb2)
      have HB2 := Lib.hid (HB1.out.trans (hb2.mono HB1.out.size))
      have hs1 := HT1.out.size
      have HO2 := Lib.hid hown2
      obtain ⟨p2, k2, rfl, -⟩ := hown2.bs
      have hs2 := hb2.size
      clear hown2 hb2 x0
      have x0 := HT2.out.cell0
      have x1 := HT2.out.cell1
      have x2 := HT2.out.cell2
      go_wp2_with fail
      refine (refText_any t _ (by unfold maxLen; omega)).mono ?_
      rw [HN2.out]
      rintro e w3 ⟨v3, rfl, hown3, hb3⟩
      obtain ⟨p3, k3, rfl, hbs3, -, -, hpn3, -⟩ := hown3.bs
      have HO3 := Lib.hid (HO2.out.below hb3)
      have HBS := Lib.hid hbs3
      have HB3 := Lib.hid (HB2.out.trans (hb3.mono HB2.out.size))
      have hs3 : w.heap.size ≤ w3.heap.size := HB3.out.size
      clear hown3 hbs3 hb3 x0 x1 x2
      go_wp2_with (at_builtin; refine wpList_append_bs rfl _ _ 24 rfl w.heap.size 5 i0 Tryz.underlying24 hi hz0 hz1 hz2 _ x rfl (HO3.out.base (Nat.le_of_lt hs1)) p3 k3 y rfl HBS.out hpn3 ?b0 ?b1 ?_)
      case b0 => omega
      case b1 => omega
      intro v4 w4 hown4 hbel4 hgrow4 hnil4
      clear hgrow4 hnil4
      have HO4 := Lib.hid (show Own 5 w4 w.heap.size v4 (x ++ y) from hown4)
      have HB4 := Lib.hid (HB3.out.trans hbel4)
      clear hown4 hbel4
      go_wp2
      go_ret
      rw [HR.out]
      exact ⟨_, rfl, HO4.out, HB4.out⟩
    · have hfl := HFL.out rfl
      obtain rfl : y = Wm.numB n.toNat := by have h := HRV.out; rw [if_neg (by decide), if_pos rfl] at h; exact h
      have s2 := numB_small n.toNat
      have HN2 := Lib.hid (show (numW n).1 = Wm.numB n.toNat by unfold numW; rw [if_pos (by omega)])
      generalize Wm.numB n.toNat = y at *
      clear hfl
      go_enter Tryz.func10, Tryz.ntmps10
      go_wp2_with fail
      refine (HRT.out _).mono ?_
      rw [HRB.out]
      rintro e w1 ⟨rfl, hb1⟩
      have HT1 := Lib.hid (HT.out.kept hb1)
      have HB1 := Lib.hid (HB.out.trans (hb1.mono HB.out.size))
      have x0 := HT1.out.cell0
      clear hb1
      go_wp2_with fail
      refine (refNum_any 4 _).mono ?_
      rw [HN1.out]
      rintro e w2 ⟨v2, rfl, hown2, hb2⟩
      have HT2 := Lib.hid (HT1.out.kept hb2)
      have HB2 := Lib.hid (HB1.out.trans (hb2.mono HB1.out.size))
      have hs1 := HT1.out.size
      have HO2 := Lib.hid hown2
      obtain ⟨p2, k2, rfl, -⟩ := hown2.bs
      have hs2 := hb2.size
      clear hown2 hb2 x0
      have x0 := HT2.out.cell0
      have x1 := HT2.out.cell1
      have x2 := HT2.out.cell2
      go_wp2_with fail
      refine (refNum_any n _).mono ?_
      rw [HN2.out]
      rintro e w3 ⟨v3, rfl, hown3, hb3⟩
      obtain ⟨p3, k3, rfl, hbs3, -, -, hpn3, -⟩ := hown3.bs
      have HO3 := Lib.hid (HO2.out.below hb3)
      have HBS := Lib.hid hbs3
      have HB3 := Lib.hid (HB2.out.trans (hb3.mono HB2.out.size))
      have hs3 : w.heap.size ≤ w3.heap.size := HB3.out.size
      clear hown3 hbs3 hb3 x0 x1 x2
      go_wp2_with (at_builtin; refine wpList_append_bs rfl _ _ 24 rfl w.heap.size 5 i0 Tryz.underlying24 hi hz0 hz1 hz2 _ x rfl (HO3.out.base (Nat.le_of_lt hs1)) p3 k3 y rfl HBS.out hpn3 ?b0 ?b1 ?_)
      case b0 => omega
      case b1 => omega
      intro v4 w4 hown4 hbel4 hgrow4 hnil4
      clear hgrow4 hnil4
      have HO4 := Lib.hid (show Own 5 w4 w.heap.size v4 (x ++ y) from hown4)
      have HB4 := Lib.hid (HB3.out.trans hbel4)
      clear hown4 hbel4
      go_wp2
      go_ret
      rw [HR.out]
      exact ⟨_, rfl, HO4.out, HB4.out⟩

end

end Go.Proofs.YtfakbbbkfmnnhaaGreatDoor
