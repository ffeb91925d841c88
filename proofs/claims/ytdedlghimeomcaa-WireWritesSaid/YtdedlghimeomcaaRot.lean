/-
  WIREROT's WALK: for every slice of bytes, every place and byte: a frame of which one byte is another one is not unframed to another content of its length.
-/
import Derived.Test.YtdedlghimeomcaaCanon
import Derived.Test.YtdedlghimeomcaaKnows
import Derived.Test.YtdedlghimeomcaaNil
namespace Go.Proofs.Ytdedlghimeomcaa
open Go.RowKit

theorem vals_set (l : List UInt8) (i : Nat) (c : UInt8) : vals (l.set i c) = (vals l).set i (.int .u8 (c.toNat : Int)) := by
  simp [vals]

theorem Own.set {E : TypeId} {w : World} {B g n cap : Nat} {l : List UInt8} (h : Own E w B (.slice (some ⟨g, 0, none⟩) n cap) l) (hn : n = l.length) (i : Nat) (c : UInt8) :
    Own E (w.setCell ⟨g, i, none⟩ (.int .u8 (c.toNat : Int))) B (.slice (some ⟨g, 0, none⟩) n cap) (l.set i c) := by
  subst hn
  have h0 : w.ownsRow B E 1 (.slice (some ⟨g, 0, none⟩) l.length cap) l.length (vals l) := h
  have := h0.stored i (.int .u8 (c.toNat : Int))
  unfold Own
  rw [vals_set, List.length_set]
  exact this.1

set_option maxHeartbeats 1000000 in
theorem wireRot_walk (p : Option Addr) (c : Nat) (l : List UInt8) (a : Int) (x : Int) (w : World) (h : Bs w p l) (_hc : l.length ≤ c) (hpn : p = none → c = 0) (hl : l.length ≤ 140737488351232)
    (wa : (Lit.int .i64 a).wf = true) (wx : (Lit.int .u8 x).wf = true) :
    Calls Try.prog 7 #[.slice p l.length c, .int .i64 a, .int .u8 x] w fun e w' => e = .returned (.bool true) ∧ Below w.heap.size w w' := by
  obtain ⟨i0, hi, hz0, hz1, hz2⟩ := info_parts info_u8
  have hx : 0 ≤ x ∧ x ≤ 255 := by simpa [Lit.wf, IntKind.min, IntKind.max, IntKind.signed, IntKind.bits] using wx
  have ha : -9223372036854775808 ≤ a ∧ a ≤ 9223372036854775807 := by simpa [Lit.wf, IntKind.min, IntKind.max, IntKind.signed, IntKind.bits] using wa
  by_cases hbig : 2000 < l.length
  · go_enter Try.func7, Try.ntmps7
    go_wp2_with fail
    refine (knows_any _).mono ?_
    rintro e w' ⟨rfl, hb⟩
    go_wp2
    go_ret
    exact ⟨rfl, hb⟩
  · obtain ⟨d, rfl⟩ : ∃ d : UInt8, x = ((d.toNat : Nat) : Int) := ⟨UInt8.ofNat x.toNat, by simp; omega⟩
    have HO0 := Lib.hid (Own.lit (E := 5) w #[] [] rfl (by decide))
    have hb0 : Below w.heap.size w (w.alloc (.cells #[] 5)) := (Below.refl _ _).alloc (Nat.le_refl _) _
    have HB0 := Lib.hid (h.kept hb0)
    clear h wa wx
    go_enter Try.func7, Try.ntmps7
    go_wp2_with (at_builtin; refine wpList_append_bs rfl _ _ 22 rfl w.heap.size 5 i0 Try.underlying22 hi hz0 hz1 hz2 _ _ rfl HO0.out p c l rfl HB0.out hpn ?b1 ?b2 ?_)
    case b1 => simp; omega
    case b2 => simp
    intro v1 w1 hown1 hbel1 hgrow1 hnil1
    clear hgrow1 hnil1
    have hown1' : Own 5 w1 w.heap.size v1 l := hown1
    have hb1 := hb0.trans hbel1
    have hs1 := hb1.size
    obtain ⟨p1, c1, rfl, hbs1, -, -, hpn1, -⟩ := hown1'.bs
    have HFR := Lib.hid (frame_any p1 c1 l w1 hbs1 (by unfold maxLen; omega) hpn1)
    clear hown1 hown1' hbel1 hb0 hbs1
    go_wp2_with fail
    refine HFR.out.mono ?_
    rw [show frameW l = (Wm.frameB l, 0) from by unfold frameW; rw [if_pos (by omega)]]
    rintro e w2 ⟨v2, rfl, hown2, hb2⟩
    dsimp only at hown2
    have hb3 := hb1.trans (Below.mono hb2 hs1)
    have hs3 := hb3.size
    have hF := frameB_length l
    have hnl := Wm.nlen_le l.length
    have hrot := unfR_rot l
    generalize Wm.frameB l = f at *
    have hF6 : 6 ≤ f.length := by omega
    have hFu : f.length ≤ 2012 := by omega
    have HROT := Lib.hid hrot
    clear hF hrot hnl
    have hv : ∃ g cap, v2 = .slice (some ⟨g, 0, none⟩) f.length cap ∧ w1.heap.size ≤ g ∧ f.length ≤ cap := by
      have h0 : w2.ownsRow w1.heap.size 5 1 v2 f.length (vals f) := hown2
      rcases h0.2 with ⟨-, hn⟩ | ⟨g, cap, cur, hv, hg, -, hnc, -⟩
      · omega
      · exact ⟨g, cap, hv, hg, hnc⟩
    obtain ⟨g, cap, rfl, hg, hcap⟩ := hv
    have hTb : -(f.length : Int) < a.tmod f.length ∧ a.tmod f.length < f.length := by
      constructor
      · have := Int.lt_tmod_of_pos a (b := (f.length : Int)) (by omega); exact this
      · exact Int.tmod_lt_of_pos a (by omega)
    have hz : ((f.length : Int) == 0) = false := by rw [beq_eq_false_iff_ne]; omega
    obtain ⟨T, hT⟩ : ∃ T : Int, a.tmod f.length = T := ⟨_, rfl⟩
    rw [hT] at hTb
    obtain ⟨hT1, hT2⟩ := hTb
    obtain ⟨r, hr⟩ : ∃ r : Nat, (T + (f.length : Int)) % (f.length : Int) = (r : Int) := ⟨((T + (f.length : Int)) % (f.length : Int)).toNat, by
      rw [Int.toNat_of_nonneg (Int.emod_nonneg _ (by omega))]⟩
    have hrl : r < f.length := by have := Int.emod_lt_of_pos (T + (f.length : Int)) (show (0 : Int) < f.length by omega); omega
    have hcell := hown2.cell r hrl
    have hfr : w2.frozen? ⟨g, r, none⟩ = false := World.ownsRow.frozenAt hown2 r
    have HO2 := Lib.hid hown2
    clear hown2 hb2 hb1
    by_cases heq : by8 f r = d.toNat
    · have t1 : ((by8 f r : Int) == (d.toNat : Int)) = true := by rw [heq]; exact beq_self_eq_true _
      clear heq
      generalize by8 f r = y at *
      generalize d.toNat = z at *
      go_wp2_with fail
      refine (lawNum_any 0 _).mono ?_
      rintro e w' ⟨rfl, rfl⟩
      go_wp2_with fail
      refine (knows_any _).mono ?_
      rintro e w' ⟨rfl, hbk⟩
      go_wp2
      go_ret
      exact ⟨rfl, hb3.trans (Below.mono hbk hs3)⟩
    · have t1 : ((by8 f r : Int) == (d.toNat : Int)) = false := by rw [beq_eq_false_iff_ne]; omega
      have hrot := HROT.out r d hrl (by intro e; apply heq; rw [by8_get f r hrl, e])
      have herr := unfR_err (f.set r d)
      have hown3 := HO2.out.set rfl r d
      have hl3 : (f.set r d).length = f.length := List.length_set
      generalize f.set r d = f2 at *
      rcases hu : unfR f2 with ⟨k, n, e⟩
      rw [hu] at hrot herr
      dsimp only at hrot herr
      have HU := Lib.hid hu
      have HERR := Lib.hid herr
      have HROT2 := Lib.hid hrot
      have hb4 : Below w.heap.size w (w2.setCell ⟨g, r, none⟩ (.int .u8 (d.toNat : Int))) := hb3.setCell (by simpa using Nat.le_trans hs1 hg) _
      have hs4 := hb4.size
      have hbs3 : Bs (w2.setCell ⟨g, r, none⟩ (.int .u8 (d.toNat : Int))) (some ⟨g, 0, none⟩) f2 := by
        obtain ⟨p3, c3, e3, hb, -⟩ := hown3.bs
        simp only [Value.slice.injEq] at e3
        obtain ⟨rfl, -, -⟩ := e3
        exact hb
      have HUN := Lib.hid (unframe_any (some ⟨g, 0, none⟩) f.length cap f2 _ hl3 hbs3 (by omega) (by omega))
      clear heq hown3 hbs3 hl3 hrot herr hu
      generalize by8 f r = y at *
      generalize d.toNat = z at *
      go_wp2_with fail
      refine (lawNum_any 0 _).mono ?_
      rintro e w' ⟨rfl, rfl⟩
      go_wp2_with fail
      refine HUN.out.mono ?_
      rw [HU.out]
      rintro e' w5 ⟨v5, rfl, hown5, hb5⟩
      dsimp only at hown5
      obtain ⟨p5, c5, rfl, -⟩ := hown5.bs
      have hb6 := hb4.trans (Below.mono hb5 hs4)
      have hs6 := hb6.size
      clear hown5 hb5 hb4 hb3 hcell hfr
      by_cases he : e = 0
      · subst he
        have hn : ((n : Int) != (f.length : Int)) = true := by
          rw [bne_iff_ne]
          rcases HROT2.out with q | q
          · exact absurd rfl q
          · omega
        go_wp2_with fail
        refine (lawNum_any _ _).mono ?_
        rintro e w' ⟨rfl, rfl⟩
        go_wp2_with fail
        refine (lawNum_any _ _).mono ?_
        rintro e w' ⟨rfl, rfl⟩
        go_wp2_with fail
        refine (knows_any _).mono ?_
        rintro e w' ⟨rfl, hbk⟩
        go_wp2
        go_ret
        exact ⟨rfl, hb6.trans (Below.mono hbk hs6)⟩
      · obtain ⟨rfl, rfl⟩ := HERR.out he
        have te : ((e : Int) != 0) = true := by rw [bne_iff_ne]; omega
        have te2 : ((e : Int) == 0) = false := by rw [beq_eq_false_iff_ne]; omega
        clear he
        go_wp2_with fail
        refine (lawNum_any _ _).mono ?_
        rintro e w' ⟨rfl, rfl⟩
        go_wp2_with fail
        refine (lawNum_any _ _).mono ?_
        rintro e w' ⟨rfl, rfl⟩
        go_wp2_with fail
        refine (knows_any _).mono ?_
        rintro e w' ⟨rfl, hbk⟩
        go_wp2
        go_ret
        exact ⟨rfl, hb6.trans (Below.mono hbk hs6)⟩

end Go.Proofs.Ytdedlghimeomcaa
