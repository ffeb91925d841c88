/-
  WIREUNFRAMES' WALK: for every slice of bytes: Unframe answers what the document's Unframe answers, in new memory, and leaves what was handed in, its room too.
-/
import Derived.Test.YtdedlghimeomcaaCanon
import Derived.Test.YtdedlghimeomcaaKnows
import Derived.Test.YtdedlghimeomcaaNil
import Derived.Test.YtdedlghimeomcaaRefUnframe
import Derived.Test.YtdedlghimeomcaaRot
namespace Go.Proofs.Ytdedlghimeomcaa
open Go.RowKit

theorem below_draws (w : World) (q : Nat) : Below w.heap.size w (w.drewN q) := below_drewN (Below.refl _ _) q
theorem size_drewN (w : World) (q : Nat) : (w.drewN q).heap.size = w.heap.size := rfl

set_option maxHeartbeats 1000000 in
theorem wireUnframes_walk (p : Option Addr) (c : Nat) (l : List UInt8) (w : World) (h : Bs w p l) (hc : l.length ≤ c) (hpn : p = none → c = 0) (hl : l.length ≤ 140737488351232) :
    Calls Try.prog 4 #[.slice p l.length c] w fun e w' => e = .returned (.bool true) ∧ Below w.heap.size w w' := by
  by_cases hbig : 5000 < l.length
  · go_enter Try.func4, Try.ntmps4
    go_wp2_with fail
    refine (knows_any _).mono ?_
    rintro e w' ⟨rfl, hb⟩
    go_wp2
    go_ret
    exact ⟨rfl, hb⟩
  · have HL := Lib.hid (lent_any p c l w h (by omega) hpn)
    have H := Lib.hid h
    clear h
    go_enter Try.func4, Try.ntmps4
    go_wp2_with fail
    refine HL.out.mono ?_
    rintro e w1 ⟨g, cap, rfl, hown1, hb1, hcap⟩
    have hs1 := hb1.size
    have hbs1 : Bs w1 (some ⟨g, 0, none⟩) l := fun h0 => ⟨g, 0, rfl, fun i hi => by
      rw [Nat.zero_add, hown1.cell i (by simp; omega), by8_app_l _ _ _ hi]⟩
    have HO1 := Lib.hid hown1
    have HU := Lib.hid (unframe_any (some ⟨g, 0, none⟩) l.length cap l w1 rfl hbs1 (by omega) (by omega))
    clear hown1 hbs1
    go_wp2_with fail
    refine HU.out.mono ?_
    rcases hu : unfR l with ⟨k, n, e⟩
    have HUE := Lib.hid hu
    clear hu
    rintro e' w2 ⟨v2, rfl, hown2, hb2⟩
    dsimp only at hown2
    have hs2 := hb2.size
    have HB2 := Lib.hid (H.out.kept (hb1.trans (Below.mono hb2 hs1)))
    have HR := Lib.hid (refUnframe_any p l.length c l w2 rfl HB2.out (by omega) hc)
    go_wp2_with fail
    refine HR.out.mono ?_
    rw [HUE.out]
    rintro e'' w3 ⟨v3, rfl, hown3, hb3⟩
    dsimp only at hown3
    have hb13 : Below w1.heap.size w1 w3 := hb2.trans (Below.mono hb3 hs2)
    have hs3 := hb13.size
    have HO13 := Lib.hid (HO1.out.below hb13)
    have hown2' := hown2.below hb3
    obtain ⟨px, cx, rfl, hbsx, -⟩ := hown2'.bs
    obtain ⟨py, cy, rfl, hbsy, -⟩ := hown3.bs
    have k1 : (convert 22 9 (.slice px k.length cx)).run Try.prog w3 = .ok (.string (strB k)) w3 := hbsx.conv cx 22 5 9 Try.underlying22 Try.underlying5 Try.underlying9
    have k2 : (convert 22 9 (.slice py k.length cy)).run Try.prog w3 = .ok (.string (strB k)) w3 := hbsy.conv cy 22 5 9 Try.underlying22 Try.underlying5 Try.underlying9
    have HOX := Lib.hid hown2'
    have hkl : k.length ≤ 5000 := by
      have a : n ≤ l.length ∨ k = [] := by
        by_cases he : e = 0
        · subst he
          exact Or.inl (unfR_form _ _ _ HUE.out).2.2.1
        · right
          have := unfR_err l (by rw [HUE.out]; exact he)
          rw [HUE.out] at this
          exact this.1
      rcases a with a | a
      · by_cases he : e = 0
        · subst he
          have q := (unfR_form _ _ _ HUE.out).2.1
          rw [frameB_length] at q
          omega
        · have := unfR_err l (by rw [HUE.out]; exact he)
          rw [HUE.out] at this
          rw [show k = [] from this.1]
          simp
      · rw [a]; simp
    have HBW := Lib.hid (H.out.kept (hb1.trans (Below.mono hb13 hs1)))
    have HST := Lib.hid (stays_any w.heap.size g cap p c l w3 HO13.out hcap HBW.out (by omega))
    clear hown2 hown2' hown3 hbsx hbsy hb2 hb3
    generalize strB k = s at *
    go_wp2_with fail
    refine (lawNum_any _ _).mono ?_
    rintro e w' ⟨rfl, rfl⟩
    go_wp2_with fail
    refine HST.out.mono ?_
    rintro e w4 ⟨rfl, q4, hw4⟩
    have hb34 : Below w3.heap.size w3 w4 := by rw [hw4]; exact below_draws _ _
    have hb14 : Below w1.heap.size w1 w4 := hb13.trans (Below.mono hb34 hs3)
    have HOX4 := HOX.out.below hb34
    clear hw4 k1 k2
    go_wp2
    go_loopw [11] (fun i wr => ∃ (j : Nat) (m : List UInt8), j ≤ k.length ∧ i = .int .i64 j ∧ m.length = k.length ∧ Own 5 wr w1.heap.size (.slice px k.length cx) m ∧ Below w1.heap.size w1 wr) (fun i _ => k.length - (intOf i).toNat)
    case atStart => exact ⟨0, k, Nat.zero_le _, rfl, rfl, HOX4, hb14⟩
    case round =>
      obtain ⟨j, m, hj, rfl, hm, hownm, hbm⟩ := hrel
      have hsm := hbm.size
      by_cases hlt : j < k.length
      · obtain ⟨gx, rfl, hgx⟩ : ∃ gx, px = some ⟨gx, 0, none⟩ ∧ w1.heap.size ≤ gx := by
          have h0 : wr.ownsRow w1.heap.size 5 1 (.slice px k.length cx) m.length (vals m) := hownm
          rcases h0.2 with ⟨e, hn⟩ | ⟨g', cap', cur, hv, hg', -⟩
          · omega
          · simp only [Value.slice.injEq] at hv
            exact ⟨g', hv.1, hg'⟩
        have hcell := hownm.cell j (by omega)
        have hfr : wr.frozen? ⟨gx, j, none⟩ = false := by
          have h0 : wr.ownsRow w1.heap.size 5 1 (.slice (some ⟨gx, 0, none⟩) m.length cx) m.length (vals m) := by
            have : Own 5 wr w1.heap.size (.slice (some ⟨gx, 0, none⟩) k.length cx) m := hownm
            rw [← hm] at this
            exact this
          exact World.ownsRow.frozenAt h0 j
        have hset := hownm.set hm.symm j (UInt8.ofNat ((by8 m j + 1) % 256))
        have hval : ((UInt8.ofNat ((by8 m j + 1) % 256)).toNat : Int) = ((by8 m j : Int) + 1) % 256 := by simp
        rw [hval] at hset
        have hms : (m.set j (UInt8.ofNat ((by8 m j + 1) % 256))).length = k.length := by rw [List.length_set]; exact hm
        generalize m.set j (UInt8.ofNat ((by8 m j + 1) % 256)) = m2 at *
        have hb5 := hbm.setCell (p := ⟨gx, j, none⟩) (by simpa using hgx) (.int .u8 (((by8 m j : Int) + 1) % 256))
        have HS := Lib.hid hset
        have HM := Lib.hid hms
        clear hval hset hms hm hownm
        generalize by8 m j = y at *
        go_wp2
        go_roundw
        case rel => exact ⟨j + 1, m2, by omega, by go_num, HM.out, HS.out, hb5⟩
        case measure => simp [intOf]; omega
      · have HOm := HO1.out.below hbm
        have HBm := H.out.kept (hb1.trans (Below.mono hbm hs1))
        have HST2 := Lib.hid (stays_any w.heap.size g cap p c l wr HOm hcap HBm (by omega))
        have hbw : Below w.heap.size w wr := hb1.trans (Below.mono hbm hs1)
        have hsw := hbw.size
        clear HOm HBm hownm hm
        go_wp2_with fail
        refine HST2.out.mono ?_
        rintro e w5 ⟨rfl, q5, hw5⟩
        have hb5 : Below w.heap.size w w5 := by rw [hw5]; exact below_drewN hbw _
        have hs5 := hb5.size
        clear hw5
        go_wp2_with fail
        refine (knows_any _).mono ?_
        rintro e w' ⟨rfl, hbk⟩
        go_wp2
        go_ret
        exact ⟨rfl, hb5.trans (Below.mono hbk hs5)⟩

end Go.Proofs.Ytdedlghimeomcaa
