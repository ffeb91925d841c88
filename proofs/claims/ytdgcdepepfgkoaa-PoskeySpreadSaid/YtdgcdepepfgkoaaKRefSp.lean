/-
  THE DOCUMENT's Spread.
  No conditions but sizes.
-/
import Derived.Test.YtdgcdepepfgkoaaKRefBtw
import Derived.Test.YtdgcdepepfgkoaaKSpread
namespace Go.Proofs.Ytdgcdepepfgkoaa
open Go.RowKit

/-- what the document's Spread leaves, where there may be keys between -/
def RSp (w : World) (o : Option (List (List UInt8))) (e : Ending) (w' : World) : Prop :=
  Below w.heap.size w w' ∧ ((∃ l p c, o = some l ∧ e = .returned (.tuple #[.slice p l.length c, .int .i64 0]) ∧ OwnS 9 w' w.heap.size (.slice p l.length c) (l.map strB)) ∨ (o = none ∧ e = .returned (.tuple #[.slice none 0 0, .int .i64 32])))

set_option maxRecDepth 100000 in
set_option maxHeartbeats 20000000 in
theorem refSpread_in (n : Nat) : ∀ (a b : ByteArray) (w : World), n ≤ 64 → Km.endsB a.data.toList b.data.toList = true →
    Calls Try.prog 18 #[.string a, .string b, .int .i64 (n : Int)] w (RSp w (Km.spr n a.data.toList b.data.toList)) := by
  obtain ⟨i0, hi, hz0, hz1, hz2⟩ := info_parts info_str
  induction n using Nat.strongRecOn with
  | _ n ih =>
    intro a b w hn he
    have HIH := Lib.hid ih
    clear ih
    obtain ⟨ha, hb⟩ := ends_sizes he
    have hfine := refFine_any a b
    rw [he] at hfine
    have HFINE := Lib.hid (fun w => hfine w (by omega) (by omega))
    have HE := Lib.hid he
    clear hfine he
    cases n with
    | zero =>
      have HS := Lib.hid (Km.spr_zero a.data.toList b.data.toList)
      rw [HS.out]
      go_enter Try.func18, Try.ntmps18
      go_wp2_with fail
      refine (HFINE.out _).mono ?_
      rintro e w1 ⟨rfl, hb1⟩
      have HB1 := Lib.hid hb1
      clear hb1
      go_wp2_with fail
      go_ret2
      exact ⟨HB1.out, Or.inl ⟨[], none, 0, rfl, rfl, OwnS.nil _ _ _⟩⟩
    | succ m =>
      have HBT := Lib.hid (fun w => refBetween_in a b w ha hb HE.out)
      obtain ⟨n, hnm⟩ : ∃ n : Nat, n = m + 1 := ⟨_, rfl⟩
      rw [← hnm]
      rw [← hnm] at hn
      have hn0 : ((n : Int) == 0) = false := by rw [beq_eq_false_iff_ne]; omega
      have hn1 : (n : Int) - 1 = (m : Int) := by omega
      have hn64 : (n : Int) ≤ 64 := by omega
      have hnn : (0 : Int) ≤ (n : Int) := by omega
      have HNM := Lib.hid hnm
      clear hnm
      by_cases h0 : (Km.betwIn a.data.toList b.data.toList).2 = 0
      · obtain ⟨l1, l2, l3, -⟩ := Km.betw_lies HE.out h0
        have e1 := Km.ends_left HE.out l1 l2
        have e2 := Km.ends_right HE.out l1 l3
        have HSL := Lib.hid (fun h1 => Km.spr_left (n := m) h0 h1)
        have HSR := Lib.hid (fun l h1 h2 => Km.spr_right (n := m) (l := l) h0 h1 h2)
        have HSS := Lib.hid (fun l r h1 h2 => Km.spr_some (n := m) (l := l) (r := r) h0 h1 h2)
        rw [← HNM.out] at HSL HSR HSS
        rw [h0] at HBT
        generalize (Km.betwIn a.data.toList b.data.toList).1 = k at *
        have hM : (strB k).data.toList = k := strB_toList k
        rw [← hM] at e1 e2 HSL HSR HSS
        generalize hMe : strB k = M at *
        clear hMe
        obtain ⟨h, hh⟩ : ∃ h : Nat, h = m / 2 := ⟨_, rfl⟩
        obtain ⟨r, hr⟩ : ∃ r : Nat, r = m - m / 2 := ⟨_, rfl⟩
        rw [← hh] at HSL HSR HSS hr
        rw [← hr] at HSR HSS
        have hn2 : (m : Int) / 2 = (h : Int) := by omega
        have hn3 : (m : Int) - (h : Int) = (r : Int) := by omega
        have hhr : h + 1 + r = n := by have := HNM.out; omega
        have HHR := Lib.hid hhr
        have HE1 := Lib.hid e1
        have HE2 := Lib.hid e2
        clear h0 l1 l2 l3 e1 e2 hM hh hr hhr
        go_enter Try.func18, Try.ntmps18
        go_wp2_with fail
        refine (HFINE.out _).mono ?_
        rintro e w1 ⟨rfl, hb1⟩
        have HB1 := Lib.hid hb1
        clear hb1
        go_wp2_with fail
        refine (HBT.out _).mono ?_
        rintro e w2 ⟨rfl, hb2⟩
        have HB2 := Lib.hid (HB1.out.trans (hb2.mono HB1.out.size))
        clear hb2
        go_wp2_with fail
        refine (HIH.out h (by have := HNM.out; have := HHR.out; omega) a M _ (by have := HHR.out; omega) HE1.out).mono ?_
        rintro e w3 ⟨hb3, ⟨l, p, c, hl, rfl, ho⟩ | ⟨hl, rfl⟩⟩
        · have HB3 := Lib.hid (HB2.out.trans (hb3.mono HB2.out.size))
          have HL := Lib.hid hl
          have hlen : l.length = h := (Km.spr_rises h a.data.toList M.data.toList l HE1.out hl).1
          have HO := Lib.hid (ho.base HB2.out.size)
          rw [hlen] at HO
          rw [hlen]
          have HLEN := Lib.hid hlen
          clear hb3 hl ho hlen
          go_wp2_with fail
          refine (HIH.out r (by have := HNM.out; have := HHR.out; omega) M b _ (by have := HHR.out; omega) HE2.out).mono ?_
          rintro e w4 ⟨hb4, ⟨l2, p2, c2, hl2, rfl, ho2⟩ | ⟨hl2, rfl⟩⟩
          · have HB4 := Lib.hid (HB3.out.trans (hb4.mono HB3.out.size))
            have HO4 := Lib.hid (HO.out.below hb4)
            have HS := Lib.hid (HSS.out l l2 HL.out hl2)
            have hlen2 : l2.length = r := (Km.spr_rises r M.data.toList b.data.toList l2 HE2.out hl2).1
            have HO2 := Lib.hid ho2
            rw [hlen2] at HO2
            rw [hlen2]
            have HLEN2 := Lib.hid hlen2
            have hlt3 : ∀ g, Value.ownBlock (.slice p h c) = some g → g < w3.heap.size := fun g hg => (HO.out.lt g hg).2
            have HLT3 := Lib.hid hlt3
            have HO5 := Lib.hid (HO4.out.below ((Below.refl _ _).alloc (Nat.le_refl _) (.cells #[.string M] 9)))
            have HO25 := Lib.hid (HO2.out.below ((Below.refl _ _).alloc (Nat.le_refl _) (.cells #[.string M] 9)))
            have HRD := Lib.hid (Rd.one w4 M 9)
            have hsz4 := HB4.out.size
            clear hb4 hl2 ho2 hlen2 hlt3
            go_wp2_with (at_builtin; refine wpList_append_s (o := ⟨some 65, _, _, _, _, _⟩) rfl _ _ 32 rfl w.heap.size 9 i0 Try.underlying32 hi hz0 hz1 hz2 _ _ rfl HO5.out _ 1 1 [M] rfl rfl HRD.out (by simp) ?b1 ?b2 ?_)
            case b1 => rw [List.length_map, HLEN.out]; have := HHR.out; simp; omega
            case b2 => simp; omega
            intro v5 w5 hown5 hbel5 hgr5
            have HO6 := Lib.hid (HO25.out.grown hgr5 fun g hg e => by
              have k1 := (HO2.out.lt g hg).1
              have k2 := HLT3.out g e
              omega)
            have HB5 := Lib.hid ((HB4.out.alloc hsz4 (.cells #[.string M] 9)).trans hbel5)
            obtain ⟨p6, c6, e6, hrd6, hpn6, -⟩ := HO6.out.rd
            rw [List.length_map, HLEN2.out] at e6
            simp only [Value.slice.injEq] at e6
            obtain ⟨rfl, -, rfl⟩ := e6
            obtain ⟨p5, n5, c5, rfl⟩ := hown5.slice
            have HO5' := Lib.hid hown5
            have HRD6 := Lib.hid hrd6
            have hsz5 := HB5.out.size
            clear hown5 hbel5 hgr5 hrd6
            go_wp2_with (at_builtin; refine wpList_append_s (o := ⟨some 67, _, _, _, _, _⟩) rfl _ _ 32 rfl w.heap.size 9 i0 Try.underlying32 hi hz0 hz1 hz2 _ _ rfl HO5'.out _ r _ (l2.map strB) rfl ?d0 HRD6.out hpn6 ?d1 ?d2 ?_)
            case d0 => rw [List.length_map, HLEN2.out]
            case d1 => rw [List.length_append, List.length_map, List.length_map, HLEN.out, HLEN2.out]; have := HHR.out; simp; omega
            case d2 => exact hsz5
            intro v7 w7 hown7 hbel7 _
            have HB7 := Lib.hid (HB5.out.trans hbel7)
            have hmm : (l ++ M.data.toList :: l2).map strB = l.map strB ++ M :: l2.map strB := by simp [strB_of]
            rw [← hmm] at hown7
            obtain ⟨p7, c7, e7, -⟩ := hown7.rd
            rw [List.length_map] at e7
            subst e7
            have HO7 := Lib.hid hown7
            clear hown7 hbel7 hmm
            go_wp2_with fail
            go_ret2
            rw [HS.out]
            exact ⟨HB7.out, Or.inl ⟨_, _, _, rfl, rfl, HO7.out⟩⟩
          · have HB4 := Lib.hid (HB3.out.trans (hb4.mono HB3.out.size))
            have HS := Lib.hid (HSR.out l HL.out hl2)
            clear hb4 hl2
            go_wp2_with fail
            go_ret2
            rw [HS.out]
            exact ⟨HB4.out, Or.inr ⟨rfl, rfl⟩⟩
        · have HB3 := Lib.hid (HB2.out.trans (hb3.mono HB2.out.size))
          have HS := Lib.hid (HSL.out hl)
          clear hb3 hl
          go_wp2_with fail
          go_ret2
          rw [HS.out]
          exact ⟨HB3.out, Or.inr ⟨rfl, rfl⟩⟩
      · have h32 := (Km.betw_err a.data.toList b.data.toList).elim (fun h => absurd h h0) id
        have HS := Lib.hid (Km.spr_err (n := m) h0)
        rw [← HNM.out] at HS
        rw [h32] at HBT
        clear h0 h32
        rw [HS.out]
        go_enter Try.func18, Try.ntmps18
        go_wp2_with fail
        refine (HFINE.out _).mono ?_
        rintro e w1 ⟨rfl, hb1⟩
        have HB1 := Lib.hid hb1
        clear hb1
        go_wp2_with fail
        refine (HBT.out _).mono ?_
        rintro e w2 ⟨rfl, hb2⟩
        have HB2 := Lib.hid (HB1.out.trans (hb2.mono HB1.out.size))
        clear hb2
        go_wp2_with fail
        go_ret2
        exact ⟨HB2.out, Or.inr ⟨rfl, rfl⟩⟩

end Go.Proofs.Ytdgcdepepfgkoaa
