/-
  THE PROGRAM's Spread: the function value that halves, and calls itself.
  No conditions but sizes.
-/
import Derived.Test.YtdgcdepepfgkoaaKBetween
import Derived.Test.YtdgcdepepfgkoaaKSpMath
import Derived.Test.YtdgcdepepfgkoaaRowS
namespace Go.Proofs.Ytdgcdepepfgkoaa
open Go.RowKit

theorem Only.set' (b o : Nat) (w : World) (v : Value) : w.grownBy (w.setCell ⟨b, o, none⟩ v) (some b) :=
  ⟨rfl, rfl, rfl, by simp [World.setCell], fun k _ hk => Below.heap_setCell w _ v k (fun e => hk (by rw [e]))⟩

/-- what a walk of the function value finds in memory: itself (at F), and the keys (at K), so far L, in rows from block B on -/
def HState (B0 B F K : Nat) (L : List ByteArray) (w : World) : Prop :=
  w.cell? ⟨F, 0, none⟩ = some (.func (.func 27) #[] #[.pointer (some ⟨F, 0, none⟩), .pointer (some ⟨K, 0, none⟩)]) ∧ w.frozen? ⟨K, 0, none⟩ = false ∧
  (∃ v, w.cell? ⟨K, 0, none⟩ = some v ∧ OwnS 9 w B v L) ∧ B ≤ w.heap.size ∧ F < B ∧ K < B ∧ F ≠ K ∧ B0 ≤ F ∧ B0 ≤ K
theorem HState.below {B0 B F K : Nat} {L : List ByteArray} {w w' : World} (h : HState B0 B F K L w) (hb : Below w.heap.size w w') : HState B0 B F K L w' := by
  obtain ⟨h1, h2, ⟨v, h3, h4⟩, h5, h6, h7, r⟩ := h
  refine ⟨?_, ?_, ⟨v, ?_, h4.below hb⟩, Nat.le_trans h5 hb.size, h6, h7, r⟩
  · rw [hb.cell (by simp; omega)]; exact h1
  · rw [hb.frozen (by simp; omega)]; exact h2
  · rw [hb.cell (by simp; omega)]; exact h3
/-- a new row put at K -/
theorem HState.put {B0 B F K : Nat} {L M : List ByteArray} {w w' : World} (h : HState B0 B F K L w) (hb : Below B w w') {v' : Value} (ho : OwnS 9 w' B v' M) : HState B0 B F K M (w'.setCell ⟨K, 0, none⟩ v') := by
  obtain ⟨h1, h2, ⟨v, h3, h4⟩, h5, h6, h7, h8, r⟩ := h
  have k1 : w'.cell? ⟨K, 0, none⟩ = some v := by rw [hb.cell (by simpa using h7)]; exact h3
  refine ⟨?_, ?_, ⟨v', World.cell?_setCell_same _ _ _ k1, ho.grown (row := some K) (Only.set' K 0 w' v') fun g hg => ?_⟩, ?_, h6, h7, h8, r⟩
  · rw [World.cell?_setCell_other _ _ _ _ (show (⟨K, 0, none⟩ : Addr) ≠ ⟨F, 0, none⟩ from fun e => h8 (by cases e; rfl)), hb.cell (by simpa using h6)]; exact h1
  · rw [World.frozen?_setCell, hb.frozen (by simpa using h7)]; exact h2
  · have := (ho.lt g hg).1
    simp; omega
  · simp; exact Nat.le_trans h5 hb.size

/-- what the function value leaves -/
def Halved (B0 B F K : Nat) (L : List ByteArray) (o : Option (List (List UInt8))) (w : World) (e : Ending) (w' : World) : Prop :=
  Below B0 w w' ∧ ((∃ l, o = some l ∧ e = .returned (.int .i64 0) ∧ HState B0 B F K (L ++ l.map strB) w') ∨ (o = none ∧ e = .returned (.int .i64 32)))

theorem info_str : (Try.prog.info? 9).map (fun i => (i.zero, i.size, i.bytes)) = some (some (.string ByteArray.empty), 1, 16) := by kernel_rfl

set_option maxRecDepth 100000 in
set_option maxHeartbeats 8000000 in
theorem halve_any (B0 B F K : Nat) (n : Nat) : ∀ (a b : ByteArray) (L : List ByteArray) (w : World), n ≤ 64 → L.length + n ≤ 500 → Km.endsB a.data.toList b.data.toList = true → HState B0 B F K L w →
    Calls Try.prog 27 #[.string a, .string b, .int .i64 (n : Int), .pointer (some ⟨F, 0, none⟩), .pointer (some ⟨K, 0, none⟩)] w (Halved B0 B F K L (Km.spr n a.data.toList b.data.toList) w) := by
  obtain ⟨i0, hi, hz0, hz1, hz2⟩ := info_parts info_str
  induction n using Nat.strongRecOn with
  | _ n ih =>
    intro a b L w hn hL he hst
    have HST := Lib.hid hst
    have HIH := Lib.hid ih
    clear ih
    cases n with
    | zero =>
      have HS := Lib.hid (Km.spr_zero a.data.toList b.data.toList)
      clear hst
      go_enter Try.func27, Try.ntmps27
      go_wp2_with fail
      go_ret
      refine ⟨Below.refl _ _, Or.inl ⟨_, HS.out, rfl, ?_⟩⟩
      rw [List.map_nil, List.append_nil]
      exact HST.out
    | succ m =>
      obtain ⟨ha, hb⟩ := ends_sizes he
      have HE := Lib.hid he
      have HBT := Lib.hid (fun w => between_in a b w ha hb he)
      obtain ⟨n, hnm⟩ : ∃ n : Nat, n = m + 1 := ⟨_, rfl⟩
      rw [← hnm]
      rw [← hnm] at hn hL
      have hn0 : ((n : Int) == 0) = false := by rw [beq_eq_false_iff_ne]; omega
      have hn1 : (n : Int) - 1 = (m : Int) := by omega
      have HNM := Lib.hid hnm
      clear hnm hst he
      by_cases h0 : (Km.betwIn a.data.toList b.data.toList).2 = 0
      · obtain ⟨l1, l2, l3, -⟩ := Km.betw_lies HE.out h0
        have e1 := Km.ends_left HE.out l1 l2
        have e2 := Km.ends_right HE.out l1 l3
        have HSL := Lib.hid (fun h1 => Km.spr_left (n := m) h0 h1)
        have HSR := Lib.hid (fun l h1 h2 => Km.spr_right (n := m) (l := l) h0 h1 h2)
        have HSS := Lib.hid (fun l r h1 h2 => Km.spr_some (n := m) (l := l) (r := r) h0 h1 h2)
        rw [← HNM.out] at HSL HSR HSS
        rw [h0] at HBT
        generalize (Km.betwIn a.data.toList b.data.toList).1 = k at *
        have hM : (strB k).data.toList = k := strB_toList k
        rw [← hM] at e1 e2 HSL HSR HSS
        generalize hMe : strB k = M at *
        clear hMe
        obtain ⟨h, hh⟩ : ∃ h : Nat, h = m / 2 := ⟨_, rfl⟩
        obtain ⟨r, hr⟩ : ∃ r : Nat, r = m - m / 2 := ⟨_, rfl⟩
        rw [← hh] at HSL HSR HSS hr
        rw [← hr] at HSR HSS
        have hn2 : (m : Int) / 2 = (h : Int) := by omega
        have hn3 : (m : Int) - (h : Int) = (r : Int) := by omega
        have hhn : h < n := by have := HNM.out; omega
        have hrn : r < n := by have := HNM.out; omega
        have hhr : h + 1 + r = n := by have := HNM.out; omega
        have HHR := Lib.hid hhr
        have HE1 := Lib.hid e1
        have HE2 := Lib.hid e2
        have hB0 : B0 ≤ w.heap.size := Nat.le_trans HST.out.2.2.2.2.2.2.2.1 (Nat.le_of_lt (Nat.lt_of_lt_of_le HST.out.2.2.2.2.1 HST.out.2.2.2.1))
        clear h0 l1 l2 l3 e1 e2 hM hh hr hhr
        go_enter Try.func27, Try.ntmps27
        go_wp2_with fail
        refine (HBT.out _).mono ?_
        rintro e w1 ⟨rfl, hb1⟩
        have HB1 := Lib.hid (hb1.mono hB0)
        have HST1 := Lib.hid (HST.out.below hb1)
        have hF1 := HST1.out.1
        clear hb1
        go_wp2_with fail
        refine (HIH.out h (by have := HNM.out; omega) a M L _ (by omega) (by omega) HE1.out HST1.out).mono ?_
        rintro e w2 ⟨hb2, ⟨l, hl, rfl, hst2⟩ | ⟨hl, rfl⟩⟩
        · have HB2 := Lib.hid (HB1.out.trans hb2)
          have HST2 := Lib.hid hst2
          have HL := Lib.hid hl
          have hlen : l.length = h := (Km.spr_rises h a.data.toList M.data.toList l HE1.out hl).1
          have HLEN := Lib.hid hlen
          obtain ⟨v, hv1, hv2⟩ := hst2.2.2.1
          have HV := Lib.hid (hv2.below ((Below.refl _ _).alloc (Nat.le_refl _) (.cells #[.string M] 9)))
          have HRD := Lib.hid (Rd.one w2 M 9)
          have hB2 : B ≤ w2.heap.size := hst2.2.2.2.1
          clear hb2 hl hst2 hF1 hv2 hlen
          go_wp2_with (at_builtin; refine wpList_append_s rfl _ _ 32 rfl B 9 i0 Try.underlying32 hi hz0 hz1 hz2 _ _ rfl HV.out _ 1 1 [M] rfl rfl HRD.out (by simp) ?b1 ?b2 ?_)
          case b1 => rw [List.length_append, List.length_map, HLEN.out]; have := HHR.out; simp; omega
          case b2 => simp; omega
          intro v3 w3 hown3 hbel3 _
          obtain ⟨p3, n3, c3, rfl⟩ := hown3.slice
          have hbw := ((Below.refl B w2).alloc hB2 (.cells #[.string M] 9)).trans hbel3
          have HST3 := Lib.hid (HST2.out.put hbw hown3)
          have hK3 : w3.cell? ⟨K, 0, none⟩ = some v := by rw [hbw.cell (by simpa using HST2.out.2.2.2.2.2.1)]; exact hv1
          have hKf : w3.frozen? ⟨K, 0, none⟩ = false := by rw [hbw.frozen (by simpa using HST2.out.2.2.2.2.2.1)]; exact HST2.out.2.1
          have hF3 := HST3.out.1
          have HB3 := Lib.hid ((HB2.out.trans (hbw.mono (Nat.le_trans HST2.out.2.2.2.2.2.2.2.1 (Nat.le_of_lt HST2.out.2.2.2.2.1)))).setCell (p := ⟨K, 0, none⟩) (by simpa using HST2.out.2.2.2.2.2.2.2.2) (.slice p3 n3 c3))
          clear hown3 hbel3 hbw hv1
          go_wp2_with fail
          refine (HIH.out r (by have := HNM.out; omega) M b _ _ (by omega) ?_ HE2.out HST3.out).mono ?_
          · have := HHR.out
            rw [List.length_append, List.length_append, List.length_map, HLEN.out]
            simp; omega
          · rintro e w5 ⟨hb5, ⟨l2, hl2, rfl, hst5⟩ | ⟨hl2, rfl⟩⟩
            · have HB5 := Lib.hid (HB3.out.trans hb5)
              have HST5 := Lib.hid hst5
              have HS := Lib.hid (HSS.out l l2 HL.out hl2)
              clear hb5 hl2 hst5 hK3 hKf hF3
              go_wp2_with fail
              go_ret
              refine ⟨HB5.out, Or.inl ⟨_, HS.out, rfl, ?_⟩⟩
              have h := HST5.out
              rw [List.append_assoc, List.append_assoc] at h
              rw [List.map_append, List.map_cons, strB_of]
              exact h
            · have HB5 := Lib.hid (HB3.out.trans hb5)
              have HS := Lib.hid (HSR.out l HL.out hl2)
              clear hb5 hl2 hK3 hKf hF3
              go_wp2_with fail
              go_ret
              exact ⟨HB5.out, Or.inr ⟨HS.out, rfl⟩⟩
        · have HB2 := Lib.hid (HB1.out.trans hb2)
          have HS := Lib.hid (HSL.out hl)
          clear hb2 hl hF1
          go_wp2_with fail
          go_ret
          exact ⟨HB2.out, Or.inr ⟨HS.out, rfl⟩⟩
      · have h32 := (Km.betw_err a.data.toList b.data.toList).elim (fun h => absurd h h0) id
        have HS := Lib.hid (Km.spr_err (n := m) h0)
        rw [← HNM.out] at HS
        rw [h32] at HBT
        clear h0 h32
        go_enter Try.func27, Try.ntmps27
        go_wp2_with fail
        refine (HBT.out _).mono ?_
        rintro e w1 ⟨rfl, hb1⟩
        have HB1 := Lib.hid (hb1.mono (Nat.le_trans HST.out.2.2.2.2.2.2.2.1 (Nat.le_of_lt (Nat.lt_of_lt_of_le HST.out.2.2.2.2.1 HST.out.2.2.2.1))))
        clear hb1
        go_wp2_with fail
        go_ret
        exact ⟨HB1.out, Or.inr ⟨HS.out, rfl⟩⟩

end Go.Proofs.Ytdgcdepepfgkoaa
