/-
  THE DOCUMENT's Between.
  No conditions but sizes.
-/
import Derived.Test.YtdgcdepepfgkoaaKRefText
import Derived.WalkSpells
namespace Go.Proofs.Ytdgcdepepfgkoaa
open Go.RowKit

/-- the digits F, the last one (at N) being c -/
def lastD (F : Nat → Nat) (N c k : Nat) : Nat := if k = N then c else F k
/-- r tells what is below b -/
def Tells (b : List UInt8) (F : Nat → Nat) (N : Nat) (r : Nat → Bool) : Prop := ∀ c, r c = true ↔ (b = [] ∨ Km.fracLt (cutD (lastD F N c) (N + 1)) (Km.dg b))
theorem tells_some (b : List UInt8) (F : Nat → Nat) (N : Nat) : ∃ r, Tells b F N r :=
  ⟨fun c => @decide (b = [] ∨ Km.fracLt (cutD (lastD F N c) (N + 1)) (Km.dg b)) (Classical.propDecidable _), fun c => by simp⟩

theorem full_step {a b : List UInt8} {N : Nat} (h : ¬ Km.dg a N < 255) : Km.okB a b N = false := by
  rw [← Bool.not_eq_true, Km.okB_iff]
  have := Km.mo_le a b N
  omega

/-- ONE STEP OF THE DOCUMENT's Between is one of the program's -/
theorem ref_step {a b : List UInt8} (he : Km.endsB a b = true) {N j : Nat} (hN : N < 24) (hnone : NoneYet a b N) (hj : topF (Km.dg a) (N + 1) = some j) {r : Nat → Bool} (hr : Tells b (carD (Km.dg a) j) N r) :
    (Km.okB a b N = true ∧ carD (Km.dg a) j N = Km.dg a N + 1 ∧ (∀ c, Km.dg a N + 1 ≤ c → c ≤ 255 → (r c = true ↔ c ≤ Km.mo a b N)) ∧ ∀ k, k < N → carD (Km.dg a) j k = Km.dg a k) ∨
    (Km.okB a b N = false ∧ r (max (carD (Km.dg a) j N) 1) = false ∧ max (carD (Km.dg a) j N) 1 ≤ 255) := by
  obtain ⟨h1, h2, h3⟩ := topF_some hj
  by_cases e : j = N
  · subst e
    have e1 : carD (Km.dg a) j j = Km.dg a j + 1 := by simp [carD]
    have hs : ∀ c, Km.dg a j + 1 ≤ c → c ≤ 255 → (r c = true ↔ c ≤ Km.mo a b j) := fun c hc hc2 => by
      rw [hr c, ← Km.step_iff he j c hN hc hc2]
      rw [show cutD (lastD (carD (Km.dg a) j) j c) (j + 1) = Km.fD a j c from funext fun k => by
        unfold cutD lastD carD Km.fD
        by_cases k1 : k < j
        · rw [if_pos (by omega), if_neg (by omega), if_pos k1, if_pos k1]
        · by_cases k2 : k = j
          · subst k2; simp
          · rw [if_neg (by omega), if_neg k1, if_neg k2]]
    by_cases hok : Km.okB a b j = true
    · exact Or.inl ⟨hok, e1, hs, fun k hk => by simp [carD, hk]⟩
    · have hm : max (carD (Km.dg a) j j) 1 = Km.dg a j + 1 := by rw [e1]; omega
      refine Or.inr ⟨by simpa using hok, ?_, by rw [hm]; omega⟩
      rw [hm, ← Bool.not_eq_true, hs _ (Nat.le_refl _) (by omega), ← Km.okB_iff]
      exact hok
  · have h4 := h3 N (by omega) (by omega)
    have e1 : carD (Km.dg a) j N = 0 := by unfold carD; rw [if_neg (by omega), if_neg (by omega)]
    refine Or.inr ⟨full_step h4, ?_, by rw [e1]; omega⟩
    rw [← Bool.not_eq_true, hr]
    refine Km.carried he j (by omega) (hnone j (by omega)) h2 _ fun k => ?_
    unfold Km.fD cutD lastD carD
    by_cases k1 : k < j
    · rw [if_pos k1, if_pos (by omega), if_neg (by omega)]; exact Nat.le_refl _
    · by_cases k2 : k = j
      · rw [if_neg k1, if_pos k2, if_pos (by omega), if_neg (by omega)]; exact Nat.le_refl _
      · rw [if_neg k1, if_neg k2]; exact Nat.zero_le _

/-- the document's key is the program's -/
theorem ref_key {a b : List UInt8} {N : Nat} {F : Nat → Nat} (ha : a.length ≤ 24) (hN : N < 24) (hF : ∀ k, k < N → F k = Km.dg a k) :
    bytesD (lastD F N ((Km.dg a N + 1 + Km.mo a b N) / 2)) (N + 1) = Km.keyAt a b N := by
  apply Km.dg_ext
  · rw [bytesD_length, Km.keyAt_length a b N ha hN]
  · intro k hk
    rw [bytesD_length] at hk
    rw [Km.dg_keyAt a b N ha hN]
    have h1 := by8_bytesD (lastD F N ((Km.dg a N + 1 + Km.mo a b N) / 2)) (N + 1) k hk
    rw [show Km.dg (bytesD (lastD F N ((Km.dg a N + 1 + Km.mo a b N) / 2)) (N + 1)) k = lastD F N ((Km.dg a N + 1 + Km.mo a b N) / 2) k % 256 from h1]
    have h2 := Km.mo_le a b N
    have h3 := Km.dg_lt a N
    unfold lastD Km.fD
    by_cases e : k = N
    · subst e; simp; omega
    · have := Km.dg_lt a k
      rw [if_neg e, if_pos (by omega), hF k (by omega)]; omega

set_option maxRecDepth 100000 in
set_option maxHeartbeats 4000000 in
theorem refBetween_in (a b : ByteArray) (w : World) (ha : a.size ≤ 24) (hb : b.size ≤ 24) (he : Km.endsB a.data.toList b.data.toList = true) : Calls Try.prog 10 #[.string a, .string b] w fun e w' => e = .returned (.tuple #[.string (strB (Km.betwIn a.data.toList b.data.toList).1), .int .i64 (Km.betwIn a.data.toList b.data.toList).2]) ∧ Below w.heap.size w w' := by
  have hfine := refFine_any a b
  rw [he] at hfine
  have HFINE := Lib.hid hfine
  have HE := Lib.hid he
  have HFIRST := Lib.hid (fun n w hn => first_any a n w (by omega) hn)
  clear hfine he
  go_enter Try.func10, Try.ntmps10
  go_wp2_with fail
  refine (HFINE.out _ (by omega) (by omega)).mono ?_
  rintro e w0 ⟨rfl, hb0⟩
  have HB0 := Lib.hid hb0
  clear hb0 HFINE
  go_wp2
  go_loopw [6] (fun i wr => ∃ n : Nat, 1 ≤ n ∧ n ≤ 25 ∧ i = .int .i64 (n : Int) ∧ NoneYet a.data.toList b.data.toList (n - 1) ∧ Below w.heap.size w wr) (fun i _ => 25 - (intOf i).toNat)
  case atStart => exact ⟨1, by omega, by omega, rfl, fun m hm => absurd hm (Nat.not_lt_zero _), HB0.out⟩
  case round =>
    obtain ⟨n, hn1, hn, rfl, hnone, hbw⟩ := hrel
    obtain ⟨N, hN⟩ : ∃ N, n = N + 1 := ⟨n - 1, by omega⟩
    rw [hN, Nat.add_sub_cancel] at hnone
    have HNO := Lib.hid hnone
    have HBW := Lib.hid hbw
    have HNN := Lib.hid hN
    have hNlt : N < n := by omega
    clear hnone hbw HB0 hN
    by_cases hlt : n ≤ 24
    · have hN24 : N < 24 := by have := HNN.out; omega
      go_wp2_with fail
      refine (HFIRST.out n _ hlt).mono ?_
      rintro e w1 ⟨hb1, ⟨ht, rfl⟩ | ⟨j, g, ht, rfl, hg, hrow⟩⟩
      · have HB1 := Lib.hid (HBW.out.trans (hb1.mono HBW.out.size))
        have HN2 := Lib.hid (none_succ HNO.out (full_step (topF_none ht N hNlt)))
        rw [← HNN.out] at HN2
        clear hb1 ht
        have keq := fun W => Lib.run_eql_slice_nil (P := Try.prog) W 44 3 none 0 0 0 0 Try.underlying44
        go_wp2
        go_roundw
        case rel => exact ⟨n + 1, by omega, by omega, by go_num, HN2.out, HB1.out⟩
        case measure => simp [intOf]; omega
      · have HB1 := Lib.hid (HBW.out.trans (hb1.mono HBW.out.size))
        have hg0 := HBW.out.size
        have HROW := Lib.hid hrow
        obtain ⟨r, hr⟩ := tells_some b.data.toList (carD (Km.dg a.data.toList) j) N
        have HT := Lib.hid hr
        have hstep := ref_step HE.out hN24 HNO.out (by rw [← HNN.out]; exact ht) hr
        have hFle : ∀ k, carD (Km.dg a.data.toList) j k ≤ 256 := fun k => by
          unfold carD
          have := Km.dg_lt a.data.toList k
          have := Km.dg_lt a.data.toList j
          repeat' split
          all_goals omega
        have HFLE := Lib.hid hFle
        generalize hF : carD (Km.dg a.data.toList) j = F at *
        have HSTEP := Lib.hid hstep
        clear hstep hr hFle hF hrow hb1 ht
        have gn : (n : Int) - 1 = (N : Int) := by have := HNN.out; omega
        have gz : (0 : Int) ≤ (N : Int) := by omega
        have gN : (N : Int) < (n : Int) := by omega
        have hc := HROW.out.cell hNlt
        have hfz := HROW.out.frozen N
        have e2 : dgs F N = .int .i64 (F N : Nat) := rfl
        rw [e2] at hc
        have hx := HFLE.out N
        clear e2
        have hxe : F N = F N := rfl
        generalize hFN : F N = x at hc hx
        have HX := Lib.hid hFN
        clear hxe hFN
        obtain ⟨lo, hlo⟩ : ∃ lo : Nat, lo = max x 1 := ⟨_, rfl⟩
        have hmx : max (x : Int) 1 = (lo : Int) := by omega
        have hlo1 : 1 ≤ lo := by omega
        have HLO := Lib.hid hlo
        clear hlo
        have keq := fun W => Lib.run_eql_slice_nil (P := Try.prog) W 44 3 (some ⟨g, 0, none⟩) n n 0 0 Try.underlying44
        go_wp2
        obtain ⟨Z0, hZ0⟩ : ∃ Z0 : Int, Z0 = (lo : Int) - 1 := ⟨_, rfl⟩
        rw [← hZ0]
        have HZ0 := Lib.hid hZ0
        clear hZ0 hmx keq hc hfz
        obtain ⟨wo, rfl⟩ : ∃ wo : World, wo = w1 := ⟨_, rfl⟩
        rcases HSTEP.out with ⟨hok, e1, hs, hFk⟩ | ⟨hok, hrl, hl255⟩
        · have hm := Km.mo_le a.data.toList b.data.toList N
          have hok1 := (Km.okB_iff _ _ _).1 hok
          have HRET := Lib.hid (Km.betwIn_some hN24 hok HNO.out)
          have HKEY := Lib.hid (ref_key (b := b.data.toList) (F := F) (by rw [size_list]; exact ha) hN24 hFk)
          have HS := Lib.hid hs
          have hd := Km.dg_lt a.data.toList N
          rw [HX.out] at e1
          generalize Km.mo a.data.toList b.data.toList N = m at *
          generalize Km.dg a.data.toList N = d at *
          have hlo2 : lo = d + 1 := by have := HLO.out; omega
          obtain ⟨q, hq⟩ : ∃ q : Nat, q = (d + 1 + m) / 2 := ⟨_, rfl⟩
          have HQF := Lib.hid (show ∀ k, k < n → lastD F N q k ≤ 255 from fun k hk => by
            unfold lastD
            split
            · omega
            · have := HNN.out
              rw [hFk k (by omega)]
              have := Km.dg_lt a.data.toList k
              omega)
          rw [← hq, ← HNN.out] at HKEY
          have hqi : ((lo : Int) + (m : Int)) / 2 = (q : Int) := by omega
          have HL := Lib.hid hlo2
          have hlm : lo ≤ m := by omega
          have hq255 : q ≤ 255 := by omega
          have HQ := Lib.hid hq
          clear hs hFk hok hq hlo2 e1
          go_loopw [9, 10] (fun hi c wi => ∃ (C y : Nat) (Z : Int), lo ≤ C ∧ C ≤ m + 1 ∧ Hid (Z = (C : Int) - 1) ∧ hi = .int .i64 Z ∧ c = .int .i64 C ∧ wi.rowIs g 3 n (dgs (lastD F N y)) ∧ Below w.heap.size w wi) (fun _ c _ => 257 - (intOf c).toNat)
          case atStart => exact ⟨lo, F N, _, Nat.le_refl _, by omega, HZ0, rfl, rfl, HROW.out.congr fun j hj => by
              by_cases e : j = N
              · subst e; simp [dgs, lastD]
              · simp [dgs, lastD, e], HB1.out⟩
          case round =>
            obtain ⟨C, y, Z, hC1, hC2, HZ, rfl, rfl, hrow, hbw⟩ := hrel
            have HROW2 := Lib.hid hrow
            have HB2 := Lib.hid hbw
            have hc := hrow.cell hNlt
            have hfz := hrow.frozen N
            have e3 : dgs (lastD F N y) N = .int .i64 (y : Nat) := by simp [dgs, lastD]
            rw [e3] at hc
            clear hrow hbw e3
            have g5 : (0 : Int) ≤ (C : Int) := by omega
            have g6 : (C : Int) ≤ 256 := by omega
            by_cases hC : C < 256
            · have HROW3 := Lib.hid ((HROW2.out.set N (.int .i64 (C : Nat))).congr (g := dgs (lastD F N C)) fun j hj => by
                by_cases e : j = N
                · subst e; simp [dgs, lastD]
                · simp [dgs, lastD, e])
              have HB3 := Lib.hid (HB2.out.setCell (p := ⟨g, N, none⟩) (by simp; omega) (.int .i64 (C : Nat)))
              have HBEL := Lib.hid (fun W hrow => below_any g n (lastD F N C) b (r C) W hlt hb (fun k hk => by
                unfold lastD
                split
                · omega
                · exact HFLE.out k) hrow (by rw [HNN.out]; exact HT.out C))
              by_cases hCm : C ≤ m
              · have hr1 := (HS.out C (by have := HL.out; omega) (by omega)).2 hCm
                rw [hr1] at HBEL
                clear hr1
                go_wp2_with fail
                refine (HBEL.out _ HROW3.out).mono ?_
                rintro e w4 ⟨rfl, rfl⟩
                go_wp2
                go_roundw
                case rel => exact ⟨C + 1, C, _, by omega, by omega, Lib.hid (by omega), rfl, by go_num, HROW3.out, HB3.out⟩
                case measure => simp [intOf]; omega
              · have hr1 : r C = false := by rw [← Bool.not_eq_true, HS.out C (by have := HL.out; omega) (by omega)]; exact hCm
                rw [hr1] at HBEL
                obtain rfl : Z = (m : Int) := by have := HZ.out; omega
                have g7 : (lo : Int) ≤ (m : Int) := by omega
                have hc3 := HROW3.out.cell hNlt
                have hfz3 := HROW3.out.frozen N
                have e3 : dgs (lastD F N C) N = .int .i64 (C : Nat) := by simp [dgs, lastD]
                rw [e3] at hc3
                clear hr1 e3
                go_wp2_with fail
                refine (HBEL.out _ HROW3.out).mono ?_
                rintro e w4 ⟨rfl, rfl⟩
                clear hc hfz
                have HROW4 := Lib.hid ((HROW3.out.set N (.int .i64 (q : Nat))).congr (g := dgs (lastD F N q)) fun j hj => by
                  by_cases e : j = N
                  · subst e; simp [dgs, lastD]
                  · simp [dgs, lastD, e])
                have HB4 := Lib.hid (HB3.out.setCell (p := ⟨g, N, none⟩) (by simp; omega) (.int .i64 (q : Nat)))
                go_wp2_with fail
                refine (text_any g n (lastD F N q) _ hlt HQF.out HROW4.out).mono ?_
                rintro e w5 ⟨rfl, hb5⟩
                have HB5 := Lib.hid (HB4.out.trans (hb5.mono HB4.out.size))
                clear hb5
                go_wp2
                go_ret2
                exact ⟨by rw [HRET.out, HKEY.out]; rfl, HB5.out⟩
            · obtain rfl : Z = (m : Int) := by have := HZ.out; omega
              have g7 : (lo : Int) ≤ (m : Int) := by omega
              have HROW4 := Lib.hid ((HROW2.out.set N (.int .i64 (q : Nat))).congr (g := dgs (lastD F N q)) fun j hj => by
                by_cases e : j = N
                · subst e; simp [dgs, lastD]
                · simp [dgs, lastD, e])
              have HB4 := Lib.hid (HB2.out.setCell (p := ⟨g, N, none⟩) (by simp; omega) (.int .i64 (q : Nat)))
              go_wp2_with fail
              refine (text_any g n (lastD F N q) _ hlt HQF.out HROW4.out).mono ?_
              rintro e w5 ⟨rfl, hb5⟩
              have HB5 := Lib.hid (HB4.out.trans (hb5.mono HB4.out.size))
              clear hb5
              go_wp2
              go_ret2
              exact ⟨by rw [HRET.out, HKEY.out]; rfl, HB5.out⟩
        · have HN2 := Lib.hid (none_succ HNO.out hok)
          rw [← HNN.out] at HN2
          have hZl : Z0 < (lo : Int) := by have := HZ0.out; omega
          have hrl2 : r lo = false := by rw [HX.out, ← HLO.out] at hrl; exact hrl
          have hlo255 : lo ≤ 255 := by have := HLO.out; have := HX.out; omega
          have HBEL := Lib.hid (fun W hrow => below_any g n (lastD F N lo) b (r lo) W hlt hb (fun k hk => by
            unfold lastD
            split
            · omega
            · exact HFLE.out k) hrow (by rw [HNN.out]; exact HT.out lo))
          rw [hrl2] at HBEL
          clear hok hrl hl255 hrl2
          go_loopw [9, 10] (fun hi c wi => hi = .int .i64 Z0 ∧ c = .int .i64 lo ∧ wi.rowIs g 3 n (dgs F) ∧ Below w.heap.size w wi) (fun _ _ _ => 0)
          case atStart => exact ⟨rfl, rfl, HROW.out, HB1.out⟩
          case round =>
            obtain ⟨rfl, rfl, hrow, hbw⟩ := hrel
            have hc := hrow.cell hNlt
            have hfz := hrow.frozen N
            have e3 : dgs F N = .int .i64 (x : Nat) := by simp [dgs, HX.out]
            rw [e3] at hc
            have HROW3 := Lib.hid ((hrow.set N (.int .i64 (lo : Nat))).congr (g := dgs (lastD F N lo)) fun j hj => by
              by_cases e : j = N
              · subst e; simp [dgs, lastD]
              · simp [dgs, lastD, e])
            have HB3 := Lib.hid (hbw.setCell (p := ⟨g, N, none⟩) (by simp; omega) (.int .i64 (lo : Nat)))
            clear hrow hbw e3
            go_wp2_with fail
            refine (HBEL.out _ HROW3.out).mono ?_
            rintro e w4 ⟨rfl, rfl⟩
            go_wp2
            go_roundw
            case rel => exact ⟨n + 1, by omega, by omega, by go_num, HN2.out, HB3.out⟩
            case measure => simp [intOf]; omega
    · have HRET := Lib.hid (Km.betwIn_none (fun m hm => HNO.out m (by have := HNN.out; omega)))
      go_wp2
      go_ret2
      exact ⟨by rw [HRET.out]; rfl, HBW.out⟩

set_option maxRecDepth 100000 in
set_option maxHeartbeats 2000000 in
theorem refBetween_any (a b : ByteArray) (w : World) (ha : a.size ≤ 140737488355328) (hb : b.size ≤ 140737488355328) : Calls Try.prog 10 #[.string a, .string b] w fun e w' => e = .returned (.tuple #[.string (strB (Km.betw a.data.toList b.data.toList).1), .int .i64 (Km.betw a.data.toList b.data.toList).2]) ∧ Below w.heap.size w w' := by
  cases he : Km.endsB a.data.toList b.data.toList
  · have HE := refFine_any a b
    rw [he] at HE
    have HENDS := Lib.hid HE
    have HB := Lib.hid (show Km.betw a.data.toList b.data.toList = ([], 1) by unfold Km.betw; rw [if_neg (by rw [he]; simp)])
    clear HE he
    go_enter Try.func10, Try.ntmps10
    go_wp2_with fail
    refine (HENDS.out _ ha hb).mono ?_
    rintro e w' ⟨rfl, hb1⟩
    have HB1 := Lib.hid hb1
    clear hb1
    go_wp2
    go_ret2
    exact ⟨by rw [HB.out]; rfl, HB1.out⟩
  · rw [show Km.betw a.data.toList b.data.toList = Km.betwIn a.data.toList b.data.toList from if_pos he]
    obtain ⟨h1, h2⟩ := ends_sizes he
    exact refBetween_in a b w h1 h2 he

end Go.Proofs.Ytdgcdepepfgkoaa
