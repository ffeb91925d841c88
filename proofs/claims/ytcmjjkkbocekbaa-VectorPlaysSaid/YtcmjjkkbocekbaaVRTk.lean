/-
  The document's Take.
  No conditions.
-/
import Derived.Test.YtcmjjkkbocekbaaVTk
namespace Go.Proofs.Ytcmjjkkbocekbaa
open Go.RowKit

theorem takeE_bad {n e : Nat} (v : Nat → Int) (m : List UInt8) (h : e ≠ 0) : takeE n (v, m, e) = (fun _ => 0, m, e) := by unfold takeE; rw [if_pos h]
theorem takeE_ok {n : Nat} {v : Nat → Int} (m : List UInt8) (hn : n ≤ 16) (hz : ∀ j, n ≤ j → v j = 0) (h : n = 0 ∨ v (n - 1) ≠ 0) : takeE n (v, m, 0) = (v, m, 0) := by
  unfold takeE; rw [if_neg (by simp), if_pos ((used_last hz hn).2 h)]
theorem takeE_no {n : Nat} {v : Nat → Int} (m : List UInt8) (hn : n ≤ 16) (hz : ∀ j, n ≤ j → v j = 0) (h0 : 0 < n) (h : v (n - 1) = 0) : takeE n (v, m, 0) = (fun _ => 0, m, 21) := by
  unfold takeE; rw [if_neg (by simp), if_neg]
  intro hu
  rcases (used_last hz hn).1 hu with h1 | h1
  · omega
  · exact h1 h

set_option maxRecDepth 100000 in
set_option maxHeartbeats 4000000 in
theorem vrefTake_any (B b : Nat) (l : List UInt8) (w : World) (h : RRdr w B b l 0) : Calls Try.prog 13 #[.pointer (some ⟨b, 0, none⟩)] w (Took RRdr w B b (takeV l)) := by
  obtain ⟨V2, V3, hb0⟩ := two_rows w (fun _ => 0) (fun _ => 0) 23 23 _ rfl
  have HO0 := Lib.hid (Only.of_below (b := b) hb0)
  have HV2 := Lib.hid V2
  have HV3 := Lib.hid V3
  have HR0 := Lib.hid (h.kept hb0)
  have HTV := Lib.hid (show takeV l = takeE (uptoR l 16).1 (takeS (uptoR l 16).2.1 (uptoR l 16).2.2 (uptoR l 16).1) from rfl)
  have hn16 := (uptoR_le l 16 (by decide)).1
  clear hb0 V2 V3 h
  go_enter Try.func13, Try.ntmps13
  go_wp2_with fail
  refine (refUpto_any B b l 16 _ HR0.out).mono ?_
  rintro e w1 ⟨rfl, hr1, ho1⟩
  have HR1 := Lib.hid hr1
  have HO1 := Lib.hid (HO0.out.trans ho1)
  have HV2' := Lib.hid (HV2.out.only ho1 (HR0.out.ne HV2.out))
  have HV3' := Lib.hid (HV3.out.only ho1 (HR0.out.ne HV3.out))
  clear hr1 ho1 HV2 HV3 HR0
  generalize uptoR l 16 = q at *
  obtain ⟨n, m, e0⟩ := q
  dsimp only at *
  go_wp2
  go_loopw [5] (fun i wr => ∃ k : Nat, k ≤ n ∧ i = .int .i64 (k : Int) ∧ VAt wr w.heap.size (fun _ => 0) ∧ VAt wr (w.heap.size + 1) (takeS m e0 k).1 ∧ RRdr wr B b (takeS m e0 k).2.1 (takeS m e0 k).2.2 ∧ Only b w wr) (fun i _ => n - (intOf i).toNat)
  case atStart => exact ⟨0, Nat.zero_le _, rfl, HV2'.out, HV3'.out, HR1.out, HO1.out⟩
  case round =>
    clear HV2' HV3' HR1 HO1
    obtain ⟨k, hk, rfl, V2, V3, hr, ho⟩ := hrel
    have HV2 := Lib.hid V2
    have HV3 := Lib.hid V3
    have HR := Lib.hid hr
    have HO := Lib.hid ho
    have r2 := hr.2.1
    clear V2 V3 hr ho
    by_cases herr : (takeS m e0 k).2.2 = 0
    · by_cases hlt : k < n
      · have HN := Lib.hid (takeS_ok herr)
        have HR0 := Lib.hid (herr ▸ HR.out)
        rw [herr] at r2
        clear herr HR
        generalize takeS m e0 k = s at *
        obtain ⟨v, m1, e1⟩ := s
        dsimp only at *
        go_wp2_with fail
        refine (refUpto_any B b m1 512 _ HR0.out).mono ?_
        rintro e w2 ⟨rfl, hr2, ho2⟩
        have W2 := HV2.out.only ho2 (HR0.out.ne HV2.out)
        have W3 := HV3.out.only ho2 (HR0.out.ne HV3.out)
        have HO2 := Lib.hid (HO.out.trans ho2)
        generalize uptoR m1 512 = q at *
        obtain ⟨x, m2, e2⟩ := q
        dsimp only at *
        have c3 := W3.cell k (by omega)
        have f3 := W3.free k
        have HW3 := Lib.hid (W3.set k (x : Int))
        have HW2 := Lib.hid (W2.setOther (c := w.heap.size + 1) (by omega) k (.int .i64 (x : Int)))
        have HR2 := Lib.hid (hr2.vecs W3 (only_set (w := w2) (w.heap.size + 1) k (.int .i64 (x : Int))))
        have HO3 := Lib.hid (HO2.out.far (k := w.heap.size + 1) (o := k) (by omega) (.int .i64 (x : Int)))
        clear W2 W3 hr2 ho2 r2
        go_wp2
        go_roundw
        case rel => exact ⟨k + 1, by omega, by go_num, HW2.out, by rw [HN.out]; exact HW3.out, by rw [HN.out]; exact HR2.out, HO3.out⟩
        case measure => simp [intOf]; omega
      · obtain rfl : k = n := by omega
        have hz := takeS_zero m e0 k
        have HR0 := Lib.hid (herr ▸ HR.out)
        rw [herr] at r2
        have HTQ := Lib.hid (show takeV l = takeE k ((takeS m e0 k).1, (takeS m e0 k).2.1, 0) from by rw [HTV.out]; congr 1; rw [← herr])
        clear herr HR hlt
        generalize takeS m e0 k = s at *
        obtain ⟨v, m1, e1⟩ := s
        dsimp only at *
        have HZ := Lib.hid hz
        clear hz
        rcases Nat.eq_zero_or_pos k with h0 | h0
        · subst h0
          have HQ := Lib.hid (HTQ.out.trans (takeE_ok m1 (by omega) HZ.out (Or.inl rfl)))
          have HW2 := Lib.hid HV2.out
          have W2 := HV2.out
          have W3 := HV3.out
          go_wp2_with (first | (refine wpList_load_vec vtR rfl _ rfl _ rfl _ (by assumption) ?_) | (refine wpList_store_vec vtR rfl _ _ rfl _ rfl (fun _ => 0) v (by assumption) rfl ?_; intro w3 hv3 hko hsz hbn))
          exact bodyPost_ret (results_vec vtR _ rfl hv3 rfl) rfl (by rw [HQ.out]; exact ⟨rfl, HR0.out.vecs HW2.out hko, only_row HO.out hko hsz hbn (Nat.le_refl _)⟩)
        · have c3 := HV3.out.cell (k - 1) (by omega)
          have e2 : ((k : Int) - 1).toNat = k - 1 := by omega
          by_cases hv : v (k - 1) = 0
          · have HQ := Lib.hid (HTQ.out.trans (takeE_no m1 (by omega) HZ.out h0 hv))
            rw [hv] at c3
            have HKP := Lib.hid HV2.out
            clear hv
            go_wp2_with fail
            refine (refFail_any B b m1 0 21 _ HR0.out).mono ?_
            rintro e w4 ⟨rfl, hr4, ho4⟩
            have HR4 := Lib.hid hr4
            have r4 := hr4.2.1
            have HW2 := Lib.hid (HV2.out.only ho4 (HR0.out.ne HV2.out))
            have W2 := HW2.out
            have HO4 := Lib.hid (HO.out.trans ho4)
            clear hr4 ho4 r2 c3
            rw [if_pos rfl] at r4
            go_wp2_with (first | (refine wpList_store_vec vtR rfl _ _ rfl _ rfl (fun _ => 0) (fun _ => 0) (by assumption) rfl ?_; intro w3 hv3 hko hsz hbn))
            exact bodyPost_ret (results_vec vtR _ rfl hv3 rfl) rfl (by rw [HQ.out]; exact ⟨rfl, HR4.out.vecs HW2.out hko, only_row HO4.out hko hsz hbn (Nat.le_refl _)⟩)
          · have HQ := Lib.hid (HTQ.out.trans (takeE_ok m1 (by omega) HZ.out (Or.inr hv)))
            have HW2 := Lib.hid HV2.out
            have W2 := HV2.out
            have W3 := HV3.out
            go_wp2_with (first | (refine wpList_load_vec vtR rfl _ rfl _ rfl _ (by assumption) ?_) | (refine wpList_store_vec vtR rfl _ _ rfl _ rfl (fun _ => 0) v (by assumption) rfl ?_; intro w3 hv3 hko hsz hbn))
            exact bodyPost_ret (results_vec vtR _ rfl hv3 rfl) rfl (by rw [HQ.out]; exact ⟨rfl, HR0.out.vecs HW2.out hko, only_row HO.out hko hsz hbn (Nat.le_refl _)⟩)
    · have HTQ := Lib.hid (HTV.out.trans (show takeE n (takeS m e0 n) = (fun _ => 0, (takeS m e0 k).2.1, (takeS m e0 k).2.2) from by rw [takeS_stop herr n hk]; exact takeE_bad (takeS m e0 k).1 (takeS m e0 k).2.1 herr))
      generalize takeS m e0 k = s at *
      obtain ⟨v, m1, e1⟩ := s
      dsimp only at *
      have te : ((e1 : Int) == 0) = false := by rw [beq_eq_false_iff_ne]; omega
      have te2 : ((e1 : Int) != 0) = true := by rw [bne_iff_ne]; omega
      have HQ := HTQ
      have HW2 := Lib.hid HV2.out
      have W2 := HV2.out
      clear herr
      by_cases hlt : k < n
      all_goals
        go_wp2_with (first | (refine wpList_store_vec vtR rfl _ _ rfl _ rfl (fun _ => 0) (fun _ => 0) (by assumption) rfl ?_; intro w3 hv3 hko hsz hbn))
        exact bodyPost_ret (results_vec vtR _ rfl hv3 rfl) rfl (by rw [HQ.out]; exact ⟨rfl, HR.out.vecs HW2.out hko, only_row HO.out hko hsz hbn (Nat.le_refl _)⟩)


end Go.Proofs.Ytcmjjkkbocekbaa
