/-
  May a Path be; two Paths held against each other.
  No conditions but sizes.
-/
import Derived.Test.YtjaojhhcpggcpaaOSmall
namespace Go.Proofs.Ytjaojhhcpggcpaa
open Go.RowKit

theorem okPath_no {l : List Qm.St} {k : Nat} (hk : k < l.length) (h : okNode (Qm.stOf l k).1 (Qm.stOf l k).2 = false) : okPath l = false := by
  have hm : Qm.stOf l k ∈ l := by
    have : Qm.stOf l k = l[k] := by simp [Qm.stOf, hk]
    rw [this]; exact List.getElem_mem hk
  unfold okPath
  rw [show (l.all fun s => okNode s.1 s.2) = false from ?_, Bool.and_false]
  rw [List.all_eq_false]
  exact ⟨_, hm, by rw [h]; simp⟩
theorem okPath_yes {l : List Qm.St} (h0 : 1 ≤ l.length) (h8 : l.length ≤ 8) (h : ∀ i, i < l.length → okNode (Qm.stOf l i).1 (Qm.stOf l i).2 = true) : okPath l = true := by
  unfold okPath
  rw [decide_eq_true h0, decide_eq_true h8, Bool.true_and, Bool.true_and, List.all_eq_true]
  intro s hs
  obtain ⟨i, hi, rfl⟩ := List.mem_iff_getElem.1 hs
  have := h i hi
  simpa [Qm.stOf, hi] using this

set_option maxRecDepth 100000 in
set_option maxHeartbeats 1000000 in
theorem isPath_any (p : Option Addr) (c : Nat) (l : List Qm.St) (w : World) (h : Rd w p (stCells l)) (hl : l.length ≤ 4611686018427387904) :
    Calls Try.prog 43 #[.slice p l.length c] w fun e w' => e = .returned (.bool (okPath l)) ∧ Below w.heap.size w w' := by
  have HRD := Lib.hid h
  by_cases h0 : l.length = 0
  · have HR := Lib.hid (show okPath l = false by unfold okPath; rw [h0]; rfl)
    clear h
    generalize l.length = n at *
    subst h0
    go_enter Try.func43, Try.ntmps43
    go_wp2
    go_ret
    exact ⟨ret_b HR.out.symm, Below.refl _ _⟩
  · by_cases h8 : 8 < l.length
    · have HR := Lib.hid (show okPath l = false by unfold okPath; rw [decide_eq_false (show ¬ l.length ≤ 8 by omega)]; simp)
      have d1 : decide ((l.length : Int) < 1) = false := decide_eq_false (by omega)
      have d2 : decide ((8 : Int) < (l.length : Int)) = true := decide_eq_true (by omega)
      clear h
      generalize l.length = n at *
      go_enter Try.func43, Try.ntmps43
      go_wp2
      go_ret
      exact ⟨ret_b HR.out.symm, Below.refl _ _⟩
    · obtain ⟨b, o, rfl, hb⟩ := h.addr (by rw [stCells_length]; omega)
      have d1 : decide ((l.length : Int) < 1) = false := decide_eq_false (by omega)
      have d2 : decide ((8 : Int) < (l.length : Int)) = false := decide_eq_false (by omega)
      have hLEN := Lib.hid (show 1 ≤ l.length ∧ l.length ≤ 8 by omega)
      clear h
      go_enter Try.func43, Try.ntmps43
      go_wp2
      clear d1 d2
      go_loopw [15] (fun i wr => ∃ k : Nat, k ≤ l.length ∧ i = .int .i64 (k : Int) ∧ (∀ j, j < k → okNode (Qm.stOf l j).1 (Qm.stOf l j).2 = true) ∧ Below w.heap.size w wr) (fun i _ => l.length - (intOf i).toNat)
      case atStart => exact ⟨0, Nat.zero_le _, rfl, fun j hj => absurd hj (Nat.not_lt_zero _), Below.refl _ _⟩
      case round =>
        obtain ⟨k, hk, rfl, ho, hbw⟩ := hrel
        have HO := Lib.hid ho
        have HBW := Lib.hid hbw
        clear ho hbw
        by_cases hlt : k < l.length
        · obtain ⟨c0, c1⟩ := (HRD.out.base HBW.out (fun a ha => by cases ha; exact hb)).st k hlt
          have HN := Lib.hid (show ∀ W, Calls Try.prog 18 #[.agg #[.int .i64 (Qm.stOf l k).1, .int .i64 (Qm.stOf l k).2]] W fun e w' => e = .returned (.bool (okNode (Qm.stOf l k).1 (Qm.stOf l k).2)) ∧ Below W.heap.size W w' from fun W => onode_any _ _ W)
          have HNO := Lib.hid (fun h => okPath_no (l := l) hlt h)
          have HST := Lib.hid (show ∀ j, j < k + 1 → okNode (Qm.stOf l k).1 (Qm.stOf l k).2 = true → okNode (Qm.stOf l j).1 (Qm.stOf l j).2 = true from fun j hj he => by
            rcases Nat.lt_or_ge j k with e | e
            · exact HO.out j e
            · obtain rfl : j = k := by omega
              exact he)
          cases hN : okNode (Qm.stOf l k).1 (Qm.stOf l k).2 with
          | false =>
            have HR := Lib.hid (HNO.out hN)
            rw [hN] at HN
            clear hN HST HNO
            generalize (Qm.stOf l k).1 = s at *
            generalize (Qm.stOf l k).2 = t at *
            have HB2 := Lib.hid (HBW.out.alloc HBW.out.size (.cells #[.int .i64 s, .int .i64 t] 23))
            go_wp2_with fail
            refine (HN.out _).mono ?_
            rintro e w1 ⟨rfl, hb1⟩
            have HB3 := Lib.hid (HB2.out.trans (hb1.mono HB2.out.size))
            clear hb1
            go_wp2
            go_ret
            exact ⟨ret_b HR.out.symm, HB3.out⟩
          | true =>
            have HR := Lib.hid (fun j hj => HST.out j hj hN)
            rw [hN] at HN
            clear hN HST HNO
            generalize (Qm.stOf l k).1 = s at *
            generalize (Qm.stOf l k).2 = t at *
            have HB2 := Lib.hid (HBW.out.alloc HBW.out.size (.cells #[.int .i64 s, .int .i64 t] 23))
            go_wp2_with fail
            refine (HN.out _).mono ?_
            rintro e w1 ⟨rfl, hb1⟩
            have HB3 := Lib.hid (HB2.out.trans (hb1.mono HB2.out.size))
            clear hb1
            go_wp2
            go_roundw
            case rel => exact ⟨k + 1, by omega, by go_num, HR.out, HB3.out⟩
            case measure => simp [intOf]; omega
        · obtain rfl : k = l.length := by omega
          have HR := Lib.hid (okPath_yes hLEN.out.1 hLEN.out.2 HO.out)
          go_wp2
          go_ret
          exact ⟨ret_b HR.out.symm, HBW.out⟩

theorem stOf_ext {l m : List Qm.St} (hn : l.length = m.length) (h : ∀ j, j < l.length → Qm.stOf l j = Qm.stOf m j) : l = m := by
  apply List.ext_getElem hn
  intro i h1 h2
  have := h i h1
  simpa [Qm.stOf, h1, h2] using this
theorem ne_path {l m : List Qm.St} (h : l ≠ m) : (l == m) = false := by simpa using h

set_option maxRecDepth 100000 in
set_option maxHeartbeats 2000000 in
theorem eqSt_any (p q : Option Addr) (c d : Nat) (l m : List Qm.St) (w : World) (h : Rd w p (stCells l)) (k : Rd w q (stCells m)) (hl : l.length ≤ 4611686018427387904) :
    Calls Try.prog 37 #[.slice p l.length c, .slice q m.length d] w fun e w' => e = .returned (.bool (l == m)) ∧ Below w.heap.size w w' := by
  by_cases hn : l.length = m.length
  · rcases Nat.eq_zero_or_pos m.length with h0 | h0
    · have HR := Lib.hid (show (l == m) = true by
        rw [List.eq_nil_of_length_eq_zero (by omega : l.length = 0), List.eq_nil_of_length_eq_zero h0]; rfl)
      rw [hn, h0]
      go_enter Try.func37, Try.ntmps37
      go_wp2
      go_loop [13] (fun i => i = .int .i64 0) (fun _ => 0)
      case atStart => rfl
      case round =>
        subst hrel
        go_wp2
        go_ret
        exact ⟨ret_b HR.out.symm, Below.refl _ _⟩
    · obtain ⟨b, o, rfl, -⟩ := h.addr (by rw [stCells_length]; omega)
      obtain ⟨b', o', rfl, -⟩ := k.addr (by rw [stCells_length]; omega)
      have H1 := Lib.hid h
      have H2 := Lib.hid k
      have HN := Lib.hid hn
      rw [hn] at hl ⊢
      clear h k hn
      go_enter Try.func37, Try.ntmps37
      go_wp2
      go_loopw [13] (fun i wr => ∃ k : Nat, k ≤ m.length ∧ i = .int .i64 (k : Int) ∧ (∀ j, j < k → Qm.stOf l j = Qm.stOf m j) ∧ Below w.heap.size w wr) (fun i _ => m.length - (intOf i).toNat)
      case atStart => exact ⟨0, Nat.zero_le _, rfl, fun j hj => absurd hj (Nat.not_lt_zero _), Below.refl _ _⟩
      case round =>
        obtain ⟨k, hk, rfl, ho, hbw⟩ := hrel
        have HO := Lib.hid ho
        have HBW := Lib.hid hbw
        clear ho hbw
        by_cases hlt : k < m.length
        · obtain ⟨a0, a1⟩ := (H1.out.below HBW.out).st k (by rw [HN.out]; exact hlt)
          obtain ⟨b0, b1⟩ := (H2.out.below HBW.out).st k hlt
          have HST := Lib.hid (show Qm.stOf l k = Qm.stOf m k → ∀ j, j < k + 1 → Qm.stOf l j = Qm.stOf m j from fun he j hj => by
            rcases Nat.lt_or_ge j k with e | e
            · exact HO.out j e
            · obtain rfl : j = k := by omega
              exact he)
          have HNE := Lib.hid (show Qm.stOf l k ≠ Qm.stOf m k → (l == m) = false from fun he => ne_path fun e => he (by rw [e]))
          generalize Qm.stOf l k = s at *
          generalize Qm.stOf m k = t at *
          obtain ⟨s0, s1⟩ := s
          obtain ⟨t0, t1⟩ := t
          dsimp only at *
          by_cases e0 : s0 = t0
          · subst e0
            by_cases e1 : s1 = t1
            · subst e1
              have HN2 := Lib.hid (HST.out rfl)
              clear HST HNE
              go_wp2
              go_quiet (fail)
              go_wp2
              go_roundw
              case rel => exact ⟨k + 1, by omega, by go_num, HN2.out, below_drewN HBW.out _⟩
              case measure => simp [intOf]; omega
            · have f1 : (s1 == t1) = false := by simpa using e1
              have HR := Lib.hid (HNE.out (fun e => e1 (by injection e)))
              clear HST HNE
              go_wp2
              go_quiet (fail)
              go_wp2
              go_ret
              exact ⟨ret_b HR.out.symm, below_drewN HBW.out _⟩
          · have f0 : (s0 == t0) = false := by simpa using e0
            have HR := Lib.hid (HNE.out (fun e => e0 (by injection e)))
            clear HST HNE
            go_wp2
            go_quiet (fail)
            go_wp2
            go_ret
            exact ⟨ret_b HR.out.symm, below_drewN HBW.out _⟩
        · obtain rfl : k = m.length := by omega
          have HR := Lib.hid (show (l == m) = true by rw [stOf_ext HN.out (fun j hj => HO.out j (by rw [← HN.out]; exact hj))]; simp)
          go_wp2
          go_ret
          exact ⟨ret_b HR.out.symm, HBW.out⟩
  · have HR := Lib.hid (show (l == m) = false from ne_path fun e => hn (by rw [e]))
    have e1 : ((l.length : Int) != (m.length : Int)) = true := by rw [bne_iff_ne]; omega
    clear h k
    generalize l.length = n at *
    generalize m.length = n' at *
    go_enter Try.func37, Try.ntmps37
    go_wp2
    go_ret
    exact ⟨ret_b HR.out.symm, Below.refl _ _⟩
end Go.Proofs.Ytjaojhhcpggcpaa
