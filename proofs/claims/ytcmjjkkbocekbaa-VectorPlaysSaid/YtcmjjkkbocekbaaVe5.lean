/-
  Put, of both sides.
  No conditions.
-/
import Derived.Test.YtcmjjkkbocekbaaVe4
import Derived.Test.YtcmjjkkbocekbaaRef
import Derived.Outline
namespace Go.Proofs.Ytcmjjkkbocekbaa
open Go.RowKit

/-- the numbers' bytes, of the first k -/
def bodyB (a : Nat → Int) : Nat → List UInt8
  | 0 => []
  | k + 1 => bodyB a k ++ Wm.numB (a k).toNat
theorem bodyB_len (a : Nat → Int) (k : Nat) : (bodyB a k).length ≤ 7 * k := by
  induction k with
  | zero => simp [bodyB]
  | succ k ih => rw [bodyB, List.length_append]; have := numB_small (a k).toNat; omega
/-- a vector's bytes -/
def vBytes (a : Nat → Int) : List UInt8 := Wm.numB (usedF a) ++ bodyB a (usedF a)
/-- what Put answers -/
def vPut (a : Nat → Int) : List UInt8 × Nat := if vRight a = true then (vBytes a, 0) else ([], 1)
theorem numW_small {n : Int} (h0 : 0 ≤ n) (h1 : n ≤ 512) : numW n = (Wm.numB n.toNat, 0) := by unfold numW; rw [if_pos (by omega)]
theorem usedF_le (a : Nat → Int) : usedF a ≤ 16 := usedTo_le a 16

set_option maxRecDepth 100000 in
set_option maxHeartbeats 2000000 in
theorem put_any (a : Nat → Int) (w : World) : Calls Try.prog 5 #[.agg (vecA a)] w (Wrote 5 w (vPut a)) := by
  obtain ⟨i0, hi, hz0, hz1, hz2⟩ := info_parts info_u8
  have V := VAt.new w a 25
  have HV := Lib.hid V
  have HB0 := Lib.hid (Below.refl (w.heap.size + 1) (w.alloc (.cells (vecA a) 25)))
  have HBW := Lib.hid ((Below.refl w.heap.size w).alloc (Nat.le_refl _) (.cells (vecA a) 25))
  have HC := Lib.hid (fun W => right_any a W)
  have HU := Lib.hid (fun W => used_any a W)
  by_cases hr : vRight a = true
  · have HR := Lib.hid hr
    have HT := Lib.hid (show vPut a = (vBytes a, 0) from by unfold vPut; rw [if_pos hr])
    have hu := usedF_le a
    have HVB := Lib.hid (show vBytes a = Wm.numB (usedF a) ++ bodyB a (usedF a) from rfl)
    rw [hr] at HC
    clear hr
    have HN0 := Lib.hid (fun W => num_any (usedF a : Int) W)
    rw [numW_small (by omega) (by omega), Int.toNat_natCast] at HN0
    have hn0 := numB_small (usedF a)
    generalize usedF a = n at *
    generalize Wm.numB n = x at *
    go_enter Try.func5, Try.ntmps5
    go_wp2_with (refine wpList_load_vec vtP rfl _ rfl _ rfl _ (by assumption) ?_)
    refine (HC.out _).mono ?_
    rintro e w1 ⟨rfl, hb1⟩
    have HB1 := Lib.hid (HB0.out.trans (hb1.mono (by simp)))
    have V' := V.kept hb1
    clear hb1 V
    go_wp2_with (refine wpList_load_vec vtP rfl _ rfl _ rfl _ (by assumption) ?_)
    refine (HU.out _).mono ?_
    rintro e w2 ⟨rfl, hb2⟩
    have HB2 := Lib.hid (HB1.out.trans (hb2.mono (by have := HB1.out.size; simpa using this)))
    clear hb2 V'
    go_wp2_with fail
    refine (HN0.out _).mono ?_
    rintro e w3 ⟨v3, rfl, hown3, hb3⟩
    try dsimp only at hown3
    have hs3 := HB2.out.size
    rw [World.size_alloc] at hs3
    have HO3 := Lib.hid (show Own 5 w3 (w.heap.size + 1) v3 (x ++ bodyB a 0) from by rw [bodyB, List.append_nil]; exact hown3.base hs3)
    have HB3 := Lib.hid (HB2.out.trans (hb3.mono hs3))
    have hsl := fun (W : World) => vtP.slice W w.heap.size n hu
    clear hown3 hb3
    go_wp2
    go_loopw [5, 24] (fun v i wr => ∃ k : Nat, k ≤ n ∧ i = .int .i64 (k : Int) ∧ Own 5 wr (w.heap.size + 1) v (x ++ bodyB a k) ∧ Below (w.heap.size + 1) (w.alloc (.cells (vecA a) 25)) wr) (fun _ i _ => n - (intOf i).toNat)
    case atStart => exact ⟨0, Nat.zero_le _, rfl, HO3.out, HB3.out⟩
    case round =>
      obtain ⟨k, hk, rfl, ho, hb⟩ := hrel
      have HO := Lib.hid ho
      have HB := Lib.hid hb
      have hs0 := hb.size
      rw [World.size_alloc] at hs0
      clear ho hb
      by_cases hlt : k < n
      · have c1 := (HV.out.below HB.out (Nat.lt_succ_self _)).cell k (by omega)
        obtain ⟨r0, r1⟩ := vRight_iff.1 HR.out k (by omega)
        have HN := Lib.hid (fun W => num_any (a k) W)
        rw [numW_small r0 r1] at HN
        have hy := numB_small (a k).toNat
        have hbl := bodyB_len a k
        have HS := Lib.hid (show bodyB a (k + 1) = bodyB a k ++ Wm.numB (a k).toNat from rfl)
        generalize Wm.numB (a k).toNat = y at *
        clear r0 r1
        go_wp2_with fail
        refine (HN.out _).mono ?_
        rintro e w4 ⟨v4, rfl, hown4, hb4⟩
        try dsimp only at hown4
        have HO4 := Lib.hid (HO.out.below hb4)
        have HB4 := Lib.hid (HB.out.trans (hb4.mono hs0))
        have hs4 := HB4.out.size
        rw [World.size_alloc] at hs4
        obtain ⟨p4, k4, rfl, hbs4, -, -, hpn4, -⟩ := hown4.bs
        have HBS := Lib.hid hbs4
        have HPN := Lib.hid hpn4
        clear hown4 hb4 hbs4 hpn4 c1
        go_wp2_with (at_builtin; refine wpList_append_bs rfl _ _ 24 rfl (w.heap.size + 1) 5 i0 Try.underlying24 hi hz0 hz1 hz2 _ _ rfl HO4.out p4 k4 y rfl HBS.out HPN.out ?b0 ?b1 ?_)
        case b0 => rw [List.length_append]; omega
        case b1 => omega
        intro v5 w5 hown5 hbel5 hgrow5 hnil5
        clear hgrow5 hnil5
        have HO5 := Lib.hid (show Own 5 w5 (w.heap.size + 1) v5 (x ++ bodyB a (k + 1)) from by rw [HS.out]; first | exact hown5 | (rw [← List.append_assoc]; exact hown5))
        have HB5 := Lib.hid (HB4.out.trans hbel5)
        clear hown5 hbel5
        go_wp2
        go_roundw
        case rel => exact ⟨k + 1, by omega, by go_num, HO5.out, HB5.out⟩
        case measure => simp [intOf]; omega
      · obtain rfl : k = n := by omega
        have HF := Lib.hid (show Own 5 wr w.heap.size _ (x ++ bodyB a k) from HO.out.base (by omega))
        have HBF := Lib.hid (HBW.out.trans (HB.out.mono (by omega)))
        go_wp2
        go_ret2
        rw [HT.out, HVB.out]
        exact ⟨_, rfl, HF.out, HBF.out⟩
  · have HT := Lib.hid (show vPut a = ([], 1) from by unfold vPut; rw [if_neg hr])
    rw [show vRight a = false by simpa using hr] at HC
    clear hr
    go_enter Try.func5, Try.ntmps5
    go_wp2_with (refine wpList_load_vec vtP rfl _ rfl _ rfl _ (by assumption) ?_)
    refine (HC.out _).mono ?_
    rintro e w1 ⟨rfl, hb1⟩
    have HB1 := Lib.hid (HBW.out.trans (hb1.mono HBW.out.size))
    clear hb1 V
    go_wp2
    go_ret2
    rw [HT.out]
    exact ⟨_, rfl, Own.nil _ _ _, HB1.out⟩

set_option maxRecDepth 100000 in
set_option maxHeartbeats 2000000 in
theorem refPut_any (a : Nat → Int) (w : World) : Calls Try.prog 6 #[.agg (vecA a)] w (Made 5 w (vPut a).1) := by
  obtain ⟨i0, hi, hz0, hz1, hz2⟩ := info_parts info_u8
  have V := VAt.new w a 23
  have HV := Lib.hid V
  have HB0 := Lib.hid (Below.refl (w.heap.size + 1) (w.alloc (.cells (vecA a) 23)))
  have HBW := Lib.hid ((Below.refl w.heap.size w).alloc (Nat.le_refl _) (.cells (vecA a) 23))
  have HC := Lib.hid (fun W => refRight_any a W)
  by_cases hr : vRight a = true
  · have HR := Lib.hid hr
    have HT := Lib.hid (show (vPut a).1 = vBytes a from by unfold vPut; rw [if_pos hr])
    have hu := usedF_le a
    have HVB := Lib.hid (show vBytes a = Wm.numB (usedF a) ++ bodyB a (usedF a) from rfl)
    rw [hr] at HC
    clear hr
    have HN0 := Lib.hid (fun W => refNum_any (usedF a : Int) W)
    rw [numW_small (by omega) (by omega), Int.toNat_natCast] at HN0
    have hn0 := numB_small (usedF a)
    have HUD := Lib.hid (show usedF a = usedTo a 16 from rfl)
    generalize usedF a = n at *
    generalize Wm.numB n = x at *
    go_enter Try.func6, Try.ntmps6
    go_wp2_with (refine wpList_load_vec vtR rfl _ rfl _ rfl _ (by assumption) ?_)
    refine (HC.out _).mono ?_
    rintro e w1 ⟨rfl, hb1⟩
    have HB1 := Lib.hid (HB0.out.trans (hb1.mono (by simp)))
    have HV1 := Lib.hid (V.kept hb1)
    clear hb1 V
    go_wp2
    go_loop [3] (fun i => ∃ k : Nat, k ≤ 16 ∧ i = .int .i64 (k : Int) ∧ n = usedTo a k) (fun i => (intOf i).toNat)
    case atStart => exact ⟨16, Nat.le_refl _, rfl, HUD.out⟩
    case round =>
    obtain ⟨k, hk, rfl, ho⟩ := hrel
    have HOU := Lib.hid ho
    clear ho
    by_cases hz : k = n
    · obtain rfl := hz
      have HV0 := Lib.hid (HV1.out)
      rcases Nat.eq_zero_or_pos k with h0 | h0
      · have d0 : decide (0 < (k : Int)) = false := decide_eq_false (by omega)
        have dF : (0 < k) = False := eq_false (by omega)
        clear h0
        go_wp2_with fail
        refine (HN0.out _).mono ?_
        rintro e w3 ⟨v3, rfl, hown3, hb3⟩
        try dsimp only at hown3
        have hs3 := HB1.out.size
        rw [World.size_alloc] at hs3
        have HO3 := Lib.hid (show Own 5 w3 (w.heap.size + 1) v3 (x ++ bodyB a 0) from by rw [bodyB, List.append_nil]; exact hown3.base hs3)
        have HB3 := Lib.hid (HB1.out.trans (hb3.mono hs3))
        clear hown3 hb3
        obtain ⟨n, hn⟩ : ∃ n, n = k := ⟨_, rfl⟩
        subst hn
        try clear dF
        try clear c1 hl e2
        go_wp2
        go_loopw [4, 5] (fun v i wr => ∃ k : Nat, k ≤ n ∧ i = .int .i64 (k : Int) ∧ Own 5 wr (w.heap.size + 1) v (x ++ bodyB a k) ∧ Below (w.heap.size + 1) (w.alloc (.cells (vecA a) 23)) wr) (fun _ i _ => n - (intOf i).toNat)
        case atStart => exact ⟨0, Nat.zero_le _, rfl, HO3.out, HB3.out⟩
        case round =>
          obtain ⟨k, hk, rfl, ho, hb⟩ := hrel
          have HO := Lib.hid ho
          have HB := Lib.hid hb
          have hs0 := hb.size
          rw [World.size_alloc] at hs0
          clear ho hb
          by_cases hlt : k < n
          · have c1 := (HV.out.below HB.out (Nat.lt_succ_self _)).cell k (by omega)
            obtain ⟨r0, r1⟩ := vRight_iff.1 HR.out k (by omega)
            have HN := Lib.hid (fun W => refNum_any (a k) W)
            rw [numW_small r0 r1] at HN
            have hy := numB_small (a k).toNat
            have hbl := bodyB_len a k
            have HS := Lib.hid (show bodyB a (k + 1) = bodyB a k ++ Wm.numB (a k).toNat from rfl)
            generalize Wm.numB (a k).toNat = y at *
            clear r0 r1
            go_wp2_with fail
            refine (HN.out _).mono ?_
            rintro e w4 ⟨v4, rfl, hown4, hb4⟩
            try dsimp only at hown4
            have HO4 := Lib.hid (HO.out.below hb4)
            have HB4 := Lib.hid (HB.out.trans (hb4.mono hs0))
            have hs4 := HB4.out.size
            rw [World.size_alloc] at hs4
            obtain ⟨p4, k4, rfl, hbs4, -, -, hpn4, -⟩ := hown4.bs
            have HBS := Lib.hid hbs4
            have HPN := Lib.hid hpn4
            clear hown4 hb4 hbs4 hpn4 c1
            go_wp2_with (at_builtin; refine wpList_append_bs rfl _ _ 24 rfl (w.heap.size + 1) 5 i0 Try.underlying24 hi hz0 hz1 hz2 _ _ rfl HO4.out p4 k4 y rfl HBS.out HPN.out ?b0 ?b1 ?_)
            case b0 => rw [List.length_append]; omega
            case b1 => omega
            intro v5 w5 hown5 hbel5 hgrow5 hnil5
            clear hgrow5 hnil5
            have HO5 := Lib.hid (show Own 5 w5 (w.heap.size + 1) v5 (x ++ bodyB a (k + 1)) from by rw [HS.out]; first | exact hown5 | (rw [← List.append_assoc]; exact hown5))
            have HB5 := Lib.hid (HB4.out.trans hbel5)
            clear hown5 hbel5
            go_wp2
            go_roundw
            case rel => exact ⟨k + 1, by omega, by go_num, HO5.out, HB5.out⟩
            case measure => simp [intOf]; omega
          · obtain rfl : k = n := by omega
            have HF := Lib.hid (show Own 5 wr w.heap.size _ (x ++ bodyB a k) from HO.out.base (by omega))
            have HBF := Lib.hid (HBW.out.trans (HB.out.mono (by omega)))
            go_wp2
            go_ret
            rw [HT.out, HVB.out]
            exact ⟨_, rfl, HF.out, HBF.out⟩
      · have d0 : decide (0 < (k : Int)) = true := decide_eq_true (by omega)
        have HL := Lib.hid (show a (k - 1) ≠ 0 from by have := usedTo_last a k (by rw [← HOU.out]; exact h0); rwa [← HOU.out] at this)
        have c1 := HV0.out.cell (k - 1) (by omega)
        have hl := HL.out
        have e2 : ((k : Int) - 1).toNat = k - 1 := by omega
        go_wp2_with fail
        refine (HN0.out _).mono ?_
        rintro e w3 ⟨v3, rfl, hown3, hb3⟩
        try dsimp only at hown3
        have hs3 := HB1.out.size
        rw [World.size_alloc] at hs3
        have HO3 := Lib.hid (show Own 5 w3 (w.heap.size + 1) v3 (x ++ bodyB a 0) from by rw [bodyB, List.append_nil]; exact hown3.base hs3)
        have HB3 := Lib.hid (HB1.out.trans (hb3.mono hs3))
        clear hown3 hb3
        obtain ⟨n, hn⟩ : ∃ n, n = k := ⟨_, rfl⟩
        subst hn
        try clear dF
        try clear c1 hl e2
        go_wp2
        go_loopw [4, 5] (fun v i wr => ∃ k : Nat, k ≤ n ∧ i = .int .i64 (k : Int) ∧ Own 5 wr (w.heap.size + 1) v (x ++ bodyB a k) ∧ Below (w.heap.size + 1) (w.alloc (.cells (vecA a) 23)) wr) (fun _ i _ => n - (intOf i).toNat)
        case atStart => exact ⟨0, Nat.zero_le _, rfl, HO3.out, HB3.out⟩
        case round =>
          obtain ⟨k, hk, rfl, ho, hb⟩ := hrel
          have HO := Lib.hid ho
          have HB := Lib.hid hb
          have hs0 := hb.size
          rw [World.size_alloc] at hs0
          clear ho hb
          by_cases hlt : k < n
          · have c1 := (HV.out.below HB.out (Nat.lt_succ_self _)).cell k (by omega)
            obtain ⟨r0, r1⟩ := vRight_iff.1 HR.out k (by omega)
            have HN := Lib.hid (fun W => refNum_any (a k) W)
            rw [numW_small r0 r1] at HN
            have hy := numB_small (a k).toNat
            have hbl := bodyB_len a k
            have HS := Lib.hid (show bodyB a (k + 1) = bodyB a k ++ Wm.numB (a k).toNat from rfl)
            generalize Wm.numB (a k).toNat = y at *
            clear r0 r1
            go_wp2_with fail
            refine (HN.out _).mono ?_
            rintro e w4 ⟨v4, rfl, hown4, hb4⟩
            try dsimp only at hown4
            have HO4 := Lib.hid (HO.out.below hb4)
            have HB4 := Lib.hid (HB.out.trans (hb4.mono hs0))
            have hs4 := HB4.out.size
            rw [World.size_alloc] at hs4
            obtain ⟨p4, k4, rfl, hbs4, -, -, hpn4, -⟩ := hown4.bs
            have HBS := Lib.hid hbs4
            have HPN := Lib.hid hpn4
            clear hown4 hb4 hbs4 hpn4 c1
            go_wp2_with (at_builtin; refine wpList_append_bs rfl _ _ 24 rfl (w.heap.size + 1) 5 i0 Try.underlying24 hi hz0 hz1 hz2 _ _ rfl HO4.out p4 k4 y rfl HBS.out HPN.out ?b0 ?b1 ?_)
            case b0 => rw [List.length_append]; omega
            case b1 => omega
            intro v5 w5 hown5 hbel5 hgrow5 hnil5
            clear hgrow5 hnil5
            have HO5 := Lib.hid (show Own 5 w5 (w.heap.size + 1) v5 (x ++ bodyB a (k + 1)) from by rw [HS.out]; first | exact hown5 | (rw [← List.append_assoc]; exact hown5))
            have HB5 := Lib.hid (HB4.out.trans hbel5)
            clear hown5 hbel5
            go_wp2
            go_roundw
            case rel => exact ⟨k + 1, by omega, by go_num, HO5.out, HB5.out⟩
            case measure => simp [intOf]; omega
          · obtain rfl : k = n := by omega
            have HF := Lib.hid (show Own 5 wr w.heap.size _ (x ++ bodyB a k) from HO.out.base (by omega))
            have HBF := Lib.hid (HBW.out.trans (HB.out.mono (by omega)))
            go_wp2
            go_ret
            rw [HT.out, HVB.out]
            exact ⟨_, rfl, HF.out, HBF.out⟩
    · rcases k with _ | k
      · exact absurd (show 0 = n from HOU.out.symm) hz
      · have h0 : a k = 0 := by
          rcases Int.decEq (a k) 0 with h | h
          · exact absurd ((usedTo_some h).symm.trans HOU.out.symm) hz
          · exact h
        have HN := Lib.hid (HOU.out.trans (usedTo_zero h0))
        have c1 := HV1.out.cell k (by omega)
        rw [h0] at c1
        have e1 : ((k + 1 : Nat) : Int) - 1 = (k : Int) := by omega
        have d0 : decide (0 < ((k + 1 : Nat) : Int)) = true := decide_eq_true (by omega)
        clear h0 hz
        go_wp2
        go_round
        case rel => exact ⟨k, by omega, by go_num, HN.out⟩
        case measure => simp [intOf]
  · have HT := Lib.hid (show (vPut a).1 = [] from by unfold vPut; rw [if_neg hr])
    rw [show vRight a = false by simpa using hr] at HC
    clear hr
    go_enter Try.func6, Try.ntmps6
    go_wp2_with (refine wpList_load_vec vtR rfl _ rfl _ rfl _ (by assumption) ?_)
    refine (HC.out _).mono ?_
    rintro e w1 ⟨rfl, hb1⟩
    have HB1 := Lib.hid (HBW.out.trans (hb1.mono HBW.out.size))
    clear hb1 V
    go_wp2
    go_ret
    rw [HT.out]
    exact ⟨_, rfl, Own.nil _ _ _, HB1.out⟩

end Go.Proofs.Ytcmjjkkbocekbaa
