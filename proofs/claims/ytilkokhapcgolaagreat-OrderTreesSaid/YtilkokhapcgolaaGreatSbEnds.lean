/-
  THE PROGRAM's ends and Key.
  No conditions but sizes.
-/
import Derived.Test.YtilkokhapcgolaaGreatSbRow
import Derived.Test.YtilkokhapcgolaaGreatKBetween
namespace Go.Proofs.YtilkokhapcgolaaGreat
open Go.RowKit

/-- what ends answers, as a value -/
def endsV (x : ByteArray × ByteArray × Int) : Value := .tuple #[.string x.1, .string x.2.1, .int .i64 x.2.2]
theorem same_str (a b : ByteArray) : (a.toList == b.toList) = decide (a = b) := by
  rw [ByteArray.toList_eq, ByteArray.toList_eq]
  by_cases e : a = b
  · subst e; simp
  · rw [decide_eq_false e]
    exact beq_eq_false_iff_ne.2 fun h => e (Sbm.key_ext h)
theorem str_empty (a : ByteArray) : a.toList.isEmpty = decide (a = ⟨#[]⟩) := by
  rw [ByteArray.toList_eq]
  by_cases e : a = ⟨#[]⟩
  · subst e; rfl
  · rw [decide_eq_false e]
    cases h : a.data.toList with
    | nil => exact absurd ((Sbm.empty_list a).1 h) e
    | cons => rfl

set_option maxRecDepth 100000 in
set_option maxHeartbeats 4000000 in
theorem ends_sib (p : Option Addr) (cap : Nat) (l : List Sbm.Sib) (at' : Int) (w : World) (h : Rd w p (sbCells l)) (hl : l.length ≤ 5000) :
    Calls Tryz.prog 38 #[.slice p l.length cap, .int .i64 at'] w fun e w' => e = .returned (endsV (Sbm.ends l at')) ∧ Below w.heap.size w w' := by
  have HI := Lib.hid (isRow_any p cap l w h hl)
  have HR := Lib.hid h
  clear h
  by_cases hb : ¬ Sbm.Row l ∨ at' < 0 ∨ (l.length : Int) < at'
  · have HE := Lib.hid (show Sbm.ends l at' = (⟨#[]⟩, ⟨#[]⟩, 1) from if_pos hb)
    cases hr : decide (Sbm.Row l)
    · rw [hr] at HI
      clear hb hr
      go_enter Tryz.func38, Tryz.ntmps38
      go_wp2_with fail
      refine HI.out.mono ?_
      rintro e w1 ⟨rfl, hb1⟩
      have HB := Lib.hid hb1
      clear hb1
      go_wp2
      go_ret3
      rw [HE.out]
      exact ⟨rfl, HB.out⟩
    · rw [hr] at HI
      have hb2 := hb.resolve_left (fun h => h (of_decide_eq_true hr))
      clear hb hr
      by_cases h1 : at' < 0
      · have d1 : decide (at' < 0) = true := decide_eq_true h1
        clear hb2
        go_enter Tryz.func38, Tryz.ntmps38
        go_wp2_with fail
        refine HI.out.mono ?_
        rintro e w1 ⟨rfl, hb1⟩
        have HB := Lib.hid hb1
        clear hb1
        go_wp2
        go_ret3
        rw [HE.out]
        exact ⟨rfl, HB.out⟩
      · have d1 : decide (at' < 0) = false := decide_eq_false h1
        have d2 : decide ((l.length : Int) < at') = true := decide_eq_true (by omega)
        clear hb2
        go_enter Tryz.func38, Tryz.ntmps38
        go_wp2_with fail
        refine HI.out.mono ?_
        rintro e w1 ⟨rfl, hb1⟩
        have HB := Lib.hid hb1
        clear hb1
        go_wp2
        go_ret3
        rw [HE.out]
        exact ⟨rfl, HB.out⟩
  · have hrow : Sbm.Row l := Classical.byContradiction fun h => hb (Or.inl h)
    rw [decide_eq_true hrow] at HI
    have HB0 := Lib.hid hb
    obtain ⟨n, rfl⟩ : ∃ n : Nat, at' = (n : Int) := ⟨at'.toNat, by omega⟩
    have hn : n ≤ l.length := by omega
    have hn5 : n ≤ 5000 := by omega
    clear hb hrow
    cases n with
    | zero =>
      rw [show ((0 : Nat) : Int) = 0 from rfl] at *
      by_cases h0 : l.length = 0
      · obtain rfl := List.eq_nil_of_length_eq_zero h0
        have HE := Lib.hid (show Sbm.ends [] 0 = (⟨#[]⟩, ⟨#[]⟩, 0) from by
          unfold Sbm.ends
          rw [if_neg HB0.out, if_pos (by rfl)]
          rfl)
        clear hn h0 HB0 HR
        simp only [List.length_nil] at HI ⊢
        go_enter Tryz.func38, Tryz.ntmps38
        go_wp2_with fail
        refine HI.out.mono ?_
        rintro e w1 ⟨rfl, hb1⟩
        have HB := Lib.hid hb1
        clear hb1
        go_wp2
        go_ret3
        rw [HE.out]
        exact ⟨rfl, HB.out⟩
      · have d1 : ((0 : Int) == (l.length : Int)) = false := beq_eq_false_iff_ne.2 (by omega)
        have h01 : (0 : Int) < (l.length : Int) := by omega
        have h02 : 0 < l.length := by omega
        have HX := Lib.hid h02
        obtain ⟨b, o, rfl, -⟩ := HR.out.addr (by rw [sbCells_length]; omega)
        have HEQ := Lib.hid (show Sbm.ends l 0 = if (Sbm.sbOf l 0).1 = ⟨#[]⟩ then (⟨#[]⟩, ⟨#[]⟩, 1) else (⟨#[]⟩, (Sbm.sbOf l 0).1, 0) from by
          unfold Sbm.ends
          rw [if_neg HB0.out, if_neg (by omega), if_neg (by omega), Int.toNat_zero, if_neg (show ¬ (0 : Int) < 0 by omega)])
        have HS := Lib.hid (str_empty (Sbm.sbOf l 0).1)
        have h0' : ¬ l.length = 0 := h0
        clear h0
        cases hd : decide ((Sbm.sbOf l 0).1 = ⟨#[]⟩)
        · rw [hd] at HS
          have hs := HS.out
          have HE := Lib.hid (show Sbm.ends l 0 = (⟨#[]⟩, (Sbm.sbOf l 0).1, 0) from by rw [HEQ.out, if_neg (of_decide_eq_false hd)])
          clear hd HS HEQ
          go_enter Tryz.func38, Tryz.ntmps38
          go_wp2_with fail
          refine HI.out.mono ?_
          rintro e w1 ⟨rfl, hb1⟩
          have HB := Lib.hid hb1
          obtain ⟨y0, -, -⟩ := (HR.out.below hb1).sb 0 HX.out
          simp only [Nat.zero_mul, Nat.add_zero] at y0
          clear hb1
          go_wp2
          go_ret3
          rw [HE.out]
          exact ⟨rfl, HB.out⟩
        · rw [hd] at HS
          have hs := HS.out
          have HE := Lib.hid (show Sbm.ends l 0 = (⟨#[]⟩, ⟨#[]⟩, 1) from by rw [HEQ.out, if_pos (of_decide_eq_true hd)])
          clear hd HS HEQ
          go_enter Tryz.func38, Tryz.ntmps38
          go_wp2_with fail
          refine HI.out.mono ?_
          rintro e w1 ⟨rfl, hb1⟩
          have HB := Lib.hid hb1
          obtain ⟨y0, -, -⟩ := (HR.out.below hb1).sb 0 HX.out
          simp only [Nat.zero_mul, Nat.add_zero] at y0
          clear hb1
          go_wp2
          go_ret3
          rw [HE.out]
          exact ⟨rfl, HB.out⟩
    | succ m =>
      have hm0 : m < l.length := by omega
      have HX := Lib.hid hm0
      have hwm : IntKind.i64.wrap (m : Int) = (m : Int) := wraps_i64 _ (by omega) (by omega)
      have hm1 : (0 : Int) < (m : Int) + 1 := by omega
      have dm1 : decide ((m : Int) + 1 < 0) = false := decide_eq_false (by omega)
      have dm2 : decide ((l.length : Int) < (m : Int) + 1) = false := decide_eq_false (by omega)
      have dm3 : decide (0 < (m : Int) + 1) = true := decide_eq_true (by omega)
      obtain ⟨b, o, rfl, -⟩ := HR.out.addr (by rw [sbCells_length]; omega)
      have em : (((m + 1 : Nat) : Int) - 1).toNat = m := by omega
      rw [Int.natCast_add, show ((1 : Nat) : Int) = 1 from rfl] at *
      by_cases h0 : m + 1 = l.length
      · have HE := Lib.hid (show Sbm.ends l ((m : Int) + 1) = ((Sbm.sbOf l m).1, ⟨#[]⟩, 0) from by
          unfold Sbm.ends
          rw [if_neg HB0.out, if_pos (by omega), if_pos (by omega), em])
        have d1 : ((m : Int) + 1 == (l.length : Int)) = true := by rw [← h0]; simp
        have d4 : (m : Int) + 1 = (l.length : Int) := by omega
        have HD := Lib.hid (And.intro d4 h0)
        clear hn h0 d4 HB0
        go_enter Tryz.func38, Tryz.ntmps38
        go_wp2_with fail
        refine HI.out.mono ?_
        rintro e w1 ⟨rfl, hb1⟩
        have HB := Lib.hid hb1
        obtain ⟨y0, -, -⟩ := (HR.out.below hb1).sb m HX.out
        clear hb1
        go_wp2
        go_ret3
        rw [HE.out]
        exact ⟨rfl, HB.out⟩
      · have hm2 : m + 1 < l.length := by omega
        have HX1 := Lib.hid hm2
        have hm3 : (m : Int) + 1 < (l.length : Int) := by omega
        have hm4 : 0 ≤ (m : Int) + 1 := by omega
        have d1 : ((m : Int) + 1 == (l.length : Int)) = false := by simpa using (show ¬ (m : Int) + 1 = (l.length : Int) by omega)
        have e1 : ((m : Int) + 1).toNat = m + 1 := by omega
        have HEQ := Lib.hid (show Sbm.ends l ((m : Int) + 1) = if (Sbm.sbOf l m).1 = (Sbm.sbOf l (m + 1)).1 then (⟨#[]⟩, ⟨#[]⟩, 32) else if (Sbm.sbOf l (m + 1)).1 = ⟨#[]⟩ then (⟨#[]⟩, ⟨#[]⟩, 1) else ((Sbm.sbOf l m).1, (Sbm.sbOf l (m + 1)).1, 0) from by
          unfold Sbm.ends
          rw [if_neg HB0.out, if_neg (by omega), em, e1, if_pos (by omega : (0 : Int) < (m : Int) + 1)]
          by_cases e : (Sbm.sbOf l m).1 = (Sbm.sbOf l (m + 1)).1
          · rw [if_pos ⟨hm1, e⟩, if_pos e]
          · rw [if_neg (fun h => e h.2), if_neg e])
        have HS := Lib.hid (str_empty (Sbm.sbOf l (m + 1)).1)
        have HQ := Lib.hid (same_str (Sbm.sbOf l m).1 (Sbm.sbOf l (m + 1)).1)
        clear hn h0 HB0 em e1
        cases hq : decide ((Sbm.sbOf l m).1 = (Sbm.sbOf l (m + 1)).1)
        · rw [hq] at HQ
          have hqq := HQ.out
          cases hd : decide ((Sbm.sbOf l (m + 1)).1 = ⟨#[]⟩)
          all_goals
            rw [hd] at HS
            have hs := HS.out
            first
            | have HE := Lib.hid (show Sbm.ends l ((m : Int) + 1) = ((Sbm.sbOf l m).1, (Sbm.sbOf l (m + 1)).1, 0) from by rw [HEQ.out, if_neg (of_decide_eq_false hq), if_neg (of_decide_eq_false hd)])
            | have HE := Lib.hid (show Sbm.ends l ((m : Int) + 1) = (⟨#[]⟩, ⟨#[]⟩, 1) from by rw [HEQ.out, if_neg (of_decide_eq_false hq), if_pos (of_decide_eq_true hd)])
            clear hd HS HEQ HQ hq
            go_enter Tryz.func38, Tryz.ntmps38
            go_wp2_with fail
            refine HI.out.mono ?_
            rintro e w1 ⟨rfl, hb1⟩
            have HB := Lib.hid hb1
            obtain ⟨y0, -, -⟩ := (HR.out.below hb1).sb m HX.out
            obtain ⟨z0, -, -⟩ := (HR.out.below hb1).sb (m + 1) HX1.out
            clear hb1
            go_wp2
            go_ret3
            rw [HE.out]
            exact ⟨rfl, HB.out⟩
        · rw [hq] at HQ
          have hqq := HQ.out
          have HE := Lib.hid (show Sbm.ends l ((m : Int) + 1) = (⟨#[]⟩, ⟨#[]⟩, 32) from by rw [HEQ.out, if_pos (of_decide_eq_true hq)])
          clear HS HEQ HQ hq
          go_enter Tryz.func38, Tryz.ntmps38
          go_wp2_with fail
          refine HI.out.mono ?_
          rintro e w1 ⟨rfl, hb1⟩
          have HB := Lib.hid hb1
          obtain ⟨y0, -, -⟩ := (HR.out.below hb1).sb m HX.out
          obtain ⟨z0, -, -⟩ := (HR.out.below hb1).sb (m + 1) HX1.out
          clear hb1
          go_wp2
          go_ret3
          rw [HE.out]
          exact ⟨rfl, HB.out⟩

end Go.Proofs.YtilkokhapcgolaaGreat
