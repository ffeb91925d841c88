/-
  Rising and Place, the program's and the document's; slices.BinarySearchFunc at stamps; Same of the law.
  No conditions but sizes.
-/
import Derived.Test.YtmenlfgfhnnmgaaQMerge
namespace Go.Proofs.Ytmenlfgfhnnmgaa
open Go.RowKit

/-- do they rise up to place k? -/
def RisesTo (l : List Qm.St) (k : Nat) : Prop := ∀ j, 0 < j → j < k → Qm.ltS (Qm.stOf l (j - 1)) (Qm.stOf l j)
instance (l : List Qm.St) : Decidable (Qm.Rising l) := by unfold Qm.Rising; exact inferInstance
theorem risesTo_all (l : List Qm.St) : RisesTo l l.length ↔ Qm.Rising l := (Qm.rising_iff l).symm
theorem RisesTo.succ {l : List Qm.St} {k : Nat} (h : RisesTo l k) (hk : Qm.ltS (Qm.stOf l (k - 1)) (Qm.stOf l k)) : RisesTo l (k + 1) := fun j h0 hj => by
  by_cases e : j = k
  · subst e; exact hk
  · exact h j h0 (by omega)

set_option maxRecDepth 100000 in
set_option maxHeartbeats 2000000 in
theorem rising_any (p : Option Addr) (cap : Nat) (l : List Qm.St) (w : World) (h : Rd w p (stCells l)) (hl : l.length ≤ 5000) :
    Calls Try.prog 23 #[.slice p l.length cap] w fun e w' => e = .returned (.bool (decide (Qm.Rising l))) ∧ Below w.heap.size w w' := by
  have HR := Lib.hid h
  clear h
  go_enter Try.func23, Try.ntmps23
  go_wp2
  go_loopw [3] (fun i wr => ∃ k : Nat, 1 ≤ k ∧ i = .int .i64 (k : Int) ∧ (k ≤ l.length ∨ k = 1) ∧ RisesTo l k ∧ Below w.heap.size w wr) (fun i _ => l.length - (intOf i).toNat)
  case atStart => exact ⟨1, Nat.le_refl _, rfl, Or.inr rfl, fun j a b => by omega, Below.refl _ _⟩
  case round =>
    obtain ⟨k, hk1, rfl, hk, hr, hb⟩ := hrel
    have HRT := Lib.hid hr
    have HB := Lib.hid hb
    by_cases hlt : k < l.length
    · have hrd := HR.out.below hb
      obtain ⟨b, o, rfl, -⟩ := hrd.addr (by rw [stCells_length]; omega)
      obtain ⟨m, hm⟩ : ∃ m : Nat, m = k - 1 := ⟨_, rfl⟩
      have hmi : (k : Int) - 1 = (m : Int) := by omega
      have hml : m < l.length := by omega
      have wk : IntKind.i64.wrap ((k : Int) - 1) = (m : Int) := by rw [wraps_i64 _ (by omega) (by omega)]; exact hmi
      have wk2 : IntKind.i64.wrap (m : Int) = (m : Int) := wraps_i64 _ (by omega) (by omega)
      have hm0 : (0 : Int) ≤ (m : Int) := by omega
      have hm1 : ((m : Int)).toNat = m := by omega
      obtain ⟨x0, x1⟩ := hrd.st m hml
      obtain ⟨y0, y1⟩ := hrd.st k hlt
      have HM := Lib.hid hm
      clear hr hb hrd hk hm
      have HLT := Lib.hid (show Qm.ltS (Qm.stOf l m) (Qm.stOf l k) → RisesTo l (k + 1) from fun h => HRT.out.succ (by rw [← HM.out]; exact h))
      have HNL := Lib.hid (show ¬ Qm.ltS (Qm.stOf l m) (Qm.stOf l k) → decide (Qm.Rising l) = false from fun h => decide_eq_false (fun hr => h (by rw [HM.out]; exact (Qm.rising_iff l).1 hr k (by omega) hlt)))
      have HC := Lib.hid (fun W => compare_any (Qm.stOf l m).1 (Qm.stOf l m).2 (Qm.stOf l k).1 (Qm.stOf l k).2 W)
      by_cases hs : Qm.ltS (Qm.stOf l m) (Qm.stOf l k)
      · have hv : cmpS (Qm.stOf l m).1 (Qm.stOf l m).2 (Qm.stOf l k).1 (Qm.stOf l k).2 = -1 := cmpV_lt hs
        rw [hv] at HC
        have HS := Lib.hid hs
        clear hv hs
        go_wp2
        go_region_with (go_at_call 38; refine (HC.out _).mono ?_; rintro e w' ⟨rfl, hbc⟩)
        all_goals
          have HB2 := Lib.hid (HB.out.trans (((Below.refl wr.heap.size wr).drew.trans hbc).mono HB.out.size))
          clear hbc
          go_wp2
          go_roundw
          case rel => exact ⟨k + 1, by omega, by go_num, Or.inl (by omega), HLT.out HS.out, HB2.out⟩
          case measure => simp [intOf]; omega
      · have HV := Lib.hid (show cmpS (Qm.stOf l m).1 (Qm.stOf l m).2 (Qm.stOf l k).1 (Qm.stOf l k).2 = 0 ∨ cmpS (Qm.stOf l m).1 (Qm.stOf l m).2 (Qm.stOf l k).1 (Qm.stOf l k).2 = 1 from by
          rcases Qm.ltS_tri (Qm.stOf l m) (Qm.stOf l k) with h | h | h
          · exact absurd h hs
          · left; rw [h]; exact cmpV_eq _
          · right; exact cmpV_gt h)
        have HF := Lib.hid (HNL.out hs)
        clear hs
        rcases HV.out with hv | hv
        all_goals
          rw [hv] at HC
          clear hv
          go_wp2
          go_region_with (go_at_call 38; refine (HC.out _).mono ?_; rintro e w' ⟨rfl, hbc⟩)
          all_goals
            have HB2 := Lib.hid (HB.out.trans (((Below.refl wr.heap.size wr).drew.trans hbc).mono HB.out.size))
            clear hbc
            go_wp2
            go_ret
            rw [HF.out]
            exact ⟨rfl, HB2.out⟩
    · have HT := Lib.hid (show decide (Qm.Rising l) = true from decide_eq_true ((risesTo_all l).1 fun j a b => by
        rcases hk with hk | hk
        · exact HRT.out j a (by omega)
        · omega))
      clear hr hb hk
      go_wp2
      go_ret
      rw [HT.out]
      exact ⟨rfl, HB.out⟩

set_option maxRecDepth 100000 in
set_option maxHeartbeats 2000000 in
theorem refRising_any (p : Option Addr) (cap : Nat) (l : List Qm.St) (w : World) (h : Rd w p (stCells l)) (hl : l.length ≤ 5000) :
    Calls Try.prog 24 #[.slice p l.length cap] w fun e w' => e = .returned (.bool (decide (Qm.Rising l))) ∧ Below w.heap.size w w' := by
  have HR := Lib.hid h
  clear h
  go_enter Try.func24, Try.ntmps24
  go_wp2
  go_loopw [3] (fun i wr => ∃ k : Nat, 1 ≤ k ∧ i = .int .i64 (k : Int) ∧ (k ≤ l.length ∨ k = 1) ∧ RisesTo l k ∧ Below w.heap.size w wr) (fun i _ => l.length - (intOf i).toNat)
  case atStart => exact ⟨1, Nat.le_refl _, rfl, Or.inr rfl, fun j a b => by omega, Below.refl _ _⟩
  case round =>
    obtain ⟨k, hk1, rfl, hk, hr, hb⟩ := hrel
    have HRT := Lib.hid hr
    have HB := Lib.hid hb
    by_cases hlt : k < l.length
    · have hrd := HR.out.below hb
      obtain ⟨b, o, rfl, -⟩ := hrd.addr (by rw [stCells_length]; omega)
      obtain ⟨m, hm⟩ : ∃ m : Nat, m = k - 1 := ⟨_, rfl⟩
      have hmi : (k : Int) - 1 = (m : Int) := by omega
      have hml : m < l.length := by omega
      have wk : IntKind.i64.wrap ((k : Int) - 1) = (m : Int) := by rw [wraps_i64 _ (by omega) (by omega)]; exact hmi
      have wk2 : IntKind.i64.wrap (m : Int) = (m : Int) := wraps_i64 _ (by omega) (by omega)
      have hm0 : (0 : Int) ≤ (m : Int) := by omega
      have hm1 : ((m : Int)).toNat = m := by omega
      obtain ⟨x0, x1⟩ := hrd.st m hml
      obtain ⟨y0, y1⟩ := hrd.st k hlt
      have HM := Lib.hid hm
      clear hr hb hrd hk hm
      have HLT := Lib.hid (show Qm.ltS (Qm.stOf l m) (Qm.stOf l k) → RisesTo l (k + 1) from fun h => HRT.out.succ (by rw [← HM.out]; exact h))
      have HNL := Lib.hid (show ¬ Qm.ltS (Qm.stOf l m) (Qm.stOf l k) → decide (Qm.Rising l) = false from fun h => decide_eq_false (fun hr => h (by rw [HM.out]; exact (Qm.rising_iff l).1 hr k (by omega) hlt)))
      have HC := Lib.hid (fun W => refCompare_any (Qm.stOf l m).1 (Qm.stOf l m).2 (Qm.stOf l k).1 (Qm.stOf l k).2 W)
      by_cases hs : Qm.ltS (Qm.stOf l m) (Qm.stOf l k)
      · have hv : cmpS (Qm.stOf l m).1 (Qm.stOf l m).2 (Qm.stOf l k).1 (Qm.stOf l k).2 = -1 := cmpV_lt hs
        rw [hv] at HC
        have HS := Lib.hid hs
        clear hv hs
        go_wp2
        go_region_with (go_at_call 42; refine (HC.out _).mono ?_; rintro e w' ⟨rfl, hbc⟩)
        all_goals
          have HB2 := Lib.hid (HB.out.trans (((Below.refl wr.heap.size wr).drew.trans hbc).mono HB.out.size))
          clear hbc
          go_wp2
          go_roundw
          case rel => exact ⟨k + 1, by omega, by go_num, Or.inl (by omega), HLT.out HS.out, HB2.out⟩
          case measure => simp [intOf]; omega
      · have HV := Lib.hid (show cmpS (Qm.stOf l m).1 (Qm.stOf l m).2 (Qm.stOf l k).1 (Qm.stOf l k).2 = 0 ∨ cmpS (Qm.stOf l m).1 (Qm.stOf l m).2 (Qm.stOf l k).1 (Qm.stOf l k).2 = 1 from by
          rcases Qm.ltS_tri (Qm.stOf l m) (Qm.stOf l k) with h | h | h
          · exact absurd h hs
          · left; rw [h]; exact cmpV_eq _
          · right; exact cmpV_gt h)
        have HF := Lib.hid (HNL.out hs)
        clear hs
        rcases HV.out with hv | hv
        all_goals
          rw [hv] at HC
          clear hv
          go_wp2
          go_region_with (go_at_call 42; refine (HC.out _).mono ?_; rintro e w' ⟨rfl, hbc⟩)
          all_goals
            have HB2 := Lib.hid (HB.out.trans (((Below.refl wr.heap.size wr).drew.trans hbc).mono HB.out.size))
            clear hbc
            go_wp2
            go_ret
            rw [HF.out]
            exact ⟨rfl, HB2.out⟩
    · have HT := Lib.hid (show decide (Qm.Rising l) = true from decide_eq_true ((risesTo_all l).1 fun j a b => by
        rcases hk with hk | hk
        · exact HRT.out j a (by omega)
        · omega))
      clear hr hb hk
      go_wp2
      go_ret
      rw [HT.out]
      exact ⟨rfl, HB.out⟩

theorem same_cases (x y : Qm.St) : x = y ∨ (x ≠ y ∧ ((x.1 == y.1) : Bool) = false) ∨ (x ≠ y ∧ x.1 = y.1 ∧ ((x.2 == y.2) : Bool) = false) := st_cases x y

set_option maxRecDepth 100000 in
set_option maxHeartbeats 2000000 in
theorem same_any (p q : Option Addr) (c d : Nat) (l m : List Qm.St) (w : World) (h : Rd w p (stCells l)) (k : Rd w q (stCells m)) (hl : l.length ≤ 5000) :
    Calls Try.prog 19 #[.slice p l.length c, .slice q m.length d] w fun e w' => e = .returned (.bool (decide (l = m))) ∧ Below w.heap.size w w' := by
  have HL := Lib.hid h
  have HM := Lib.hid k
  clear h k
  by_cases hlen : l.length = m.length
  · have HLEN := Lib.hid hlen
    have hm5 : m.length ≤ 5000 := by omega
    clear hlen
    rw [← HLEN.out]
    go_enter Try.func19, Try.ntmps19
    go_wp2
    go_loopw [5] (fun i wr => ∃ k : Nat, k ≤ l.length ∧ i = .int .i64 (k : Int) ∧ (∀ j, j < k → Qm.stOf l j = Qm.stOf m j) ∧ Below w.heap.size w wr) (fun i _ => l.length - (intOf i).toNat)
    case atStart => exact ⟨0, Nat.zero_le _, rfl, fun j h => by omega, Below.refl _ _⟩
    case round =>
      obtain ⟨k, hk, rfl, hall, hb⟩ := hrel
      have HA := Lib.hid hall
      have HB := Lib.hid hb
      by_cases hlt : k < l.length
      · have hr1 := HL.out.below hb
        have hr2 := HM.out.below hb
        obtain ⟨b, o, rfl, -⟩ := hr1.addr (by rw [stCells_length]; omega)
        obtain ⟨b2, o2, rfl, -⟩ := hr2.addr (by rw [stCells_length, ← HLEN.out]; omega)
        obtain ⟨x0, x1⟩ := hr1.st k hlt
        obtain ⟨y0, y1⟩ := hr2.st k (by rw [← HLEN.out]; exact hlt)
        clear hall hb hr1 hr2
        rcases st_cases (Qm.stOf l k) (Qm.stOf m k) with he | ⟨hne, he⟩ | ⟨hne, he1, he⟩
        · have HE := Lib.hid he
          rw [he] at x0 x1
          clear he
          go_wp2
          go_region
          go_wp2
          go_roundw
          case rel => exact ⟨k + 1, by omega, by go_num, fun j hj => by
            by_cases e : j = k
            · subst e; exact HE.out
            · exact HA.out j (by omega), HB.out.drew⟩
          case measure => simp [intOf]; omega
        · have HF := Lib.hid (show decide (l = m) = false from decide_eq_false (fun e => hne (by rw [e])))
          clear hne
          go_wp2
          go_region
          go_wp2
          go_ret
          rw [HF.out]
          exact ⟨rfl, HB.out.drew⟩
        · have HF := Lib.hid (show decide (l = m) = false from decide_eq_false (fun e => hne (by rw [e])))
          rw [he1] at x0
          clear hne he1
          go_wp2
          go_region
          go_wp2
          go_ret
          rw [HF.out]
          exact ⟨rfl, HB.out.drew⟩
      · obtain rfl : k = l.length := by omega
        have HT := Lib.hid (show decide (l = m) = true from decide_eq_true (List.ext_getElem HLEN.out fun j h1 h2 => by
          have := HA.out j h1
          rw [Qm.stOf_lt h1, Qm.stOf_lt h2] at this
          exact this))
        clear hall hb
        go_wp2
        go_ret
        rw [HT.out]
        exact ⟨rfl, HB.out⟩
  · have HF := Lib.hid (show decide (l = m) = false from decide_eq_false (fun e => hlen (by rw [e])))
    have te : (((l.length : Nat) : Int) == ((m.length : Nat) : Int)) = false := by rw [beq_eq_false_iff_ne]; omega
    have te2 : ((l.length : Nat) == (m.length : Nat)) = false := by rw [beq_eq_false_iff_ne]; omega
    go_enter Try.func19, Try.ntmps19
    go_wp2
    go_ret
    rw [HF.out]
    exact ⟨rfl, Below.refl _ _⟩

end Go.Proofs.Ytmenlfgfhnnmgaa
