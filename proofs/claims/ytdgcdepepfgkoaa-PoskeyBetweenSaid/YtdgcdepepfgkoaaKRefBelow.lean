/-
  THE DOCUMENT's below: is a number below a key; and its text.
  No conditions but sizes.
-/
import Derived.Test.YtdgcdepepfgkoaaKRefFirst
namespace Go.Proofs.Ytdgcdepepfgkoaa
open Go.RowKit

/-- n digits, zeros behind them -/
def cutD (f : Nat → Nat) (n k : Nat) : Nat := if k < n then f k else 0
def SameF (f g : Nat → Nat) (k : Nat) : Prop := ∀ m, m < k → f m = g m
theorem sameF_succ {f g : Nat → Nat} {k : Nat} (h : SameF f g k) (hk : f k = g k) : SameF f g (k + 1) := fun m hm => by
  by_cases e : m = k
  · subst e; exact hk
  · exact h m (by omega)
theorem below_end {f g : Nat → Nat} {k : Nat} (h : SameF f g k) (hz : ∀ i, k ≤ i → g i = 0) : ¬ Km.fracLt f g := by
  rintro ⟨i, -, hi⟩
  by_cases e : i < k
  · have := h i e; omega
  · have := hz i (by omega); omega
theorem below_lt {f g : Nat → Nat} {k : Nat} (h : SameF f g k) (hk : f k < g k) : Km.fracLt f g := ⟨k, h, hk⟩
theorem below_gt {f g : Nat → Nat} {k : Nat} (h : SameF f g k) (hk : g k < f k) : ¬ Km.fracLt f g := fun h' => Km.fracLt_asymm h' ⟨k, fun m hm => (h m hm).symm, hk⟩

set_option maxRecDepth 100000 in
set_option maxHeartbeats 4000000 in
theorem below_any (g n : Nat) (f : Nat → Nat) (b : ByteArray) (r : Bool) (w : World) (hn : n ≤ 24) (hb : b.size ≤ 24) (hf : ∀ k, k < n → f k ≤ 256) (h : w.rowIs g 3 n (dgs f))
    (hr : r = true ↔ (b.data.toList = [] ∨ Km.fracLt (cutD f n) (Km.dg b.data.toList))) :
    Calls Try.prog 24 #[.slice (some ⟨g, 0, none⟩) n n, .string b] w fun e w' => e = .returned (.bool r) ∧ w = w' := by
  have HD := Lib.hid (fun k (w : World) hk => digit_any b k w (by omega) hk)
  rcases str_cases b with rfl | ⟨eb, nb⟩
  · obtain rfl : r = true := hr.2 (Or.inl rfl)
    clear hr
    go_enter Try.func24, Try.ntmps24
    go_wp2
    go_ret
    exact ⟨rfl, rfl⟩
  · have HR := Lib.hid (show r = true ↔ Km.fracLt (cutD f n) (Km.dg b.data.toList) by rw [hr]; simp [nb])
    have HROW := Lib.hid h
    have HF := Lib.hid hf
    have HZ := Lib.hid (fun i (hi : b.size ≤ i) => Km.dg_end b.data.toList i (by rw [size_list]; exact hi))
    clear hr nb h hf
    go_enter Try.func24, Try.ntmps24
    go_wp2
    go_loop [5] (fun i => ∃ k : Nat, k ≤ 24 ∧ i = .int .i64 k ∧ Hid (SameF (cutD f n) (Km.dg b.data.toList) k)) (fun i => 24 - (intOf i).toNat)
    case atStart => exact ⟨0, by omega, rfl, Lib.hid (fun m hm => absurd hm (Nat.not_lt_zero _))⟩
    case round =>
      obtain ⟨k, hk, rfl, HS⟩ := hrel
      have g0 : (0 : Int) ≤ (k : Int) := by omega
      have gd := Km.dg_lt b.data.toList k
      have HDK := Lib.hid (fun w => HD.out k w (by omega))
      have HZK := Lib.hid (fun i hi => HZ.out i hi)
      by_cases kn : k < n
      · have hc := HROW.out.cell kn
        have e1 : cutD f n k = f k := by simp [cutD, kn]
        have HE1 := Lib.hid e1
        have hfk := HF.out k kn
        have e2 : dgs f k = .int .i64 (f k : Nat) := rfl
        rw [e2] at hc
        clear e1 e2
        generalize f k = x at *
        have HKD := Lib.hid (show Km.dg b.data.toList k = Km.dg b.data.toList k from rfl)
        generalize hd : Km.dg b.data.toList k = d at HDK gd HKD
        have HDD := Lib.hid hd
        clear hd HKD
        have g1 : (k : Int) < (n : Int) := by omega
        rcases Nat.lt_trichotomy x d with hxd | hxd | hxd
        · obtain rfl : r = true := HR.out.2 (below_lt HS.out (by rw [HE1.out, HDD.out]; exact hxd))
          have n1 : ((x : Int) == (d : Int)) = false := by rw [beq_eq_false_iff_ne]; omega
          go_wp2_with fail
          refine (HDK.out _).mono ?_
          rintro e w' ⟨rfl, rfl⟩
          go_wp2_with fail
          refine (HDK.out _).mono ?_
          rintro e w' ⟨rfl, rfl⟩
          go_wp2
          go_ret
          exact ⟨rfl, rfl⟩
        · subst hxd
          have HS2 := Lib.hid (sameF_succ HS.out (by rw [HE1.out, HDD.out]))
          go_wp2_with fail
          refine (HDK.out _).mono ?_
          rintro e w' ⟨rfl, rfl⟩
          go_wp2
          go_round
          case rel => exact ⟨k + 1, by omega, by go_num, HS2⟩
          case measure => simp [intOf]; omega
        · obtain rfl : r = false := by cases r; rfl; exact absurd (HR.out.1 rfl) (below_gt HS.out (by rw [HE1.out, HDD.out]; exact hxd))
          have n1 : ((x : Int) == (d : Int)) = false := by rw [beq_eq_false_iff_ne]; omega
          have n2 : ¬ (x < d) := by omega
          go_wp2_with fail
          refine (HDK.out _).mono ?_
          rintro e w' ⟨rfl, rfl⟩
          go_wp2_with fail
          refine (HDK.out _).mono ?_
          rintro e w' ⟨rfl, rfl⟩
          go_wp2
          go_ret
          exact ⟨rfl, rfl⟩
      · have e1 : cutD f n k = 0 := by simp [cutD, kn]
        have HE1 := Lib.hid e1
        clear e1
        by_cases kb : k < b.size
        · have HKD := Lib.hid (show Km.dg b.data.toList k = Km.dg b.data.toList k from rfl)
          generalize hd : Km.dg b.data.toList k = d at HDK gd HKD
          have HDD := Lib.hid hd
          clear hd HKD
          by_cases hxd : d = 0
          · subst hxd
            have HS2 := Lib.hid (sameF_succ HS.out (by rw [HE1.out, HDD.out]))
            go_wp2_with fail
            refine (HDK.out _).mono ?_
            rintro e w' ⟨rfl, rfl⟩
            go_wp2
            go_round
            case rel => exact ⟨k + 1, by omega, by go_num, HS2⟩
            case measure => simp [intOf]; omega
          · obtain rfl : r = true := HR.out.2 (below_lt HS.out (by rw [HE1.out, HDD.out]; omega))
            have n1 : ((0 : Int) == (d : Int)) = false := by rw [beq_eq_false_iff_ne]; omega
            have n2 : decide (0 < d) = true := by simp; omega
            go_wp2_with fail
            refine (HDK.out _).mono ?_
            rintro e w' ⟨rfl, rfl⟩
            go_wp2_with fail
            refine (HDK.out _).mono ?_
            rintro e w' ⟨rfl, rfl⟩
            go_wp2
            go_ret
            exact ⟨rfl, rfl⟩
        · obtain rfl : r = false := by cases r; rfl; exact absurd (HR.out.1 rfl) (below_end HS.out fun i hi => HZ.out i (by omega))
          go_wp2
          go_ret
          exact ⟨ret_bool rfl, rfl⟩

end Go.Proofs.Ytdgcdepepfgkoaa
