/-
  THE DOCUMENT's 'number'.
  No conditions.
-/
import Derived.Test.YtfakbbbkfmnnhaaGreatDoorNumS
namespace Go.Proofs.YtfakbbbkfmnnhaaGreatDoor
open Go.RowKit Go.Lib

theorem take_dec (s : ByteArray) (k : Nat) (h : k < s.size) : s.data.toList.take (k + 1) = s.data.toList.take k ++ [s[k]] := by
  rw [List.take_succ_eq_append_getElem (by simpa using h)]; rfl
theorem by8_str (s : ByteArray) (k : Nat) (h : k < s.size) : by8 s.data.toList k = s[k].toNat := by
  rw [by8_get _ _ (by simpa using h)]; rfl

theorem allDig_get (l : List UInt8) (k : Nat) (h : k < l.length) (hd : allDig l = true) : 48 ≤ l[k].toNat ∧ l[k].toNat ≤ 57 := of_decide_eq_true (List.all_eq_true.1 hd _ (List.getElem_mem h))

set_option maxRecDepth 100000 in
set_option maxHeartbeats 4000000 in
theorem refNumS_any (s : ByteArray) (w : World) (hs : s.size ≤ 9223372036854775806) :
    Calls Tryz.prog 72 #[.string s] w fun e w' => e = .returned (.int .i64 (numS s.data.toList)) ∧ w = w' := by
  have hsl : s.data.toList.length = s.size := by rw [Array.length_toList]; rfl
  by_cases h1 : s.size < 1
  · have HN := Lib.hid (show numS s.data.toList = -1 by unfold numS; rw [if_pos (by simp [numBad, hsl, h1])])
    clear hsl
    go_enter Tryz.func72, Tryz.ntmps72
    go_wp2
    go_ret
    rw [HN.out]
    exact ⟨rfl, rfl⟩
  · by_cases h2 : 15 < s.size
    · have HN := Lib.hid (show numS s.data.toList = -1 by unfold numS; rw [if_pos (by simp [numBad, hsl, h2])])
      clear hsl
      go_enter Tryz.func72, Tryz.ntmps72
      go_wp2
      go_ret
      rw [HN.out]
      exact ⟨rfl, rfl⟩
    · by_cases h3 : 1 < s.size
      · by_cases h4 : by8 s.data.toList 0 = 48
        · have HN := Lib.hid (show numS s.data.toList = -1 by unfold numS; rw [if_pos (by simp [numBad, hsl, h3, h4])])
          have hp : 0 < s.size := by omega
          have h5 : (((s[0]'hp).toNat : Int) == 48) = true := by rw [beq_iff_eq, ← by8_str s 0 hp, h4]; rfl
          clear hsl h4
          go_enter Tryz.func72, Tryz.ntmps72
          go_wp2
          go_ret
          rw [HN.out]
          exact ⟨rfl, rfl⟩
        · have hb : numBad s.data.toList = false := by
            have a1 : decide (s.size < 1) = false := decide_eq_false h1
            have a2 : decide (15 < s.size) = false := decide_eq_false h2
            have a3 : decide (by8 s.data.toList 0 = 48) = false := decide_eq_false h4
            simp only [numBad, hsl, a1, a2, a3, Bool.and_false, Bool.or_false]
          have hp : 0 < s.size := by omega
          have h5 : (((s[0]'hp).toNat : Int) == 48) = false := by rw [beq_eq_false_iff_ne, ← by8_str s 0 hp]; omega
          have HSL := Lib.hid hsl
          have HBD := Lib.hid hb
          clear hsl h4 hb
          go_enter Tryz.func72, Tryz.ntmps72
          go_wp2
          go_loop [3, 4] (fun n i => ∃ k : Nat, k ≤ s.size ∧ i = .int .i64 k ∧ n = .int .i64 (decV (s.data.toList.take k)) ∧ allDig (s.data.toList.take k) = true) (fun _ i => s.size - (RowKit.intOf i).toNat)
          case atStart => exact ⟨0, Nat.zero_le _, rfl, rfl, rfl⟩
          case round =>
            obtain ⟨k, hk, rfl, rfl, hd⟩ := hrel
            have HD := Lib.hid hd
            have hv : decV (s.data.toList.take k) < 1000000000000000 := by
              have h1 := decV_lt _ hd
              have h2 : (10 : Nat) ^ (s.data.toList.take k).length ≤ 10 ^ 15 := Nat.pow_le_pow_right (by decide) (by simp; omega)
              have h3 : (10 : Nat) ^ 15 = 1000000000000000 := by decide
              omega
            clear hd
            by_cases hlt : k < s.size
            · have HS1 := Lib.hid (take_dec s k hlt)
              by_cases hc : 48 ≤ s[k].toNat ∧ s[k].toNat ≤ 57
              · obtain ⟨hc0, hc1⟩ := hc
                have HV := Lib.hid (show decV (s.data.toList.take (k + 1)) = decV (s.data.toList.take k) * 10 + (s[k].toNat - 48) by rw [HS1.out, decV_snoc])
                have HA := Lib.hid (show allDig (s.data.toList.take (k + 1)) = true by rw [HS1.out, allDig_snoc, HD.out, decide_eq_true ⟨hc0, hc1⟩]; rfl)
                generalize decV (s.data.toList.take k) = v at *
                go_wp2
                go_round
                case rel => exact ⟨k + 1, by omega, by go_num, by rw [HV.out]; congr 1; omega, HA.out⟩
                case measure => simp [RowKit.intOf]; omega
              · have HN := Lib.hid (show numS s.data.toList = -1 by
                  unfold numS
                  rw [HBD.out, if_neg (by simp), if_neg (fun hd => hc (by have h := allDig_get s.data.toList k (by rw [HSL.out]; exact hlt) hd; exact h))])
                by_cases hc0 : s[k].toNat < 48
                · clear hc
                  go_wp2
                  go_ret
                  rw [HN.out]
                  exact ⟨rfl, rfl⟩
                · have hc1 : 57 < s[k].toNat := by omega
                  clear hc
                  go_wp2
                  go_ret
                  rw [HN.out]
                  exact ⟨rfl, rfl⟩
            · obtain rfl : k = s.size := by omega
              have e : s.data.toList.take s.size = s.data.toList := List.take_of_length_le (by rw [HSL.out]; exact Nat.le_refl _)
              have HN := Lib.hid (show numS s.data.toList = (decV s.data.toList : Int) by
                have hd := HD.out
                rw [e] at hd
                unfold numS
                rw [HBD.out, if_neg (by simp), if_pos hd])
              rw [e] at hv ⊢
              clear e HD
              go_wp2
              go_ret
              rw [HN.out]
              exact ⟨rfl, rfl⟩
      · have hb : numBad s.data.toList = false := by
          have a1 : decide (s.size < 1) = false := decide_eq_false h1
          have a2 : decide (15 < s.size) = false := decide_eq_false h2
          have a3 : decide (1 < s.size) = false := decide_eq_false h3
          simp only [numBad, hsl, a1, a2, a3, Bool.false_and, Bool.or_false]
        have HSL := Lib.hid hsl
        have HBD := Lib.hid hb
        clear hsl hb
        go_enter Tryz.func72, Tryz.ntmps72
        go_wp2
        go_loop [3, 4] (fun n i => ∃ k : Nat, k ≤ s.size ∧ i = .int .i64 k ∧ n = .int .i64 (decV (s.data.toList.take k)) ∧ allDig (s.data.toList.take k) = true) (fun _ i => s.size - (RowKit.intOf i).toNat)
        case atStart => exact ⟨0, Nat.zero_le _, rfl, rfl, rfl⟩
        case round =>
          obtain ⟨k, hk, rfl, rfl, hd⟩ := hrel
          have HD := Lib.hid hd
          have hv : decV (s.data.toList.take k) < 1000000000000000 := by
            have h1 := decV_lt _ hd
            have h2 : (10 : Nat) ^ (s.data.toList.take k).length ≤ 10 ^ 15 := Nat.pow_le_pow_right (by decide) (by simp; omega)
            have h3 : (10 : Nat) ^ 15 = 1000000000000000 := by decide
            omega
          clear hd
          by_cases hlt : k < s.size
          · have HS1 := Lib.hid (take_dec s k hlt)
            by_cases hc : 48 ≤ s[k].toNat ∧ s[k].toNat ≤ 57
            · obtain ⟨hc0, hc1⟩ := hc
              have HV := Lib.hid (show decV (s.data.toList.take (k + 1)) = decV (s.data.toList.take k) * 10 + (s[k].toNat - 48) by rw [HS1.out, decV_snoc])
              have HA := Lib.hid (show allDig (s.data.toList.take (k + 1)) = true by rw [HS1.out, allDig_snoc, HD.out, decide_eq_true ⟨hc0, hc1⟩]; rfl)
              generalize decV (s.data.toList.take k) = v at *
              go_wp2
              go_round
              case rel => exact ⟨k + 1, by omega, by go_num, by rw [HV.out]; congr 1; omega, HA.out⟩
              case measure => simp [RowKit.intOf]; omega
            · have HN := Lib.hid (show numS s.data.toList = -1 by
                unfold numS
                rw [HBD.out, if_neg (by simp), if_neg (fun hd => hc (by have h := allDig_get s.data.toList k (by rw [HSL.out]; exact hlt) hd; exact h))])
              by_cases hc0 : s[k].toNat < 48
              · clear hc
                go_wp2
                go_ret
                rw [HN.out]
                exact ⟨rfl, rfl⟩
              · have hc1 : 57 < s[k].toNat := by omega
                clear hc
                go_wp2
                go_ret
                rw [HN.out]
                exact ⟨rfl, rfl⟩
          · obtain rfl : k = s.size := by omega
            have e : s.data.toList.take s.size = s.data.toList := List.take_of_length_le (by rw [HSL.out]; exact Nat.le_refl _)
            have HN := Lib.hid (show numS s.data.toList = (decV s.data.toList : Int) by
              have hd := HD.out
              rw [e] at hd
              unfold numS
              rw [HBD.out, if_neg (by simp), if_pos hd])
            rw [e] at hv ⊢
            clear e HD
            go_wp2
            go_ret
            rw [HN.out]
            exact ⟨rfl, rfl⟩

end Go.Proofs.YtfakbbbkfmnnhaaGreatDoor
