/-
  VALUES: which may be: the program's Right and plain, the document's Right and good.
  No conditions.
-/
import Derived.Test.YtaplemkmkbjodaaGreatGA
import Derived.Test.YtaplemkmkbjodaaGreatVMath
namespace Go.Proofs.YtaplemkmkbjodaaGreat
open Go.RowKit

theorem str_len (s : ByteArray) : s.data.toList.length = s.size := by rw [Array.length_toList]; rfl
theorem str_snoc (s : ByteArray) (k : Nat) (h : k < s.size) : s.data.toList.take (k + 1) = s.data.toList.take k ++ [s[k]] := by
  rw [List.take_succ_eq_append_getElem (by simpa using h)]; rfl
theorem str_mem (s : ByteArray) (k : Nat) (h : k < s.size) : s[k] ∈ s.data.toList := by
  have : s[k] = s.data.toList[k]'(by simpa using h) := rfl
  rw [this]; exact List.getElem_mem _
theorem okT_long (s : ByteArray) (h : 64 < s.size) : Vm.okT s.data.toList = false := by
  unfold Vm.okT; rw [str_len, decide_eq_false (by omega)]; rfl
theorem okT_bad (s : ByteArray) (k : Nat) (h : k < s.size) (hc : s[k].toNat < 32 ∨ 126 < s[k].toNat) : Vm.okT s.data.toList = false := by
  unfold Vm.okT
  rw [Bool.and_eq_false_iff]
  right
  rw [List.all_eq_false]
  exact ⟨s[k], str_mem s k h, by simp [Vm.okC]; omega⟩
theorem okT_all (s : ByteArray) (h : s.size ≤ 64) (ha : (s.data.toList.take s.size).all Vm.okC = true) : Vm.okT s.data.toList = true := by
  rw [List.take_of_length_le (by rw [str_len]; omega)] at ha
  unfold Vm.okT
  rw [str_len, ha, decide_eq_true h]; rfl
theorem okC_snoc (s : ByteArray) (k : Nat) (h : k < s.size) (ha : (s.data.toList.take k).all Vm.okC = true) (h0 : 32 ≤ s[k].toNat) (h1 : s[k].toNat ≤ 126) : (s.data.toList.take (k + 1)).all Vm.okC = true := by
  rw [str_snoc s k h, List.all_append, ha]
  simp [Vm.okC, h0, h1]

set_option maxRecDepth 100000 in
set_option maxHeartbeats 1000000 in
theorem plain_any (s : ByteArray) (w : World) (hs : s.size ≤ 4611686018427387904) : Calls Tryz.prog 127 #[.string s] w fun e w' => e = .returned (.bool (Vm.okT s.data.toList)) ∧ w = w' := by
  by_cases h1 : 64 < s.size
  · have HR := Lib.hid (okT_long s h1)
    go_enter Tryz.func127, Tryz.ntmps127
    go_wp2
    go_ret
    rw [HR.out]
    exact ⟨rfl, rfl⟩
  · have HB := Lib.hid (okT_bad s)
    have HA := Lib.hid (okT_all s (by omega))
    have HS := Lib.hid (okC_snoc s)
    go_enter Tryz.func127, Tryz.ntmps127
    go_wp2
    go_loop [9] (fun i => ∃ k : Nat, k ≤ s.size ∧ i = .int .i64 k ∧ (s.data.toList.take k).all Vm.okC = true) (fun i => s.size - (RowKit.intOf i).toNat)
    case atStart => exact ⟨0, Nat.zero_le _, rfl, rfl⟩
    case round =>
      obtain ⟨k, hk, rfl, hd⟩ := hrel
      have HD := Lib.hid hd
      clear hd
      by_cases hlt : k < s.size
      · by_cases hc0 : s[k].toNat < 32
        · have HR := Lib.hid (HB.out k hlt (Or.inl hc0))
          go_wp2
          go_ret
          rw [HR.out]
          exact ⟨rfl, rfl⟩
        · by_cases hc1 : 126 < s[k].toNat
          · have HR := Lib.hid (HB.out k hlt (Or.inr hc1))
            go_wp2
            go_ret
            rw [HR.out]
            exact ⟨rfl, rfl⟩
          · have HN := Lib.hid (HS.out k hlt HD.out (by omega) (by omega))
            go_wp2
            go_round
            case rel => exact ⟨k + 1, by omega, by go_num, HN.out⟩
            case measure => simp [RowKit.intOf]; omega
      · obtain rfl : k = s.size := by omega
        have HR := Lib.hid (HA.out HD.out)
        go_wp2
        go_ret
        rw [HR.out]
        exact ⟨rfl, rfl⟩

set_option maxRecDepth 100000 in
set_option maxHeartbeats 1000000 in
theorem good_any (s : ByteArray) (w : World) (hs : s.size ≤ 4611686018427387904) : Calls Tryz.prog 124 #[.string s] w fun e w' => e = .returned (.bool (Vm.okT s.data.toList)) ∧ w = w' := by
  by_cases h1 : 64 < s.size
  · have HR := Lib.hid (okT_long s h1)
    have h2 : decide ((s.size : Int) ≤ 64) = false := decide_eq_false (by omega)
    go_enter Tryz.func124, Tryz.ntmps124
    go_wp2
    go_loop [3] (fun i => i = .int .i64 0) (fun i => 0)
    case atStart => rfl
    case round =>
      subst hrel
      go_wp2
      go_ret
      rw [HR.out]
      exact ⟨rfl, rfl⟩
  · have HB := Lib.hid (okT_bad s)
    have HA := Lib.hid (okT_all s (by omega))
    have HS := Lib.hid (okC_snoc s)
    have h2 : decide ((s.size : Int) ≤ 64) = true := decide_eq_true (by omega)
    go_enter Tryz.func124, Tryz.ntmps124
    go_wp2
    go_loop [3] (fun i => ∃ k : Nat, k ≤ s.size ∧ i = .int .i64 k ∧ (s.data.toList.take k).all Vm.okC = true) (fun i => s.size - (RowKit.intOf i).toNat)
    case atStart => exact ⟨0, Nat.zero_le _, rfl, rfl⟩
    case round =>
      obtain ⟨k, hk, rfl, hd⟩ := hrel
      have HD := Lib.hid hd
      clear hd
      by_cases hlt : k < s.size
      · by_cases hc0 : s[k].toNat < 32
        · have HR := Lib.hid (HB.out k hlt (Or.inl hc0))
          go_wp2
          go_ret
          rw [HR.out]
          exact ⟨rfl, rfl⟩
        · by_cases hc1 : 126 < s[k].toNat
          · have HR := Lib.hid (HB.out k hlt (Or.inr hc1))
            go_wp2
            go_ret
            rw [HR.out]
            exact ⟨rfl, rfl⟩
          · have HN := Lib.hid (HS.out k hlt HD.out (by omega) (by omega))
            go_wp2
            go_round
            case rel => exact ⟨k + 1, by omega, by go_num, HN.out⟩
            case measure => simp [RowKit.intOf]; omega
      · obtain rfl : k = s.size := by omega
        have HR := Lib.hid (HA.out HD.out)
        go_wp2
        go_ret
        rw [HR.out]
        exact ⟨rfl, rfl⟩

/-- a value's memory: three cells -/
def ThreeAt (w : World) (b : Nat) (k n : Int) (t : ByteArray) : Prop := w.heap[b]? = some (.cells #[.int .i64 k, .int .i64 n, .string t] 53 (0, 0))

theorem str_nil {t : ByteArray} (h : t.data.toList = []) : t = ⟨#[]⟩ := by
  apply ByteArray.ext
  simpa using h
theorem str_empty (t : ByteArray) : t.toList.isEmpty = decide (t.data.toList = []) := by
  rw [ByteArray.toList_eq]
  cases t.data.toList <;> rfl
theorem ret_bool {a b : Bool} (h : a = b) : Ending.returned (.bool a) = Ending.returned (.bool b) := by rw [h]

set_option maxRecDepth 100000 in
set_option maxHeartbeats 4000000 in
theorem vright_any (k n : Int) (t : ByteArray) (w : World) (ht : t.size ≤ 4611686018427387904) :
    Calls Tryz.prog 116 #[.agg #[.int .i64 k, .int .i64 n, .string t]] w fun e w' => e = .returned (.bool (Vm.rightV k n t.data.toList)) ∧ Below w.heap.size w w' := by
  have HB := Lib.hid ((Below.refl w.heap.size w).alloc (Nat.le_refl _) (.cells #[.int .i64 k, .int .i64 n, .string t] 53))
  have HP := Lib.hid (fun W => plain_any t W ht)
  have HE := Lib.hid (str_empty t)
  by_cases h3 : k = 3
  · subst h3
    rw [Vm.rightV_text]
    cases ho : Vm.okT t.data.toList with
    | false =>
      have HO := Lib.hid ho
      clear ho
      go_enter Tryz.func116, Tryz.ntmps116
      go_wp2_with fail
      refine (HP.out _).mono ?_
      rw [HO.out]
      rintro e w' ⟨rfl, rfl⟩
      go_wp2
      go_ret
      exact ⟨ret_bool (by simp), HB.out⟩
    | true =>
      have HO := Lib.hid ho
      clear ho
      by_cases hn : n = 0
      · subst hn
        go_enter Tryz.func116, Tryz.ntmps116
        go_wp2_with fail
        refine (HP.out _).mono ?_
        rw [HO.out]
        rintro e w' ⟨rfl, rfl⟩
        go_wp2
        go_ret
        exact ⟨ret_bool (by simp), (Below.refl _ _).alloc (Nat.le_refl _) _⟩
      · have hn' : (n == 0) = false := by simpa using hn
        have HR := Lib.hid (show decide (n = 0) = false from decide_eq_false hn)
        clear hn
        go_enter Tryz.func116, Tryz.ntmps116
        go_wp2_with fail
        refine (HP.out _).mono ?_
        rw [HO.out]
        rintro e w' ⟨rfl, rfl⟩
        go_wp2
        go_ret
        exact ⟨ret_bool (by first | rfl | (rw [HR.out]; simp)), (Below.refl _ _).alloc (Nat.le_refl _) _⟩
  by_cases h0 : k = 0
  · subst h0
    rw [Vm.rightV_none]
    by_cases hn : n = 0
    · subst hn
      go_enter Tryz.func116, Tryz.ntmps116
      go_wp2
      go_ret
      exact ⟨ret_bool (by rw [HE.out]; simp), HB.out⟩
    · have hn' : (n == 0) = false := by simpa using hn
      have HR := Lib.hid (show decide (n = 0) = false from decide_eq_false hn)
      clear hn
      go_enter Tryz.func116, Tryz.ntmps116
      go_wp2
      go_ret
      exact ⟨ret_bool (by first | rfl | (rw [HR.out]; simp)), HB.out⟩
  by_cases h4 : k = 4
  · subst h4
    rw [Vm.rightV_flag]
    by_cases hn : n = 0
    · subst hn
      go_enter Tryz.func116, Tryz.ntmps116
      go_wp2
      go_ret
      exact ⟨ret_bool (by rw [HE.out]; simp), HB.out⟩
    · have hn' : (n == 0) = false := by simpa using hn
      by_cases hm : n = 1
      · subst hm
        clear hn
        go_enter Tryz.func116, Tryz.ntmps116
        go_wp2
        go_ret
        exact ⟨ret_bool (by rw [HE.out]; simp), HB.out⟩
      · have hm' : (n == 1) = false := by simpa using hm
        have HR := Lib.hid (show decide (n = 0 ∨ n = 1) = false from decide_eq_false (by omega))
        clear hn hm
        go_enter Tryz.func116, Tryz.ntmps116
        go_wp2
        go_ret
        exact ⟨ret_bool (by first | rfl | (rw [HR.out]; simp)), HB.out⟩
  by_cases h1 : k = 1 ∨ k = 2
  · rw [Vm.rightV_num _ _ _ h1]
    by_cases hn : -1099511627776 ≤ n
    · by_cases hm : n ≤ 1099511627776
      · have HR := Lib.hid (show decide (-1099511627776 ≤ n ∧ n ≤ 1099511627776) = true from decide_eq_true ⟨hn, hm⟩)
        rcases h1 with rfl | rfl
        all_goals
          go_enter Tryz.func116, Tryz.ntmps116
          go_wp2
          go_ret
          exact ⟨ret_bool (by rw [HE.out, HR.out]; simp), HB.out⟩
      · have HR := Lib.hid (show decide (-1099511627776 ≤ n ∧ n ≤ 1099511627776) = false from decide_eq_false (by omega))
        have hd : decide (n ≤ 1099511627776) = false := decide_eq_false hm
        rcases h1 with rfl | rfl
        all_goals
          go_enter Tryz.func116, Tryz.ntmps116
          go_wp2
          go_ret
          exact ⟨ret_bool (by first | rfl | (rw [HR.out]; simp)), HB.out⟩
    · have HR := Lib.hid (show decide (-1099511627776 ≤ n ∧ n ≤ 1099511627776) = false from decide_eq_false (by omega))
      have hd : decide (-1099511627776 ≤ n) = false := decide_eq_false hn
      rcases h1 with rfl | rfl
      all_goals
        go_enter Tryz.func116, Tryz.ntmps116
        go_wp2
        go_ret
        exact ⟨ret_bool (by first | rfl | (rw [HR.out]; simp)), HB.out⟩
  · have e0 : (k == 0) = false := by simpa using h0
    have e1 : (k == 1) = false := by rw [beq_eq_false_iff_ne]; omega
    have e2 : (k == 2) = false := by rw [beq_eq_false_iff_ne]; omega
    have e3 : (k == 3) = false := by simpa using h3
    have e4 : (k == 4) = false := by simpa using h4
    have HR := Lib.hid (Vm.rightV_other k n t.data.toList h0 (by omega) (by omega) h3 h4)
    clear h0 h1 h3 h4
    go_enter Tryz.func116, Tryz.ntmps116
    go_wp2
    go_ret
    exact ⟨ret_bool (by rw [HR.out]), HB.out⟩

set_option maxRecDepth 100000 in
set_option maxHeartbeats 4000000 in
theorem refVRight_any (k n : Int) (t : ByteArray) (w : World) (ht : t.size ≤ 4611686018427387904) :
    Calls Tryz.prog 109 #[.agg #[.int .i64 k, .int .i64 n, .string t]] w fun e w' => e = .returned (.bool (Vm.rightV k n t.data.toList)) ∧ Below w.heap.size w w' := by
  have HB := Lib.hid ((Below.refl w.heap.size w).alloc (Nat.le_refl _) (.cells #[.int .i64 k, .int .i64 n, .string t] 53))
  have HP := Lib.hid (fun W => good_any t W ht)
  have HE := Lib.hid (str_empty t)
  by_cases h3 : k = 3
  · subst h3
    rw [Vm.rightV_text]
    by_cases hn : n = 0
    · subst hn
      generalize Vm.okT t.data.toList = o at *
      go_enter Tryz.func109, Tryz.ntmps109
      go_wp2_with fail
      refine (HP.out _).mono ?_
      rintro e w' ⟨rfl, rfl⟩
      go_wp2
      go_ret
      exact ⟨ret_bool (by simp), HB.out⟩
    · have hn' : (n == 0) = false := by simpa using hn
      have HR := Lib.hid (show decide (n = 0) = false from decide_eq_false hn)
      clear hn
      go_enter Tryz.func109, Tryz.ntmps109
      go_wp2
      go_ret
      exact ⟨ret_bool (by first | rfl | (rw [HR.out]; simp)), HB.out⟩
  by_cases h0 : k = 0
  · subst h0
    rw [Vm.rightV_none]
    by_cases hn : n = 0
    · subst hn
      go_enter Tryz.func109, Tryz.ntmps109
      go_wp2
      go_ret
      exact ⟨ret_bool (by rw [HE.out]; simp), HB.out⟩
    · have hn' : (n == 0) = false := by simpa using hn
      have HR := Lib.hid (show decide (n = 0) = false from decide_eq_false hn)
      clear hn
      go_enter Tryz.func109, Tryz.ntmps109
      go_wp2
      go_ret
      exact ⟨ret_bool (by first | rfl | (rw [HR.out]; simp)), HB.out⟩
  by_cases h4 : k = 4
  · subst h4
    rw [Vm.rightV_flag]
    by_cases hn : n = 0
    · subst hn
      go_enter Tryz.func109, Tryz.ntmps109
      go_wp2
      go_ret
      exact ⟨ret_bool (by rw [HE.out]; simp), HB.out⟩
    · have hn' : (n == 0) = false := by simpa using hn
      by_cases hm : n = 1
      · subst hm
        clear hn
        go_enter Tryz.func109, Tryz.ntmps109
        go_wp2
        go_ret
        exact ⟨ret_bool (by rw [HE.out]; simp), HB.out⟩
      · have hm' : (n == 1) = false := by simpa using hm
        have HR := Lib.hid (show decide (n = 0 ∨ n = 1) = false from decide_eq_false (by omega))
        clear hn hm
        go_enter Tryz.func109, Tryz.ntmps109
        go_wp2
        go_ret
        exact ⟨ret_bool (by first | rfl | (rw [HR.out]; simp)), HB.out⟩
  by_cases h1 : k = 1 ∨ k = 2
  · rw [Vm.rightV_num _ _ _ h1]
    by_cases hn : -1099511627776 ≤ n
    · by_cases hm : n ≤ 1099511627776
      · have HR := Lib.hid (show decide (-1099511627776 ≤ n ∧ n ≤ 1099511627776) = true from decide_eq_true ⟨hn, hm⟩)
        rcases h1 with rfl | rfl
        all_goals
          go_enter Tryz.func109, Tryz.ntmps109
          go_wp2
          go_ret
          exact ⟨ret_bool (by rw [HE.out, HR.out]; simp), HB.out⟩
      · have HR := Lib.hid (show decide (-1099511627776 ≤ n ∧ n ≤ 1099511627776) = false from decide_eq_false (by omega))
        have hd : decide (n ≤ 1099511627776) = false := decide_eq_false hm
        rcases h1 with rfl | rfl
        all_goals
          go_enter Tryz.func109, Tryz.ntmps109
          go_wp2
          go_ret
          exact ⟨ret_bool (by first | rfl | (rw [HR.out]; simp)), HB.out⟩
    · have HR := Lib.hid (show decide (-1099511627776 ≤ n ∧ n ≤ 1099511627776) = false from decide_eq_false (by omega))
      have hd : decide (-1099511627776 ≤ n) = false := decide_eq_false hn
      rcases h1 with rfl | rfl
      all_goals
        go_enter Tryz.func109, Tryz.ntmps109
        go_wp2
        go_ret
        exact ⟨ret_bool (by first | rfl | (rw [HR.out]; simp)), HB.out⟩
  · have e0 : (k == 0) = false := by simpa using h0
    have e1 : (k == 1) = false := by rw [beq_eq_false_iff_ne]; omega
    have e2 : (k == 2) = false := by rw [beq_eq_false_iff_ne]; omega
    have e3 : (k == 3) = false := by simpa using h3
    have e4 : (k == 4) = false := by simpa using h4
    have HR := Lib.hid (Vm.rightV_other k n t.data.toList h0 (by omega) (by omega) h3 h4)
    clear h0 h1 h3 h4
    go_enter Tryz.func109, Tryz.ntmps109
    go_wp2
    go_ret
    exact ⟨ret_bool (by rw [HR.out]), HB.out⟩

end Go.Proofs.YtaplemkmkbjodaaGreat
