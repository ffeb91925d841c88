/-
  PLAIN MATHEMATICS of layer 3 (value): which values may be; sums, products, quotients.
  No conditions.
  VALUES: which may be: the program's Right and plain, the document's Right and good.
  No conditions.
  VALUES in memory; number and answer; numbers and both; sums.
  No conditions.
  Right8 of the program and of the document.
  No conditions.
-/
import Derived.Lib.Bytes
import Derived.Test.YthifdefjmfakgaaGreatGA
import Derived.Deep.DeepCutAuto
import Derived.Lib.SmallJoins
namespace Go.Proofs.YthifdefjmfakgaaGreat.Vm

/-- may a text be? -/
def okC (c : UInt8) : Bool := decide (32 ≤ c.toNat ∧ c.toNat ≤ 126)
def okT (l : List UInt8) : Bool := decide (l.length ≤ 64) && l.all okC

/-- may a value be? -/
def rightV (k n : Int) (t : List UInt8) : Bool :=
  decide ((k = 3 ∧ n = 0 ∧ okT t = true) ∨ (k = 0 ∧ n = 0 ∧ t = []) ∨ (k = 4 ∧ (n = 0 ∨ n = 1) ∧ t = []) ∨ ((k = 1 ∨ k = 2) ∧ (-1099511627776 ≤ n ∧ n ≤ 1099511627776) ∧ t = []))

theorem rightV_text (n : Int) (t : List UInt8) : rightV 3 n t = (decide (n = 0) && okT t) := by simp [rightV]
theorem rightV_none (n : Int) (t : List UInt8) : rightV 0 n t = (decide (n = 0) && decide (t = [])) := by simp [rightV]
theorem rightV_flag (n : Int) (t : List UInt8) : rightV 4 n t = (decide (n = 0 ∨ n = 1) && decide (t = [])) := by simp [rightV]
theorem rightV_num (k n : Int) (t : List UInt8) (hk : k = 1 ∨ k = 2) : rightV k n t = (decide (-1099511627776 ≤ n ∧ n ≤ 1099511627776) && decide (t = [])) := by
  rcases hk with rfl | rfl <;> simp [rightV]
theorem rightV_other (k n : Int) (t : List UInt8) (h0 : k ≠ 0) (h1 : k ≠ 1) (h2 : k ≠ 2) (h3 : k ≠ 3) (h4 : k ≠ 4) : rightV k n t = false := by
  simp [rightV, h0, h1, h2, h3, h4]

end Go.Proofs.YthifdefjmfakgaaGreat.Vm

namespace Go.Proofs.YthifdefjmfakgaaGreat
open Go.RowKit

theorem str_len (s : ByteArray) : s.data.toList.length = s.size := by rw [Array.length_toList]; rfl
theorem str_snoc (s : ByteArray) (k : Nat) (h : k < s.size) : s.data.toList.take (k + 1) = s.data.toList.take k ++ [s[k]] := by
  rw [List.take_succ_eq_append_getElem (by simpa using h)]; rfl
theorem str_mem (s : ByteArray) (k : Nat) (h : k < s.size) : s[k] ∈ s.data.toList := by
  have : s[k] = s.data.toList[k]'(by simpa using h) := rfl
  rw [this]; exact List.getElem_mem _
theorem okT_long (s : ByteArray) (h : 64 < s.size) : Vm.okT s.data.toList = false := by
  unfold Vm.okT; rw [str_len, decide_eq_false (by omega)]; rfl
theorem okT_bad (s : ByteArray) (k : Nat) (h : k < s.size) (hc : s[k].toNat < 32 ∨ 126 < s[k].toNat) : Vm.okT s.data.toList = false := by
  unfold Vm.okT
  rw [Bool.and_eq_false_iff]
  right
  rw [List.all_eq_false]
  exact ⟨s[k], str_mem s k h, by simp [Vm.okC]; omega⟩
theorem okT_all (s : ByteArray) (h : s.size ≤ 64) (ha : (s.data.toList.take s.size).all Vm.okC = true) : Vm.okT s.data.toList = true := by
  rw [List.take_of_length_le (by rw [str_len]; omega)] at ha
  unfold Vm.okT
  rw [str_len, ha, decide_eq_true h]; rfl
theorem okC_snoc (s : ByteArray) (k : Nat) (h : k < s.size) (ha : (s.data.toList.take k).all Vm.okC = true) (h0 : 32 ≤ s[k].toNat) (h1 : s[k].toNat ≤ 126) : (s.data.toList.take (k + 1)).all Vm.okC = true := by
  rw [str_snoc s k h, List.all_append, ha]
  simp [Vm.okC, h0, h1]

set_option maxRecDepth 100000 in
set_option maxHeartbeats 1000000 in
theorem plain_any (s : ByteArray) (w : World) (hs : s.size ≤ 4611686018427387904) : Calls Tryz.prog 163 #[.string s] w fun e w' => e = .returned (.bool (Vm.okT s.data.toList)) ∧ w = w' := by
  by_cases h1 : 64 < s.size
  · have HR := Lib.hid (okT_long s h1)
    go_enter Tryz.func163, Tryz.ntmps163
    go_wp2
    go_ret
    rw [HR.out]
    exact ⟨rfl, rfl⟩
  · have HB := Lib.hid (okT_bad s)
    have HA := Lib.hid (okT_all s (by omega))
    have HS := Lib.hid (okC_snoc s)
    go_enter Tryz.func163, Tryz.ntmps163
    go_wp2
    go_loop [9] (fun i => ∃ k : Nat, k ≤ s.size ∧ i = .int .i64 k ∧ (s.data.toList.take k).all Vm.okC = true) (fun i => s.size - (RowKit.intOf i).toNat)
    case atStart => exact ⟨0, Nat.zero_le _, rfl, rfl⟩
    case round =>
      obtain ⟨k, hk, rfl, hd⟩ := hrel
      have HD := Lib.hid hd
      clear hd
      by_cases hlt : k < s.size
      · by_cases hc0 : s[k].toNat < 32
        · have HR := Lib.hid (HB.out k hlt (Or.inl hc0))
          go_wp2
          go_ret
          rw [HR.out]
          exact ⟨rfl, rfl⟩
        · by_cases hc1 : 126 < s[k].toNat
          · have HR := Lib.hid (HB.out k hlt (Or.inr hc1))
            go_wp2
            go_ret
            rw [HR.out]
            exact ⟨rfl, rfl⟩
          · have HN := Lib.hid (HS.out k hlt HD.out (by omega) (by omega))
            go_wp2
            go_round
            case rel => exact ⟨k + 1, by omega, by go_num, HN.out⟩
            case measure => simp [RowKit.intOf]; omega
      · obtain rfl : k = s.size := by omega
        have HR := Lib.hid (HA.out HD.out)
        go_wp2
        go_ret
        rw [HR.out]
        exact ⟨rfl, rfl⟩

/-- a value's memory: three cells -/
def ThreeAt (w : World) (b : Nat) (k n : Int) (t : ByteArray) : Prop := w.heap[b]? = some (.cells #[.int .i64 k, .int .i64 n, .string t] 38 (0, 0))

theorem str_empty (t : ByteArray) : t.toList.isEmpty = decide (t.data.toList = []) := by
  rw [ByteArray.toList_eq]
  cases t.data.toList <;> rfl
theorem ret_bool {a b : Bool} (h : a = b) : Ending.returned (.bool a) = Ending.returned (.bool b) := by rw [h]

set_option maxRecDepth 100000 in
set_option maxHeartbeats 4000000 in
theorem vright_any (k n : Int) (t : ByteArray) (w : World) (ht : t.size ≤ 4611686018427387904) :
    Calls Tryz.prog 145 #[.agg #[.int .i64 k, .int .i64 n, .string t]] w fun e w' => e = .returned (.bool (Vm.rightV k n t.data.toList)) ∧ Below w.heap.size w w' := by
  have HB := Lib.hid ((Below.refl w.heap.size w).alloc (Nat.le_refl _) (.cells #[.int .i64 k, .int .i64 n, .string t] 38))
  have HP := Lib.hid (fun W => plain_any t W ht)
  have HE := Lib.hid (str_empty t)
  by_cases h3 : k = 3
  · subst h3
    rw [Vm.rightV_text]
    cases ho : Vm.okT t.data.toList with
    | false =>
      have HO := Lib.hid ho
      clear ho
      go_enter Tryz.func145, Tryz.ntmps145
      go_wp2_with fail
      refine (HP.out _).mono ?_
      rw [HO.out]
      rintro e w' ⟨rfl, rfl⟩
      go_wp2
      go_ret
      exact ⟨ret_bool (by simp), HB.out⟩
    | true =>
      have HO := Lib.hid ho
      clear ho
      by_cases hn : n = 0
      · subst hn
        go_enter Tryz.func145, Tryz.ntmps145
        go_wp2_with fail
        refine (HP.out _).mono ?_
        rw [HO.out]
        rintro e w' ⟨rfl, rfl⟩
        go_wp2
        go_ret
        exact ⟨ret_bool (by simp), (Below.refl _ _).alloc (Nat.le_refl _) _⟩
      · have hn' : (n == 0) = false := by simpa using hn
        have HR := Lib.hid (show decide (n = 0) = false from decide_eq_false hn)
        clear hn
        go_enter Tryz.func145, Tryz.ntmps145
        go_wp2_with fail
        refine (HP.out _).mono ?_
        rw [HO.out]
        rintro e w' ⟨rfl, rfl⟩
        go_wp2
        go_ret
        exact ⟨ret_bool (by first | rfl | (rw [HR.out]; simp)), (Below.refl _ _).alloc (Nat.le_refl _) _⟩
  by_cases h0 : k = 0
  · subst h0
    rw [Vm.rightV_none]
    by_cases hn : n = 0
    · subst hn
      go_enter Tryz.func145, Tryz.ntmps145
      go_wp2
      go_ret
      exact ⟨ret_bool (by rw [HE.out]; simp), HB.out⟩
    · have hn' : (n == 0) = false := by simpa using hn
      have HR := Lib.hid (show decide (n = 0) = false from decide_eq_false hn)
      clear hn
      go_enter Tryz.func145, Tryz.ntmps145
      go_wp2
      go_ret
      exact ⟨ret_bool (by first | rfl | (rw [HR.out]; simp)), HB.out⟩
  by_cases h4 : k = 4
  · subst h4
    rw [Vm.rightV_flag]
    by_cases hn : n = 0
    · subst hn
      go_enter Tryz.func145, Tryz.ntmps145
      go_wp2
      go_ret
      exact ⟨ret_bool (by rw [HE.out]; simp), HB.out⟩
    · have hn' : (n == 0) = false := by simpa using hn
      by_cases hm : n = 1
      · subst hm
        clear hn
        go_enter Tryz.func145, Tryz.ntmps145
        go_wp2
        go_ret
        exact ⟨ret_bool (by rw [HE.out]; simp), HB.out⟩
      · have hm' : (n == 1) = false := by simpa using hm
        have HR := Lib.hid (show decide (n = 0 ∨ n = 1) = false from decide_eq_false (by omega))
        clear hn hm
        go_enter Tryz.func145, Tryz.ntmps145
        go_wp2
        go_ret
        exact ⟨ret_bool (by first | rfl | (rw [HR.out]; simp)), HB.out⟩
  by_cases h1 : k = 1 ∨ k = 2
  · rw [Vm.rightV_num _ _ _ h1]
    by_cases hn : -1099511627776 ≤ n
    · by_cases hm : n ≤ 1099511627776
      · have HR := Lib.hid (show decide (-1099511627776 ≤ n ∧ n ≤ 1099511627776) = true from decide_eq_true ⟨hn, hm⟩)
        rcases h1 with rfl | rfl
        all_goals
          go_enter Tryz.func145, Tryz.ntmps145
          go_wp2
          go_ret
          exact ⟨ret_bool (by rw [HE.out, HR.out]; simp), HB.out⟩
      · have HR := Lib.hid (show decide (-1099511627776 ≤ n ∧ n ≤ 1099511627776) = false from decide_eq_false (by omega))
        have hd : decide (n ≤ 1099511627776) = false := decide_eq_false hm
        rcases h1 with rfl | rfl
        all_goals
          go_enter Tryz.func145, Tryz.ntmps145
          go_wp2
          go_ret
          exact ⟨ret_bool (by first | rfl | (rw [HR.out]; simp)), HB.out⟩
    · have HR := Lib.hid (show decide (-1099511627776 ≤ n ∧ n ≤ 1099511627776) = false from decide_eq_false (by omega))
      have hd : decide (-1099511627776 ≤ n) = false := decide_eq_false hn
      rcases h1 with rfl | rfl
      all_goals
        go_enter Tryz.func145, Tryz.ntmps145
        go_wp2
        go_ret
        exact ⟨ret_bool (by first | rfl | (rw [HR.out]; simp)), HB.out⟩
  · have e0 : (k == 0) = false := by simpa using h0
    have e1 : (k == 1) = false := by rw [beq_eq_false_iff_ne]; omega
    have e2 : (k == 2) = false := by rw [beq_eq_false_iff_ne]; omega
    have e3 : (k == 3) = false := by simpa using h3
    have e4 : (k == 4) = false := by simpa using h4
    have HR := Lib.hid (Vm.rightV_other k n t.data.toList h0 (by omega) (by omega) h3 h4)
    clear h0 h1 h3 h4
    go_enter Tryz.func145, Tryz.ntmps145
    go_wp2
    go_ret
    exact ⟨ret_bool (by rw [HR.out]), HB.out⟩

end Go.Proofs.YthifdefjmfakgaaGreat

namespace Go.Proofs.YthifdefjmfakgaaGreat
open Go.RowKit

theorem ThreeAt.size {w : World} {b : Nat} {k n : Int} {t : ByteArray} (h : ThreeAt w b k n t) : b < w.heap.size := (Array.getElem?_eq_some_iff.1 h).1
theorem ThreeAt.cell0 {w : World} {b : Nat} {k n : Int} {t : ByteArray} (h : ThreeAt w b k n t) : w.cell? ⟨b, 0, none⟩ = some (.int .i64 k) := by rw [Go.Joins.cell_of_block h]; rfl
theorem ThreeAt.cell1 {w : World} {b : Nat} {k n : Int} {t : ByteArray} (h : ThreeAt w b k n t) : w.cell? ⟨b, 1, none⟩ = some (.int .i64 n) := by rw [Go.Joins.cell_of_block h]; rfl
theorem ThreeAt.cell2 {w : World} {b : Nat} {k n : Int} {t : ByteArray} (h : ThreeAt w b k n t) : w.cell? ⟨b, 2, none⟩ = some (.string t) := by rw [Go.Joins.cell_of_block h]; rfl
theorem ThreeAt.free {w : World} {b : Nat} {k n : Int} {t : ByteArray} (h : ThreeAt w b k n t) (o : Nat) : w.frozen? ⟨b, o, none⟩ = false := Go.Joins.unfrozen_of_block h o
theorem ThreeAt.start (w : World) (k n : Int) (t : ByteArray) : ThreeAt (w.alloc (.cells #[.int .i64 k, .int .i64 n, .string t] 38)) w.heap.size k n t := by
  unfold ThreeAt
  show (w.heap.push _)[w.heap.size]? = _
  simp
theorem ThreeAt.kept {w w' : World} {b : Nat} {k n : Int} {t : ByteArray} (h : ThreeAt w b k n t) (hb : Below w.heap.size w w') : ThreeAt w' b k n t := (hb.block b h.size).trans h
theorem ThreeAt.set {w : World} {b : Nat} {k n : Int} {t : ByteArray} (h : ThreeAt w b k n t) (k' n' : Int) (t' : ByteArray) : ThreeAt (((w.setCell ⟨b, 0, none⟩ (.int .i64 k')).setCell ⟨b, 1, none⟩ (.int .i64 n')).setCell ⟨b, 2, none⟩ (.string t')) b k' n' t' := by
  have h1 := Go.Joins.block_setCell h (i := 0) (.int .i64 k')
  have h2 := Go.Joins.block_setCell h1 (i := 1) (.int .i64 n')
  have h3 := Go.Joins.block_setCell h2 (i := 2) (.string t')
  exact h3
/-- what a call that began in w0 answers in a cell: still zero, at block R -/
def VRes (w0 : World) (R : Nat) (w : World) : Prop := w0.heap.size ≤ R ∧ ThreeAt w R 0 0 ⟨#[]⟩ ∧ Below w0.heap.size w0 w
theorem VRes.kept {w0 w w' : World} {R : Nat} (h : VRes w0 R w) (hb : Below w.heap.size w w') : VRes w0 R w' := ⟨h.1, h.2.1.kept hb, h.2.2.trans (hb.mono h.2.2.size)⟩
/-- two values that the call has boxed first -/
def VTwo (w0 : World) (k n : Int) (t : ByteArray) (k' n' : Int) (t' : ByteArray) (w : World) : Prop := ThreeAt w w0.heap.size k n t ∧ ThreeAt w (w0.heap.size + 1) k' n' t' ∧ Below w0.heap.size w0 w
theorem VTwo.kept {w0 w w' : World} {k n k' n' : Int} {t t' : ByteArray} (h : VTwo w0 k n t k' n' t' w) (hb : Below w.heap.size w w') : VTwo w0 k n t k' n' t' w' := ⟨h.1.kept hb, h.2.1.kept hb, h.2.2.trans (hb.mono h.2.2.size)⟩
theorem VTwo.start (w0 : World) (k n : Int) (t : ByteArray) (k' n' : Int) (t' : ByteArray) : VTwo w0 k n t k' n' t' ((w0.alloc (.cells #[.int .i64 k, .int .i64 n, .string t] 38)).alloc (.cells #[.int .i64 k', .int .i64 n', .string t'] 38)) := by
  refine ⟨(ThreeAt.start w0 k n t).kept ((Below.refl _ _).alloc (Nat.le_refl _) _), ?_, ((Below.refl _ _).alloc (Nat.le_refl _) _).alloc (by simp) _⟩
  have h := ThreeAt.start (w0.alloc (.cells #[.int .i64 k, .int .i64 n, .string t] 38)) k' n' t'
  simpa using h
theorem VTwo.size {w0 w : World} {k n k' n' : Int} {t t' : ByteArray} (h : VTwo w0 k n t k' n' t' w) : w0.heap.size + 1 < w.heap.size := h.2.1.size
theorem VTwo.res2 (w0 : World) (k n : Int) (t : ByteArray) (k' n' : Int) (t' : ByteArray) : VTwo w0 k n t k' n' t' (((w0.alloc (.cells #[.int .i64 k, .int .i64 n, .string t] 38)).alloc (.cells #[.int .i64 k', .int .i64 n', .string t'] 38)).alloc (.cells #[.int .i64 0, .int .i64 0, .string ⟨#[]⟩] 38)) :=
  (VTwo.start w0 k n t k' n' t').kept ((Below.refl _ _).alloc (Nat.le_refl _) _)
theorem VTwo.res (w0 : World) (k n : Int) (t : ByteArray) (k' n' : Int) (t' : ByteArray) : VRes w0 (w0.heap.size + 2) (((w0.alloc (.cells #[.int .i64 k, .int .i64 n, .string t] 38)).alloc (.cells #[.int .i64 k', .int .i64 n', .string t'] 38)).alloc (.cells #[.int .i64 0, .int .i64 0, .string ⟨#[]⟩] 38)) := by
  refine ⟨by omega, ?_, (VTwo.res2 w0 k n t k' n' t').2.2⟩
  have h := ThreeAt.start ((w0.alloc (.cells #[.int .i64 k, .int .i64 n, .string t] 38)).alloc (.cells #[.int .i64 k', .int .i64 n', .string t'] 38)) 0 0 ⟨#[]⟩
  simpa using h

end Go.Proofs.YthifdefjmfakgaaGreat

namespace Go.Proofs.YthifdefjmfakgaaGreat
open Go.RowKit

/-- the Kind that a property asks for -/
def kindOf (p : Int) : Int := if p = 1 ∨ p = 2 then 4 else if p = 3 then 3 else if p = 4 ∨ p = 5 ∨ p = 6 ∨ p = 7 then 2 else if p = 8 then 1 else -1
def right8V (p k n : Int) (t : List UInt8) : Bool := decide (1 ≤ p ∧ p ≤ 8) && (Vm.rightV k n t && decide (k = kindOf p ∨ k = 0))

set_option maxRecDepth 100000 in
set_option maxHeartbeats 4000000 in
theorem vright8_any (p k n : Int) (t : ByteArray) (w : World) (ht : t.size ≤ 4611686018427387904) : Calls Tryz.prog 117 #[.int .i64 p, .agg #[.int .i64 k, .int .i64 n, .string t]] w fun e w' => e = .returned (.bool (right8V p k n t.data.toList)) ∧ Below w.heap.size w w' := by
  have hb := (Below.refl w.heap.size w).alloc (Nat.le_refl _) (.cells #[.int .i64 k, .int .i64 n, .string t] 38)
  have HB := Lib.hid hb
  have HT := Lib.hid (ThreeAt.start w k n t)
  clear hb
  by_cases hp : 1 ≤ p ∧ p ≤ 8
  · have HR := Lib.hid (show right8V p k n t.data.toList = (Vm.rightV k n t.data.toList && decide (k = kindOf p ∨ k = 0)) by unfold right8V; rw [decide_eq_true hp]; rfl)
    cases hr : Vm.rightV k n t.data.toList with
    | false =>
      have HRB := Lib.hid hr
      clear hr
      have hc : p = 1 ∨ p = 2 ∨ p = 3 ∨ p = 4 ∨ p = 5 ∨ p = 6 ∨ p = 7 ∨ p = 8 := by omega
      clear hp
      rcases hc with rfl | rfl | rfl | rfl | rfl | rfl | rfl | rfl
      all_goals
        go_enter Tryz.func117, Tryz.ntmps117
        go_wp2_with fail
        refine (vright_any k n t _ ht).mono ?_
        rw [HRB.out]
        rintro e w1 ⟨rfl, hb1⟩
        have HB1 := Lib.hid (HB.out.trans (hb1.mono HB.out.size))
        clear hb1
        go_wp2
        go_ret
        rw [HR.out, HRB.out]
        exact ⟨rfl, HB1.out⟩
    | true =>
      have HRB := Lib.hid hr
      clear hr
      by_cases h0 : k = 0
      · have HD := Lib.hid (show decide (k = kindOf p ∨ k = 0) = true from decide_eq_true (Or.inr h0))
        subst h0
        have hc : p = 1 ∨ p = 2 ∨ p = 3 ∨ p = 4 ∨ p = 5 ∨ p = 6 ∨ p = 7 ∨ p = 8 := by omega
        clear hp
        rcases hc with rfl | rfl | rfl | rfl | rfl | rfl | rfl | rfl
        all_goals
          go_enter Tryz.func117, Tryz.ntmps117
          go_wp2_with fail
          refine (vright_any _ n t _ ht).mono ?_
          rw [HRB.out]
          rintro e w1 ⟨rfl, hb1⟩
          have HB1 := Lib.hid (HB.out.trans (hb1.mono HB.out.size))
          have x0 := (HT.out.kept hb1).cell0
          clear hb1
          go_wp2
          go_ret
          rw [HR.out, HRB.out, HD.out]
          exact ⟨ret_bool (by simp), HB1.out⟩
      · have e0 : (k == 0) = false := by simpa using h0
        have hc : p = 1 ∨ p = 2 ∨ p = 3 ∨ p = 4 ∨ p = 5 ∨ p = 6 ∨ p = 7 ∨ p = 8 := by omega
        clear hp
        rcases hc with rfl | hc
        · by_cases hk : k = 4
          · have HD := Lib.hid (show decide (k = kindOf 1 ∨ k = 0) = true from decide_eq_true (Or.inl hk))
            subst hk
            clear h0 e0
            go_enter Tryz.func117, Tryz.ntmps117
            go_wp2_with fail
            refine (vright_any _ n t _ ht).mono ?_
            rw [HRB.out]
            rintro e w1 ⟨rfl, hb1⟩
            have HB1 := Lib.hid (HB.out.trans (hb1.mono HB.out.size))
            have x0 := (HT.out.kept hb1).cell0
            clear hb1
            go_wp2
            go_ret
            rw [HR.out, HRB.out, HD.out]
            exact ⟨ret_bool (by simp), HB1.out⟩
          · have HD := Lib.hid (show decide (k = kindOf 1 ∨ k = 0) = false from decide_eq_false (by rw [show kindOf 1 = 4 from by decide]; omega))
            have e1 : (k == 4) = false := by simpa using hk
            clear h0 hk
            go_enter Tryz.func117, Tryz.ntmps117
            go_wp2_with fail
            refine (vright_any _ n t _ ht).mono ?_
            rw [HRB.out]
            rintro e w1 ⟨rfl, hb1⟩
            have HB1 := Lib.hid (HB.out.trans (hb1.mono HB.out.size))
            have x0 := (HT.out.kept hb1).cell0
            clear hb1
            go_wp2
            go_ret
            rw [HR.out, HRB.out, HD.out]
            exact ⟨ret_bool (by simp), HB1.out⟩
        rcases hc with rfl | hc
        · by_cases hk : k = 4
          · have HD := Lib.hid (show decide (k = kindOf 2 ∨ k = 0) = true from decide_eq_true (Or.inl hk))
            subst hk
            clear h0 e0
            go_enter Tryz.func117, Tryz.ntmps117
            go_wp2_with fail
            refine (vright_any _ n t _ ht).mono ?_
            rw [HRB.out]
            rintro e w1 ⟨rfl, hb1⟩
            have HB1 := Lib.hid (HB.out.trans (hb1.mono HB.out.size))
            have x0 := (HT.out.kept hb1).cell0
            clear hb1
            go_wp2
            go_ret
            rw [HR.out, HRB.out, HD.out]
            exact ⟨ret_bool (by simp), HB1.out⟩
          · have HD := Lib.hid (show decide (k = kindOf 2 ∨ k = 0) = false from decide_eq_false (by rw [show kindOf 2 = 4 from by decide]; omega))
            have e1 : (k == 4) = false := by simpa using hk
            clear h0 hk
            go_enter Tryz.func117, Tryz.ntmps117
            go_wp2_with fail
            refine (vright_any _ n t _ ht).mono ?_
            rw [HRB.out]
            rintro e w1 ⟨rfl, hb1⟩
            have HB1 := Lib.hid (HB.out.trans (hb1.mono HB.out.size))
            have x0 := (HT.out.kept hb1).cell0
            clear hb1
            go_wp2
            go_ret
            rw [HR.out, HRB.out, HD.out]
            exact ⟨ret_bool (by simp), HB1.out⟩
        rcases hc with rfl | hc
        · by_cases hk : k = 3
          · have HD := Lib.hid (show decide (k = kindOf 3 ∨ k = 0) = true from decide_eq_true (Or.inl hk))
            subst hk
            clear h0 e0
            go_enter Tryz.func117, Tryz.ntmps117
            go_wp2_with fail
            refine (vright_any _ n t _ ht).mono ?_
            rw [HRB.out]
            rintro e w1 ⟨rfl, hb1⟩
            have HB1 := Lib.hid (HB.out.trans (hb1.mono HB.out.size))
            have x0 := (HT.out.kept hb1).cell0
            clear hb1
            go_wp2
            go_ret
            rw [HR.out, HRB.out, HD.out]
            exact ⟨ret_bool (by simp), HB1.out⟩
          · have HD := Lib.hid (show decide (k = kindOf 3 ∨ k = 0) = false from decide_eq_false (by rw [show kindOf 3 = 3 from by decide]; omega))
            have e1 : (k == 3) = false := by simpa using hk
            clear h0 hk
            go_enter Tryz.func117, Tryz.ntmps117
            go_wp2_with fail
            refine (vright_any _ n t _ ht).mono ?_
            rw [HRB.out]
            rintro e w1 ⟨rfl, hb1⟩
            have HB1 := Lib.hid (HB.out.trans (hb1.mono HB.out.size))
            have x0 := (HT.out.kept hb1).cell0
            clear hb1
            go_wp2
            go_ret
            rw [HR.out, HRB.out, HD.out]
            exact ⟨ret_bool (by simp), HB1.out⟩
        rcases hc with rfl | hc
        · by_cases hk : k = 2
          · have HD := Lib.hid (show decide (k = kindOf 4 ∨ k = 0) = true from decide_eq_true (Or.inl hk))
            subst hk
            clear h0 e0
            go_enter Tryz.func117, Tryz.ntmps117
            go_wp2_with fail
            refine (vright_any _ n t _ ht).mono ?_
            rw [HRB.out]
            rintro e w1 ⟨rfl, hb1⟩
            have HB1 := Lib.hid (HB.out.trans (hb1.mono HB.out.size))
            have x0 := (HT.out.kept hb1).cell0
            clear hb1
            go_wp2
            go_ret
            rw [HR.out, HRB.out, HD.out]
            exact ⟨ret_bool (by simp), HB1.out⟩
          · have HD := Lib.hid (show decide (k = kindOf 4 ∨ k = 0) = false from decide_eq_false (by rw [show kindOf 4 = 2 from by decide]; omega))
            have e1 : (k == 2) = false := by simpa using hk
            clear h0 hk
            go_enter Tryz.func117, Tryz.ntmps117
            go_wp2_with fail
            refine (vright_any _ n t _ ht).mono ?_
            rw [HRB.out]
            rintro e w1 ⟨rfl, hb1⟩
            have HB1 := Lib.hid (HB.out.trans (hb1.mono HB.out.size))
            have x0 := (HT.out.kept hb1).cell0
            clear hb1
            go_wp2
            go_ret
            rw [HR.out, HRB.out, HD.out]
            exact ⟨ret_bool (by simp), HB1.out⟩
        rcases hc with rfl | hc
        · by_cases hk : k = 2
          · have HD := Lib.hid (show decide (k = kindOf 5 ∨ k = 0) = true from decide_eq_true (Or.inl hk))
            subst hk
            clear h0 e0
            go_enter Tryz.func117, Tryz.ntmps117
            go_wp2_with fail
            refine (vright_any _ n t _ ht).mono ?_
            rw [HRB.out]
            rintro e w1 ⟨rfl, hb1⟩
            have HB1 := Lib.hid (HB.out.trans (hb1.mono HB.out.size))
            have x0 := (HT.out.kept hb1).cell0
            clear hb1
            go_wp2
            go_ret
            rw [HR.out, HRB.out, HD.out]
            exact ⟨ret_bool (by simp), HB1.out⟩
          · have HD := Lib.hid (show decide (k = kindOf 5 ∨ k = 0) = false from decide_eq_false (by rw [show kindOf 5 = 2 from by decide]; omega))
            have e1 : (k == 2) = false := by simpa using hk
            clear h0 hk
            go_enter Tryz.func117, Tryz.ntmps117
            go_wp2_with fail
            refine (vright_any _ n t _ ht).mono ?_
            rw [HRB.out]
            rintro e w1 ⟨rfl, hb1⟩
            have HB1 := Lib.hid (HB.out.trans (hb1.mono HB.out.size))
            have x0 := (HT.out.kept hb1).cell0
            clear hb1
            go_wp2
            go_ret
            rw [HR.out, HRB.out, HD.out]
            exact ⟨ret_bool (by simp), HB1.out⟩
        rcases hc with rfl | hc
        · by_cases hk : k = 2
          · have HD := Lib.hid (show decide (k = kindOf 6 ∨ k = 0) = true from decide_eq_true (Or.inl hk))
            subst hk
            clear h0 e0
            go_enter Tryz.func117, Tryz.ntmps117
            go_wp2_with fail
            refine (vright_any _ n t _ ht).mono ?_
            rw [HRB.out]
            rintro e w1 ⟨rfl, hb1⟩
            have HB1 := Lib.hid (HB.out.trans (hb1.mono HB.out.size))
            have x0 := (HT.out.kept hb1).cell0
            clear hb1
            go_wp2
            go_ret
            rw [HR.out, HRB.out, HD.out]
            exact ⟨ret_bool (by simp), HB1.out⟩
          · have HD := Lib.hid (show decide (k = kindOf 6 ∨ k = 0) = false from decide_eq_false (by rw [show kindOf 6 = 2 from by decide]; omega))
            have e1 : (k == 2) = false := by simpa using hk
            clear h0 hk
            go_enter Tryz.func117, Tryz.ntmps117
            go_wp2_with fail
            refine (vright_any _ n t _ ht).mono ?_
            rw [HRB.out]
            rintro e w1 ⟨rfl, hb1⟩
            have HB1 := Lib.hid (HB.out.trans (hb1.mono HB.out.size))
            have x0 := (HT.out.kept hb1).cell0
            clear hb1
            go_wp2
            go_ret
            rw [HR.out, HRB.out, HD.out]
            exact ⟨ret_bool (by simp), HB1.out⟩
        rcases hc with rfl | hc
        · by_cases hk : k = 2
          · have HD := Lib.hid (show decide (k = kindOf 7 ∨ k = 0) = true from decide_eq_true (Or.inl hk))
            subst hk
            clear h0 e0
            go_enter Tryz.func117, Tryz.ntmps117
            go_wp2_with fail
            refine (vright_any _ n t _ ht).mono ?_
            rw [HRB.out]
            rintro e w1 ⟨rfl, hb1⟩
            have HB1 := Lib.hid (HB.out.trans (hb1.mono HB.out.size))
            have x0 := (HT.out.kept hb1).cell0
            clear hb1
            go_wp2
            go_ret
            rw [HR.out, HRB.out, HD.out]
            exact ⟨ret_bool (by simp), HB1.out⟩
          · have HD := Lib.hid (show decide (k = kindOf 7 ∨ k = 0) = false from decide_eq_false (by rw [show kindOf 7 = 2 from by decide]; omega))
            have e1 : (k == 2) = false := by simpa using hk
            clear h0 hk
            go_enter Tryz.func117, Tryz.ntmps117
            go_wp2_with fail
            refine (vright_any _ n t _ ht).mono ?_
            rw [HRB.out]
            rintro e w1 ⟨rfl, hb1⟩
            have HB1 := Lib.hid (HB.out.trans (hb1.mono HB.out.size))
            have x0 := (HT.out.kept hb1).cell0
            clear hb1
            go_wp2
            go_ret
            rw [HR.out, HRB.out, HD.out]
            exact ⟨ret_bool (by simp), HB1.out⟩
        subst hc
        by_cases hk : k = 1
        · have HD := Lib.hid (show decide (k = kindOf 8 ∨ k = 0) = true from decide_eq_true (Or.inl hk))
          subst hk
          clear h0 e0
          go_enter Tryz.func117, Tryz.ntmps117
          go_wp2_with fail
          refine (vright_any _ n t _ ht).mono ?_
          rw [HRB.out]
          rintro e w1 ⟨rfl, hb1⟩
          have HB1 := Lib.hid (HB.out.trans (hb1.mono HB.out.size))
          have x0 := (HT.out.kept hb1).cell0
          clear hb1
          go_wp2
          go_ret
          rw [HR.out, HRB.out, HD.out]
          exact ⟨ret_bool (by simp), HB1.out⟩
        · have HD := Lib.hid (show decide (k = kindOf 8 ∨ k = 0) = false from decide_eq_false (by rw [show kindOf 8 = 1 from by decide]; omega))
          have e1 : (k == 1) = false := by simpa using hk
          clear h0 hk
          go_enter Tryz.func117, Tryz.ntmps117
          go_wp2_with fail
          refine (vright_any _ n t _ ht).mono ?_
          rw [HRB.out]
          rintro e w1 ⟨rfl, hb1⟩
          have HB1 := Lib.hid (HB.out.trans (hb1.mono HB.out.size))
          have x0 := (HT.out.kept hb1).cell0
          clear hb1
          go_wp2
          go_ret
          rw [HR.out, HRB.out, HD.out]
          exact ⟨ret_bool (by simp), HB1.out⟩
  · have HR := Lib.hid (show right8V p k n t.data.toList = false by unfold right8V; rw [decide_eq_false hp]; rfl)
    have e1 : (p == 1) = false := by rw [beq_eq_false_iff_ne]; omega
    have e2 : (p == 2) = false := by rw [beq_eq_false_iff_ne]; omega
    have e3 : (p == 3) = false := by rw [beq_eq_false_iff_ne]; omega
    have e4 : (p == 4) = false := by rw [beq_eq_false_iff_ne]; omega
    have e5 : (p == 5) = false := by rw [beq_eq_false_iff_ne]; omega
    have e6 : (p == 6) = false := by rw [beq_eq_false_iff_ne]; omega
    have e7 : (p == 7) = false := by rw [beq_eq_false_iff_ne]; omega
    have e8 : (p == 8) = false := by rw [beq_eq_false_iff_ne]; omega
    clear hp
    go_enter Tryz.func117, Tryz.ntmps117
    go_wp2
    go_ret
    rw [HR.out]
    exact ⟨rfl, HB.out⟩

end Go.Proofs.YthifdefjmfakgaaGreat
