/-
  PLAIN MATHEMATICS of layer 3 (value): which values may be; sums, products, quotients.
  No conditions.
-/
import Derived.Lib.Bytes
namespace Go.Proofs.YtaplemkmkbjodaaGreat.Vm

/-- may a text be? -/
def okC (c : UInt8) : Bool := decide (32 ≤ c.toNat ∧ c.toNat ≤ 126)
def okT (l : List UInt8) : Bool := decide (l.length ≤ 64) && l.all okC

/-- may a value be? -/
def rightV (k n : Int) (t : List UInt8) : Bool :=
  decide ((k = 3 ∧ n = 0 ∧ okT t = true) ∨ (k = 0 ∧ n = 0 ∧ t = []) ∨ (k = 4 ∧ (n = 0 ∨ n = 1) ∧ t = []) ∨ ((k = 1 ∨ k = 2) ∧ (-1099511627776 ≤ n ∧ n ≤ 1099511627776) ∧ t = []))

theorem rightV_text (n : Int) (t : List UInt8) : rightV 3 n t = (decide (n = 0) && okT t) := by simp [rightV]
theorem rightV_none (n : Int) (t : List UInt8) : rightV 0 n t = (decide (n = 0) && decide (t = [])) := by simp [rightV]
theorem rightV_flag (n : Int) (t : List UInt8) : rightV 4 n t = (decide (n = 0 ∨ n = 1) && decide (t = [])) := by simp [rightV]
theorem rightV_num (k n : Int) (t : List UInt8) (hk : k = 1 ∨ k = 2) : rightV k n t = (decide (-1099511627776 ≤ n ∧ n ≤ 1099511627776) && decide (t = [])) := by
  rcases hk with rfl | rfl <;> simp [rightV]
theorem rightV_other (k n : Int) (t : List UInt8) (h0 : k ≠ 0) (h1 : k ≠ 1) (h2 : k ≠ 2) (h3 : k ≠ 3) (h4 : k ≠ 4) : rightV k n t = false := by
  simp [rightV, h0, h1, h2, h3, h4]

/-- can they be reckoned with each other? -/
def numsV (k n : Int) (t : List UInt8) (k' n' : Int) (t' : List UInt8) : Bool := rightV k n t && rightV k' n' t' && decide (k = k') && decide (k = 1 ∨ k = 2)
theorem numsV_yes {k n k' n' : Int} {t t' : List UInt8} (h : numsV k n t k' n' t' = true) : k' = k ∧ (k = 1 ∨ k = 2) ∧ t = [] ∧ t' = [] ∧ -1099511627776 ≤ n ∧ n ≤ 1099511627776 ∧ -1099511627776 ≤ n' ∧ n' ≤ 1099511627776 ∧ rightV k n t = true ∧ rightV k' n' t' = true := by
  unfold numsV at h
  simp only [Bool.and_eq_true, decide_eq_true_eq] at h
  obtain ⟨⟨⟨h1, h2⟩, rfl⟩, h4⟩ := h
  have a1 := h1
  have a2 := h2
  rw [rightV_num _ _ _ h4] at h1 h2
  simp only [Bool.and_eq_true, decide_eq_true_eq] at h1 h2
  exact ⟨rfl, h4, h1.2, h2.2, h1.1.1, h1.1.2, h2.1.1, h2.1.2, a1, a2⟩
theorem numsV_mk (k n n' : Int) (hk : k = 1 ∨ k = 2) (h0 : -1099511627776 ≤ n) (h1 : n ≤ 1099511627776) (h2 : -1099511627776 ≤ n') (h3 : n' ≤ 1099511627776) : numsV k n [] k n' [] = true := by
  unfold numsV
  rw [rightV_num _ _ _ hk, rightV_num _ _ _ hk]
  simp [h0, h1, h2, h3, hk]
theorem numsV_comm (k n : Int) (t : List UInt8) (k' n' : Int) (t' : List UInt8) : numsV k n t k' n' t' = numsV k' n' t' k n t := by
  cases h : numsV k n t k' n' t' with
  | true =>
    obtain ⟨rfl, hk, rfl, rfl, a, b, c, d, -, -⟩ := numsV_yes h
    exact (numsV_mk _ _ _ hk c d a b).symm
  | false =>
    cases h' : numsV k' n' t' k n t with
    | false => rfl
    | true =>
      obtain ⟨rfl, hk, rfl, rfl, a, b, c, d, -, -⟩ := numsV_yes h'
      rw [numsV_mk _ _ _ hk c d a b] at h
      cases h

/-- an answer: the kind, the number, the error -/
def ansV (k n : Int) : Int × Int × Int := if rightV k n [] = true then (k, n, 0) else (0, 0, 30)
theorem ansV_in (k n : Int) (hk : k = 1 ∨ k = 2) (h0 : -1099511627776 ≤ n) (h1 : n ≤ 1099511627776) : ansV k n = (k, n, 0) := by
  unfold ansV
  rw [rightV_num _ _ _ hk]
  simp [h0, h1]
theorem ansV_out (k n : Int) (hk : k = 1 ∨ k = 2) (h : n < -1099511627776 ∨ 1099511627776 < n) : ansV k n = (0, 0, 30) := by
  unfold ansV
  rw [rightV_num _ _ _ hk]
  rw [if_neg]
  simp
  omega
theorem ansV_ok {k n a b : Int} (hk : k = 1 ∨ k = 2) (h : ansV k n = (a, b, 0)) : a = k ∧ b = n ∧ -1099511627776 ≤ n ∧ n ≤ 1099511627776 := by
  by_cases hn : -1099511627776 ≤ n ∧ n ≤ 1099511627776
  · rw [ansV_in k n hk hn.1 hn.2] at h
    simp only [Prod.mk.injEq] at h
    exact ⟨h.1.symm, h.2.1.symm, hn⟩
  · rw [ansV_out k n hk (by omega)] at h
    simp at h

def addV (k n : Int) (t : List UInt8) (k' n' : Int) (t' : List UInt8) : Int × Int × Int := if numsV k n t k' n' t' = true then ansV k (n + n') else (0, 0, 1)
/-- with the sign of a product -/
def sgnV (n n' : Int) (p : Nat) : Int := if (n < 0) ↔ (n' < 0) then (p : Int) else -(p : Int)
theorem sgnV_comm (n n' : Int) (p : Nat) : sgnV n n' p = sgnV n' n p := by
  unfold sgnV
  by_cases a : n < 0 <;> by_cases b : n' < 0 <;> simp [a, b]
/-- a product, without its sign -/
def prodV (k : Int) (x y : Nat) : Nat := if k = 2 then (x * y + 32768) / 65536 else x * y
def timesV (k n : Int) (t : List UInt8) (k' n' : Int) (t' : List UInt8) : Int × Int × Int := if numsV k n t k' n' t' = true then ansV k (sgnV n n' (prodV k n.natAbs n'.natAbs)) else (0, 0, 1)
/-- a quotient of Fixeds, without its sign -/
def quotV (x y : Nat) : Nat := (2 * x * 65536 + y) / (2 * y)
def overV (k n : Int) (t : List UInt8) (k' n' : Int) (t' : List UInt8) : Int × Int × Int :=
  if numsV k n t k' n' t' = true then (if n' = 0 then (0, 0, 31) else if k = 1 then ansV 1 (n.tdiv n') else ansV 2 (sgnV n n' (quotV n.natAbs n'.natAbs))) else (0, 0, 1)

theorem addV_comm (k n : Int) (t : List UInt8) (k' n' : Int) (t' : List UInt8) : addV k n t k' n' t' = addV k' n' t' k n t := by
  unfold addV
  rw [numsV_comm k n t k' n' t']
  cases h : numsV k' n' t' k n t with
  | false => rfl
  | true =>
    obtain ⟨rfl, -⟩ := numsV_yes h
    rw [Int.add_comm]
theorem timesV_comm (k n : Int) (t : List UInt8) (k' n' : Int) (t' : List UInt8) : timesV k n t k' n' t' = timesV k' n' t' k n t := by
  unfold timesV
  rw [numsV_comm k n t k' n' t']
  cases h : numsV k' n' t' k n t with
  | false => rfl
  | true =>
    obtain ⟨rfl, -⟩ := numsV_yes h
    rw [sgnV_comm, show prodV k n.natAbs n'.natAbs = prodV k n'.natAbs n.natAbs from by unfold prodV; rw [Nat.mul_comm]]

/-- what is added can be taken away -/
theorem addV_back {k n k' n' a b : Int} {t t' : List UInt8} (h : addV k n t k' n' t' = (a, b, 0)) : t = [] ∧ addV a b [] k' (-n') [] = (k, n, 0) ∧ -1099511627776 ≤ n' ∧ n' ≤ 1099511627776 := by
  unfold addV at h
  split at h
  · next hn =>
    obtain ⟨rfl, hk, rfl, rfl, h0, h1, h2, h3, -, -⟩ := numsV_yes hn
    obtain ⟨rfl, rfl, h4, h5⟩ := ansV_ok hk h
    refine ⟨rfl, ?_, h2, h3⟩
    unfold addV
    rw [if_pos (numsV_mk _ _ _ hk h4 h5 (by omega) (by omega)), ansV_in _ _ hk (by omega) (by omega), show n + n' + -n' = n from by omega]
  · simp at h

theorem tdiv_mul_facts (n d : Int) : (0 ≤ n → 0 ≤ n.tdiv d * d ∧ n.tdiv d * d ≤ n) ∧ (n ≤ 0 → n ≤ n.tdiv d * d ∧ n.tdiv d * d ≤ 0) := by
  have key : ∀ m : Nat, ∀ e : Int, 0 ≤ (m : Int).tdiv e * e ∧ (m : Int).tdiv e * e ≤ m := by
    intro m e
    have h1 := Int.mul_tdiv_add_tmod (m : Int) e
    have h2 := Int.tmod_nonneg e (show (0 : Int) ≤ m by omega)
    rw [Int.mul_comm] at h1
    constructor
    · rcases Int.le_total 0 e with he | he
      · exact Int.mul_nonneg (Int.tdiv_nonneg (by omega) he) he
      · have h3 := Int.tdiv_nonpos_of_nonneg_of_nonpos (show (0 : Int) ≤ m by omega) he
        exact Int.mul_nonneg_of_nonpos_of_nonpos h3 he
    · omega
  constructor
  · intro h
    obtain ⟨m, rfl⟩ := Int.eq_ofNat_of_zero_le h
    exact key m d
  · intro h
    obtain ⟨m, hm⟩ := Int.eq_ofNat_of_zero_le (show 0 ≤ -n by omega)
    obtain rfl : n = -(m : Int) := by omega
    rw [Int.neg_tdiv, Int.neg_mul]
    have := key m d
    omega

/-- a quotient of Ints times the divisor is no further from 0 than what was divided -/
theorem overV_back {n k' n' a b : Int} {t t' : List UInt8} (h : overV 1 n t k' n' t' = (a, b, 0)) :
    ∃ m, timesV a b [] k' n' t' = (1, m, 0) ∧ (0 < m → m ≤ n ∧ 0 ≤ n) ∧ (m < 0 → n ≤ m ∧ n ≤ 0) := by
  unfold overV at h
  split at h
  · next hn =>
    obtain ⟨rfl, hk, rfl, rfl, h0, h1, h2, h3, -, -⟩ := numsV_yes hn
    split at h
    · simp at h
    · next hz =>
      rw [if_pos rfl] at h
      obtain ⟨rfl, rfl, h4, h5⟩ := ansV_ok (Or.inl rfl) h
      obtain ⟨f1, f2⟩ := tdiv_mul_facts n n'
      have hs : sgnV (n.tdiv n') n' (prodV 1 (n.tdiv n').natAbs n'.natAbs) = n.tdiv n' * n' := by
        generalize n.tdiv n' = q
        have e1 : prodV 1 q.natAbs n'.natAbs = (q * n').natAbs := by
          rw [Int.natAbs_mul]; rfl
        rw [e1]
        unfold sgnV
        split
        · next hh =>
          rw [Int.natAbs_of_nonneg]
          by_cases hq : q < 0
          · exact Int.mul_nonneg_of_nonpos_of_nonpos (by omega) (by have := hh.1 hq; omega)
          · exact Int.mul_nonneg (by omega) (by have : ¬ n' < 0 := fun hn' => hq (hh.2 hn'); omega)
        · next hh =>
          rw [Int.ofNat_natAbs_of_nonpos]
          · omega
          by_cases hq : q < 0
          · have : ¬ n' < 0 := fun hn' => hh ⟨fun _ => hn', fun _ => hq⟩
            exact Int.mul_nonpos_of_nonpos_of_nonneg (by omega) (by omega)
          · have : n' < 0 := Classical.byContradiction fun hn' => hh ⟨fun a => absurd a hq, fun a => absurd a hn'⟩
            exact Int.mul_nonpos_of_nonneg_of_nonpos (by omega) (by omega)
      refine ⟨n.tdiv n' * n', ?_, ?_, ?_⟩
      · unfold timesV
        rw [if_pos (numsV_mk _ _ _ (Or.inl rfl) h4 h5 h2 h3), hs, ansV_in _ _ (Or.inl rfl) ?_ ?_]
        · rcases Int.le_total 0 n with hh | hh
          · have := f1 hh; omega
          · have := f2 hh; omega
        · rcases Int.le_total 0 n with hh | hh
          · have := f1 hh; omega
          · have := f2 hh; omega
      · intro hm
        rcases Int.le_total 0 n with hh | hh
        · have := f1 hh; omega
        · have := f2 hh; omega
      · intro hm
        rcases Int.le_total 0 n with hh | hh
        · have := f1 hh; omega
        · have := f2 hh; omega
  · simp at h

/-- the document's way to round a product -/
theorem prod_parts (x y : Nat) : x * y = x * (y / 1048576) * 1048576 + x * (y % 1048576) := by
  rw [Nat.mul_assoc, ← Nat.mul_add, Nat.mul_comm (y / 1048576), Nat.div_add_mod]
theorem prod_round (h l : Nat) : (h * 1048576 + l + 32768) / 65536 = h * 16 + (l + 32768) / 65536 := by omega
/-- the document's way to round a quotient -/
theorem quot_round (x y : Nat) (hy : 0 < y) : quotV x y = x * 65536 / y + (if y ≤ x * 65536 % y * 2 then 1 else 0) := by
  unfold quotV
  have e : 2 * x * 65536 = 2 * (x * 65536) := by rw [Nat.mul_assoc]
  rw [e]
  generalize x * 65536 = z
  have h1 := Nat.div_add_mod z y
  have h2 := Nat.mod_lt z hy
  generalize z % y = r at *
  generalize z / y = q at *
  subst h1
  have e2 : 2 * (y * q + r) + y = (2 * r + y) + (2 * y) * q := by
    rw [Nat.mul_add, Nat.mul_assoc]; omega
  rw [e2, Nat.add_mul_div_left _ _ (by omega)]
  split
  · have : (2 * r + y) / (2 * y) = 1 := Nat.div_eq_of_lt_le (by omega) (by omega)
    omega
  · have : (2 * r + y) / (2 * y) = 0 := Nat.div_eq_of_lt (by omega)
    omega

end Go.Proofs.YtaplemkmkbjodaaGreat.Vm
