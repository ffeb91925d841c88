/-
  PLAIN MATHEMATICS of layer 1 (wire): numbers as bytes, the sum, frames: lists of bytes and natural numbers alone; no program, no world.
  No conditions.
-/
import Derived.Lib.BitFns
import Derived.Lib.Bytes
import Derived.Laws.BitsAllLaws
namespace Go.Proofs.YtilkokhapcgolaaGreat.Wm

/-- the low 'k' bytes of n, the highest first -/
def be : Nat → Nat → List UInt8
  | 0, _ => []
  | k + 1, n => be k (n / 256) ++ [UInt8.ofNat (n % 256)]

theorem be_length (k n : Nat) : (be k n).length = k := by
  induction k generalizing n with
  | zero => rfl
  | succ k ih => simp [be, ih]

/-- how many bytes n (below 2^48) takes -/
def nlen (n : Nat) : Nat :=
  if n = 0 then 0 else if n < 256 then 1 else if n < 65536 then 2 else if n < 16777216 then 3 else if n < 4294967296 then 4 else if n < 1099511627776 then 5 else 6

theorem nlen_le (n : Nat) : nlen n ≤ 6 := by
  unfold nlen
  repeat' split
  all_goals omega

theorem nlen_lt (n : Nat) (h : n < 281474976710656) : n < 256 ^ nlen n := by
  unfold nlen
  repeat' split
  all_goals (simp; omega)

theorem nlen_zero : nlen 0 = 0 := rfl

theorem nlen_step (n : Nat) (h0 : n ≠ 0) (h : n < 281474976710656) : nlen n = nlen (n / 256) + 1 := by
  unfold nlen
  repeat' split
  all_goals omega

/-- a number's bytes -/
def numB (n : Nat) : List UInt8 := UInt8.ofNat (nlen n) :: be (nlen n) n

theorem numB_length (n : Nat) : (numB n).length = nlen n + 1 := by simp [numB, be_length]

theorem be_take (k n j : Nat) (h : j ≤ k) : (be k n).take j = be j (n / 256 ^ (k - j)) := by
  induction k generalizing n with
  | zero => have : j = 0 := by omega
            subst this; simp [be]
  | succ k ih =>
    by_cases hj : j = k + 1
    · subst hj; rw [List.take_of_length_le (by simp [be_length])]; simp
    · have hjk : j ≤ k := by omega
      rw [be, List.take_append_of_le_length (by simp [be_length]; omega), ih _ hjk]
      congr 1
      rw [Nat.div_div_eq_div_mul]
      congr 1
      rw [show k + 1 - j = (k - j) + 1 from by omega, Nat.pow_succ, Nat.mul_comm]

theorem snocInd {α : Type} {P : List α → Prop} (h0 : P []) (h1 : ∀ l c, P l → P (l ++ [c])) : ∀ l, P l := by
  intro l
  have h : ∀ m : List α, P m.reverse := by
    intro m
    induction m with
    | nil => exact h0
    | cons c m ih => rw [List.reverse_cons]; exact h1 _ _ ih
  have := h l.reverse
  rwa [List.reverse_reverse] at this

/-- the number that bytes are -/
def val (l : List UInt8) : Nat := l.foldl (fun n c => n * 256 + c.toNat) 0

theorem val_snoc (l : List UInt8) (c : UInt8) : val (l ++ [c]) = val l * 256 + c.toNat := by simp [val]

theorem val_nil : val [] = 0 := rfl

theorem val_be (k n : Nat) : val (be k n) = n % 256 ^ k := by
  induction k generalizing n with
  | zero => simp [be, val, Nat.mod_one]
  | succ k ih =>
    rw [be, val_snoc, ih]
    have h1 : (UInt8.ofNat (n % 256)).toNat = n % 256 := by simp
    rw [h1, Nat.pow_succ, Nat.mul_comm (256 ^ k) 256, Nat.mod_mul]
    omega

theorem val_lt (l : List UInt8) : val l < 256 ^ l.length := by
  refine snocInd (P := fun l => val l < 256 ^ l.length) (by simp [val]) (fun l c ih => ?_) l
  rw [val_snoc, List.length_append, List.length_singleton, Nat.pow_succ]
  have := c.toNat_lt
  omega

theorem be_val (l : List UInt8) : be l.length (val l) = l := by
  refine snocInd (P := fun l => be l.length (val l) = l) (by simp [be]) (fun l c ih => ?_) l
  have hc := c.toNat_lt
  rw [List.length_append, List.length_singleton, be, val_snoc]
  have e1 : (val l * 256 + c.toNat) / 256 = val l := by omega
  have e2 : (val l * 256 + c.toNat) % 256 = c.toNat := by omega
  rw [e1, e2, ih]
  simp

theorem val_cons (c : UInt8) (l : List UInt8) : val (c :: l) = c.toNat * 256 ^ l.length + val l := by
  refine snocInd (P := fun l => val (c :: l) = c.toNat * 256 ^ l.length + val l) (by simp [val]) (fun l d ih => ?_) l
  rw [← List.cons_append, val_snoc, ih, val_snoc, List.length_append, List.length_singleton, Nat.pow_succ, Nat.add_mul]
  rw [Nat.mul_assoc, Nat.add_assoc]

/-- one turn of the sum's register -/
def half (r : Nat) : Nat := if r % 2 = 1 then (r / 2) ^^^ 3988292384 else r / 2

theorem half_lt (r : Nat) (h : r < 4294967296) : half r < 4294967296 := by
  unfold half
  split
  · exact Nat.xor_lt_two_pow (n := 32) (by omega) (by decide)
  · omega

/-- k turns -/
def halves : Nat → Nat → Nat
  | 0, r => r
  | k + 1, r => halves k (half r)

theorem halves_lt (k r : Nat) (h : r < 4294967296) : halves k r < 4294967296 := by
  induction k generalizing r with
  | zero => exact h
  | succ k ih => exact ih _ (half_lt r h)

theorem halves_snoc (k r : Nat) : halves (k + 1) r = half (halves k r) := by
  induction k generalizing r with
  | zero => rfl
  | succ k ih => rw [halves, ih, halves]

def step (r : Nat) (c : UInt8) : Nat := halves 8 (r ^^^ c.toNat)

theorem xor_byte_lt (r : Nat) (c : UInt8) (h : r < 4294967296) : r ^^^ c.toNat < 4294967296 :=
  Nat.xor_lt_two_pow (n := 32) (by omega) (by have := c.toNat_lt; omega)

theorem step_lt (r : Nat) (c : UInt8) (h : r < 4294967296) : step r c < 4294967296 := halves_lt _ _ (xor_byte_lt r c h)

def crcR (r : Nat) (l : List UInt8) : Nat := l.foldl step r

theorem crcR_lt (l : List UInt8) (r : Nat) (h : r < 4294967296) : crcR r l < 4294967296 := by
  induction l generalizing r with
  | nil => exact h
  | cons c l ih => exact ih _ (step_lt r c h)

theorem crcR_snoc (l : List UInt8) (c : UInt8) (r : Nat) : crcR r (l ++ [c]) = step (crcR r l) c := by simp [crcR]

/-- the sum of bytes -/
def crc (l : List UInt8) : Nat := 4294967295 - crcR 4294967295 l

theorem crc_lt (l : List UInt8) : crc l < 4294967296 := by unfold crc; omega

theorem half_top (r : Nat) (h : r < 4294967296) : (half r).testBit 31 = (r % 2 == 1) := by
  unfold half
  have h1 : (r / 2).testBit 31 = false := Nat.testBit_lt_two_pow (by omega)
  have h2 : Nat.testBit 3988292384 31 = true := by decide
  split
  · next e => rw [Nat.testBit_xor, h1, h2, e]; rfl
  · next e => rw [h1]; symm; simp; omega

theorem half_inj (r s : Nat) (hr : r < 4294967296) (hs : s < 4294967296) (h : half r = half s) : r = s := by
  have t1 := half_top r hr
  have t2 := half_top s hs
  rw [h, t2] at t1
  have hm : r % 2 = s % 2 := by
    rcases Nat.mod_two_eq_zero_or_one r with a | a <;> rcases Nat.mod_two_eq_zero_or_one s with b | b <;> simp_all
  have hd : r / 2 = s / 2 := by
    unfold half at h
    rw [hm] at h
    split at h
    · have := congrArg (· ^^^ 3988292384) h
      simpa [Nat.xor_assoc] using this
    · exact h
  omega

theorem halves_inj (k r s : Nat) (hr : r < 4294967296) (hs : s < 4294967296) (h : halves k r = halves k s) : r = s := by
  induction k generalizing r s with
  | zero => exact h
  | succ k ih => exact half_inj r s hr hs (ih _ _ (half_lt r hr) (half_lt s hs) h)

theorem step_inj_l (r s : Nat) (c : UInt8) (hr : r < 4294967296) (hs : s < 4294967296) (h : step r c = step s c) : r = s := by
  have := halves_inj 8 _ _ (xor_byte_lt r c hr) (xor_byte_lt s c hs) h
  have := congrArg (· ^^^ c.toNat) this
  simpa [Nat.xor_assoc] using this

theorem step_inj_r (r : Nat) (c d : UInt8) (hr : r < 4294967296) (h : step r c = step r d) : c = d := by
  have := halves_inj 8 _ _ (xor_byte_lt r c hr) (xor_byte_lt r d hr) h
  have := congrArg (r ^^^ ·) this
  simp only [← Nat.xor_assoc, Nat.xor_self, Nat.zero_xor] at this
  exact UInt8.toNat_inj.1 this

theorem crcR_inj (l : List UInt8) (r s : Nat) (hr : r < 4294967296) (hs : s < 4294967296) (h : crcR r l = crcR s l) : r = s := by
  induction l generalizing r s with
  | nil => exact h
  | cons c l ih => exact step_inj_l r s c hr hs (ih _ _ (step_lt r c hr) (step_lt s c hs) h)

/-- ONE BYTE TURNED: another sum. -/
theorem crc_turned (p q : List UInt8) (c d : UInt8) (h : crc (p ++ c :: q) = crc (p ++ d :: q)) : c = d := by
  have hR : ∀ l, crcR 4294967295 l < 4294967296 := fun l => crcR_lt l _ (by decide)
  have e : crcR 4294967295 (p ++ c :: q) = crcR 4294967295 (p ++ d :: q) := by
    have a := hR (p ++ c :: q); have b := hR (p ++ d :: q)
    unfold crc at h; omega
  simp only [crcR, List.foldl_append, List.foldl_cons] at e
  have hp := hR p
  exact step_inj_r _ c d hp (crcR_inj q _ _ (step_lt _ c hp) (step_lt _ d hp) e)

/-- a frame -/
def frameB (l : List UInt8) : List UInt8 := [93] ++ numB l.length ++ l ++ be 4 (crc l)

end Go.Proofs.YtilkokhapcgolaaGreat.Wm
