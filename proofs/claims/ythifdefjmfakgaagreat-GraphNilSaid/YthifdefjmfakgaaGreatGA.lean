/-
  PLAIN MATHEMATICS of layer 1 (wire): numbers as bytes, the sum, frames: lists of bytes and natural numbers alone; no program, no world.
  No conditions.
  HOW BYTES LIE IN MEMORY: a slice that reads as a list of bytes ('Bs'), a row of the call's own that holds them ('vals' under 'ownsRow'), and what keeps them.
  No conditions.
-/
import Derived.Lib.BitFns
import Derived.Lib.Bytes
import Derived.Laws.BitsAllLaws
import Derived.Test.YthifdefjmfakgaaGreatRows
import Derived.WalkKit
import Derived.WalkSpells
import Derived.WalkLawsBesides
import Derived.Lib.Hide
import Derived.Deep.QuietTactic
import Derived.BigQuiet
import Derived.Deep.LoopGhost
import Derived.ScopeJumps
import Derived.WalkMore
namespace Go.Proofs.YthifdefjmfakgaaGreat.Wm

/-- the low 'k' bytes of n, the highest first -/
def be : Nat → Nat → List UInt8
  | 0, _ => []
  | k + 1, n => be k (n / 256) ++ [UInt8.ofNat (n % 256)]

theorem be_length (k n : Nat) : (be k n).length = k := by
  induction k generalizing n with
  | zero => rfl
  | succ k ih => simp [be, ih]

/-- how many bytes n (below 2^48) takes -/
def nlen (n : Nat) : Nat :=
  if n = 0 then 0 else if n < 256 then 1 else if n < 65536 then 2 else if n < 16777216 then 3 else if n < 4294967296 then 4 else if n < 1099511627776 then 5 else 6

theorem nlen_le (n : Nat) : nlen n ≤ 6 := by
  unfold nlen
  repeat' split
  all_goals omega

theorem nlen_lt (n : Nat) (h : n < 281474976710656) : n < 256 ^ nlen n := by
  unfold nlen
  repeat' split
  all_goals (simp; omega)

theorem nlen_zero : nlen 0 = 0 := rfl

theorem nlen_step (n : Nat) (h0 : n ≠ 0) (h : n < 281474976710656) : nlen n = nlen (n / 256) + 1 := by
  unfold nlen
  repeat' split
  all_goals omega

/-- a number's bytes -/
def numB (n : Nat) : List UInt8 := UInt8.ofNat (nlen n) :: be (nlen n) n

theorem numB_length (n : Nat) : (numB n).length = nlen n + 1 := by simp [numB, be_length]

theorem be_take (k n j : Nat) (h : j ≤ k) : (be k n).take j = be j (n / 256 ^ (k - j)) := by
  induction k generalizing n with
  | zero => have : j = 0 := by omega
            subst this; simp [be]
  | succ k ih =>
    by_cases hj : j = k + 1
    · subst hj; rw [List.take_of_length_le (by simp [be_length])]; simp
    · have hjk : j ≤ k := by omega
      rw [be, List.take_append_of_le_length (by simp [be_length]; omega), ih _ hjk]
      congr 1
      rw [Nat.div_div_eq_div_mul]
      congr 1
      rw [show k + 1 - j = (k - j) + 1 from by omega, Nat.pow_succ, Nat.mul_comm]

theorem snocInd {α : Type} {P : List α → Prop} (h0 : P []) (h1 : ∀ l c, P l → P (l ++ [c])) : ∀ l, P l := by
  intro l
  have h : ∀ m : List α, P m.reverse := by
    intro m
    induction m with
    | nil => exact h0
    | cons c m ih => rw [List.reverse_cons]; exact h1 _ _ ih
  have := h l.reverse
  rwa [List.reverse_reverse] at this

/-- the number that bytes are -/
def val (l : List UInt8) : Nat := l.foldl (fun n c => n * 256 + c.toNat) 0

theorem val_snoc (l : List UInt8) (c : UInt8) : val (l ++ [c]) = val l * 256 + c.toNat := by simp [val]

theorem val_nil : val [] = 0 := rfl

theorem val_be (k n : Nat) : val (be k n) = n % 256 ^ k := by
  induction k generalizing n with
  | zero => simp [be, val, Nat.mod_one]
  | succ k ih =>
    rw [be, val_snoc, ih]
    have h1 : (UInt8.ofNat (n % 256)).toNat = n % 256 := by simp
    rw [h1, Nat.pow_succ, Nat.mul_comm (256 ^ k) 256, Nat.mod_mul]
    omega

theorem val_lt (l : List UInt8) : val l < 256 ^ l.length := by
  refine snocInd (P := fun l => val l < 256 ^ l.length) (by simp [val]) (fun l c ih => ?_) l
  rw [val_snoc, List.length_append, List.length_singleton, Nat.pow_succ]
  have := c.toNat_lt
  omega

theorem be_val (l : List UInt8) : be l.length (val l) = l := by
  refine snocInd (P := fun l => be l.length (val l) = l) (by simp [be]) (fun l c ih => ?_) l
  have hc := c.toNat_lt
  rw [List.length_append, List.length_singleton, be, val_snoc]
  have e1 : (val l * 256 + c.toNat) / 256 = val l := by omega
  have e2 : (val l * 256 + c.toNat) % 256 = c.toNat := by omega
  rw [e1, e2, ih]
  simp

theorem val_cons (c : UInt8) (l : List UInt8) : val (c :: l) = c.toNat * 256 ^ l.length + val l := by
  refine snocInd (P := fun l => val (c :: l) = c.toNat * 256 ^ l.length + val l) (by simp [val]) (fun l d ih => ?_) l
  rw [← List.cons_append, val_snoc, ih, val_snoc, List.length_append, List.length_singleton, Nat.pow_succ, Nat.add_mul]
  rw [Nat.mul_assoc, Nat.add_assoc]

/-- one turn of the sum's register -/
def half (r : Nat) : Nat := if r % 2 = 1 then (r / 2) ^^^ 3988292384 else r / 2

theorem half_lt (r : Nat) (h : r < 4294967296) : half r < 4294967296 := by
  unfold half
  split
  · exact Nat.xor_lt_two_pow (n := 32) (by omega) (by decide)
  · omega

/-- k turns -/
def halves : Nat → Nat → Nat
  | 0, r => r
  | k + 1, r => halves k (half r)

theorem halves_lt (k r : Nat) (h : r < 4294967296) : halves k r < 4294967296 := by
  induction k generalizing r with
  | zero => exact h
  | succ k ih => exact ih _ (half_lt r h)

theorem halves_snoc (k r : Nat) : halves (k + 1) r = half (halves k r) := by
  induction k generalizing r with
  | zero => rfl
  | succ k ih => rw [halves, ih, halves]

def step (r : Nat) (c : UInt8) : Nat := halves 8 (r ^^^ c.toNat)

theorem xor_byte_lt (r : Nat) (c : UInt8) (h : r < 4294967296) : r ^^^ c.toNat < 4294967296 :=
  Nat.xor_lt_two_pow (n := 32) (by omega) (by have := c.toNat_lt; omega)

theorem step_lt (r : Nat) (c : UInt8) (h : r < 4294967296) : step r c < 4294967296 := halves_lt _ _ (xor_byte_lt r c h)

def crcR (r : Nat) (l : List UInt8) : Nat := l.foldl step r

theorem crcR_lt (l : List UInt8) (r : Nat) (h : r < 4294967296) : crcR r l < 4294967296 := by
  induction l generalizing r with
  | nil => exact h
  | cons c l ih => exact ih _ (step_lt r c h)

theorem crcR_snoc (l : List UInt8) (c : UInt8) (r : Nat) : crcR r (l ++ [c]) = step (crcR r l) c := by simp [crcR]

/-- the sum of bytes -/
def crc (l : List UInt8) : Nat := 4294967295 - crcR 4294967295 l

theorem crc_lt (l : List UInt8) : crc l < 4294967296 := by unfold crc; omega

theorem half_top (r : Nat) (h : r < 4294967296) : (half r).testBit 31 = (r % 2 == 1) := by
  unfold half
  have h1 : (r / 2).testBit 31 = false := Nat.testBit_lt_two_pow (by omega)
  have h2 : Nat.testBit 3988292384 31 = true := by decide
  split
  · next e => rw [Nat.testBit_xor, h1, h2, e]; rfl
  · next e => rw [h1]; symm; simp; omega

theorem half_inj (r s : Nat) (hr : r < 4294967296) (hs : s < 4294967296) (h : half r = half s) : r = s := by
  have t1 := half_top r hr
  have t2 := half_top s hs
  rw [h, t2] at t1
  have hm : r % 2 = s % 2 := by
    rcases Nat.mod_two_eq_zero_or_one r with a | a <;> rcases Nat.mod_two_eq_zero_or_one s with b | b <;> simp_all
  have hd : r / 2 = s / 2 := by
    unfold half at h
    rw [hm] at h
    split at h
    · have := congrArg (· ^^^ 3988292384) h
      simpa [Nat.xor_assoc] using this
    · exact h
  omega

theorem halves_inj (k r s : Nat) (hr : r < 4294967296) (hs : s < 4294967296) (h : halves k r = halves k s) : r = s := by
  induction k generalizing r s with
  | zero => exact h
  | succ k ih => exact half_inj r s hr hs (ih _ _ (half_lt r hr) (half_lt s hs) h)

theorem step_inj_l (r s : Nat) (c : UInt8) (hr : r < 4294967296) (hs : s < 4294967296) (h : step r c = step s c) : r = s := by
  have := halves_inj 8 _ _ (xor_byte_lt r c hr) (xor_byte_lt s c hs) h
  have := congrArg (· ^^^ c.toNat) this
  simpa [Nat.xor_assoc] using this

theorem step_inj_r (r : Nat) (c d : UInt8) (hr : r < 4294967296) (h : step r c = step r d) : c = d := by
  have := halves_inj 8 _ _ (xor_byte_lt r c hr) (xor_byte_lt r d hr) h
  have := congrArg (r ^^^ ·) this
  simp only [← Nat.xor_assoc, Nat.xor_self, Nat.zero_xor] at this
  exact UInt8.toNat_inj.1 this

theorem crcR_inj (l : List UInt8) (r s : Nat) (hr : r < 4294967296) (hs : s < 4294967296) (h : crcR r l = crcR s l) : r = s := by
  induction l generalizing r s with
  | nil => exact h
  | cons c l ih => exact step_inj_l r s c hr hs (ih _ _ (step_lt r c hr) (step_lt s c hs) h)

/-- ONE BYTE TURNED: another sum. -/
theorem crc_turned (p q : List UInt8) (c d : UInt8) (h : crc (p ++ c :: q) = crc (p ++ d :: q)) : c = d := by
  have hR : ∀ l, crcR 4294967295 l < 4294967296 := fun l => crcR_lt l _ (by decide)
  have e : crcR 4294967295 (p ++ c :: q) = crcR 4294967295 (p ++ d :: q) := by
    have a := hR (p ++ c :: q); have b := hR (p ++ d :: q)
    unfold crc at h; omega
  simp only [crcR, List.foldl_append, List.foldl_cons] at e
  have hp := hR p
  exact step_inj_r _ c d hp (crcR_inj q _ _ (step_lt _ c hp) (step_lt _ d hp) e)

/-- a frame -/
def frameB (l : List UInt8) : List UInt8 := [93] ++ numB l.length ++ l ++ be 4 (crc l)

end Go.Proofs.YthifdefjmfakgaaGreat.Wm

namespace Go.Proofs.YthifdefjmfakgaaGreat
open Go.RowKit

/-- A SCOPE WITH JUMPS FORWARD TO ONE LABEL, behind which no jump is left: a jump goes on with the code behind the label. -/
def fwdExit (P : Program) (l : Nat) (rest : Code) (Q : Exit → Act → World → Prop) : Exit → Act → World → Prop
  | .goto l', a, w => l' = l ∧ rest.wp P (Exit.noGoto Q) a w
  | e, a, w => Q e a w
theorem fwd_ret {P : Program} {l : Nat} {rest : Code} {Q : Exit → Act → World → Prop} {a : Act} {w : World} : fwdExit P l rest Q .ret a w = Q .ret a w := rfl
theorem fwd_goto {P : Program} {l : Nat} {rest : Code} {Q : Exit → Act → World → Prop} {a : Act} {w : World} (h : rest.wp P (Exit.noGoto Q) a w) : fwdExit P l rest Q (.goto l) a w := ⟨rfl, h⟩
theorem wp_scope_fwd {P : Program} {Q : Exit → Act → World → Prop} {a : Act} {w : World} {c rest : Code} (l : Nat) (hf : findLabel c l = some rest) (first : c.wp P (fwdExit P l rest Q) a w) : (Code.scope c).wp P Q a w := by
  refine wp_scope_jumps l (fun a w => rest.wp P (Exit.noGoto Q) a w) (fun _ _ => 0) hf ?_ ?_
  · refine wp_mono first fun e a w h => ?_
    cases e <;> exact h
  · intro a w h
    refine wp_mono h fun e a w h => ?_
    cases e <;> first | exact h | exact absurd h (fun h => h)

theorem ret_int {k : IntKind} {a b : Int} (h : a = b) : Ending.returned (.int k a) = .returned (.int k b) := by rw [h]

theorem wraps_i64 (n : Int) (h0 : 0 ≤ n) (h1 : n < 2 ^ 63) : IntKind.i64.wrap n = n := by rw [IntKind.wrap_i64]; omega
theorem i64_xor_nat (a b : Nat) (ha : a < 2 ^ 63) (hb : b < 2 ^ 63) : bits BinOp.xor .i64 (a : Int) (b : Int) = ((a ^^^ b : Nat) : Int) := by
  have ha' : a % 2 ^ IntKind.i64.bits = a := Nat.mod_eq_of_lt (Nat.lt_of_lt_of_le ha (by decide))
  have hb' : b % 2 ^ IntKind.i64.bits = b := Nat.mod_eq_of_lt (Nat.lt_of_lt_of_le hb (by decide))
  have hx : a ^^^ b < 2 ^ 63 := Nat.xor_lt_two_pow ha hb
  simp only [bits, BitVec.ofInt_natCast, BitVec.toNat_xor, BitVec.toNat_ofNat, ha', hb']
  exact wraps_i64 _ (Int.natCast_nonneg _) (by exact_mod_cast hx)
theorem i64_or_nat (a b : Nat) (ha : a < 2 ^ 63) (hb : b < 2 ^ 63) : bits BinOp.or .i64 (a : Int) (b : Int) = ((a ||| b : Nat) : Int) :=
  (Go.bits_nat .i64 63 (by decide) wraps_i64 a b ha hb).2

/-- byte i of a list, as a number -/
def by8 (l : List UInt8) (i : Nat) : Nat := (l.getD i 0).toNat
theorem by8_lt (l : List UInt8) (i : Nat) : by8 l i < 256 := (l.getD i 0).toNat_lt
theorem by8_get (l : List UInt8) (i : Nat) (h : i < l.length) : by8 l i = l[i].toNat := by simp [by8, List.getD, List.getElem?_eq_getElem h]
theorem by8_take_drop (l : List UInt8) (d K j : Nat) (h : j < K) : by8 ((l.drop d).take K) j = by8 l (d + j) := by simp [by8, List.getD, h]
theorem by8_drop (l : List UInt8) (d j : Nat) : by8 (l.drop d) j = by8 l (d + j) := by simp [by8, List.getD]
theorem take_snoc (l : List UInt8) (i : Nat) (h : i < l.length) : l.take (i + 1) = l.take i ++ [l[i]] := by
  rw [List.take_succ_eq_append_getElem h]

/-- the cells of bytes -/
def vals (l : List UInt8) : List Value := l.map fun c => .int .u8 (c.toNat : Int)
theorem vals_length (l : List UInt8) : (vals l).length = l.length := by simp [vals]
theorem vals_append (l m : List UInt8) : vals (l ++ m) = vals l ++ vals m := by simp [vals]
theorem vals_get (l : List UInt8) (i : Nat) (h : i < l.length) : (vals l)[i]? = some (.int .u8 (by8 l i)) := by
  simp [vals, by8, List.getElem?_eq_getElem h, List.getD]
theorem vals_one {l : List UInt8} : ∀ u ∈ vals l, u.oneCell' = true := by
  intro u hu
  obtain ⟨x, _, rfl⟩ := List.mem_map.1 hu
  rfl

/-- the slice (p, the list's length, whatever capacity) reads as these bytes -/
def Bs (w : World) (p : Option Addr) (l : List UInt8) : Prop :=
  0 < l.length → ∃ b o, p = some ⟨b, o, none⟩ ∧ ∀ i, i < l.length → w.cell? ⟨b, o + i, none⟩ = some (.int .u8 (by8 l i))

theorem Bs.nil (w : World) (p : Option Addr) : Bs w p [] := fun h => absurd h (Nat.lt_irrefl 0)

theorem Bs.get {w : World} {b o : Nat} {l : List UInt8} (h : Bs w (some ⟨b, o, none⟩) l) (i : Nat) (hi : i < l.length) : w.cell? ⟨b, o + i, none⟩ = some (.int .u8 (by8 l i)) := by
  obtain ⟨b', o', e, hc⟩ := h (by omega)
  simp only [Option.some.injEq, Addr.mk.injEq] at e
  obtain ⟨rfl, rfl, -⟩ := e
  exact hc i hi

/-- the string of bytes -/
def strB (l : List UInt8) : ByteArray := ⟨l.toArray⟩
theorem strB_toList (l : List UInt8) : (strB l).data.toList = l := by simp [strB]
theorem strB_inj {l m : List UInt8} (h : strB l = strB m) : l = m := by
  have := congrArg (fun s : ByteArray => s.data.toList) h
  simpa [strB] using this
theorem strB_of (s : ByteArray) : strB s.data.toList = s := rfl

/-- 'string(b)' -/
theorem Bs.conv {P : Program} {w : World} {p : Option Addr} {l : List UInt8} (h : Bs w p l) (c : Nat) (src e dst : TypeId)
    (hs : P.underlying src = some (.slice e)) (he : P.underlying e = some (.int .u8)) (hd : P.underlying dst = some .string) :
    (convert src dst (.slice p l.length c)).run P w = .ok (.string (strB l)) w := by
  rcases Nat.eq_zero_or_pos l.length with hn | hn
  · obtain rfl : l = [] := List.eq_nil_of_length_eq_zero hn
    rw [run_convert_bytes_string w src dst e _ _ c hs he hd]
    cases p <;> simp [Conv.bytesToString, loadCells]
    all_goals rfl
  · obtain ⟨b, o, rfl, hc⟩ := h hn
    rw [run_convert_bytes_arg (P := P) w src e hs he b o l.length c (l.map fun x => (x.toNat : Int)) (by simp) (fun i hi => by
      rw [hc i hi]
      simp [by8, List.getD, List.getElem?_eq_getElem hi]) dst hd]
    congr 2
    have hid : (fun n : Int => UInt8.ofNat n.toNat) ∘ (fun x : UInt8 => (x.toNat : Int)) = id := by
      funext x
      simp
    simp [strOfNums, strB, hid]

/-- what a world that is the same below some block keeps -/
theorem Bs.below {w w' : World} {p : Option Addr} {l : List UInt8} {B : Nat} (h : Bs w p l) (hb : Below B w w') (hp : ∀ a, p = some a → a.block < B) : Bs w' p l := by
  intro h0
  obtain ⟨b, o, rfl, hc⟩ := h h0
  have := hp _ rfl
  exact ⟨b, o, rfl, fun i hi => by rw [hb.cell (by simpa using this)]; exact hc i hi⟩

theorem cell_lt {w : World} {a : Addr} {v : Value} (h : w.cell? a = some v) : a.block < w.heap.size := World.block_lt_of_cell? w a h

/-- cells that are there lie below the heap's size: what is the same there keeps them -/
theorem Bs.kept {w w' : World} {p : Option Addr} {l : List UInt8} (h : Bs w p l) (hb : Below w.heap.size w w') : Bs w' p l := by
  intro h0
  obtain ⟨b, o, rfl, hc⟩ := h h0
  have := cell_lt (hc 0 h0)
  exact ⟨b, o, rfl, fun i hi => by rw [hb.cell (by simpa using this)]; exact hc i hi⟩

theorem Bs.drew {w : World} {p : Option Addr} {l : List UInt8} (h : Bs w p l) : Bs w.drew p l := fun h0 => by
  obtain ⟨b, o, e, hc⟩ := h h0
  exact ⟨b, o, e, fun i hi => hc i hi⟩

/-- an owned row reads as its bytes -/
theorem Bs.of_own {w : World} {B : Nat} {v : Value} {l : List UInt8} {E : TypeId} (h : w.ownsRow B E 1 v l.length (vals l)) : ∃ p c, v = .slice p l.length c ∧ Bs w p l ∧ l.length ≤ c ∧ c ≤ maxLen ∧ (v.ownBlock = none ∨ ∃ g, p = some ⟨g, 0, none⟩ ∧ v.ownBlock = some g ∧ B ≤ g ∧ g < w.heap.size) := by
  have h0 := h
  rcases h.2 with ⟨rfl, hn⟩ | ⟨g, cap, cur, rfl, hg, hh, hnc, hcm, -, -⟩
  · exact ⟨none, 0, by rw [hn], fun h => by omega, by omega, by simp [maxLen], Or.inl rfl⟩
  · refine ⟨_, cap, rfl, fun _ => ⟨g, 0, rfl, fun i hi => ?_⟩, hnc, hcm, Or.inr ⟨g, rfl, rfl, hg, ?_⟩⟩
    · rw [Nat.zero_add, h0.cellAt i (by simpa using hi), vals_get l i hi]
    · exact (Array.getElem?_eq_some_iff.1 hh).1

/-- the value owns a row of the call's own (from block B on; E: the type of bytes) that holds these bytes -/
def Own (E : TypeId) (w : World) (B : Nat) (v : Value) (l : List UInt8) : Prop := w.ownsRow B E 1 v l.length (vals l)

theorem own_below {w w' : World} {B : Nat} {v : Value} {n : Nat} {xs : List Value} {E : TypeId} (h : w.ownsRow B E 1 v n xs) (hb : Below w.heap.size w w') : w'.ownsRow B E 1 v n xs :=
  h.kept (row := none) ⟨hb.os, hb.tape, hb.output, hb.size, fun k hk _ => hb.block k hk⟩ (by cases hv : v.ownBlock <;> simp)

theorem Own.below {E : TypeId} {w w' : World} {B : Nat} {v : Value} {l : List UInt8} (h : Own E w B v l) (hb : Below w.heap.size w w') : Own E w' B v l := own_below h hb
theorem Own.alloc {E : TypeId} {w : World} {B : Nat} {v : Value} {l : List UInt8} (h : Own E w B v l) (o : Obj) : Own E (w.alloc o) B v l := World.ownsRow.alloc h o
theorem Own.drew {E : TypeId} {w : World} {B : Nat} {v : Value} {l : List UInt8} (h : Own E w B v l) : Own E w.drew B v l := World.ownsRow.kept (row := none) h ⟨rfl, rfl, rfl, Nat.le_refl _, fun _ _ _ => rfl⟩ (by cases hv : v.ownBlock <;> simp)
theorem Own.base {E : TypeId} {w : World} {B B' : Nat} {v : Value} {l : List UInt8} (h : Own E w B v l) (hB : B' ≤ B) : Own E w B' v l := by
  have h0 : w.ownsRow B E 1 v l.length (vals l) := h
  refine ⟨h0.1, ?_⟩
  rcases h0.2 with h2 | ⟨g, cap, cur, hv, hg, r⟩
  · exact Or.inl h2
  · exact Or.inr ⟨g, cap, cur, hv, by omega, r⟩
theorem Own.nil (E : TypeId) (w : World) (B : Nat) : Own E w B (.slice none 0 0) [] := World.ownsRow_nil w B E 1
/-- an owned row as a slice that reads as its bytes -/
theorem Own.bs {E : TypeId} {w : World} {B : Nat} {v : Value} {l : List UInt8} (h : Own E w B v l) : ∃ p c, v = .slice p l.length c ∧ Bs w p l ∧ l.length ≤ c ∧ c ≤ maxLen ∧ (p = none → c = 0) ∧ (∀ a, p = some a → B ≤ a.block ∧ a.block < w.heap.size) := by
  have h0 : w.ownsRow B E 1 v l.length (vals l) := h
  obtain ⟨p, c, hv, hbs, h1, h2, h3⟩ := Bs.of_own h0
  refine ⟨p, c, hv, hbs, h1, h2, fun hp => ?_, fun a ha => ?_⟩
  · subst hp
    rcases h0.2 with ⟨e, -⟩ | ⟨g, cap, cur, e, -⟩
    · rw [hv] at e; simp at e; exact e.2
    · rw [hv] at e; simp at e
  · subst ha
    rcases h3 with h3 | ⟨g, e, -, h4, h5⟩
    · rw [hv] at h3; simp [Value.ownBlock] at h3
    · simp only [Option.some.injEq] at e; subst e; exact ⟨h4, h5⟩

end Go.Proofs.YthifdefjmfakgaaGreat
