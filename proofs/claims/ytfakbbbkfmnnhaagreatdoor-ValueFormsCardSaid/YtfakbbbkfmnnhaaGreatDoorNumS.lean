/-
  THE DOCUMENT's numerals: what 'number' reads; and that the document's Parse and the program's answer alike.
  No conditions.
-/
import Derived.Test.YtfakbbbkfmnnhaaGreatDoorRef2
namespace Go.Proofs.YtfakbbbkfmnnhaaGreatDoor
open Go.RowKit Go.Lib

def decV (l : List UInt8) : Nat := l.foldl (fun n c => n * 10 + (c.toNat - 48)) 0
theorem decV_snoc (l : List UInt8) (c : UInt8) : decV (l ++ [c]) = decV l * 10 + (c.toNat - 48) := by simp [decV]
def allDig (l : List UInt8) : Bool := l.all fun c => decide (48 ≤ c.toNat ∧ c.toNat ≤ 57)
theorem allDig_snoc (l : List UInt8) (c : UInt8) : allDig (l ++ [c]) = (allDig l && decide (48 ≤ c.toNat ∧ c.toNat ≤ 57)) := by simp [allDig]
theorem decV_lt (l : List UInt8) (h : allDig l = true) : decV l < 10 ^ l.length := by
  revert h
  refine Wm.snocInd (P := fun l => allDig l = true → decV l < 10 ^ l.length) (by simp [decV]) (fun l c ih h => ?_) l
  rw [allDig_snoc, Bool.and_eq_true, decide_eq_true_eq] at h
  have := ih h.1
  rw [decV_snoc, List.length_append, List.length_singleton, Nat.pow_succ]
  omega
/-- may the text be a numeral by its length and its first byte? -/
def numBad (l : List UInt8) : Bool := decide (l.length < 1) || (decide (15 < l.length) || (decide (1 < l.length) && decide (by8 l 0 = 48)))
/-- what 'number' answers -/
def numS (l : List UInt8) : Int := if numBad l = true then -1 else if allDig l = true then (decV l : Int) else -1

theorem dec_of (l : List UInt8) : l ≠ [] → allDig l = true → (1 < l.length → by8 l 0 ≠ 48) → l = decDigits (decV l) := by
  refine Wm.snocInd (P := fun l => l ≠ [] → allDig l = true → (1 < l.length → by8 l 0 ≠ 48) → l = decDigits (decV l)) (fun h => absurd rfl h) (fun l c ih _ hd h0 => ?_) l
  rw [allDig_snoc, Bool.and_eq_true, decide_eq_true_eq] at hd
  obtain ⟨hd, hc0, hc1⟩ := hd
  rw [decV_snoc]
  by_cases hl : l = []
  · subst hl
    have e : decV [] = 0 := rfl
    rw [e, Nat.zero_mul, Nat.zero_add, decDigits_one (by omega)]
    simp only [List.nil_append, List.cons.injEq, and_true]
    apply UInt8.toNat_inj.1
    rw [dig_bd _ (by omega)]
    omega
  · have hlp : 0 < l.length := List.length_pos_iff.2 hl
    have hh : by8 l 0 ≠ 48 := by
      have := h0 (by simp; omega)
      rwa [show by8 (l ++ [c]) 0 = by8 l 0 from by rw [by8_get _ _ (by simp), by8_get _ _ hlp, List.getElem_append_left hlp]] at this
    have hi := ih hl hd (fun _ => hh)
    have hv : decV l ≠ 0 := by
      intro hz
      rw [hz, decDigits_one (by decide)] at hi
      rw [hi] at hh
      exact hh rfl
    rw [decDigits.eq_def, dif_neg (by omega), show (decV l * 10 + (c.toNat - 48)) / 10 = decV l from by omega, show (decV l * 10 + (c.toNat - 48)) % 10 = c.toNat - 48 from by omega, ← hi]
    congr 2
    apply UInt8.toNat_inj.1
    rw [dig_bd _ (by omega)]
    omega
theorem numS_dec (l : List UInt8) (n : Nat) (h : numS l = (n : Int)) : l = decDigits n := by
  unfold numS at h
  split at h
  · omega
  · next hb =>
    split at h
    · next hd =>
      have hb' : ¬ l.length < 1 ∧ ¬ (1 < l.length ∧ by8 l 0 = 48) := by
        simp only [numBad, Bool.or_eq_true, Bool.and_eq_true, decide_eq_true_eq, not_or] at hb
        exact ⟨hb.1, hb.2.2⟩
      have hn : decV l = n := by omega
      rw [← hn]
      exact dec_of l (by rintro rfl; simp at hb') hd (fun h1 h2 => hb'.2 ⟨h1, h2⟩)
    · omega
theorem decV_dec (u : Nat) : decV (decDigits u) = u := by
  induction u using Nat.strongRecOn with
  | _ u ih =>
    by_cases h : u < 10
    · rw [decDigits_one h]
      simp only [decV, List.foldl_cons, List.foldl_nil]
      rw [dig_bd u h]; omega
    · rw [decDigits, dif_neg h, decV_snoc, ih (u / 10) (by omega), dig_bd _ (by omega)]
      omega
theorem allDig_dec (u : Nat) : allDig (decDigits u) = true := by
  rw [allDig, List.all_eq_true]
  intro c hc
  exact decide_eq_true (decDigits_dig u c hc)
theorem dec_head (u : Nat) : u ≠ 0 → by8 (decDigits u) 0 ≠ 48 := by
  induction u using Nat.strongRecOn with
  | _ u ih =>
    intro h0
    by_cases h : u < 10
    · rw [decDigits_one h]
      show (UInt8.ofNat (48 + u)).toNat ≠ 48
      rw [dig_bd u h]; omega
    · have hp : 0 < (decDigits (u / 10)).length := List.length_pos_iff.2 (decDigits_ne _)
      rw [decDigits, dif_neg h, show ∀ x, by8 (decDigits (u / 10) ++ x) 0 = by8 (decDigits (u / 10)) 0 from fun x => by rw [by8_get _ _ (by simp; omega), by8_get _ _ hp, List.getElem_append_left hp]]
      exact ih (u / 10) (by omega) (by omega)
theorem nDigits_15 (u : Nat) (h : u < 1000000000000000) : nDigits u ≤ 15 := by
  have key : ∀ k v, v < 10 ^ (k + 1) → nDigits v ≤ k + 1 := by
    intro k
    induction k with
    | zero => intro v hv; rw [nDigits_small (by simpa using hv)]; omega
    | succ k ih =>
      intro v hv
      by_cases h10 : v < 10
      · rw [nDigits_small h10]; omega
      · rw [nDigits_big h10]
        have := ih (v / 10) (by rw [Nat.pow_succ] at hv; omega)
        omega
  exact key 14 u (by simpa using h)
theorem numS_of_dec (u : Nat) (h : u < 1000000000000000) : numS (decDigits u) = (u : Int) := by
  have h1 := nDigits_pos u
  have h2 := nDigits_15 u h
  have hl := decDigits_length u
  have hb : numBad (decDigits u) = false := by
    simp only [numBad, hl]
    have a1 : decide (nDigits u < 1) = false := decide_eq_false (by omega)
    have a2 : decide (15 < nDigits u) = false := decide_eq_false (by omega)
    rw [a1, a2]
    by_cases hu : u < 10
    · rw [nDigits_small hu]; rfl
    · have := dec_head u (by omega)
      simp [this]
  unfold numS
  rw [hb, allDig_dec, decV_dec]
  simp

/-- what the document's Parse answers -/
def refParseR (l : List UInt8) : Int × Int × Bool :=
  if (cutB l).2.2 = true then (if rightB (numS (cutB l).1) (numS (cutB l).2.1) = true then (numS (cutB l).1, numS (cutB l).2.1, true) else (0, 0, false)) else (0, 0, false)
theorem cutB_true (l : List UInt8) (h : (cutB l).2.2 = true) : l = (cutB l).1 ++ 64 :: (cutB l).2.1 ∧ (64 : UInt8) ∉ (cutB l).1 := by
  unfold cutB at h ⊢
  split at h
  · next h0 =>
    obtain ⟨k, hk⟩ : ∃ k : Nat, indexByte l 64 = (k : Int) := ⟨(indexByte l 64).toNat, by omega⟩
    obtain ⟨a, b⟩ := indexByte_some hk
    rw [if_pos h0, hk]
    dsimp only
    rw [Int.toNat_natCast]
    obtain ⟨hkl, hv⟩ := List.getElem?_eq_some_iff.1 a
    constructor
    · rw [← hv, ← List.drop_eq_getElem_cons hkl, List.take_append_drop]
    · intro hm
      obtain ⟨i, hi, he⟩ := List.getElem_of_mem hm
      have hik : i < k := by simp at hi; omega
      apply b i hik
      rw [List.getElem?_eq_getElem (by omega)]
      rw [List.getElem_take] at he
      rw [he]
  · simp at h
theorem parse_alike (l : List UInt8) : parseR l = refParseR l := by
  unfold refParseR
  cases hf : (cutB l).2.2 with
  | false =>
    rw [if_neg (by simp)]
    have hb : (cutB l).2.1 = [] := by
      unfold cutB at hf ⊢
      split at hf
      · simp at hf
      · next h => rw [if_neg h]
    unfold parseR
    rw [hb]
    rcases atoiAll (cutB l).1 with x | _ | _ <;> rfl
  | true =>
    obtain ⟨hl, h64⟩ := cutB_true l hf
    rw [if_pos rfl]
    generalize hq : cutB l = q at *
    obtain ⟨a, b, f⟩ := q
    dsimp only at *
    cases hR : rightB (numS a) (numS b) with
    | true =>
      rw [if_pos rfl]
      obtain ⟨t0, t1, r0, r1⟩ := rightB_yes hR
      obtain ⟨u, hu⟩ : ∃ u : Nat, numS a = u := ⟨(numS a).toNat, by omega⟩
      obtain ⟨v, hv⟩ : ∃ v : Nat, numS b = v := ⟨(numS b).toNat, by omega⟩
      have ea := numS_dec a u hu
      have eb := numS_dec b v hv
      rw [hu, hv] at hR ⊢
      have hp : printB u v = l := by unfold printB; rw [itoa_nat, itoa_nat, ← ea, ← eb, ← hl]
      rw [← hp]
      exact parse_print u v hR
    | false =>
      rw [if_neg (by simp)]
      unfold parseR
      rw [hq]
      dsimp only
      rcases h1 : atoiAll a with x | _ | _
      · rcases h2 : atoiAll b with y | _ | _
        · dsimp only
          split
          · next k =>
            exfalso
            obtain ⟨k1, k2⟩ := k
            obtain ⟨t0, t1, r0, r1⟩ := rightB_yes k1
            have e1 : cutB (printB x y) = (itoa x, itoa y, true) := by
              unfold printB
              rw [cutB_app _ _ (itoa_no64 _)]
            rw [k2, hq] at e1
            simp only [Prod.mk.injEq] at e1
            obtain ⟨u, rfl⟩ : ∃ u : Nat, x = u := ⟨x.toNat, by omega⟩
            obtain ⟨v, rfl⟩ : ∃ v : Nat, y = v := ⟨y.toNat, by omega⟩
            rw [e1.1, e1.2.1, itoa_nat, itoa_nat, numS_of_dec u (by omega), numS_of_dec v (by omega), k1] at hR
            cases hR
          · rfl
        · rfl
        · rfl
      · rfl
      · rfl

end Go.Proofs.YtfakbbbkfmnnhaaGreatDoor
