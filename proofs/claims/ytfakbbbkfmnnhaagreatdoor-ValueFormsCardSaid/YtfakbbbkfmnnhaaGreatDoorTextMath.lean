/-
  PLAIN MATHEMATICS of a stamp's text: what is printed is parsed back, and nothing else is.
  No conditions.
-/
import Derived.Test.YtfakbbbkfmnnhaaGreatDoorParse
import Derived.Test.YtfakbbbkfmnnhaaGreatDoorDigits
namespace Go.Proofs.YtfakbbbkfmnnhaaGreatDoor
open Go.RowKit Go.Lib

theorem itoa_no64 (n : Int) : (64 : UInt8) ∉ itoa n := by
  intro h
  have k : ∀ u, (64 : UInt8) ∉ decDigits u := fun u hu => by have := decDigits_dig u _ hu; simp at this
  unfold itoa at h
  split at h
  · rcases List.mem_cons.1 h with h | h
    · exact absurd h (by decide)
    · exact k _ h
  · exact k _ h
theorem itoa_inj (m n : Int) (hn : 0 ≤ n) (hn1 : n < 9223372036854775808) (hm1 : m < 9223372036854775808) (h : itoa m = itoa n) : m = n := by
  obtain ⟨v, rfl⟩ : ∃ v : Nat, n = v := ⟨n.toNat, by omega⟩
  rw [itoa_nat] at h
  by_cases hm : m < 0
  · exfalso
    unfold itoa at h
    rw [if_pos hm] at h
    have := decDigits_dig v 45 (by rw [← h]; simp)
    simp at this
  · obtain ⟨u, rfl⟩ : ∃ u : Nat, m = u := ⟨m.toNat, by omega⟩
    rw [itoa_nat] at h
    have h1 := atoi_dec u (by omega)
    have h2 := atoi_dec v (by omega)
    rw [h, h2] at h1
    injection h1 with h1
    exact h1.symm

theorem indexByte_app : ∀ (a b : List UInt8), (64 : UInt8) ∉ a → indexByte (a ++ 64 :: b) 64 = (a.length : Int)
  | [], b, _ => by simp [indexByte]
  | c :: a, b, h => by
    have hc : (c == 64) = false := by rw [beq_eq_false_iff_ne]; intro e; exact h (by rw [e]; simp)
    have ih := indexByte_app a b (fun k => h (List.mem_cons_of_mem _ k))
    simp only [List.cons_append, indexByte, hc, ih]
    have : (((a.length : Nat) : Int) == -1) = false := by rw [beq_eq_false_iff_ne]; omega
    simp [this]
theorem cutB_app (a b : List UInt8) (h : (64 : UInt8) ∉ a) : cutB (a ++ 64 :: b) = (a, b, true) := by
  unfold cutB
  rw [indexByte_app a b h, if_pos (by omega)]
  simp

/-- what is printed is parsed back -/
theorem parse_print (t r : Int) (h : rightB t r = true) : parseR (printB t r) = (t, r, true) := by
  obtain ⟨h0, h1, h2, h3⟩ := rightB_yes h
  obtain ⟨u, rfl⟩ : ∃ u : Nat, t = u := ⟨t.toNat, by omega⟩
  obtain ⟨v, rfl⟩ : ∃ v : Nat, r = v := ⟨r.toNat, by omega⟩
  have hc : cutB (printB u v) = (decDigits u, decDigits v, true) := by
    unfold printB
    rw [cutB_app _ _ (itoa_no64 _), itoa_nat, itoa_nat]
  unfold parseR
  rw [hc]
  dsimp only
  rw [atoi_dec u (by omega), atoi_dec v (by omega)]
  dsimp only
  rw [if_pos ⟨h, rfl⟩]
/-- .. and nothing that may not be -/
theorem parse_print_no (t r : Int) (ht : t < 9223372036854775808) (hr : r < 9223372036854775808) (h : rightB t r = false) : (parseR (printB t r)).2.2 = false := by
  have hc : cutB (printB t r) = (itoa t, itoa r, true) := by
    unfold printB
    rw [cutB_app _ _ (itoa_no64 _)]
  unfold parseR
  rw [hc]
  dsimp only
  rcases Lib.atoiAll (itoa t) with x | _ | _
  · rcases Lib.atoiAll (itoa r) with y | _ | _
    · dsimp only
      split
      · next k =>
        exfalso
        obtain ⟨k1, k2⟩ := k
        obtain ⟨a0, a1, b0, b1⟩ := rightB_yes k1
        have e1 : cutB (printB x y) = (itoa x, itoa y, true) := by
          unfold printB
          rw [cutB_app _ _ (itoa_no64 _)]
        rw [k2, hc] at e1
        simp only [Prod.mk.injEq] at e1
        have q1 := itoa_inj t x a0 (by omega) ht e1.1
        have q2 := itoa_inj r y b0 (by omega) hr e1.2.1
        subst q1 q2
        rw [h] at k1
        cases k1
      · rfl
    · rfl
    · rfl
  · rfl
  · rfl

end Go.Proofs.YtfakbbbkfmnnhaaGreatDoor
