/-
  PLAIN MATHEMATICS of rows of keys: so many keys between two ends; they rise, all of them between.
  No conditions.
-/
import Derived.Test.YtdgcdepepfgkoaaKMath
namespace Go.Proofs.Ytdgcdepepfgkoaa.Km

/-- so many keys between two ends that may be; none: one of them has no room -/
def spr : Nat → List UInt8 → List UInt8 → Option (List (List UInt8))
  | 0, _, _ => some []
  | n + 1, a, b =>
    if (betwIn a b).2 = 0 then
      match spr (n / 2) a (betwIn a b).1 with
      | none => none
      | some l =>
        match spr (n - n / 2) (betwIn a b).1 b with
        | none => none
        | some r => some (l ++ (betwIn a b).1 :: r)
    else none
termination_by n => n
decreasing_by all_goals omega

theorem spr_zero (a b : List UInt8) : spr 0 a b = some [] := by rw [spr]
theorem spr_err {n : Nat} {a b : List UInt8} (h : (betwIn a b).2 ≠ 0) : spr (n + 1) a b = none := by rw [spr, if_neg h]
theorem spr_left {n : Nat} {a b : List UInt8} (h : (betwIn a b).2 = 0) (h1 : spr (n / 2) a (betwIn a b).1 = none) : spr (n + 1) a b = none := by rw [spr, if_pos h, h1]
theorem spr_right {n : Nat} {a b : List UInt8} {l : List (List UInt8)} (h : (betwIn a b).2 = 0) (h1 : spr (n / 2) a (betwIn a b).1 = some l) (h2 : spr (n - n / 2) (betwIn a b).1 b = none) : spr (n + 1) a b = none := by rw [spr, if_pos h, h1, h2]
theorem spr_some {n : Nat} {a b : List UInt8} {l r : List (List UInt8)} (h : (betwIn a b).2 = 0) (h1 : spr (n / 2) a (betwIn a b).1 = some l) (h2 : spr (n - n / 2) (betwIn a b).1 b = some r) : spr (n + 1) a b = some (l ++ (betwIn a b).1 :: r) := by rw [spr, if_pos h, h1, h2]

/-- keys that rise from a on, all of them below b -/
def Rises : List UInt8 → List (List UInt8) → List UInt8 → Prop
  | _, [], _ => True
  | a, k :: r, b => rightB k = true ∧ Op.bytesLess a k = true ∧ (b = [] ∨ Op.bytesLess k b = true) ∧ Rises k r b

theorem rises_join : ∀ {a k b : List UInt8} {l r : List (List UInt8)}, Rises a l k → rightB k = true → Op.bytesLess a k = true → (b = [] ∨ Op.bytesLess k b = true) → Rises k r b → Rises a (l ++ k :: r) b
  | a, k, b, [], r, _, h1, h2, h3, h4 => ⟨h1, h2, h3, h4⟩
  | a, k, b, x :: l, r, h, h1, h2, h3, h4 => by
    obtain ⟨x1, x2, x3, x4⟩ := h
    have x5 : Op.bytesLess x k = true := by
      rcases x3 with x3 | x3
      · subst x3; have := ((rightB_iff []).1 h1).1; simp at this
      · exact x3
    exact ⟨x1, x2, h3.elim Or.inl fun h => Or.inr (less_trans x k b x5 h), rises_join x4 h1 x5 h3 h4⟩

theorem spr_rises : ∀ (n : Nat) (a b : List UInt8) (l : List (List UInt8)), endsB a b = true → spr n a b = some l → l.length = n ∧ Rises a l b := by
  intro n
  induction n using Nat.strongRecOn with
  | _ n ih =>
    intro a b l he h
    cases n with
    | zero =>
      rw [spr_zero] at h
      cases h
      exact ⟨rfl, trivial⟩
    | succ n =>
      by_cases h0 : (betwIn a b).2 = 0
      · obtain ⟨l1, l2, l3, -⟩ := betw_lies he h0
        cases h1 : spr (n / 2) a (betwIn a b).1 with
        | none => rw [spr_left h0 h1] at h; cases h
        | some x =>
          cases h2 : spr (n - n / 2) (betwIn a b).1 b with
          | none => rw [spr_right h0 h1 h2] at h; cases h
          | some y =>
            rw [spr_some h0 h1 h2] at h
            cases h
            obtain ⟨x1, x2⟩ := ih (n / 2) (by omega) a (betwIn a b).1 x (ends_left he l1 l2) h1
            obtain ⟨y1, y2⟩ := ih (n - n / 2) (by omega) (betwIn a b).1 b y (ends_right he l1 l3) h2
            exact ⟨by simp [x1, y1]; omega, rises_join x2 l1 l2 l3 y2⟩
      · rw [spr_err h0] at h; cases h

/-- what Spread answers: its keys, and the error's number -/
def spread (n : Int) (a b : List UInt8) : List (List UInt8) × Int :=
  if n < 0 ∨ 64 < n ∨ endsB a b = false then ([], 1) else match spr n.toNat a b with
    | some l => (l, 0)
    | none => ([], 32)
theorem spread_bad {n : Int} {a b : List UInt8} (h : n < 0 ∨ 64 < n ∨ endsB a b = false) : spread n a b = ([], 1) := if_pos h
theorem spread_some {n : Nat} {a b : List UInt8} {l : List (List UInt8)} (hn : n ≤ 64) (he : endsB a b = true) (h : spr n a b = some l) : spread n a b = (l, 0) := by
  unfold spread
  rw [if_neg (by rw [he]; simp; omega), Int.toNat_natCast, h]
theorem spread_none {n : Nat} {a b : List UInt8} (hn : n ≤ 64) (he : endsB a b = true) (h : spr n a b = none) : spread n a b = ([], 32) := by
  unfold spread
  rw [if_neg (by rw [he]; simp; omega), Int.toNat_natCast, h]
/-- with an error there are none; without one there are so many, and they rise -/
theorem spread_tells (n : Int) (a b : List UInt8) : ((spread n a b).2 ≠ 0 ∧ (spread n a b).1 = []) ∨ ((spread n a b).2 = 0 ∧ ((spread n a b).1.length : Int) = n ∧ (spread n a b).1.length ≤ 64 ∧ Rises a (spread n a b).1 b) := by
  by_cases h : n < 0 ∨ 64 < n ∨ endsB a b = false
  · rw [spread_bad h]; exact Or.inl ⟨by simp, rfl⟩
  · obtain ⟨m, rfl⟩ := Int.eq_ofNat_of_zero_le (show 0 ≤ n by omega)
    have he : endsB a b = true := by
      cases e : endsB a b
      · exact absurd (Or.inr (Or.inr e)) h
      · rfl
    have hm : m ≤ 64 := by omega
    cases hs : spr m a b with
    | none => rw [show ((m : Int)) = ((m : Nat) : Int) from rfl, spread_none hm he hs]; exact Or.inl ⟨by simp, rfl⟩
    | some l =>
      obtain ⟨h1, h2⟩ := spr_rises m a b l he hs
      rw [show ((m : Int)) = ((m : Nat) : Int) from rfl, spread_some hm he hs]
      exact Or.inr ⟨rfl, by simp [h1], by simp [h1]; exact hm, h2⟩
theorem spread_len (n : Int) (a b : List UInt8) : (spread n a b).1.length ≤ 64 := by
  rcases spread_tells n a b with ⟨-, h⟩ | ⟨-, -, h, -⟩
  · rw [h]; simp
  · exact h
/-- what is known of the key at place i -/
theorem rises_at : ∀ {a b : List UInt8} {l : List (List UInt8)}, Rises a l b → ∀ i, i < l.length → rightB (l.getD i []) = true ∧ Op.bytesLess (if i = 0 then a else l.getD (i - 1) []) (l.getD i []) = true ∧ (b = [] ∨ Op.bytesLess (l.getD i []) b = true)
  | _, _, [], _, i, hi => by simp at hi
  | a, b, k :: r, h, i, hi => by
    obtain ⟨h1, h2, h3, h4⟩ := h
    cases i with
    | zero => exact ⟨h1, h2, h3⟩
    | succ i =>
      have := rises_at h4 i (by simpa using hi)
      cases i with
      | zero => simpa using this
      | succ i => simpa using this

end Go.Proofs.Ytdgcdepepfgkoaa.Km
