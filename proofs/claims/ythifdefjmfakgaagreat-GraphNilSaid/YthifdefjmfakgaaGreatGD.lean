/-
  PLAIN LAWS of numbers' forms and frames: what is read is what is written as the number, and only that; there and back; a frame of which one byte is another one.
  A READER that Open made: what Num, Upto, Text, Fail, Err, Left, Done do to it, of any bytes.
  A READER's Upto, Num and Text, of any bytes; Open.
  ROWS OF NUMBERS AND TEXTS, as bytes and read again: plain laws; how slices of integers and of strings lie.
-/
import Derived.Test.YthifdefjmfakgaaGreatGC
namespace Go.Proofs.YthifdefjmfakgaaGreat
open Go.RowKit

theorem nlen_eq (k n : Nat) (hk : k ≤ 6) (h1 : n < 256 ^ k) (h2 : k = 0 ∨ 256 ^ (k - 1) ≤ n) : Wm.nlen n = k := by
  unfold Wm.nlen
  rcases (show k = 0 ∨ k = 1 ∨ k = 2 ∨ k = 3 ∨ k = 4 ∨ k = 5 ∨ k = 6 by omega) with rfl | rfl | rfl | rfl | rfl | rfl | rfl
  all_goals simp at h1 h2
  all_goals repeat' split
  all_goals omega

theorem by8_cons_zero (c : UInt8) (l : List UInt8) : by8 (c :: l) 0 = c.toNat := rfl
theorem by8_cons_succ (c : UInt8) (l : List UInt8) (i : Nat) : by8 (c :: l) (i + 1) = by8 l i := rfl

/-- what is read as a number is what it is written as -/
theorem numR_form (l : List UInt8) (most n s : Nat) (h : numR l most = (n, s, 0)) : l.take s = Wm.numB n ∧ s = 1 + Wm.nlen n ∧ s ≤ l.length ∧ n ≤ most ∧ n < 281474976710656 := by
  unfold numR at h
  split at h
  · simp at h
  next hl =>
  split at h
  · simp at h
  next hk =>
  split at h
  · simp at h
  next hz =>
  split at h
  · simp at h
  next hs =>
  split at h
  · simp at h
  next hm =>
  simp only [Prod.mk.injEq, and_true] at h
  obtain ⟨rfl, rfl⟩ := h
  match l, hl with
  | c :: r, _ =>
    simp only [List.drop_succ_cons, List.drop_zero, by8_cons_zero, List.length_cons] at *
    generalize hkk : c.toNat = k at *
    have hDl : (r.take k).length = k := by simp; omega
    have hv := Wm.val_lt (r.take k)
    rw [hDl] at hv
    have hlow : k = 0 ∨ 256 ^ (k - 1) ≤ Wm.val (r.take k) := by
      rcases Nat.eq_zero_or_pos k with h0 | h0
      · exact Or.inl h0
      · right
        match r, hs, hz, hDl with
        | [], hs, _, _ => simp at hs; omega
        | d :: r', hs, hz, hDl =>
          obtain ⟨j, rfl⟩ : ∃ j, k = j + 1 := ⟨k - 1, by omega⟩
          simp only [List.take_succ_cons, List.length_cons] at *
          rw [Wm.val_cons]
          have hd : d.toNat ≠ 0 := by
            intro e
            apply hz
            refine ⟨h0, by omega, ?_⟩
            rw [show (1 : Nat) = 0 + 1 from rfl, by8_cons_succ, by8_cons_zero]
            exact e
          have hl' : (r'.take j).length = j := by omega
          rw [hl', Nat.add_sub_cancel]
          have : 1 * 256 ^ j ≤ d.toNat * 256 ^ j := Nat.mul_le_mul_right _ (by omega)
          omega
    have hn := nlen_eq k (Wm.val (r.take k)) (by omega) hv hlow
    have h6 : 256 ^ k ≤ 256 ^ 6 := Nat.pow_le_pow_right (by decide) (by omega)
    refine ⟨?_, by omega, by omega, by omega, Nat.lt_of_lt_of_le hv h6⟩
    unfold Wm.numB
    rw [hn, Nat.add_comm 1 k, List.take_succ_cons]
    have e1 : Wm.be k (Wm.val (r.take k)) = r.take k := by
      have := Wm.be_val (r.take k)
      rwa [hDl] at this
    rw [e1]
    have e2 : UInt8.ofNat k = c := by rw [← hkk]; simp
    rw [e2]

/-- a number that is written is read, whatever stands behind it -/
theorem numR_back (n most : Nat) (more : List UInt8) (h : n < 281474976710656) (hm : n ≤ most) : numR (Wm.numB n ++ more) most = (n, 1 + Wm.nlen n, 0) := by
  have hk6 := Wm.nlen_le n
  have hkb : (UInt8.ofNat (Wm.nlen n)).toNat = Wm.nlen n := by simp; omega
  have e : Wm.numB n ++ more = UInt8.ofNat (Wm.nlen n) :: (Wm.be (Wm.nlen n) n ++ more) := rfl
  have ht : (Wm.be (Wm.nlen n) n ++ more).take (Wm.nlen n) = Wm.be (Wm.nlen n) n := List.take_left' (Wm.be_length _ _)
  have hv : Wm.val (Wm.be (Wm.nlen n) n) = n := by rw [Wm.val_be]; exact Nat.mod_eq_of_lt (Wm.nlen_lt n h)
  rw [e]
  unfold numR
  rw [if_neg (by simp), by8_cons_zero, hkb, if_neg (by omega)]
  have hnz : ¬ (0 < Wm.nlen n ∧ 1 < (UInt8.ofNat (Wm.nlen n) :: (Wm.be (Wm.nlen n) n ++ more)).length ∧ by8 (UInt8.ofNat (Wm.nlen n) :: (Wm.be (Wm.nlen n) n ++ more)) 1 = 0) := by
    rintro ⟨h0, -, hb⟩
    rw [show (1 : Nat) = 0 + 1 from rfl, by8_cons_succ] at hb
    obtain ⟨j, hj⟩ : ∃ j, Wm.nlen n = j + 1 := ⟨Wm.nlen n - 1, by omega⟩
    rw [hj] at hb
    have hbe : by8 (Wm.be (j + 1) n ++ more) 0 = n / 256 ^ j % 256 := by
      have a := be_at (j + 1) n 0 (by omega)
      rw [Nat.add_sub_cancel, Nat.sub_zero] at a
      have hl : 0 < (Wm.be (j + 1) n).length := by rw [Wm.be_length]; omega
      rw [by8_get _ _ (by simp; omega), List.getElem_append_left hl, a]
      simp
    rw [hbe] at hb
    have hlt := Wm.nlen_lt n h
    rw [hj, Nat.pow_succ] at hlt
    have h1 : n / 256 ^ j < 256 := by rw [Nat.div_lt_iff_lt_mul (Nat.pow_pos (by decide)), Nat.mul_comm]; exact hlt
    have h2 : n / 256 ^ j = 0 := by rw [Nat.mod_eq_of_lt h1] at hb; exact hb
    have h3 : n < 256 ^ j := by
      rcases Nat.lt_or_ge n (256 ^ j) with q | q
      · exact q
      · have := Nat.div_pos q (Nat.pow_pos (by decide)); omega
    have h4 : Wm.nlen n ≤ j := by
      have hj5 : j ≤ 5 := by omega
      unfold Wm.nlen
      rcases (show j = 0 ∨ j = 1 ∨ j = 2 ∨ j = 3 ∨ j = 4 ∨ j = 5 by omega) with rfl | rfl | rfl | rfl | rfl | rfl
      all_goals simp at h3
      all_goals repeat' split
      all_goals omega
    omega
  rw [if_neg hnz, if_neg (by simp [Wm.be_length])]
  simp only [List.drop_succ_cons, List.drop_zero]
  rw [ht, hv, if_neg (by omega)]

theorem frameB_length (l : List UInt8) : (Wm.frameB l).length = Wm.nlen l.length + l.length + 6 := by
  simp [Wm.frameB, Wm.numB_length, Wm.be_length]; omega

/-- an error, and nothing beside it -/
theorem unfR_err (l : List UInt8) (h : (unfR l).2.2 ≠ 0) : (unfR l).1 = [] ∧ (unfR l).2.1 = 0 := by
  unfold unfR
  split
  · exact ⟨rfl, rfl⟩
  next h1 =>
  split
  · exact ⟨rfl, rfl⟩
  next h2 =>
  split
  · exact ⟨rfl, rfl⟩
  next h3 =>
  split
  · exact ⟨rfl, rfl⟩
  next h4 =>
  split
  · exact ⟨rfl, rfl⟩
  next h5 =>
  exfalso
  apply h
  unfold unfR
  rw [if_neg h1, if_neg h2, if_neg h3, if_neg h4, if_neg h5]

/-- what is unframed is what is framed -/
theorem unfR_form (l c : List UInt8) (n : Nat) (h : unfR l = (c, n, 0)) : l.take n = Wm.frameB c ∧ n = (Wm.frameB c).length ∧ n ≤ l.length ∧ c.length ≤ 1048576 := by
  unfold unfR at h
  split at h
  · simp at h
  next hl =>
  split at h
  · simp at h
  next hm =>
  rcases hr : numR (l.drop 1) 1048576 with ⟨m, s, e⟩
  rw [hr] at h
  dsimp only at h
  split at h
  · next he => simp only [Prod.mk.injEq] at h; exact absurd h.2.2 he
  next he =>
  have he0 : e = 0 := by omega
  subst he0
  split at h
  · simp at h
  next hs =>
  split at h
  · simp at h
  next hq =>
  obtain ⟨f1, f2, f3, f4, -⟩ := numR_form _ _ _ _ hr
  simp only [Prod.mk.injEq, and_true] at h
  obtain ⟨hc, hn⟩ := h
  have hcl : c.length = m := by rw [← hc]; simp; omega
  have hq2 : (l.drop (s + 1 + m)).take 4 = Wm.be 4 (Wm.crc c) := by
    rw [← hc]
    simpa using hq
  have hform : l.take n = Wm.frameB c := by
    have e0 : l = l.take 1 ++ (l.drop 1).take s ++ ((l.drop (s + 1)).take m) ++ ((l.drop (s + 1 + m)).take 4) ++ l.drop (s + 1 + m + 4) := by
      have a1 : l.drop (s + 1 + m) = (l.drop (s + 1 + m)).take 4 ++ l.drop (s + 1 + m + 4) := by
        have := (List.take_append_drop 4 (l.drop (s + 1 + m))).symm
        rwa [List.drop_drop] at this
      have a2 : l.drop (s + 1) = (l.drop (s + 1)).take m ++ l.drop (s + 1 + m) := by
        have := (List.take_append_drop m (l.drop (s + 1))).symm
        rwa [List.drop_drop] at this
      have a3 : l.drop 1 = (l.drop 1).take s ++ l.drop (s + 1) := by
        have := (List.take_append_drop s (l.drop 1)).symm
        rwa [List.drop_drop, Nat.add_comm 1 s] at this
      have a4 : l = l.take 1 ++ l.drop 1 := (List.take_append_drop 1 l).symm
      rw [List.append_assoc, List.append_assoc, List.append_assoc, ← a1, ← a2, ← a3, ← a4]
    have h93 : l.take 1 = [93] := by
      match l, hl, hm with
      | c0 :: r, _, hm =>
        rw [by8_cons_zero] at hm
        have : c0.toNat = 93 := by omega
        have : c0 = 93 := by apply UInt8.toNat_inj.1; rw [this]; rfl
        rw [this]; rfl
    have e1 : l = Wm.frameB c ++ l.drop (s + 1 + m + 4) := by
      rw [h93, f1, hc, hq2] at e0
      unfold Wm.frameB
      rw [hcl]
      exact e0
    have hfl := frameB_length c
    rw [hcl] at hfl
    have hnl : n = (Wm.frameB c).length := by omega
    rw [hnl]
    conv => lhs; rw [e1]
    exact List.take_left
  refine ⟨hform, ?_, by omega, by omega⟩
  rw [frameB_length, hcl]; omega

/-- there and back -/
theorem unfR_back (c more : List UInt8) (h : c.length ≤ 1048576) : unfR (Wm.frameB c ++ more) = (c, (Wm.frameB c).length, 0) := by
  have e : Wm.frameB c ++ more = 93 :: (Wm.numB c.length ++ (c ++ (Wm.be 4 (Wm.crc c) ++ more))) := by simp [Wm.frameB]
  have hr := numR_back c.length 1048576 (c ++ (Wm.be 4 (Wm.crc c) ++ more)) (by omega) h
  have hnl := Wm.numB_length c.length
  rw [frameB_length, e]
  unfold unfR
  rw [if_neg (by simp), if_neg (by rw [by8_cons_zero]; decide)]
  simp only [List.drop_succ_cons, List.drop_zero]
  rw [hr]
  dsimp only
  rw [if_neg (by simp), if_neg (by simp [Wm.be_length, hnl]; omega)]
  have d1 : (Wm.numB c.length ++ (c ++ (Wm.be 4 (Wm.crc c) ++ more))).drop (1 + Wm.nlen c.length) = c ++ (Wm.be 4 (Wm.crc c) ++ more) :=
    List.drop_left' (by rw [hnl]; omega)
  have d2 : (93 :: (Wm.numB c.length ++ (c ++ (Wm.be 4 (Wm.crc c) ++ more)))).drop (1 + Wm.nlen c.length + 1 + c.length) = Wm.be 4 (Wm.crc c) ++ more := by
    rw [← List.drop_drop, List.drop_succ_cons, d1, List.drop_left]
  rw [d1, d2, List.take_left, List.take_left' (Wm.be_length _ _), if_neg (by simp)]
  congr 2
  omega

/-- A FRAME OF WHICH ONE BYTE IS ANOTHER ONE is not unframed to another content of its length. -/
theorem unfR_rot (l : List UInt8) (at_ : Nat) (c : UInt8) (hat : at_ < (Wm.frameB l).length) (hne : (Wm.frameB l)[at_] ≠ c) :
    (unfR ((Wm.frameB l).set at_ c)).2.2 ≠ 0 ∨ (unfR ((Wm.frameB l).set at_ c)).2.1 ≠ (Wm.frameB l).length := by
  rcases hu : unfR ((Wm.frameB l).set at_ c) with ⟨k, n, e⟩
  dsimp only
  by_cases he : e = 0
  · right
    subst he
    intro hn
    obtain ⟨f1, f2, -, -⟩ := unfR_form _ _ _ hu
    have hfl : ((Wm.frameB l).set at_ c).length = n := by rw [List.length_set]; exact hn.symm
    rw [List.take_of_length_le (by omega)] at f1
    have hlen : (Wm.frameB k).length = (Wm.frameB l).length := by rw [← f1, List.length_set]
    rw [frameB_length, frameB_length] at hlen
    have hmono : k.length = l.length := by
      have mono : ∀ a b : Nat, a < b → Wm.nlen a ≤ Wm.nlen b := by
        intro a b hab
        unfold Wm.nlen
        repeat' split
        all_goals omega
      rcases Nat.lt_trichotomy k.length l.length with q | q | q
      · have := mono _ _ q; omega
      · exact q
      · have := mono _ _ q; omega
    unfold Wm.frameB at f1 hne hat
    rw [hmono] at f1
    generalize hh : [93] ++ Wm.numB l.length = hd at *
    rcases Nat.lt_or_ge at_ hd.length with q1 | q1
    · -- the byte stands in the head: the rest is as it was, so the head is too
      rw [List.append_assoc, List.append_assoc, List.set_append_left _ _ q1] at f1
      have := List.append_inj_left f1 (by rw [List.length_set])
      have h2 : (hd.set at_ c)[at_]'(by rw [List.length_set]; exact q1) = c := by simp
      have h3 : hd[at_] = c := by rw [← h2]; simp [this]
      apply hne
      rw [← h3]
      simp [List.getElem_append_left, q1]
    · have hq : at_ - hd.length < (l ++ Wm.be 4 (Wm.crc l)).length := by simp at hat ⊢; omega
      rw [List.append_assoc, List.append_assoc, List.set_append_right _ _ q1] at f1
      have f3 := List.append_inj_right f1 rfl
      have hne2 : (l ++ Wm.be 4 (Wm.crc l))[at_ - hd.length] ≠ c := by
        intro hx
        apply hne
        rw [← hx]
        simp only [List.append_assoc]
        rw [List.getElem_append_right q1]
      clear f1 hne hat
      generalize at_ - hd.length = i at *
      rcases Nat.lt_or_ge i l.length with q2 | q2
      · rw [List.set_append_left _ _ q2] at f3
        have e1 := List.append_inj_left f3 (by rw [List.length_set]; exact hmono.symm)
        have e2 := List.append_inj_right f3 (by rw [List.length_set]; exact hmono.symm)
        have e3 : Wm.crc l = Wm.crc k := by
          have a := congrArg Wm.val e2
          rw [Wm.val_be, Wm.val_be, Nat.mod_eq_of_lt (by have := Wm.crc_lt l; simpa using this), Nat.mod_eq_of_lt (by have := Wm.crc_lt k; simpa using this)] at a
          exact a
        have e4 : l = l.take i ++ l[i] :: l.drop (i + 1) := by
          rw [← List.drop_eq_getElem_cons q2, List.take_append_drop]
        have e5 : k = l.take i ++ c :: l.drop (i + 1) := by rw [← e1, List.set_eq_take_append_cons_drop, if_pos q2]
        apply hne2
        rw [List.getElem_append_left q2]
        rw [e5] at e3
        conv at e3 => lhs; rw [e4]
        exact Wm.crc_turned _ _ _ _ e3
      · rw [List.set_append_right _ _ q2] at f3
        have e1 := List.append_inj_left f3 hmono.symm
        have e2 := List.append_inj_right f3 hmono.symm
        rw [← e1] at e2
        have hi : i - l.length < (Wm.be 4 (Wm.crc l)).length := by simp at hq; omega
        have h2 : ((Wm.be 4 (Wm.crc l)).set (i - l.length) c)[i - l.length]'(by rw [List.length_set]; exact hi) = c := by simp
        apply hne2
        rw [List.getElem_append_right q2, ← h2]
        simp [e2]
  · exact Or.inl he

end Go.Proofs.YthifdefjmfakgaaGreat

namespace Go.Proofs.YthifdefjmfakgaaGreat
open Go.RowKit

/-- a reader at block b (from base B on): what is left, the error -/
def Rdr (w : World) (B b : Nat) (l : List UInt8) (err : Nat) : Prop :=
  B ≤ b ∧ w.cell? ⟨b, 0, none⟩ = some (.bool true) ∧ w.cell? ⟨b, 2, none⟩ = some (.int .i64 (err : Int)) ∧ w.frozen? ⟨b, 1, none⟩ = false ∧ w.frozen? ⟨b, 2, none⟩ = false ∧ l.length ≤ 4611686018427387904 ∧
  ∃ p c, w.cell? ⟨b, 1, none⟩ = some (.slice p l.length c) ∧ Bs w p l ∧ l.length ≤ c ∧ (p = none → c = 0) ∧ (∀ a, p = some a → a.block < b ∧ B ≤ a.block)

theorem cell_same {w : World} {a : Addr} {u v : Value} (h : w.cell? a = some u) : (w.setCell a v).cell? a = some v := World.cell?_setCell_same' w a v (by rw [h]; rfl)
theorem cell_other {w : World} {a b : Addr} {v : Value} (h : a ≠ b) : (w.setCell a v).cell? b = w.cell? b := by
  apply World.cell?_setCell_other
  exact h

theorem Rdr.kept {w w' : World} {B b : Nat} {l : List UInt8} {err : Nat} (h : Rdr w B b l err) (hb : Below w.heap.size w w') : Rdr w' B b l err := by
  obtain ⟨h0, h1, h2, h3, h4, h5, p, c, h6, h7, h8, h9, h10⟩ := h
  have hlt := cell_lt h1
  have hlt' : b < w.heap.size := hlt
  exact ⟨h0, by rw [hb.cell (by simpa using hlt')]; exact h1, by rw [hb.cell (by simpa using hlt')]; exact h2, by rw [hb.frozen (by simpa using hlt')]; exact h3, by rw [hb.frozen (by simpa using hlt')]; exact h4, h5, p, c, by rw [hb.cell (by simpa using hlt')]; exact h6, h7.kept hb, h8, h9, h10⟩

theorem Rdr.drewN {w : World} {B b : Nat} {l : List UInt8} {err : Nat} (h : Rdr w B b l err) (q : Nat) : Rdr (w.drewN q) B b l err := h.kept (below_drewN (Below.refl _ _) q)

theorem Bs.other {w : World} {p : Option Addr} {l : List UInt8} (h : Bs w p l) {b : Nat} (hp : ∀ a, p = some a → a.block ≠ b) (o : Nat) (v : Value) : Bs (w.setCell ⟨b, o, none⟩ v) p l := by
  intro h0
  obtain ⟨b', o', rfl, hc⟩ := h h0
  refine ⟨b', o', rfl, fun i hi => ?_⟩
  have hne : (⟨b, o, none⟩ : Addr) ≠ ⟨b', o' + i, none⟩ := by
    intro e
    have := hp _ rfl
    simp only [Addr.mk.injEq] at e
    exact this e.1.symm
  rw [cell_other hne]
  exact hc i hi

/-- what is left is another slice -/
theorem Rdr.pass {w : World} {B b : Nat} {l m : List UInt8} {err : Nat} (h : Rdr w B b l err) (p' : Option Addr) (c' : Nat) (hm : Bs w p' m) (hl : m.length ≤ 4611686018427387904) (hc : m.length ≤ c') (hpn : p' = none → c' = 0) (hp : ∀ a, p' = some a → a.block < b ∧ B ≤ a.block) :
    Rdr (w.setCell ⟨b, 1, none⟩ (.slice p' m.length c')) B b m err := by
  obtain ⟨h0, h1, h2, h3, h4, h5, p, c, h6, h7, h8, h9, h10⟩ := h
  refine ⟨h0, ?_, ?_, by simpa using h3, by simpa using h4, hl, p', c', cell_same h6, hm.other (fun a ha => Nat.ne_of_lt (hp a ha).1) _ _, hc, hpn, hp⟩
  · rw [cell_other (by simp)]; exact h1
  · rw [cell_other (by simp)]; exact h2

/-- another error -/
theorem Rdr.fail {w : World} {B b : Nat} {l : List UInt8} {err : Nat} (h : Rdr w B b l err) (e : Nat) : Rdr (w.setCell ⟨b, 2, none⟩ (.int .i64 (e : Int))) B b l e := by
  obtain ⟨h0, h1, h2, h3, h4, h5, p, c, h6, h7, h8, h9, h10⟩ := h
  refine ⟨h0, ?_, cell_same h2, by simpa using h3, by simpa using h4, h5, p, c, ?_, h7.other (fun a ha => Nat.ne_of_lt (h10 a ha).1) _ _, h8, h9, h10⟩
  · rw [cell_other (by simp)]; exact h1
  · rw [cell_other (by simp)]; exact h6

/-- what Done answers -/
def doneR (l : List UInt8) (err : Nat) : Nat := if err ≠ 0 then err else if 0 < l.length then 21 else 0

/-- only the reader's own block has turned -/
def Only (b : Nat) (w w' : World) : Prop := w.grownBy w' (some b)
theorem Only.refl (b : Nat) (w : World) : Only b w w := ⟨rfl, rfl, rfl, Nat.le_refl _, fun _ _ _ => rfl⟩
theorem Only.set (b o : Nat) (w : World) (v : Value) : Only b w (w.setCell ⟨b, o, none⟩ v) :=
  ⟨rfl, rfl, rfl, by simp [World.setCell], fun k _ hk => Below.heap_setCell w _ v k (fun e => hk (by rw [e]))⟩
theorem Only.trans {b : Nat} {x y z : World} (h : Only b x y) (k : Only b y z) : Only b x z :=
  ⟨k.os.trans h.os, k.tape.trans h.tape, k.output.trans h.output, Nat.le_trans h.size k.size, fun i hi hn => (k.block i (Nat.lt_of_lt_of_le hi h.size) hn).trans (h.block i hi hn)⟩
theorem Only.below {b B : Nat} {w0 w w' : World} (h : Only b w w') (h0 : Below B w0 w) (hB : B ≤ b) (hs : B ≤ w.heap.size) : Below B w0 w' :=
  h0.grown h hs (fun k hk => by simp only [Option.some.injEq] at hk; omega)

end Go.Proofs.YthifdefjmfakgaaGreat

namespace Go.Proofs.YthifdefjmfakgaaGreat
open Go.RowKit

/-- a number that stands next: it, what is left, the error -/
def uptoR (l : List UInt8) (most : Int) : Nat × List UInt8 × Nat :=
  if (numR l 281474976710655).2.2 ≠ 0 then (0, l, (numR l 281474976710655).2.2)
  else if most < ((numR l 281474976710655).1 : Int) then (0, l, 30)
  else ((numR l 281474976710655).1, l.drop (numR l 281474976710655).2.1, 0)

/-- a text that stands next: it, what is left, the error -/
def textR (l : List UInt8) : List UInt8 × List UInt8 × Nat :=
  if (numR l 1048576).2.2 ≠ 0 then ([], l, (numR l 1048576).2.2)
  else if l.length - (numR l 1048576).2.1 < (numR l 1048576).1 then ([], l, 20)
  else ((l.drop (numR l 1048576).2.1).take (numR l 1048576).1, l.drop ((numR l 1048576).2.1 + (numR l 1048576).1), 0)

end Go.Proofs.YthifdefjmfakgaaGreat

namespace Go.Proofs.YthifdefjmfakgaaGreat
open Go.RowKit

/-- the slice reads as these integers -/
def Ints (w : World) (p : Option Addr) (l : List Int) : Prop :=
  0 < l.length → ∃ b o, p = some ⟨b, o, none⟩ ∧ ∀ i, i < l.length → w.cell? ⟨b, o + i, none⟩ = some (.int .i64 (l.getD i 0))
/-- the slice reads as these strings -/
def Strs (w : World) (p : Option Addr) (l : List ByteArray) : Prop :=
  0 < l.length → ∃ b o, p = some ⟨b, o, none⟩ ∧ ∀ i, i < l.length → w.cell? ⟨b, o + i, none⟩ = some (.string (l.getD i ByteArray.empty))

theorem Ints.kept {w w' : World} {p : Option Addr} {l : List Int} (h : Ints w p l) (hb : Below w.heap.size w w') : Ints w' p l := by
  intro h0
  obtain ⟨b, o, rfl, hc⟩ := h h0
  have := cell_lt (hc 0 h0)
  exact ⟨b, o, rfl, fun i hi => by rw [hb.cell (by simpa using this)]; exact hc i hi⟩
theorem Strs.kept {w w' : World} {p : Option Addr} {l : List ByteArray} (h : Strs w p l) (hb : Below w.heap.size w w') : Strs w' p l := by
  intro h0
  obtain ⟨b, o, rfl, hc⟩ := h h0
  have := cell_lt (hc 0 h0)
  exact ⟨b, o, rfl, fun i hi => by rw [hb.cell (by simpa using this)]; exact hc i hi⟩

/-- round i of a row -/
def rowB (l : List Int) (s : List ByteArray) (i : Nat) : List UInt8 :=
  (if i < l.length then Wm.numB (l.getD i 0).toNat else []) ++ (if i < s.length then Wm.numB (s.getD i ByteArray.empty).size ++ (s.getD i ByteArray.empty).data.toList else [])
/-- the first j rounds -/
def rowsB (l : List Int) (s : List ByteArray) : Nat → List UInt8
  | 0 => []
  | j + 1 => rowsB l s j ++ rowB l s j
/-- n rounds from k on -/
def restB (l : List Int) (s : List ByteArray) : Nat → Nat → List UInt8
  | 0, _ => []
  | n + 1, k => rowB l s k ++ restB l s n (k + 1)

theorem restB_snoc (l : List Int) (s : List ByteArray) (n k : Nat) : restB l s (n + 1) k = restB l s n k ++ rowB l s (k + n) := by
  induction n generalizing k with
  | zero => simp [restB]
  | succ n ih => rw [restB, ih, restB, List.append_assoc, show k + 1 + n = k + (n + 1) from by omega]
theorem rows_rest (l : List Int) (s : List ByteArray) (n : Nat) : rowsB l s n = restB l s n 0 := by
  induction n with
  | zero => rfl
  | succ n ih => rw [rowsB, ih, restB_snoc, Nat.zero_add]

/-- a number that was written is read -/
theorem uptoR_back (n : Nat) (more : List UInt8) (h : n < 281474976710656) : uptoR (Wm.numB n ++ more) 281474976710655 = (n, more, 0) := by
  unfold uptoR
  rw [numR_back n 281474976710655 more h (by omega)]
  dsimp only
  rw [if_neg (by simp), if_neg (by omega), List.drop_left' (by rw [Wm.numB_length]; omega)]
/-- a text that was written is read -/
theorem textR_back (s more : List UInt8) (h : s.length ≤ 1048576) : textR (Wm.numB s.length ++ s ++ more) = (s, more, 0) := by
  unfold textR
  rw [List.append_assoc, numR_back s.length 1048576 (s ++ more) (by omega) h]
  dsimp only
  have hd : (Wm.numB s.length ++ (s ++ more)).drop (1 + Wm.nlen s.length) = s ++ more := List.drop_left' (by rw [Wm.numB_length]; omega)
  rw [if_neg (by simp), if_neg (by simp [Wm.numB_length]; omega), hd, List.take_left, ← List.drop_drop, hd, List.drop_left]

end Go.Proofs.YthifdefjmfakgaaGreat
