/-
  LOGS, PLAINLY: each replica's batches are Seqs 1 and on, their times rise; what Add adds.
  No conditions.
-/
import Derived.Test.YtaplemkmkbjodaaGQ
import Derived.Test.YtaplemkmkbjodaaLgAdd
namespace Go.Proofs.Ytaplemkmkbjodaa
open Go.RowKit

theorem endT_right {x : Bat} (h : rightT x = true) : endT x = (x.t + ((x.ops.length : Int) - 1), x.r) := by
  have h1 := (rightT_iff.1 h).2.2.1
  exact stampT_yes ⟨by omega, by omega, h⟩
theorem endT_ge {x : Bat} (h : rightT x = true) : x.t ≤ (endT x).1 := by
  have h1 := (rightT_iff.1 h).2.2.1
  rw [endT_right h]
  dsimp only
  omega
def RowSeq (r : Nat) (l : List Bat) : Prop := (∀ i (h : i < l.length), l[i].r = (r : Int) ∧ l[i].s = (i : Int) + 1) ∧ l.Pairwise fun a b => (endT a).1 < b.t
def SeqOk (L : Lg) : Prop := ∀ r, r < 16 → RowSeq r (L.row r)
theorem SeqOk.zero : SeqOk Lg.zero := fun _ _ => ⟨fun _ h => (by cases h), List.Pairwise.nil⟩
theorem RowSeq.append {r : Nat} {l : List Bat} {x : Bat} (h : RowSeq r l) (hr : x.r = (r : Int)) (hs : x.s = (l.length : Int) + 1) (hall : ∀ a ∈ l, rightT a = true)
    (hf : (match l.getLast? with | none => ((0, 0) : Qm.St) | some y => endT y).1 < x.t) : RowSeq r (l ++ [x]) := by
  refine ⟨fun i hi => ?_, List.pairwise_append.2 ⟨h.2, List.pairwise_singleton _ _, fun a ha b hb => ?_⟩⟩
  · by_cases e : i < l.length
    · rw [List.getElem_append_left e]; exact h.1 i e
    · have hi' : i = l.length := by simp at hi; omega
      subst hi'
      rw [List.getElem_append_right (Nat.le_refl _)]
      simp [hr, hs]
  · obtain rfl : b = x := by simpa using hb
    cases hg : l.getLast? with
    | none =>
      have := List.getLast?_eq_none_iff.1 hg
      subst this
      cases ha
    | some y =>
      rw [hg] at hf
      obtain ⟨ys, rfl⟩ := List.getLast?_eq_some_iff.1 hg
      dsimp only at hf
      rcases List.mem_append.1 ha with ha | ha
      · have h1 := (List.pairwise_append.1 h.2).2.2 a ha y (by simp)
        have h2 := endT_ge (hall y (by simp))
        omega
      · obtain rfl : a = y := by simpa using ha
        exact hf
theorem SeqOk.enter {L : Lg} (h : SeqOk L) (ho : LgOk L) {x : Bat} (hx : rightT x = true) (hs : x.s = nextS L x.r.toNat) (hf : fitsL L x = true) : SeqOk (enterL L x) := fun r hr => by
  unfold enterL
  dsimp only
  split
  · next e =>
    subst e
    refine (h _ hr).append ?_ hs (fun a ha => (ho.right _ hr a ha).right) ?_
    · exact (right_r hx).2.symm
    · have := of_decide_eq_true hf
      unfold lastR at this
      exact this
  · exact h r hr
theorem SeqOk.drop {L : Lg} (h : SeqOk L) (r s : Int) : SeqOk (dropL L r s) := h
theorem SeqOk.follow : ∀ (n : Nat) {L : Lg} {r : Nat}, SeqOk L → LgOk L → SeqOk (followL n L r)
  | 0, _, _, h, _ => h
  | n + 1, L, r, h, ho => by
    rw [followL]
    split
    · exact h
    · next ht =>
      cases hf : L.wait.find? (atPl (r : Int) (nextS L r)) with
      | none => exact h
      | some x =>
        dsimp only
        split
        · next hfit =>
          have hx := ho.wright x (List.mem_of_find?_eq_some hf)
          have hat := atPl_iff.1 (List.find?_some hf)
          have hd := ho.drop (r : Int) (nextS L r)
          have hrr : x.r.toNat = r := by rw [hat.1]; simp
          refine SeqOk.follow n (SeqOk.enter (h.drop _ _) hd hx.right ?_ hfit) (hd.enter hx ?_)
          · rw [hat.2, hrr]; rfl
          · exact ht
        · exact h
theorem SeqOk.add {L : Lg} {x : Bat} (h : SeqOk L) (ho : LgOk L) (hx : rightT x = true → OkB x) : SeqOk (addL L x).1 := by
  unfold addL
  split
  · exact h
  · next hr =>
    split
    · exact h
    · split
      · split
        · exact h
        · exact h
      · next hs =>
        split
        · exact h
        · next ht =>
          split
          · exact h
          · next hf =>
            have hr' : rightT x = true := by simpa using hr
            have hx' := hx hr'
            refine SeqOk.follow _ (h.enter ho hr' (by simpa using hs) (by simpa using hf)) (ho.enter hx' ht)

/-! ### what Add adds -/
theorem followL_row : ∀ (n : Nat) (L : Lg) (r : Nat), (∃ t, (followL n L r).row r = L.row r ++ t) ∧ ∀ k, k ≠ r → (followL n L r).row k = L.row k
  | 0, L, r => ⟨⟨[], by simp [followL]⟩, fun _ _ => rfl⟩
  | n + 1, L, r => by
    rw [followL]
    split
    · exact ⟨⟨[], by simp⟩, fun _ _ => rfl⟩
    · cases hf : L.wait.find? (atPl (r : Int) (nextS L r)) with
      | none => exact ⟨⟨[], by simp⟩, fun _ _ => rfl⟩
      | some x =>
        have hat := atPl_iff.1 (List.find?_some hf)
        have hrr : x.r.toNat = r := by rw [hat.1]; simp
        dsimp only
        split
        · obtain ⟨⟨t, h1⟩, h2⟩ := followL_row n (enterL (dropL L (r : Int) (nextS L r)) x) r
          refine ⟨⟨x :: t, ?_⟩, fun k hk => ?_⟩
          · rw [h1]; simp [enterL, dropL, hrr]
          · rw [h2 k hk]; simp [enterL, dropL, hrr, hk]
        · exact ⟨⟨[], by simp [dropL]⟩, fun _ _ => rfl⟩
/-- the rows but x's stay; x's gets what is answered -/
theorem addL_row (L : Lg) (x : Bat) : (addL L x).1.row x.r.toNat = L.row x.r.toNat ++ (addL L x).2.1 ∧ (∀ k, k ≠ x.r.toNat → (addL L x).1.row k = L.row k) ∧ ((addL L x).2.2 ≠ 0 → (addL L x).2.1 = []) := by
  unfold addL
  split
  · exact ⟨by simp, fun _ _ => rfl, fun _ => rfl⟩
  · next hr =>
    split
    · exact ⟨by simp, fun _ _ => rfl, fun _ => rfl⟩
    · split
      · split
        · exact ⟨by simp, fun _ _ => rfl, fun _ => rfl⟩
        · exact ⟨by simp, fun _ _ => rfl, fun _ => rfl⟩
      · next hs =>
        split
        · exact ⟨by simp, fun _ _ => rfl, fun _ => rfl⟩
        · split
          · exact ⟨by simp, fun _ _ => rfl, fun _ => rfl⟩
          · have hs' : x.s = nextS L x.r.toNat := by simpa using hs
            have hsn : x.s.toNat - 1 = (L.row x.r.toNat).length := by rw [hs']; simp [nextS]
            obtain ⟨⟨t, h1⟩, h2⟩ := followL_row (L.wait.length + 1) (enterL L x) x.r.toNat
            dsimp only
            have h3 : (enterL L x).row x.r.toNat = L.row x.r.toNat ++ [x] := by simp [enterL]
            rw [h3] at h1
            refine ⟨?_, fun k hk => ?_, fun h => absurd rfl h⟩
            · rw [h1, hsn, List.append_assoc, List.drop_left]
            · rw [h2 k hk]; simp [enterL, hk]
theorem sumTo_one (a b : Nat → Int) (j : Nat) (d : Int) (h1 : ∀ i, i ≠ j → b i = a i) (h2 : b j = a j + d) : ∀ k, sumTo b k = sumTo a k + (if j < k then d else 0)
  | 0 => by simp [sumTo]
  | k + 1 => by
    simp only [sumTo, sumTo_one a b j d h1 h2 k]
    by_cases e : k = j
    · subst e; rw [h2]; simp; omega
    · rw [h1 k e]
      by_cases h : j < k
      · simp [h, show j < k + 1 from by omega]; omega
      · simp [h, show ¬ j < k + 1 from by omega]
theorem addL_vec (L : Lg) (x : Bat) (hL : LgOk L) (hL' : LgOk (addL L x).1) : coversB (vecL9 (addL L x).1) (vecL9 L) = true ∧ totL (addL L x).1 = totL L + ((addL L x).2.1.length : Int) := by
  obtain ⟨h1, h2, h3⟩ := addL_row L x
  have hv1 : vecL9 (addL L x).1 x.r.toNat = vecL9 L x.r.toNat + ((addL L x).2.1.length : Int) := by unfold vecL9; rw [h1]; simp
  have hv2 : ∀ i, i ≠ x.r.toNat → vecL9 (addL L x).1 i = vecL9 L i := fun i hi => by unfold vecL9; rw [h2 i hi]
  refine ⟨coversB_iff.2 fun i hi => ?_, ?_⟩
  · by_cases e : i = x.r.toNat
    · subst e; rw [hv1]; omega
    · rw [hv2 i e]; exact Int.le_refl _
  · rw [hL.totL, hL'.totL, sumTo_one (vecL9 L) (vecL9 (addL L x).1) x.r.toNat _ hv2 hv1]
    by_cases hr : rightT x = true
    · rw [if_pos (right_r hr).1]
    · have : (addL L x).2.1 = [] := by
        have : rightT x = false := by simpa using hr
        rw [addL_bad this]
      rw [this]
      simp

/-! ### how much a log holds -/
/-- at most n batches, each of at most b ops -/
structure CntOk (b n : Nat) (L : Lg) : Prop where
  row : ∀ r, r < 16 → ∀ x ∈ L.row r, x.ops.length ≤ b
  wait : ∀ x ∈ L.wait, x.ops.length ≤ b
  cnt : sumTo (vecL9 L) 16 + (L.wait.length : Int) ≤ (n : Int)
theorem CntOk.zero (b : Nat) : CntOk b 0 Lg.zero := ⟨fun _ _ _ h => (by cases h), fun _ h => (by cases h), by decide⟩
theorem CntOk.enter {b n : Nat} {L : Lg} (h : CntOk b n L) {x : Bat} (hx : x.ops.length ≤ b) (hr : rightT x = true) : CntOk b (n + 1) (enterL L x) := by
  refine ⟨fun r hr2 y hy => ?_, h.wait, ?_⟩
  · unfold enterL at hy
    dsimp only at hy
    split at hy
    · rcases List.mem_append.1 hy with hy | hy
      · exact h.row r hr2 y hy
      · obtain rfl : y = x := by simpa using hy
        exact hx
    · exact h.row r hr2 y hy
  · have := h.cnt
    rw [vecL9_enter, sumTo_enter, if_pos (right_r hr).1]
    show _ + 1 + (L.wait.length : Int) ≤ _
    omega
theorem CntOk.mono {b n m : Nat} {L : Lg} (h : CntOk b n L) (hm : n ≤ m) : CntOk b m L := ⟨h.row, h.wait, by have := h.cnt; omega⟩
theorem CntOk.dropped {b n : Nat} {L : Lg} (h : CntOk b (n + 1) L) {r s : Int} {x : Bat} (hx : x ∈ L.wait) (ha : atPl r s x = true) : CntOk b n (dropL L r s) := by
  refine ⟨h.row, fun y hy => h.wait y (List.mem_filter.1 hy).1, ?_⟩
  have h2 : (L.wait.filter fun a => !atPl r s a).length < L.wait.length := by
    rw [List.length_filter_lt_length_iff_exists]
    exact ⟨x, hx, by simp [ha]⟩
  have h3 := h.cnt
  show sumTo (vecL9 L) 16 + ((L.wait.filter fun a => !atPl r s a).length : Int) ≤ _
  omega
theorem CntOk.follow {b : Nat} : ∀ (g : Nat) {n : Nat} {L : Lg} {r : Nat}, CntOk b n L → LgOk L → CntOk b n (followL g L r)
  | 0, _, _, _, h, _ => h
  | g + 1, n, L, r, h, ho => by
    rw [followL]
    split
    · exact h
    · next ht =>
      cases hf : L.wait.find? (atPl (r : Int) (nextS L r)) with
      | none => exact h
      | some x =>
        have hm := List.mem_of_find?_eq_some hf
        have ha := List.find?_some hf
        obtain ⟨n', rfl⟩ : ∃ n', n = n' + 1 := by
          have h1 := h.cnt
          have h2 : 0 < L.wait.length := List.length_pos_of_mem hm
          have h3 : 0 ≤ sumTo (vecL9 L) 16 := by
            have := sumTo_mono (a := vecL9 L) (fun i => by simp [vecL9]) (Nat.zero_le 16)
            simpa [sumTo] using this
          exact ⟨n - 1, by omega⟩
        have hd := h.dropped hm ha
        have hx := ho.wright x hm
        dsimp only
        split
        · exact CntOk.follow g (hd.enter (h.wait x hm) hx.right) ((ho.drop _ _).enter hx ht)
        · exact hd.mono (Nat.le_succ _)
theorem CntOk.add {b n : Nat} {L : Lg} {x : Bat} (h : CntOk b n L) (ho : LgOk L) (hx : rightT x = true → OkB x) (hb : x.ops.length ≤ b) : CntOk b (n + 1) (addL L x).1 := by
  have hs := h.mono (Nat.le_succ n)
  unfold addL
  split
  · exact hs
  · next hr =>
    have hr' : rightT x = true := by simpa using hr
    split
    · exact hs
    · split
      · split
        · exact hs
        · refine ⟨h.row, fun y hy => ?_, ?_⟩
          · rcases List.mem_append.1 hy with hy | hy
            · exact h.wait y hy
            · obtain rfl : y = x := by simpa using hy
              exact hb
          · have := h.cnt
            show sumTo (vecL9 L) 16 + ((L.wait ++ [x]).length : Int) ≤ _
            simp only [List.length_append, List.length_cons, List.length_nil]
            omega
      · split
        · exact hs
        · next ht =>
          split
          · exact hs
          · exact CntOk.follow _ (h.enter hb hr') (ho.enter (hx hr') ht)
theorem entR_cnt (b : Nat) : ∀ (l : List Bat), (∀ x ∈ l, x.ops.length ≤ b) → (entR l).length ≤ b * l.length
  | [], _ => by simp [entR]
  | x :: l, h => by
    have h1 := entR_cnt b l fun y hy => h y (List.mem_cons_of_mem _ hy)
    have h2 := h x (List.mem_cons_self ..)
    have h3 : entR (x :: l) = entB x ++ entR l := by simp [entR]
    rw [h3, List.length_append, entB_length, List.length_cons, Nat.mul_add]
    omega
theorem CntOk.ents {b n : Nat} {L : Lg} (h : CntOk b n L) : (entA L).length ≤ b * n := by
  have hk : ∀ k, k ≤ 16 → (((List.range k).flatMap fun r => entR (L.row r)).length : Int) ≤ (b : Int) * sumTo (vecL9 L) k := by
    intro k
    induction k with
    | zero => simp [sumTo]
    | succ k ih =>
      intro hk
      have h1 := ih (by omega)
      have h2 := entR_cnt b (L.row k) (h.row k (by omega))
      rw [List.range_succ, List.flatMap_append, List.length_append]
      simp only [List.flatMap_cons, List.flatMap_nil, List.append_nil, sumTo, Int.mul_add]
      have h3 : ((entR (L.row k)).length : Int) ≤ (b : Int) * vecL9 L k := by
        unfold vecL9
        exact_mod_cast h2
      omega
  have h1 := hk 16 (Nat.le_refl _)
  have h2 := h.cnt
  have h3 : (b : Int) * sumTo (vecL9 L) 16 ≤ (b : Int) * (n : Int) := Int.mul_le_mul_of_nonneg_left (by omega) (by omega)
  have h4 : ((entA L).length : Int) ≤ (b : Int) * (n : Int) := Int.le_trans h1 h3
  exact_mod_cast h4

/-! ### the stamps rise -/
theorem pair_range (n : Nat) : (List.range n).Pairwise fun a b => a < b := by
  induction n with
  | zero => exact List.Pairwise.nil
  | succ n ih =>
    rw [List.range_succ]
    exact List.pairwise_append.2 ⟨ih, List.pairwise_singleton _ _, fun a ha b hb => by
      have := List.mem_range.1 ha
      have : b = n := by simpa using hb
      omega⟩
theorem entB_rises (x : Bat) : (entB x).Pairwise fun a b => Qm.ltS a.1 b.1 := by
  unfold entB
  rw [List.pairwise_map]
  exact (pair_range _).imp fun h => Or.inl (by dsimp only; omega)
theorem entB_mem {x : Bat} {e : Ent} (h : e ∈ entB x) : ∃ i : Nat, i < x.ops.length ∧ e.1 = (x.t + (i : Int), x.r) := by
  obtain ⟨i, hi, rfl⟩ := List.mem_map.1 h
  exact ⟨i, List.mem_range.1 hi, rfl⟩
theorem SeqOk.rows {L : Lg} (h : SeqOk L) (ho : LgOk L) : RowsOk L := by
  refine ⟨fun r hr => ?_, fun r hr e he => ?_⟩
  · unfold entR
    rw [List.flatMap_def, List.pairwise_flatten]
    refine ⟨fun l hl => ?_, ?_⟩
    · obtain ⟨x, -, rfl⟩ := List.mem_map.1 hl
      exact entB_rises x
    · rw [List.pairwise_map]
      refine List.Pairwise.imp_of_mem ?_ (h r hr).2
      intro a b ha hb hab e he f hf
      obtain ⟨i, hi, h1⟩ := entB_mem he
      obtain ⟨j, hj, h2⟩ := entB_mem hf
      rw [endT_right (ho.right r hr a ha).right] at hab
      dsimp only at hab
      rw [h1, h2]
      exact Or.inl (by dsimp only; omega)
  · obtain ⟨x, hx, he⟩ := List.mem_flatMap.1 he
    obtain ⟨i, -, h1⟩ := entB_mem he
    obtain ⟨k, hk, rfl⟩ := List.mem_iff_getElem.1 hx
    rw [h1]
    exact ((h r hr).1 k hk).1

/-! ### all batches, one replica's after the other's -/
def allB (L : Lg) (k : Nat) : List Bat := (List.range k).flatMap L.row
theorem allB_succ (L : Lg) (k : Nat) : allB L (k + 1) = allB L k ++ L.row k := by
  unfold allB
  rw [List.range_succ, List.flatMap_append]
  simp
theorem preS_zero (L : Lg) (k : Nat) : preS L (fun _ => 0) k = allB L k := by
  unfold preS allB
  rfl
theorem allB_len (L : Lg) : ∀ k, ((allB L k).length : Int) = sumTo (vecL9 L) k
  | 0 => rfl
  | k + 1 => by
    rw [allB_succ, List.length_append, sumTo, ← allB_len L k]
    simp [vecL9]
theorem since_all {L : Lg} (h : LgOk L) : sinceL L (fun _ => 0) 1000 = allB L 16 := by
  have h1 := allB_len L 16
  have h2 := h.tot
  unfold sinceL
  rw [if_pos (by decide), preS_zero, List.take_of_length_le (by omega)]
/-- how a batch stands to the one ahead -/
def adjB (a b : Bat) : Prop := (a.r = b.r ∧ b.s = a.s + 1 ∧ (endT a).1 < b.t) ∨ (a.r < b.r ∧ b.s = 1)
theorem allB_adj {L : Lg} (h : SeqOk L) : ∀ k, k ≤ 16 → (∀ x, (allB L k).getLast? = some x → x.r < (k : Int)) ∧ (∀ x, (allB L k)[0]? = some x → x.s = 1) ∧ ∀ i a b, (allB L k)[i]? = some a → (allB L k)[i + 1]? = some b → adjB a b
  | 0, _ => ⟨fun _ h => by simp [allB] at h, fun _ h => by simp [allB] at h, fun _ _ _ h => by simp [allB] at h⟩
  | k + 1, hk => by
    obtain ⟨h1, h2, h3⟩ := allB_adj h k (by omega)
    have hr := h k (by omega)
    rw [allB_succ]
    refine ⟨fun x hx => ?_, fun x hx => ?_, fun i a b ha hb => ?_⟩
    · rw [List.getLast?_append] at hx
      cases hg : (L.row k).getLast? with
      | none =>
        rw [hg] at hx
        have := h1 x (by simpa using hx)
        omega
      | some y =>
        rw [hg] at hx
        obtain rfl : y = x := by simpa using hx
        obtain ⟨i, hi, e⟩ := List.mem_iff_getElem.1 (List.mem_of_getLast? hg)
        have := (hr.1 i hi).1
        rw [e] at this
        omega
    · by_cases h0 : 0 < (allB L k).length
      · rw [List.getElem?_append_left h0] at hx
        exact h2 x hx
      · rw [List.getElem?_append_right (by omega)] at hx
        have h00 : 0 - (allB L k).length = 0 := by omega
        rw [h00] at hx
        obtain ⟨hl, e⟩ := List.getElem?_eq_some_iff.1 hx
        have := (hr.1 0 hl).2
        rw [e] at this
        simpa using this
    · by_cases h4 : i + 1 < (allB L k).length
      · rw [List.getElem?_append_left (by omega)] at ha
        rw [List.getElem?_append_left h4] at hb
        exact h3 i a b ha hb
      · rw [List.getElem?_append_right (by omega)] at hb
        obtain ⟨hl, e⟩ := List.getElem?_eq_some_iff.1 hb
        have hbs := hr.1 _ hl
        rw [e] at hbs
        by_cases h5 : i < (allB L k).length
        · rw [List.getElem?_append_left h5] at ha
          have hlast : (allB L k).getLast? = some a := by rw [List.getLast?_eq_getElem?, show (allB L k).length - 1 = i from by omega]; exact ha
          have := h1 a hlast
          refine Or.inr ⟨by omega, ?_⟩
          rw [hbs.2]
          omega
        · rw [List.getElem?_append_right (by omega)] at ha
          obtain ⟨hl', e'⟩ := List.getElem?_eq_some_iff.1 ha
          have has := hr.1 _ hl'
          rw [e'] at has
          have hp := List.pairwise_iff_getElem.1 hr.2 _ _ hl' hl (by omega)
          rw [e, e'] at hp
          exact Or.inl ⟨by omega, by omega, hp⟩
end Go.Proofs.Ytaplemkmkbjodaa
