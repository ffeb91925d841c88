/-
  Take, of both sides.
  No conditions.
-/
import Derived.Test.YtcmjjkkbocekbaaVe4
import Derived.Test.YtcmjjkkbocekbaaRRdr
namespace Go.Proofs.Ytcmjjkkbocekbaa
open Go.RowKit

/-- the first k numbers of a vector, read from l under the error e: the vector, what is left, the error -/
def takeS (l : List UInt8) (e : Nat) : Nat → (Nat → Int) × List UInt8 × Nat
  | 0 => (fun _ => 0, l, e)
  | k + 1 => if (takeS l e k).2.2 ≠ 0 then takeS l e k
      else (fun j => if j = k then ((uptoR (takeS l e k).2.1 512).1 : Int) else (takeS l e k).1 j, (uptoR (takeS l e k).2.1 512).2.1, (uptoR (takeS l e k).2.1 512).2.2)
/-- how a Take ends -/
def takeE (n : Nat) (s : (Nat → Int) × List UInt8 × Nat) : (Nat → Int) × List UInt8 × Nat :=
  if s.2.2 ≠ 0 then (fun _ => 0, s.2.1, s.2.2) else if usedF s.1 = n then s else (fun _ => 0, s.2.1, 21)
/-- what Take answers: the vector, what is left, the error -/
def takeV (l : List UInt8) : (Nat → Int) × List UInt8 × Nat := takeE (uptoR l 16).1 (takeS (uptoR l 16).2.1 (uptoR l 16).2.2 (uptoR l 16).1)
theorem takeS_zero (l : List UInt8) (e : Nat) : ∀ (k j : Nat), k ≤ j → (takeS l e k).1 j = 0 := by
  intro k
  induction k with
  | zero => intro j _; rfl
  | succ k ih =>
    intro j hj
    rw [takeS]
    split
    · exact ih j (by omega)
    · show (if j = k then _ else _) = (0 : Int)
      rw [if_neg (by omega)]
      exact ih j (by omega)
theorem takeS_err {l : List UInt8} {e k : Nat} (h : (takeS l e k).2.2 ≠ 0) : takeS l e (k + 1) = takeS l e k := by rw [takeS, if_pos h]
theorem takeS_ok {l : List UInt8} {e k : Nat} (h : (takeS l e k).2.2 = 0) : takeS l e (k + 1) = (fun j => if j = k then ((uptoR (takeS l e k).2.1 512).1 : Int) else (takeS l e k).1 j, (uptoR (takeS l e k).2.1 512).2.1, (uptoR (takeS l e k).2.1 512).2.2) := by
  rw [takeS, if_neg (by simp [h])]
theorem takeS_stop {l : List UInt8} {e k : Nat} (h : (takeS l e k).2.2 ≠ 0) : ∀ n, k ≤ n → takeS l e n = takeS l e k := by
  intro n hn
  induction n with
  | zero => rw [show k = 0 by omega]
  | succ n ih =>
    rcases Nat.lt_or_ge n k with e2 | e2
    · rw [show k = n + 1 by omega]
    · rw [takeS_err (by rw [ih e2]; exact h), ih e2]
theorem uptoR_le (l : List UInt8) (m : Int) (hm : 0 ≤ m) : ((uptoR l m).1 : Int) ≤ m ∧ ((uptoR l m).2.2 ≠ 0 → (uptoR l m).1 = 0) := by
  unfold uptoR
  split
  · exact ⟨by simpa using hm, fun _ => rfl⟩
  · split
    · exact ⟨by simpa using hm, fun _ => rfl⟩
    · exact ⟨by omega, fun h => absurd rfl h⟩
theorem usedTo_cut {a : Nat → Int} {n : Nat} (h : ∀ j, n ≤ j → a j = 0) : ∀ k, n ≤ k → usedTo a k = usedTo a n := by
  intro k hk
  induction k with
  | zero => rw [show n = 0 by omega]
  | succ k ih =>
    rcases Nat.lt_or_ge k n with e | e
    · rw [show n = k + 1 by omega]
    · rw [usedTo_zero (h k e), ih e]
theorem used_zero : usedF (fun _ => 0) = 0 := by decide
theorem used_last {a : Nat → Int} {n : Nat} (h : ∀ j, n ≤ j → a j = 0) (hn : n ≤ 16) : usedF a = n ↔ (n = 0 ∨ a (n - 1) ≠ 0) := by
  have e : usedF a = usedTo a n := usedTo_cut h 16 hn
  rw [e]
  rcases n with _ | m
  · simp [usedTo]
  · constructor
    · intro hu; right
      have := usedTo_last a (m + 1) (by omega)
      rw [hu] at this; exact this
    · rintro (h0 | h1)
      · omega
      · exact usedTo_some (by simpa using h1)

/-- a reader stays, where a vector's block alone has turned -/
theorem Rdr.vecs {w w' : World} {B b k : Nat} {l : List UInt8} {err : Nat} {v : Nat → Int} (h : Rdr w B b l err) (V : VAt w k v) (ho : ∀ j, j ≠ k → w'.heap[j]? = w.heap[j]?) : Rdr w' B b l err := by
  obtain ⟨h0, h1, h2, h3, h4, h5, p, c, h6, h7, h8, h9, h10⟩ := h
  have hne : b ≠ k := by
    rintro rfl
    have := V.cell 0 (by decide)
    rw [h1] at this
    simp at this
  have hc : ∀ j o, j ≠ k → w'.cell? ⟨j, o, none⟩ = w.cell? ⟨j, o, none⟩ := fun j o hj => World.cell?_of_block (w := w) (ho j hj)
  have hf : ∀ j o, j ≠ k → w'.frozen? ⟨j, o, none⟩ = w.frozen? ⟨j, o, none⟩ := fun j o hj => World.frozen?_of_block (w := w) (ho j hj)
  refine ⟨h0, by rw [hc _ _ hne]; exact h1, by rw [hc _ _ hne]; exact h2, by rw [hf _ _ hne]; exact h3, by rw [hf _ _ hne]; exact h4, h5, p, c, by rw [hc _ _ hne]; exact h6, fun hl => ?_, h8, h9, h10⟩
  obtain ⟨b', o', rfl, hd⟩ := h7 hl
  have hb' : b' ≠ k := by
    rintro rfl
    have e0 := hd 0 hl
    by_cases ho' : o' < 16
    · rw [Nat.add_zero, V.cell o' ho'] at e0; simp at e0
    · obtain ⟨T, hT⟩ := V
      rw [cell_of_row w b' (o' + 0) _ T (0, 0) hT, Array.getElem?_eq_none (by rw [vecA_size]; omega)] at e0
      simp at e0
  exact ⟨b', o', rfl, fun i hi => by rw [hc _ _ hb']; exact hd i hi⟩
theorem RRdr.vecs {w w' : World} {B b k : Nat} {l : List UInt8} {err : Nat} {v : Nat → Int} (h : RRdr w B b l err) (V : VAt w k v) (ho : ∀ j, j ≠ k → w'.heap[j]? = w.heap[j]?) : RRdr w' B b l err := by
  obtain ⟨h0, h2, f1, f2, p, c, a, L, c0, c1, h3, h4, h5, h6, h7⟩ := h
  have hne : b ≠ k := by
    rintro rfl
    have := V.cell 0 (by decide)
    rw [c0] at this
    simp at this
  have hc : ∀ j o, j ≠ k → w'.cell? ⟨j, o, none⟩ = w.cell? ⟨j, o, none⟩ := fun j o hj => World.cell?_of_block (w := w) (ho j hj)
  have hf : ∀ j o, j ≠ k → w'.frozen? ⟨j, o, none⟩ = w.frozen? ⟨j, o, none⟩ := fun j o hj => World.frozen?_of_block (w := w) (ho j hj)
  refine ⟨h0, by rw [hc _ _ hne]; exact h2, by rw [hf _ _ hne]; exact f1, by rw [hf _ _ hne]; exact f2, p, c, a, L, by rw [hc _ _ hne]; exact c0, by rw [hc _ _ hne]; exact c1, h3, h4, h5, fun hl => ?_, h7⟩
  obtain ⟨b', o', rfl, hd⟩ := h6 hl
  have hb' : b' ≠ k := by
    rintro rfl
    have e0 := hd 0 hl
    by_cases ho' : o' < 16
    · rw [Nat.add_zero, V.cell o' ho'] at e0; simp at e0
    · obtain ⟨T, hT⟩ := V
      rw [cell_of_row w b' (o' + 0) _ T (0, 0) hT, Array.getElem?_eq_none (by rw [vecA_size]; omega)] at e0
      simp at e0
  exact ⟨b', o', rfl, fun i hi => by rw [hc _ _ hb']; exact hd i hi⟩
theorem Rdr.ne {w : World} {B b k : Nat} {l : List UInt8} {err : Nat} {v : Nat → Int} (h : Rdr w B b l err) (V : VAt w k v) : k ≠ b := by
  rintro rfl
  have := V.cell 0 (by decide)
  rw [h.2.1] at this
  simp at this
theorem RRdr.ne {w : World} {B b k : Nat} {l : List UInt8} {err : Nat} {v : Nat → Int} (h : RRdr w B b l err) (V : VAt w k v) : k ≠ b := by
  obtain ⟨h0, h2, f1, f2, p, c, a, L, c0, -⟩ := h
  rintro rfl
  have := V.cell 0 (by decide)
  rw [c0] at this
  simp at this
theorem VAt.only {w w' : World} {b k : Nat} {v : Nat → Int} (V : VAt w k v) (ho : Only b w w') (hne : k ≠ b) : VAt w' k v := by
  have hlt := V.lt
  obtain ⟨T, h⟩ := V
  exact ⟨T, (ho.block k hlt (by simp only [ne_eq, Option.some.injEq]; exact fun e => hne e)).trans h⟩
theorem only_set {w : World} (k o : Nat) (v : Value) : ∀ j, j ≠ k → (w.setCell ⟨k, o, none⟩ v).heap[j]? = w.heap[j]? := fun j hj => heap_setCell_other w ⟨k, o, none⟩ j v hj
/-- a write into a block that was not there -/
theorem Only.far {b k o : Nat} {w wr : World} (h : Only b w wr) (hk : w.heap.size ≤ k) (v : Value) : Only b w (wr.setCell ⟨k, o, none⟩ v) :=
  ⟨h.os, h.tape, h.output, by have := h.size; simpa using this, fun j hj hn => (heap_setCell_other wr ⟨k, o, none⟩ j v (by simp only; omega)).trans (h.block j hj hn)⟩
/-- what a Take leaves -/
def Took (R : World → Nat → Nat → List UInt8 → Nat → Prop) (w : World) (B b : Nat) (q : (Nat → Int) × List UInt8 × Nat) (e : Ending) (w' : World) : Prop :=
  e = .returned (.agg (vecA q.1)) ∧ R w' B b q.2.1 q.2.2 ∧ Only b w w'

theorem only_row {b k : Nat} {w wr w' : World} (h : Only b w wr) (hko : ∀ j, j ≠ k → w'.heap[j]? = wr.heap[j]?) (hsz : w'.heap.size = wr.heap.size) (hbn : ∀ B w0, Below B w0 wr → B ≤ k → Below B w0 w') (hk : w.heap.size ≤ k) : Only b w w' := by
  have hb := hbn 0 wr (Below.refl _ _) (Nat.zero_le _)
  exact ⟨hb.os.trans h.os, hb.tape.trans h.tape, hb.output.trans h.output, by rw [hsz]; exact h.size, fun j hj hn => (hko j (by omega)).trans (h.block j hj hn)⟩

set_option maxRecDepth 100000 in
set_option maxHeartbeats 4000000 in
theorem take_any (B b : Nat) (l : List UInt8) (w : World) (h : Rdr w B b l 0) : Calls Try.prog 12 #[.pointer (some ⟨b, 0, none⟩)] w (Took Rdr w B b (takeV l)) := by
  obtain ⟨V2, V3, hb0⟩ := two_rows w (fun _ => 0) (fun _ => 0) 25 25 _ rfl
  have HO0 := Lib.hid (Only.of_below (b := b) hb0)
  have HV2 := Lib.hid V2
  have HV3 := Lib.hid V3
  have HR0 := Lib.hid (h.kept hb0)
  have HTV := Lib.hid (show takeV l = takeE (uptoR l 16).1 (takeS (uptoR l 16).2.1 (uptoR l 16).2.2 (uptoR l 16).1) from rfl)
  have hn16 := (uptoR_le l 16 (by decide)).1
  clear hb0 V2 V3 h
  go_enter Try.func12, Try.ntmps12
  go_wp2_with fail
  refine (upto_any B b l 16 _ HR0.out).mono ?_
  rintro e w1 ⟨rfl, hr1, ho1⟩
  have HR1 := Lib.hid hr1
  have HO1 := Lib.hid (HO0.out.trans ho1)
  have HV2' := Lib.hid (HV2.out.only ho1 (HR0.out.ne HV2.out))
  have HV3' := Lib.hid (HV3.out.only ho1 (HR0.out.ne HV3.out))
  clear hr1 ho1 HV2 HV3 HR0
  generalize uptoR l 16 = q at *
  obtain ⟨n, m, e0⟩ := q
  dsimp only at *
  go_wp2
  go_loopw [9] (fun i wr => ∃ k : Nat, k ≤ n ∧ i = .int .i64 (k : Int) ∧ VAt wr w.heap.size (fun _ => 0) ∧ VAt wr (w.heap.size + 1) (takeS m e0 k).1 ∧ Rdr wr B b (takeS m e0 k).2.1 (takeS m e0 k).2.2 ∧ Only b w wr) (fun i _ => n - (intOf i).toNat)
  case atStart => exact ⟨0, Nat.zero_le _, rfl, HV2'.out, HV3'.out, HR1.out, HO1.out⟩
  case round =>
    clear HV2' HV3' HR1 HO1
    obtain ⟨k, hk, rfl, V2, V3, hr, ho⟩ := hrel
    have HV2 := Lib.hid V2
    have HV3 := Lib.hid V3
    have HR := Lib.hid hr
    have HO := Lib.hid ho
    clear V2 V3 hr ho
    by_cases hlt : k < n
    · by_cases herr : (takeS m e0 k).2.2 = 0
      · have HN := Lib.hid (takeS_ok herr)
        have HR0 := Lib.hid (herr ▸ HR.out)
        clear herr HR
        generalize takeS m e0 k = s at *
        obtain ⟨v, m1, e1⟩ := s
        dsimp only at *
        go_wp2_with fail
        refine (upto_any B b m1 512 _ HR0.out).mono ?_
        rintro e w2 ⟨rfl, hr2, ho2⟩
        have W2 := HV2.out.only ho2 (HR0.out.ne HV2.out)
        have W3 := HV3.out.only ho2 (HR0.out.ne HV3.out)
        have HNE := Lib.hid (HR0.out.ne HV2.out)
        have HO2 := Lib.hid (HO.out.trans ho2)
        generalize uptoR m1 512 = q at *
        obtain ⟨x, m2, e2⟩ := q
        dsimp only at *
        have c3 := W3.cell k (by omega)
        have f3 := W3.free k
        have HW3 := Lib.hid (W3.set k (x : Int))
        have HW2 := Lib.hid (W2.setOther (c := w.heap.size + 1) (by omega) k (.int .i64 (x : Int)))
        have HR2 := Lib.hid (hr2.vecs W3 (only_set (w := w2) (w.heap.size + 1) k (.int .i64 (x : Int))))
        have HO3 := Lib.hid (HO2.out.far (k := w.heap.size + 1) (o := k) (by omega) (.int .i64 (x : Int)))
        clear W2 W3 hr2 ho2
        go_wp2
        go_roundw
        case rel => exact ⟨k + 1, by omega, by go_num, HW2.out, by rw [HN.out]; exact HW3.out, by rw [HN.out]; exact HR2.out, HO3.out⟩
        case measure => simp [intOf]; omega
      · have HN := Lib.hid (takeS_err herr)
        have hz := takeS_zero m e0 k k (Nat.le_refl _)
        have HER := Lib.hid herr
        clear herr
        generalize takeS m e0 k = s at *
        obtain ⟨v, m1, e1⟩ := s
        dsimp only at *
        go_wp2_with fail
        refine (upto_bad B b m1 e1 512 _ HR.out HER.out).mono ?_
        rintro e w2 ⟨rfl, rfl⟩
        have c3 := HV3.out.cell k (by omega)
        have f3 := HV3.out.free k
        have HW3 := Lib.hid ((HV3.out.set k 0).congr (c := v) (fun i _ => by
          by_cases e : i = k
          · subst e; simp [hz]
          · simp [e]))
        have HW2 := Lib.hid (HV2.out.setOther (c := w.heap.size + 1) (by omega) k (.int .i64 0))
        have HR2 := Lib.hid (HR.out.vecs HV3.out (only_set (w := wr) (w.heap.size + 1) k (.int .i64 0)))
        have HO3 := Lib.hid (HO.out.far (k := w.heap.size + 1) (o := k) (by omega) (.int .i64 0))
        clear hz
        go_wp2
        go_roundw
        case rel => exact ⟨k + 1, by omega, by go_num, HW2.out, by rw [HN.out]; exact HW3.out, by rw [HN.out]; exact HR2.out, HO3.out⟩
        case measure => simp [intOf]; omega
    · obtain rfl : k = n := by omega
      clear hlt
      generalize takeS m e0 k = s at *
      obtain ⟨v, m1, e1⟩ := s
      dsimp only at *
      have V3 := HV3.out
      have HU := Lib.hid (fun W => used_any v W)
      go_wp2_with (refine wpList_load_vec vtP rfl _ rfl _ rfl _ (by assumption) ?_)
      refine (HU.out _).mono ?_
      rintro e w2 ⟨rfl, hb2⟩
      have HR2 := Lib.hid (HR.out.kept hb2)
      have W2 := HV2.out.kept hb2
      have W3 := HV3.out.kept hb2
      have HO2 := Lib.hid (HO.out.trans (Only.of_below hb2))
      clear hb2 V3 HV2 HV3 HR HO
      by_cases hu : usedF v = k
      · have hne : ((usedF v : Int) != (k : Int)) = false := by rw [hu]; simp
        have HUK := Lib.hid hu
        skip
        clear hu
        have HW2 := Lib.hid W2
        have HW3 := Lib.hid W3
        by_cases he : e1 = 0
        · subst he
          have HQ := Lib.hid (HTV.out.trans (show takeE k (v, m1, 0) = (v, m1, 0) from by unfold takeE; rw [if_neg (by simp), if_pos (by have := HUK.out; exact this)]))
          go_wp2_with fail
          refine (err_any B b m1 0 _ HR2.out).mono ?_
          rintro e w' ⟨rfl, rfl⟩
          go_wp2_with (first | (refine wpList_load_vec vtP rfl _ rfl _ rfl _ (by assumption) ?_) | (refine wpList_store_vec vtP rfl _ _ rfl _ rfl (fun _ => 0) v (by assumption) rfl ?_; intro w3 hv3 hko hsz hbn))
          exact bodyPost_ret (results_vec vtP _ rfl hv3 rfl) rfl (by rw [HQ.out]; exact ⟨rfl, HR2.out.vecs HW2.out hko, only_row HO2.out hko hsz hbn (Nat.le_refl _)⟩)
        · have te : ((e1 : Int) != 0) = true := by rw [bne_iff_ne]; omega
          have HQ := Lib.hid (HTV.out.trans (show takeE k (v, m1, e1) = (fun _ => 0, m1, e1) from by unfold takeE; rw [if_pos he]))
          clear he
          go_wp2_with fail
          refine (err_any B b m1 e1 _ HR2.out).mono ?_
          rintro e w' ⟨rfl, rfl⟩
          go_wp2_with (first | (refine wpList_store_vec vtP rfl _ _ rfl _ rfl (fun _ => 0) (fun _ => 0) (by assumption) rfl ?_; intro w3 hv3 hko hsz hbn))
          exact bodyPost_ret (results_vec vtP _ rfl hv3 rfl) rfl (by rw [HQ.out]; exact ⟨rfl, HR2.out.vecs HW2.out hko, only_row HO2.out hko hsz hbn (Nat.le_refl _)⟩)
      · have hne : ((usedF v : Int) != (k : Int)) = true := by rw [bne_iff_ne]; omega
        have HUK := Lib.hid hu
        skip
        clear hu
        have HW2 := Lib.hid W2
        have HQ := Lib.hid (HTV.out.trans (show takeE k (v, m1, e1) = (fun _ => 0, m1, if e1 = 0 then 21 else e1) from by
          unfold takeE
          by_cases he : e1 = 0
          · subst he; rw [if_neg (by simp), if_neg (by have := HUK.out; exact this)]; rfl
          · rw [if_pos he, if_neg he]))
        go_wp2_with fail
        refine (fail_any B b m1 e1 21 _ HR2.out).mono ?_
        rintro e w3 ⟨rfl, hr3, ho3⟩
        have HR3 := Lib.hid hr3
        have HW2b := Lib.hid (HW2.out.only ho3 (HR2.out.ne HW2.out))
        have HO2 := Lib.hid (HO2.out.trans ho3)
        have HX := Lib.hid (show (if e1 = 0 then 21 else e1) ≠ 0 from by split <;> omega)
        clear hr3 ho3 W2 W3 HW2
        have HW2 := HW2b
        have W2 := HW2.out
        generalize (if e1 = 0 then 21 else e1) = e2 at *
        have te : ((e2 : Int) != 0) = true := by rw [bne_iff_ne]; have := HX.out; omega
        go_wp2_with fail
        refine (err_any B b m1 e2 _ HR3.out).mono ?_
        rintro e w' ⟨rfl, rfl⟩
        go_wp2_with (first | (refine wpList_store_vec vtP rfl _ _ rfl _ rfl (fun _ => 0) (fun _ => 0) (by assumption) rfl ?_; intro w3 hv3 hko hsz hbn))
        exact bodyPost_ret (results_vec vtP _ rfl hv3 rfl) rfl (by rw [HQ.out]; exact ⟨rfl, HR3.out.vecs HW2.out hko, only_row HO2.out hko hsz hbn (Nat.le_refl _)⟩)

end Go.Proofs.Ytcmjjkkbocekbaa
