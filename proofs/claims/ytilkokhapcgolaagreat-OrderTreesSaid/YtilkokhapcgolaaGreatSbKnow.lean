/-
  THE PROGRAM's Key and Find; the law's fine, long, knows.
  No conditions but sizes.
-/
import Derived.Test.YtilkokhapcgolaaGreatSbEnds
namespace Go.Proofs.YtilkokhapcgolaaGreat
open Go.RowKit

theorem ends_keys {K : Nat} {l : List Sbm.Sib} (h : Keys K l) (at' : Int) : (Sbm.ends l at').1.size ≤ K ∧ (Sbm.ends l at').2.1.size ≤ K := by
  have h0 : (⟨#[]⟩ : ByteArray).size ≤ K := Nat.zero_le _
  have hk : ∀ n, (Sbm.sbOf l n).1.size ≤ K := fun n => by
    by_cases hn : n < l.length
    · exact h.at' hn
    · rw [show Sbm.sbOf l n = (⟨#[]⟩, (0, 0)) from by simp [Sbm.sbOf, List.getD, List.getElem?_eq_none (Nat.le_of_not_lt hn)]]; exact h0
  unfold Sbm.ends
  split
  · exact ⟨h0, h0⟩
  · split
    · refine ⟨?_, h0⟩
      dsimp only
      split
      · exact hk _
      · exact h0
    · split
      · exact ⟨h0, h0⟩
      · split
        · exact ⟨h0, h0⟩
        · refine ⟨?_, hk _⟩
          dsimp only
          split
          · exact hk _
          · exact h0

set_option maxRecDepth 100000 in
set_option maxHeartbeats 2000000 in
theorem key_sib (p : Option Addr) (cap : Nat) (l : List Sbm.Sib) (at' : Int) (w : World) (h : Rd w p (sbCells l)) (hl : l.length ≤ 5000) (hk : Keys 140737488355328 l) :
    Calls Tryz.prog 16 #[.slice p l.length cap, .int .i64 at'] w fun e w' => e = .returned (.tuple #[.string (strB (Sbm.keyOf l at').1), .int .i64 (Sbm.keyOf l at').2]) ∧ Below w.heap.size w w' := by
  have HE := Lib.hid (ends_sib p cap l at' w h hl)
  obtain ⟨k1, k2⟩ := ends_keys hk at'
  have HK := Lib.hid (show Sbm.keyOf l at' = if (Sbm.ends l at').2.2 = 0 then Km.betw (Sbm.ends l at').1.data.toList (Sbm.ends l at').2.1.data.toList else ([], (Sbm.ends l at').2.2) from rfl)
  generalize Sbm.ends l at' = x at *
  obtain ⟨a, b, e0⟩ := x
  unfold endsV at HE
  dsimp only at HE HK k1 k2
  clear h hk
  by_cases h0 : e0 = 0
  · subst h0
    rw [if_pos rfl] at HK
    have HBT := Lib.hid (fun W => between_any a b W k1 k2)
    clear k1 k2
    go_enter Tryz.func16, Tryz.ntmps16
    go_wp2_with fail
    refine HE.out.mono ?_
    rintro e w1 ⟨rfl, hb1⟩
    have HB := Lib.hid hb1
    clear hb1
    go_wp2_with fail
    refine (HBT.out _).mono ?_
    rintro e w2 ⟨rfl, hb2⟩
    have HB2 := Lib.hid (HB.out.trans (hb2.mono HB.out.size))
    clear hb2
    go_wp2
    go_ret2
    rw [HK.out]
    exact ⟨rfl, HB2.out⟩
  · have d0 : (e0 == 0) = false := beq_eq_false_iff_ne.2 h0
    rw [if_neg h0] at HK
    clear k1 k2
    go_enter Tryz.func16, Tryz.ntmps16
    go_wp2_with fail
    refine HE.out.mono ?_
    rintro e w1 ⟨rfl, hb1⟩
    have HB := Lib.hid hb1
    clear hb1
    go_wp2
    go_ret2
    rw [HK.out]
    exact ⟨rfl, HB.out⟩

set_option maxRecDepth 100000 in
set_option maxHeartbeats 1000000 in
theorem findFn_any (x : Sbm.Sib) (n : Qm.St) (g : Nat) (w : World) (h0 : w.cell? ⟨g, 0, none⟩ = some (.int .i64 n.1)) (h1 : w.cell? ⟨g, 1, none⟩ = some (.int .i64 n.2)) :
    Calls Tryz.prog 41 #[sbV x, .pointer (some ⟨g, 0, none⟩)] w fun e w' => e = .returned (.bool (decide (x.2 = n))) ∧ Below w.heap.size w w' := by
  obtain ⟨k, t, r⟩ := x
  obtain ⟨t', r'⟩ := n
  dsimp only at h0 h1
  unfold sbV
  dsimp only
  have hb := (Below.refl w.heap.size w).alloc (Nat.le_refl _) (.cells #[.string k, .int .i64 t, .int .i64 r] 54)
  have y0 := kept_cell hb h0
  have y1 := kept_cell hb h1
  have HB := Lib.hid hb
  clear h0 h1 hb
  by_cases e : t = t' ∧ r = r'
  · obtain ⟨rfl, rfl⟩ := e
    have HE := Lib.hid (show Ending.returned (.bool true) = .returned (.bool (decide ((t, r) = (t, r)))) from by simp)
    go_enter Tryz.func41, Tryz.ntmps41
    go_wp2
    go_ret
    exact ⟨HE.out, HB.out⟩
  · have HE := Lib.hid (show Ending.returned (.bool false) = .returned (.bool (decide ((t, r) = (t', r')))) from by rw [decide_eq_false (fun h => e (by simpa using h))])
    by_cases e1 : t = t'
    · subst e1
      have d1 : (r == r') = false := beq_eq_false_iff_ne.2 fun h => e ⟨rfl, h⟩
      clear e
      go_enter Tryz.func41, Tryz.ntmps41
      go_wp2
      go_ret
      exact ⟨HE.out, HB.out⟩
    · have d1 : (t == t') = false := beq_eq_false_iff_ne.2 e1
      clear e e1
      go_enter Tryz.func41, Tryz.ntmps41
      go_wp2
      go_ret
      exact ⟨HE.out, HB.out⟩

/-- what Find answers -/
def FindIs (l : List Sbm.Sib) (n : Qm.St) (r : Int) : Prop := (r = -1 ∧ ∀ k, k < l.length → (Sbm.sbOf l k).2 ≠ n) ∨ ∃ k : Nat, k < l.length ∧ r = (k : Int) ∧ (Sbm.sbOf l k).2 = n ∧ ∀ j, j < k → (Sbm.sbOf l j).2 ≠ n

set_option maxRecDepth 100000 in
set_option maxHeartbeats 2000000 in
theorem indexFunc_any (p : Option Addr) (cap : Nat) (l : List Sbm.Sib) (n : Qm.St) (g : Nat) (w : World) (h : Rd w p (sbCells l)) (hl : l.length ≤ 5000) (h0 : w.cell? ⟨g, 0, none⟩ = some (.int .i64 n.1)) (h1 : w.cell? ⟨g, 1, none⟩ = some (.int .i64 n.2)) :
    Calls Tryz.prog 40 #[.slice p l.length cap, .func (.func 41) #[] #[.pointer (some ⟨g, 0, none⟩)]] w fun e w' => (∃ r, FindIs l n r ∧ e = .returned (.int .i64 r)) ∧ Below w.heap.size w w' := by
  have HR := Lib.hid h
  have HC := Lib.hid (fun (W : World) (hW : Below w.heap.size w W) (x : Sbm.Sib) => findFn_any x n g W (kept_cell hW h0) (kept_cell hW h1))
  clear h h0 h1
  go_enter Tryz.func40, Tryz.ntmps40
  go_wp2
  go_loopw [8] (fun i wr => ∃ k : Nat, i = .int .i64 (k : Int) ∧ k ≤ l.length ∧ (∀ j, j < k → (Sbm.sbOf l j).2 ≠ n) ∧ Below w.heap.size w wr) (fun i _ => l.length - (intOf i).toNat)
  case atStart => exact ⟨0, rfl, Nat.zero_le _, fun j h => absurd h (Nat.not_lt_zero _), Below.refl _ _⟩
  case round =>
    obtain ⟨k, rfl, hkl, hne, hb⟩ := hrel
    have HB := Lib.hid hb
    have HN := Lib.hid hne
    clear hb hne
    by_cases hlt : k < l.length
    · have hk5 : k < 5000 := by omega
      have HX := Lib.hid hlt
      obtain ⟨b, o, rfl, -⟩ := HR.out.addr (by rw [sbCells_length]; omega)
      have HC1 := Lib.hid (HC.out wr HB.out (Sbm.sbOf l k))
      obtain ⟨x0, x1, x2⟩ := (HR.out.below HB.out).sb k hlt
      unfold sbV at HC1
      cases hd : decide ((Sbm.sbOf l k).2 = n)
      · rw [hd] at HC1
        have HNX := Lib.hid (show ∀ j, j < k + 1 → (Sbm.sbOf l j).2 ≠ n from fun j hj => by
          by_cases e : j < k
          · exact HN.out j e
          · obtain rfl : j = k := by omega
            exact of_decide_eq_false hd)
        clear hd HC
        go_wp2_with fail
        refine HC1.out.mono ?_
        rintro e w1 ⟨rfl, hb1⟩
        have HB1 := Lib.hid (HB.out.trans (hb1.mono HB.out.size))
        clear hb1
        go_wp2
        go_roundw
        case rel => exact ⟨k + 1, by go_num, by omega, HNX.out, HB1.out⟩
        case measure => simp [intOf]; omega
      · rw [hd] at HC1
        have HF := Lib.hid (show FindIs l n (k : Int) from Or.inr ⟨k, hlt, rfl, of_decide_eq_true hd, HN.out⟩)
        clear hd HC
        go_wp2_with fail
        refine HC1.out.mono ?_
        rintro e w1 ⟨rfl, hb1⟩
        have HB1 := Lib.hid (HB.out.trans (hb1.mono HB.out.size))
        clear hb1
        go_wp2
        go_ret
        exact ⟨⟨_, HF.out, rfl⟩, HB1.out⟩
    · have HF := Lib.hid (show FindIs l n (-1) from Or.inl ⟨rfl, fun j hj => HN.out j (by omega)⟩)
      go_wp2
      go_ret
      exact ⟨⟨_, HF.out, rfl⟩, HB.out⟩

set_option maxRecDepth 100000 in
set_option maxHeartbeats 2000000 in
theorem find_sib (p : Option Addr) (cap : Nat) (l : List Sbm.Sib) (n : Qm.St) (w : World) (h : Rd w p (sbCells l)) (hl : l.length ≤ 5000) :
    Calls Tryz.prog 18 #[.slice p l.length cap, .agg #[.int .i64 n.1, .int .i64 n.2]] w fun e w' => (∃ r, FindIs l n r ∧ e = .returned (.int .i64 r)) ∧ Below w.heap.size w w' := by
  have hb : Below w.heap.size w (w.alloc (.cells #[.int .i64 n.1, .int .i64 n.2] 24)) := (Below.refl _ _).alloc (Nat.le_refl _) _
  have HI := Lib.hid (indexFunc_any p cap l n w.heap.size (w.alloc (.cells #[.int .i64 n.1, .int .i64 n.2] 24)) (h.below hb) hl (World.cell?_alloc_at _ _ _ _ rfl) (World.cell?_alloc_at _ _ _ _ rfl))
  have HB := Lib.hid hb
  clear h hb
  go_enter Tryz.func18, Tryz.ntmps18
  go_wp2_with fail
  refine HI.out.mono ?_
  rintro e w1 ⟨⟨r, hr, rfl⟩, hb1⟩
  have HE := Lib.hid (And.intro hr (HB.out.trans (hb1.mono HB.out.size)))
  clear hr hb1
  go_wp2
  go_ret
  exact ⟨⟨_, HE.out.1, rfl⟩, HE.out.2⟩

end Go.Proofs.YtilkokhapcgolaaGreat
