/-
  THE LAW's HELPERS: num, knows (what must come).
  No conditions.
-/
import Derived.Test.YtmenlfgfhnnmgaaQNew
import Derived.Test.YtmenlfgfhnnmgaaQMerge
namespace Go.Proofs.Ytmenlfgfhnnmgaa
open Go.RowKit

set_option maxRecDepth 100000 in
theorem num_any (n : Int) (w : World) : Calls Try.prog 14 #[.int .i64 n] w fun e w' => e = .returned (.int .i64 n) ∧ w = w' := by
  go_enter Try.func14, Try.ntmps14
  go_wp2
  go_ret
  exact ⟨rfl, rfl⟩

theorem least_two : Qm.Least ((3, 0), 2) [((3, 0), 2), ((5, 0), 1)] := by
  refine ⟨by simp, fun x hx => ?_⟩
  simp only [List.mem_cons, List.mem_nil_iff, or_false] at hx
  rcases hx with rfl | rfl <;> decide
theorem merged_three {M : List Qm.St} (h : Qm.Rising M) (hm : ∀ x, x ∈ M ↔ x ∈ flatL [[(2, 0), (5, 0)], [(3, 0)]]) : M = [(2, 0), (3, 0), (5, 0)] := by
  refine Qm.rising_uniq h (by unfold Qm.Rising; decide) fun x => ?_
  rw [hm x]
  simp only [flatL, List.flatten_cons, List.flatten_nil, List.append_nil, List.mem_append, List.mem_cons, List.mem_nil_iff, or_false]
  constructor
  · rintro ((h | h) | h)
    · exact Or.inl h
    · exact Or.inr (Or.inr h)
    · exact Or.inr (Or.inl h)
  · rintro (h | h | h)
    · exact Or.inl (Or.inl h)
    · exact Or.inr h
    · exact Or.inl (Or.inr h)
theorem rows_three (w : World) :
    Rws (((w.alloc (.cells #[.int .i64 2, .int .i64 0, .int .i64 5, .int .i64 0] 34)).alloc (.cells #[.int .i64 3, .int .i64 0] 34)).alloc (.cells #[.slice (some ⟨w.heap.size, 0, none⟩) 2 2, .slice (some ⟨w.heap.size + 1, 0, none⟩) 1 1] 52))
      (some ⟨w.heap.size + 1 + 1, 0, none⟩) [[(2, 0), (5, 0)], [(3, 0)]] := fun _ => by
  have ha : ∀ o, (((w.alloc (.cells #[.int .i64 2, .int .i64 0, .int .i64 5, .int .i64 0] 34)).alloc (.cells #[.int .i64 3, .int .i64 0] 34)).alloc (.cells #[.slice (some ⟨w.heap.size, 0, none⟩) 2 2, .slice (some ⟨w.heap.size + 1, 0, none⟩) 1 1] 52)).cell? ⟨w.heap.size, o, none⟩ = (#[.int .i64 2, .int .i64 0, .int .i64 5, .int .i64 0] : Array Value)[o]? := fun o => by
    rw [(Below.alloc (Below.refl _ _) (Nat.le_refl _) _).cell (by simp; omega), (Below.alloc (Below.refl _ _) (Nat.le_refl _) _).cell (by simp), World.cell?_alloc_at _ _ _ _ rfl]
  have hb : ∀ o, (((w.alloc (.cells #[.int .i64 2, .int .i64 0, .int .i64 5, .int .i64 0] 34)).alloc (.cells #[.int .i64 3, .int .i64 0] 34)).alloc (.cells #[.slice (some ⟨w.heap.size, 0, none⟩) 2 2, .slice (some ⟨w.heap.size + 1, 0, none⟩) 1 1] 52)).cell? ⟨w.heap.size + 1, o, none⟩ = (#[.int .i64 3, .int .i64 0] : Array Value)[o]? := fun o => by
    rw [(Below.alloc (Below.refl _ _) (Nat.le_refl _) _).cell (by simp), World.cell?_alloc_at _ _ _ _ (by simp)]
  have hc : ∀ o, (((w.alloc (.cells #[.int .i64 2, .int .i64 0, .int .i64 5, .int .i64 0] 34)).alloc (.cells #[.int .i64 3, .int .i64 0] 34)).alloc (.cells #[.slice (some ⟨w.heap.size, 0, none⟩) 2 2, .slice (some ⟨w.heap.size + 1, 0, none⟩) 1 1] 52)).cell? ⟨w.heap.size + 1 + 1, o, none⟩ = (#[.slice (some ⟨w.heap.size, 0, none⟩) 2 2, .slice (some ⟨w.heap.size + 1, 0, none⟩) 1 1] : Array Value)[o]? := fun o => by
    rw [World.cell?_alloc_at _ _ _ _ (by simp)]
  refine ⟨_, 0, rfl, fun i hi => ?_⟩
  have hi2 : i = 0 ∨ i = 1 := by simp at hi; omega
  rcases hi2 with rfl | rfl
  · exact ⟨some ⟨w.heap.size, 0, none⟩, 2, by rw [hc]; rfl, fun _ => ⟨_, 0, rfl, fun j u hu => by rw [Nat.zero_add, ha, ← hu]; simp [stCells, rowAt]⟩, fun e => by cases e⟩
  · exact ⟨some ⟨w.heap.size + 1, 0, none⟩, 1, by rw [hc]; rfl, fun _ => ⟨_, 0, rfl, fun j u hu => by rw [Nat.zero_add, hb, ← hu]; simp [stCells, rowAt]⟩, fun e => by cases e⟩

/-- what a law's function leaves -/
def Yes (w : World) (e : Ending) (w' : World) : Prop := e = .returned (.bool true) ∧ Below w.heap.size w w'

set_option maxRecDepth 100000 in
set_option maxHeartbeats 2000000 in
theorem knows_any (w : World) : Calls Try.prog 8 #[] w (Yes w) := by
  have hb0 := (Below.refl w.heap.size w).alloc (Nat.le_refl _) (.cells #[.int .i64 5, .int .i64 0, .int .i64 1] 40)
  have HB0 := Lib.hid hb0
  have HN := Lib.hid (new_any (some ⟨w.heap.size, 0, none⟩) 1 [((5, 0), 1)] _ (rd_one w ((5, 0), 1) 40) (fun e => by cases e) (by simp) (by simp))
  clear hb0
  go_enter Try.func8, Try.ntmps8
  go_wp2_with fail
  refine HN.out.mono ?_
  rintro e w1 ⟨q, rfl, hq1, hb1⟩
  have HB1 := Lib.hid (HB0.out.trans (hb1.mono (by simp)))
  have HP := Lib.hid (qpush_any q _ _ 3 0 2 w1 hq1 (by simp))
  have hF1 : ∀ k, (w.alloc (.cells #[.int .i64 5, .int .i64 0, .int .i64 1] 40)).heap.size ≤ k ∧ k < w1.heap.size → w.heap.size ≤ k := fun k hk => by have := hk.1; simp at this; omega
  have HF1 := Lib.hid hF1
  clear hb1 hq1 hF1
  go_wp2_with fail
  refine HP.out.mono ?_
  rintro e w2 ⟨rfl, hq2, ht2⟩
  have HB2 := Lib.hid (HB1.out.trans (ht2.below (fun k _ hk => HF1.out k hk) HB1.out.size))
  have HP2 := Lib.hid (qpop_any q _ _ w2 hq2)
  have HF2 := Lib.hid (show ∀ k, ext (fun k => (w.alloc (.cells #[.int .i64 5, .int .i64 0, .int .i64 1] 40)).heap.size ≤ k ∧ k < w1.heap.size) w1 w2 k → w.heap.size ≤ k from fun k hk => hk.elim (fun h => HF1.out k h) (fun h => Nat.le_trans HB1.out.size h.1))
  clear hq2 ht2
  go_wp2_with fail
  refine HP2.out.mono ?_
  rintro e w3 ⟨⟨h0, -⟩ | ⟨x, m, hx, hm, rfl, hq3⟩, ht3⟩
  · cases h0
  · obtain rfl : x = ((3, 0), 2) := hx.uniq least_two
    have hml : m.length = 1 := by have := hm.length_eq; simpa using this
    have HB3 := Lib.hid (HB2.out.trans (ht3.below (fun k _ hk => HF2.out k hk) HB2.out.size))
    have hbb := (((Below.refl w3.heap.size w3).alloc (Nat.le_refl _) (.cells #[.int .i64 3, .int .i64 0, .int .i64 2] 40)))
    have hcb : (w3.alloc (.cells #[.int .i64 3, .int .i64 0, .int .i64 2] 40)).cell? ⟨w3.heap.size, 2, none⟩ = some (.int .i64 2) := World.cell?_alloc_at _ _ _ _ rfl
    have HQ3 := Lib.hid (hq3.below hbb)
    have HCB := Lib.hid hcb
    have HBB := Lib.hid hbb
    have hM := merge_any _ 2 _ _ (rows_three (w3.alloc (.cells #[.int .i64 3, .int .i64 0, .int .i64 2] 40))) (by simp [flatL]) (by simp)
    simp only [World.size_alloc] at hM
    have HM := Lib.hid hM
    have HML := Lib.hid hml
    clear hx hm hq3 ht3 hbb hcb hml hM
    unfold itB
    go_wp2_with fail
    refine HM.out.mono ?_
    rintro e w5 ⟨p, c, M, rfl, hr5, hpn, hpa, hR, hmem, hlc, hb5⟩
    obtain rfl := merged_three hR hmem
    obtain ⟨b, o, rfl, -⟩ := hr5.addr (by simp [stCells])
    obtain ⟨k0, k1⟩ := hr5.st 1 (by simp)
    have hb6 := (((Below.refl (w3.alloc (.cells #[.int .i64 3, .int .i64 0, .int .i64 2] 40)).heap.size (w3.alloc (.cells #[.int .i64 3, .int .i64 0, .int .i64 2] 40))).alloc (Nat.le_refl _) (.cells #[.int .i64 2, .int .i64 0, .int .i64 5, .int .i64 0] 34)).alloc (by simp) (.cells #[.int .i64 3, .int .i64 0] 34)).alloc (by simp <;> omega) (.cells #[.slice (some ⟨(w3.alloc (.cells #[.int .i64 3, .int .i64 0, .int .i64 2] 40)).heap.size, 0, none⟩) 2 2, .slice (some ⟨(w3.alloc (.cells #[.int .i64 3, .int .i64 0, .int .i64 2] 40)).heap.size + 1, 0, none⟩) 1 1] 52)
    simp only [World.size_alloc] at hb6 hb5
    have hb7 := hb6.trans (hb5.mono (by omega))
    have hb8 : Below (w3.alloc (.cells #[.int .i64 3, .int .i64 0, .int .i64 2] 40)).heap.size (w3.alloc (.cells #[.int .i64 3, .int .i64 0, .int .i64 2] 40)) w5 := by simp only [World.size_alloc]; exact hb7
    have hc7 : w5.cell? ⟨w3.heap.size, 2, none⟩ = some (.int .i64 2) := by rw [hb7.cell (by simp)]; exact HCB.out
    have HL := Lib.hid (qlen_any (HQ3.out.below hb8))
    rw [HML.out] at HL
    have HE := Lib.hid (HB3.out.trans ((HBB.out.trans (hb7.mono (by omega))).mono HB3.out.size))
    have k2 : w5.cell? ⟨b, o + 2, none⟩ = some (.int .i64 3) := by simpa [Qm.stOf] using k0
    have HNUM := Lib.hid (fun n W => num_any n W)
    have hc3 : 3 ≤ c := by simpa using hlc
    clear hr5 hpn hpa hR hmem hlc hb5 hb6 hb7 hb8 k0 k1
    go_wp2_with fail
    refine (HNUM.out _ _).mono ?_
    rintro e w6 ⟨rfl, rfl⟩
    go_wp2_with fail
    refine HL.out.mono ?_
    rintro e w6 ⟨rfl, rfl⟩
    go_wp2
    go_ret
    exact ⟨rfl, HE.out⟩

end Go.Proofs.Ytmenlfgfhnnmgaa
