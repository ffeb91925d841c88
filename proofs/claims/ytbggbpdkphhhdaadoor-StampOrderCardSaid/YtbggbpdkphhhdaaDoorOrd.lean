/-
  STAMPORDER: the walk: of three stamps the order is one order; the greatest is one of them, and below none.
  No conditions.
-/
import Derived.Test.YtbggbpdkphhhdaaDoorKnows2
import Derived.Test.YtbggbpdkphhhdaaDoorMax
import Derived.Deep.DeepCutAuto
namespace Go.Proofs.YtbggbpdkphhhdaaDoor
open Go.RowKit

theorem cmp_bd (t r t' r' : Int) : -1 ≤ cmpS t r t' r' ∧ cmpS t r t' r' ≤ 1 := by
  unfold cmpS
  repeat' split
  all_goals omega
theorem cmp_neg (t r t' r' : Int) : cmpS t' r' t r = - cmpS t r t' r' := by
  unfold cmpS
  repeat' split
  all_goals omega
theorem cmp_zero (t r t' r' : Int) : cmpS t r t' r' = 0 ↔ (t = t' ∧ r = r') := by
  unfold cmpS
  repeat' split
  all_goals omega
/-- above, or the same -/
def geS (a b : Int × Int) : Prop := b.1 < a.1 ∨ (b.1 = a.1 ∧ b.2 ≤ a.2)
theorem geS_iff (a b : Int × Int) : geS a b ↔ 0 ≤ cmpS a.1 a.2 b.1 b.2 := by
  unfold geS cmpS
  repeat' split
  all_goals omega
theorem gt_iff (a b : Int × Int) : (¬ geS b a) ↔ 0 < cmpS a.1 a.2 b.1 b.2 := by
  unfold geS cmpS
  repeat' split
  all_goals omega
theorem geS_refl (a : Int × Int) : geS a a := by unfold geS; omega
theorem geS_trans {a b c : Int × Int} (h : geS a b) (k : geS b c) : geS a c := by unfold geS at *; omega
theorem geS_total {a b : Int × Int} (h : ¬ geS a b) : geS b a := by unfold geS at *; omega
theorem maxS_ge (m x : Int × Int) : geS (maxS m x) m ∧ geS (maxS m x) x ∧ (maxS m x = m ∨ maxS m x = x) := by
  unfold maxS
  split
  · next h => exact ⟨geS_total ((gt_iff x m).2 h), geS_refl _, Or.inr rfl⟩
  · next h => exact ⟨geS_refl _, Classical.byContradiction fun k => h ((gt_iff x m).1 k), Or.inl rfl⟩
theorem max3 (a b c : Int × Int) : maxOf [a, b, c] = maxS (maxS a b) c := by simp [maxOf, maxL, stAt]
theorem max3_ge (a b c : Int × Int) : geS (maxOf [a, b, c]) a ∧ geS (maxOf [a, b, c]) b ∧ geS (maxOf [a, b, c]) c ∧ (maxOf [a, b, c] = a ∨ maxOf [a, b, c] = b ∨ maxOf [a, b, c] = c) := by
  rw [max3]
  obtain ⟨h1, h2, h3⟩ := maxS_ge a b
  obtain ⟨k1, k2, k3⟩ := maxS_ge (maxS a b) c
  refine ⟨geS_trans k1 h1, geS_trans k1 h2, k2, ?_⟩
  rcases k3 with k3 | k3
  · rw [k3]; rcases h3 with h3 | h3
    · exact Or.inl h3
    · exact Or.inr (Or.inl h3)
  · exact Or.inr (Or.inr k3)
/-- what three stamps' orders tell -/
theorem cmp_chain (a b c : Int × Int) : (cmpS a.1 a.2 b.1 b.2 ≤ 0 → cmpS b.1 b.2 c.1 c.2 ≤ 0 → cmpS a.1 a.2 c.1 c.2 ≤ 0) ∧ (cmpS a.1 a.2 b.1 b.2 < 0 → cmpS b.1 b.2 c.1 c.2 ≤ 0 → cmpS a.1 a.2 c.1 c.2 < 0) := by
  have ab := gt_iff a b; have bc := gt_iff b c; have ac := gt_iff a c
  have ab' := geS_iff a b; have ac' := geS_iff a c
  unfold geS at *
  constructor <;> omega

/-- three stamps that the call has boxed, at its first three blocks -/
def Box3 (w0 : World) (a b c : Int × Int) (w : World) : Prop :=
  (w.cell? ⟨w0.heap.size, 0, none⟩ = some (.int .i64 a.1) ∧ w.cell? ⟨w0.heap.size, 1, none⟩ = some (.int .i64 a.2)) ∧
  (w.cell? ⟨w0.heap.size + 1, 0, none⟩ = some (.int .i64 b.1) ∧ w.cell? ⟨w0.heap.size + 1, 1, none⟩ = some (.int .i64 b.2)) ∧
  (w.cell? ⟨w0.heap.size + 2, 0, none⟩ = some (.int .i64 c.1) ∧ w.cell? ⟨w0.heap.size + 2, 1, none⟩ = some (.int .i64 c.2)) ∧ Below w0.heap.size w0 w
theorem Box3.kept {w0 w w' : World} {a b c : Int × Int} (h : Box3 w0 a b c w) (hb : Below w.heap.size w w') : Box3 w0 a b c w' := by
  obtain ⟨⟨a0, a1⟩, ⟨b0, b1⟩, ⟨c0, c1⟩, hB⟩ := h
  have hs : w0.heap.size + 2 < w.heap.size := cell_lt c0
  have e : ∀ k o, k < w.heap.size → w'.cell? ⟨k, o, none⟩ = w.cell? ⟨k, o, none⟩ := fun k o h => hb.cell (by simpa using h)
  refine ⟨⟨?_, ?_⟩, ⟨?_, ?_⟩, ⟨?_, ?_⟩, hB.trans (hb.mono (by omega))⟩
  · rw [e _ _ (by omega)]; exact a0
  · rw [e _ _ (by omega)]; exact a1
  · rw [e _ _ (by omega)]; exact b0
  · rw [e _ _ (by omega)]; exact b1
  · rw [e _ _ (by omega)]; exact c0
  · rw [e _ _ (by omega)]; exact c1
theorem Box3.start (w0 : World) (a b c : Int × Int) : Box3 w0 a b c (((w0.alloc (.cells #[.int .i64 a.1, .int .i64 a.2] 23)).alloc (.cells #[.int .i64 b.1, .int .i64 b.2] 23)).alloc (.cells #[.int .i64 c.1, .int .i64 c.2] 23)) := by
  have k1 := (Below.refl _ (w0.alloc (.cells #[.int .i64 a.1, .int .i64 a.2] 23))).alloc (Nat.le_refl _) (.cells #[.int .i64 b.1, .int .i64 b.2] 23)
  have k2 := (Below.refl _ ((w0.alloc (.cells #[.int .i64 a.1, .int .i64 a.2] 23)).alloc (.cells #[.int .i64 b.1, .int .i64 b.2] 23))).alloc (Nat.le_refl _) (.cells #[.int .i64 c.1, .int .i64 c.2] 23)
  refine ⟨⟨?_, ?_⟩, ⟨?_, ?_⟩, ⟨?_, ?_⟩, (((Below.refl _ _).alloc (Nat.le_refl _) _).alloc (by simp) _).alloc (by simp; omega) _⟩
  · rw [k2.cell (by simp; omega), k1.cell (by simp), World.cell?_alloc_at _ _ _ _ rfl]; rfl
  · rw [k2.cell (by simp; omega), k1.cell (by simp), World.cell?_alloc_at _ _ _ _ rfl]; rfl
  · rw [k2.cell (by simp), World.cell?_alloc_at _ _ _ _ (by simp)]; rfl
  · rw [k2.cell (by simp), World.cell?_alloc_at _ _ _ _ (by simp)]; rfl
  · rw [World.cell?_alloc_at _ _ _ _ (by simp)]; rfl
  · rw [World.cell?_alloc_at _ _ _ _ (by simp)]; rfl

/-- .. and a fourth, at block M -/
def Box4 (w0 : World) (a b c : Int × Int) (M : Nat) (m : Int × Int) (w : World) : Prop :=
  Box3 w0 a b c w ∧ w.cell? ⟨M, 0, none⟩ = some (.int .i64 m.1) ∧ w.cell? ⟨M, 1, none⟩ = some (.int .i64 m.2)
theorem Box4.kept {w0 w w' : World} {a b c m : Int × Int} {M : Nat} (h : Box4 w0 a b c M m w) (hb : Below w.heap.size w w') : Box4 w0 a b c M m w' := by
  obtain ⟨h3, m0, m1⟩ := h
  have hs : M < w.heap.size := cell_lt m0
  exact ⟨h3.kept hb, by rw [hb.cell (by simpa using hs)]; exact m0, by rw [hb.cell (by simpa using hs)]; exact m1⟩
theorem Box4.start {w0 w : World} {a b c : Int × Int} (h : Box3 w0 a b c w) (m : Int × Int) : Box4 w0 a b c w.heap.size m (w.alloc (.cells #[.int .i64 m.1, .int .i64 m.2] 23)) :=
  ⟨h.kept ((Below.refl _ _).alloc (Nat.le_refl _) _), by rw [World.cell?_alloc_at _ _ _ _ rfl]; rfl, by rw [World.cell?_alloc_at _ _ _ _ rfl]; rfl⟩
theorem Box3.size {w0 w : World} {a b c : Int × Int} (h : Box3 w0 a b c w) : w0.heap.size + 2 < w.heap.size := by
  obtain ⟨-, -, ⟨c0, -⟩, -⟩ := h
  exact cell_lt c0

theorem max3_at (a b c : Int × Int) (w : World) : Calls Tryd.prog 28 #[.slice (some ⟨w.heap.size, 0, none⟩) 3 3] (w.alloc (.cells #[.int .i64 a.1, .int .i64 a.2, .int .i64 b.1, .int .i64 b.2, .int .i64 c.1, .int .i64 c.2] 23)) fun e w' => e = .returned (.agg #[.int .i64 (maxOf [a, b, c]).1, .int .i64 (maxOf [a, b, c]).2]) ∧ Below (w.heap.size + 1) (w.alloc (.cells #[.int .i64 a.1, .int .i64 a.2, .int .i64 b.1, .int .i64 b.2, .int .i64 c.1, .int .i64 c.2] 23)) w' := by
  have hs : Stamps (w.alloc (.cells #[.int .i64 a.1, .int .i64 a.2, .int .i64 b.1, .int .i64 b.2, .int .i64 c.1, .int .i64 c.2] 23)) (some ⟨w.heap.size, 0, none⟩) [a, b, c] := fun _ => ⟨_, _, rfl, fun i hi => by
    rw [World.cell?_alloc_at _ _ _ _ rfl, World.cell?_alloc_at _ _ _ _ rfl]
    match i, hi with
    | 0, _ => exact ⟨rfl, rfl⟩
    | 1, _ => exact ⟨rfl, rfl⟩
    | 2, _ => exact ⟨rfl, rfl⟩⟩
  exact (max_any (some ⟨w.heap.size, 0, none⟩) 3 [a, b, c] _ hs (by simp)).mono fun e w' ⟨he, hb⟩ => ⟨he, by simpa using hb⟩

set_option maxRecDepth 100000 in
set_option maxHeartbeats 20000000 in
theorem stampOrder_walk (ax ay bx by' cx cy : Int) (w : World) (_ : (Lit.int .i64 ax).wf = true) (_ : (Lit.int .i64 ay).wf = true) (_ : (Lit.int .i64 bx).wf = true) (_ : (Lit.int .i64 by').wf = true) (_ : (Lit.int .i64 cx).wf = true) (_ : (Lit.int .i64 cy).wf = true) :
    Calls Tryd.prog 6 #[.agg #[.int .i64 ax, .int .i64 ay], .agg #[.int .i64 bx, .int .i64 by'], .agg #[.int .i64 cx, .int .i64 cy]] w fun e w' => e = .returned (.bool true) ∧ Below w.heap.size w w' := by
  have H0 := Lib.hid (Box3.start w (ax, ay) (bx, by') (cx, cy))
  have X := compare_any ax ay bx by'
  have Y := compare_any bx by' cx cy
  have Z := compare_any ax ay cx cy
  obtain ⟨x0, x1⟩ := cmp_bd ax ay bx by'
  obtain ⟨z0, z1⟩ := cmp_chain (ax, ay) (bx, by') (cx, cy)
  dsimp only at z0 z1
  have HN := Lib.hid (cmp_neg ax ay bx by')
  have HZ := Lib.hid (cmp_zero ax ay bx by')
  generalize cmpS ax ay bx by' = x at *
  generalize cmpS bx by' cx cy = y at *
  generalize cmpS ax ay cx cy = z at *
  have HX := Lib.hid X
  have HY := Lib.hid Y
  have HZZ := Lib.hid Z
  have Hz0 := Lib.hid z0
  have Hz1 := Lib.hid z1
  clear X Y Z z0 z1
  go_enter Tryd.func6, Tryd.ntmps6
  go_wp2_with fail
  refine (HX.out _).mono ?_
  rintro e w1 ⟨rfl, hb1⟩
  have H1 := Lib.hid (H0.out.kept hb1)
  obtain ⟨⟨a0, a1⟩, ⟨b0, b1⟩, ⟨c0, c1⟩, -⟩ := H0.out.kept hb1
  clear hb1
  go_wp2_with fail
  refine (HY.out _).mono ?_
  rintro e w2 ⟨rfl, hb2⟩
  have H2 := Lib.hid (H1.out.kept hb2)
  clear a0 a1 b0 b1 c0 c1
  obtain ⟨⟨a0, a1⟩, ⟨b0, b1⟩, ⟨c0, c1⟩, -⟩ := H1.out.kept hb2
  clear hb2
  go_wp2_with fail
  refine (HZZ.out _).mono ?_
  rintro e w3 ⟨rfl, hb3⟩
  have H3 := Lib.hid (H2.out.kept hb3)
  clear a0 a1 b0 b1 c0 c1
  obtain ⟨⟨a0, a1⟩, ⟨b0, b1⟩, ⟨c0, c1⟩, -⟩ := H2.out.kept hb3
  clear hb3
  go_upto_region 4 with fail
  go_cut [41] (fun s wx => s = .bool false ∧ wx = w3)
  case first =>
    by_cases h1 : x ≤ 0
    · by_cases h2 : y ≤ 0
      · have h3 := Hz0.out h1 h2
        have d3 : decide (0 < z) = false := decide_eq_false (by omega)
        by_cases h4 : x < 0
        · have h5 := Hz1.out h4 h2
          have d5 : decide (0 ≤ z) = false := decide_eq_false (by omega)
          go_wp2
          go_meet
          exact ⟨rfl, rfl⟩
        · have d4 : decide (x < 0) = false := decide_eq_false h4
          go_wp2
          go_meet
          exact ⟨rfl, rfl⟩
      · have d2 : decide (y ≤ 0) = false := decide_eq_false h2
        by_cases h4 : x < 0
        · go_wp2
          go_meet
          exact ⟨rfl, rfl⟩
        · have d4 : decide (x < 0) = false := decide_eq_false h4
          go_wp2
          go_meet
          exact ⟨rfl, rfl⟩
    · have d1 : decide (x ≤ 0) = false := decide_eq_false h1
      have d4 : decide (x < 0) = false := decide_eq_false (by omega)
      go_wp2
      go_meet
      exact ⟨rfl, rfl⟩
  case rest =>
    obtain ⟨rfl, rfl⟩ := hcut
    obtain ⟨g1, g2, g3, g4⟩ := max3_ge (ax, ay) (bx, by') (cx, cy)
    have HMX := Lib.hid (max3_at (ax, ay) (bx, by') (cx, cy) wc)
    generalize maxOf [(ax, ay), (bx, by'), (cx, cy)] = m at *
    obtain ⟨mx, my⟩ := m
    have q1 := (geS_iff _ _).1 g1
    have q2 := (geS_iff _ _).1 g2
    have q3 := (geS_iff _ _).1 g3
    dsimp only at *
    clear g1 g2 g3
    go_wp2_with fail
    refine HMX.out.mono ?_
    rintro e w4 ⟨rfl, hb4⟩
    have hbx : Below wc.heap.size wc w4 := ((Below.refl wc.heap.size wc).alloc (Nat.le_refl _) _).trans (hb4.mono (by omega))
    have H4 := Lib.hid (H3.out.kept hbx)
    clear a0 a1 b0 b1 c0 c1
    obtain ⟨⟨a0, a1⟩, ⟨b0, b1⟩, ⟨c0, c1⟩, -⟩ := H3.out.kept hbx
    have H5 := Lib.hid (Box4.start H4.out (mx, my))
    have hlt4 : w.heap.size < w4.heap.size := by have := H4.out.size; omega
    have hlt5 : w.heap.size + 1 < w4.heap.size := by have := H4.out.size; omega
    have hlt6 : w.heap.size + 1 + 1 < w4.heap.size := by have := H4.out.size; omega
    clear hb4 hbx
    have HCN := Lib.hid (fun W => by have h := compare_any bx by' ax ay W; rw [HN.out] at h; exact h : ∀ W, Calls Tryd.prog 26 #[.agg #[.int .i64 bx, .int .i64 by'], .agg #[.int .i64 ax, .int .i64 ay]] W fun e w' => e = .returned (.int .i64 (-x)) ∧ Below W.heap.size W w')
    have HA := Lib.hid (fun W => compare_any mx my ax ay W)
    have HBB := Lib.hid (fun W => compare_any mx my bx by' W)
    have HCC := Lib.hid (fun W => compare_any mx my cx cy W)
    generalize cmpS mx my ax ay = v1 at *
    generalize cmpS mx my bx by' = v2 at *
    generalize cmpS mx my cx cy = v3 at *
    go_wp2_with fail
    refine (HCN.out _).mono ?_
    rintro e w5 ⟨rfl, hb5⟩
    have H6 := Lib.hid (H5.out.kept hb5)
    clear a0 a1 b0 b1 c0 c1 hlt4 hlt5 hlt6
    obtain ⟨⟨⟨a0, a1⟩, ⟨b0, b1⟩, ⟨c0, c1⟩, -⟩, m0, m1⟩ := H5.out.kept hb5
    clear hb5
    have HG4 := Lib.hid g4
    clear g4
    by_cases hx1 : ax = bx
    · obtain rfl := hx1
      by_cases hx2 : ay = by'
      · obtain rfl := hx2
        obtain rfl : x = 0 := HZ.out.2 ⟨rfl, rfl⟩
        go_wp2_with fail
        refine (HA.out _).mono ?_
        rintro e w6 ⟨rfl, hb6⟩
        have H7 := Lib.hid (H6.out.kept hb6)
        clear a0 a1 b0 b1 c0 c1 m0 m1
        obtain ⟨⟨⟨a0, a1⟩, ⟨b0, b1⟩, ⟨c0, c1⟩, -⟩, m0, m1⟩ := H6.out.kept hb6
        clear hb6
        go_wp2_with fail
        refine (HBB.out _).mono ?_
        rintro e w7 ⟨rfl, hb7⟩
        have H8 := Lib.hid (H7.out.kept hb7)
        clear a0 a1 b0 b1 c0 c1 m0 m1
        obtain ⟨⟨⟨a0, a1⟩, ⟨b0, b1⟩, ⟨c0, c1⟩, -⟩, m0, m1⟩ := H7.out.kept hb7
        clear hb7
        go_wp2_with fail
        refine (HCC.out _).mono ?_
        rintro e w8 ⟨rfl, hb8⟩
        have H9 := Lib.hid (H8.out.kept hb8)
        clear a0 a1 b0 b1 c0 c1 m0 m1
        obtain ⟨⟨⟨a0, a1⟩, ⟨b0, b1⟩, ⟨c0, c1⟩, -⟩, m0, m1⟩ := H8.out.kept hb8
        clear hb8
        all_goals (by_cases ha1 : mx = ax <;> by_cases ha2 : my = ay <;> by_cases hc1 : mx = cx <;> by_cases hc2 : my = cy)
        all_goals first
          | (exfalso; rcases HG4.out with h | h | h <;> (simp only [Prod.mk.injEq] at h; omega))
          | skip
        all_goals
          go_wp2_with fail
          refine (knows2_any _).mono ?_
          rintro e wk ⟨rfl, hbk⟩
          have HK := Lib.hid (H9.out.kept hbk)
          clear hbk
          go_wp2
          go_ret
          exact ⟨rfl, HK.out.1.2.2.2⟩
      · have te : (x == 0) = false := by rw [beq_eq_false_iff_ne]; intro h; exact hx2 (HZ.out.1 h).2
        go_wp2_with fail
        refine (HA.out _).mono ?_
        rintro e w6 ⟨rfl, hb6⟩
        have H7 := Lib.hid (H6.out.kept hb6)
        clear a0 a1 b0 b1 c0 c1 m0 m1
        obtain ⟨⟨⟨a0, a1⟩, ⟨b0, b1⟩, ⟨c0, c1⟩, -⟩, m0, m1⟩ := H6.out.kept hb6
        clear hb6
        go_wp2_with fail
        refine (HBB.out _).mono ?_
        rintro e w7 ⟨rfl, hb7⟩
        have H8 := Lib.hid (H7.out.kept hb7)
        clear a0 a1 b0 b1 c0 c1 m0 m1
        obtain ⟨⟨⟨a0, a1⟩, ⟨b0, b1⟩, ⟨c0, c1⟩, -⟩, m0, m1⟩ := H7.out.kept hb7
        clear hb7
        go_wp2_with fail
        refine (HCC.out _).mono ?_
        rintro e w8 ⟨rfl, hb8⟩
        have H9 := Lib.hid (H8.out.kept hb8)
        clear a0 a1 b0 b1 c0 c1 m0 m1
        obtain ⟨⟨⟨a0, a1⟩, ⟨b0, b1⟩, ⟨c0, c1⟩, -⟩, m0, m1⟩ := H8.out.kept hb8
        clear hb8
        all_goals (by_cases ha1 : mx = ax <;> by_cases ha2 : my = ay <;> by_cases hb2 : my = by' <;> by_cases hc1 : mx = cx <;> by_cases hc2 : my = cy)
        all_goals first
          | (exfalso; rcases HG4.out with h | h | h <;> (simp only [Prod.mk.injEq] at h; omega))
          | skip
        all_goals
          go_wp2_with fail
          refine (knows2_any _).mono ?_
          rintro e wk ⟨rfl, hbk⟩
          have HK := Lib.hid (H9.out.kept hbk)
          clear hbk
          go_wp2
          go_ret
          exact ⟨rfl, HK.out.1.2.2.2⟩
    · have te : (x == 0) = false := by rw [beq_eq_false_iff_ne]; intro h; exact hx1 (HZ.out.1 h).1
      go_wp2_with fail
      refine (HA.out _).mono ?_
      rintro e w6 ⟨rfl, hb6⟩
      have H7 := Lib.hid (H6.out.kept hb6)
      clear a0 a1 b0 b1 c0 c1 m0 m1
      obtain ⟨⟨⟨a0, a1⟩, ⟨b0, b1⟩, ⟨c0, c1⟩, -⟩, m0, m1⟩ := H6.out.kept hb6
      clear hb6
      go_wp2_with fail
      refine (HBB.out _).mono ?_
      rintro e w7 ⟨rfl, hb7⟩
      have H8 := Lib.hid (H7.out.kept hb7)
      clear a0 a1 b0 b1 c0 c1 m0 m1
      obtain ⟨⟨⟨a0, a1⟩, ⟨b0, b1⟩, ⟨c0, c1⟩, -⟩, m0, m1⟩ := H7.out.kept hb7
      clear hb7
      go_wp2_with fail
      refine (HCC.out _).mono ?_
      rintro e w8 ⟨rfl, hb8⟩
      have H9 := Lib.hid (H8.out.kept hb8)
      clear a0 a1 b0 b1 c0 c1 m0 m1
      obtain ⟨⟨⟨a0, a1⟩, ⟨b0, b1⟩, ⟨c0, c1⟩, -⟩, m0, m1⟩ := H8.out.kept hb8
      clear hb8
      all_goals (by_cases ha1 : mx = ax <;> by_cases ha2 : my = ay <;> by_cases hb1 : mx = bx <;> by_cases hb2 : my = by' <;> by_cases hc1 : mx = cx <;> by_cases hc2 : my = cy)
      all_goals first
        | (exfalso; rcases HG4.out with h | h | h <;> (simp only [Prod.mk.injEq] at h; omega))
        | skip
      all_goals
        go_wp2_with fail
        refine (knows2_any _).mono ?_
        rintro e wk ⟨rfl, hbk⟩
        have HK := Lib.hid (H9.out.kept hbk)
        clear hbk
        go_wp2
        go_ret
        exact ⟨rfl, HK.out.1.2.2.2⟩

end Go.Proofs.YtbggbpdkphhhdaaDoor
