/-
  A STEP OF QueuePlays: Push, and all acts.
  No conditions but sizes.
-/
import Derived.Test.YtmenlfgfhnnmgaaQStep
namespace Go.Proofs.Ytmenlfgfhnnmgaa
open Go.RowKit

theorem fin_push {q s n : Nat} {A F : Nat → Prop} {w W0 w2 w3 : World} {l d : List Qm.It} {x : Qm.It} {p p' : Option Addr} {cap' : Nat}
    (hA : ∀ k, A k → k < w.heap.size) (hB0 : Below w.heap.size w W0) (hsz : w.heap.size + 3 ≤ W0.heap.size) (hFA : ∀ k, F k → A k) (hsA : A s) (hpA : ∀ a, p = some a → A a.block) (hsF : ¬ F s) (hpF : ∀ a, p = some a → ¬ F a.block) (hdn : d.length ≤ n)
    (hq : QO w2 q (ext F W0 w2) (x :: l)) (ht : Turns F W0 w2) (hr : RQ w3 s p' cap' (d ++ [x])) (hp' : ∀ a, p' = some a → p = some a ∨ w2.heap.size ≤ a.block)
    (ht' : Turns (fun k => k = s ∨ ∃ a, p = some a ∧ a.block = k) w2 w3) (hx : SBx w ((0, 0), 0) ((0, 0), 0) W0) (hm : l.Perm d) :
    Fin q s A n w ((0, 0), 0) w3 := by
  have hsw := hA s hsA
  have z2 : w.heap.size + 3 ≤ w2.heap.size := Nat.le_trans hsz ht.size
  have z3 : w2.heap.size ≤ w3.heap.size := ht'.size
  have hG : ∀ k, (k = s ∨ ∃ a, p = some a ∧ a.block = k) → A k := fun k hk => by
    rcases hk with rfl | ⟨a, ha, rfl⟩
    · exact hsA
    · exact hpA a ha
  have hGF : ∀ k, (k = s ∨ ∃ a, p = some a ∧ a.block = k) → ¬ ext F W0 w2 k := fun k hk he => by
    have h1 := hA k (hG k hk)
    rcases he with h | h
    · rcases hk with rfl | ⟨a, ha, rfl⟩
      · exact hsF h
      · exact hpF a ha h
    · omega
  have hplt : ∀ a, p' = some a → a.block < w3.heap.size := fun a ha => (World.ownsRow.lt hr.own a.block (by rw [ha]; rfl)).2
  refine ⟨⟨ext F W0 w2, p', cap', x :: l, d ++ [x], hq.turns ht' fun k hk hg => hGF k hg hk, hr, ?_, ?_, fun k hk => ?_, Or.inl hsA, fun a ha => ?_, fun h => hGF s (Or.inl rfl) h, fun a ha hk => ?_⟩, ?_, ?_⟩
  · exact (hm.cons x).trans (List.perm_append_comm (l₁ := [x]) (l₂ := d))
  · rw [List.length_append, List.length_singleton]; omega
  · rcases hk with h | h
    · exact Or.inl (hFA k h)
    · right; omega
  · rcases hp' a ha with h | h
    · exact Or.inl (hpA a h)
    · right; have := hplt a ha; omega
  · rcases hp' a ha with h | h
    · exact hGF _ (Or.inr ⟨a, h, rfl⟩) hk
    · rcases hk with h1 | h1
      · have := hA _ (hFA _ h1); omega
      · omega
  · have k1 : Turns A w W0 := Turns.of_below hB0
    exact (k1.trans (ht.mono fun k _ hk => Or.inl (hFA k hk))).trans (ht'.mono fun k _ hk => Or.inl (hG k hk))
  · exact (hx.turns ht fun k hk => hA k (hFA k hk)).turns ht' fun k hk => hA k (hG k hk)

theorem turns_drew (A : Nat → Prop) (w : World) : Turns A w w.drew := Turns.of_below (Below.refl _ _).drew

set_option maxRecDepth 100000 in
set_option maxHeartbeats 3000000 in
theorem step_push (q s : Nat) (A : Nat → Prop) (n : Nat) (t r g : Int) (w : World) (h : Pair w q s A n) (hA : ∀ k, A k → k < w.heap.size)  (hn : n < 1000) :
    Calls Try.prog 11 #[.pointer (some ⟨q, 0, none⟩), .pointer (some ⟨s, 0, none⟩), .agg #[.int .i64 0, .int .i64 t, .int .i64 r, .int .i64 g]] w (Stepped q s A n w) := by
  have HA := Lib.hid hA
  have HX0 := Lib.hid (SBx.start w #[.int .i64 0, .int .i64 t, .int .i64 r, .int .i64 g] 38 40 36)
  have HB0 := Lib.hid (show Below w.heap.size w (((w.alloc (.cells #[.int .i64 0, .int .i64 t, .int .i64 r, .int .i64 g] 38)).alloc (.cells #[.int .i64 0, .int .i64 0, .int .i64 0] 40)).alloc (.cells #[.int .i64 0, .int .i64 0, .int .i64 0] 36)) from (((Below.refl _ _).alloc (Nat.le_refl _) _).alloc (by simp) _).alloc (by simp only [World.size_alloc]; omega) _)
  obtain ⟨F, p, cap, l, d, hq, hr, hpm, hdn, hFA, hsA, hpA, hsF, hpF⟩ := h
  have ea0 : (((w.alloc (.cells #[.int .i64 0, .int .i64 t, .int .i64 r, .int .i64 g] 38)).alloc (.cells #[.int .i64 0, .int .i64 0, .int .i64 0] 40)).alloc (.cells #[.int .i64 0, .int .i64 0, .int .i64 0] 36)).cell? ⟨w.heap.size, 0, none⟩ = some (.int .i64 0) := actbox w 0 t r g _ _ _ 0 _ rfl
  have ea1 : (((w.alloc (.cells #[.int .i64 0, .int .i64 t, .int .i64 r, .int .i64 g] 38)).alloc (.cells #[.int .i64 0, .int .i64 0, .int .i64 0] 40)).alloc (.cells #[.int .i64 0, .int .i64 0, .int .i64 0] 36)).cell? ⟨w.heap.size, 1, none⟩ = some (.int .i64 t) := actbox w 0 t r g _ _ _ 1 _ rfl
  have ea2 : (((w.alloc (.cells #[.int .i64 0, .int .i64 t, .int .i64 r, .int .i64 g] 38)).alloc (.cells #[.int .i64 0, .int .i64 0, .int .i64 0] 40)).alloc (.cells #[.int .i64 0, .int .i64 0, .int .i64 0] 36)).cell? ⟨w.heap.size, 2, none⟩ = some (.int .i64 r) := actbox w 0 t r g _ _ _ 2 _ rfl
  have ea3 : (((w.alloc (.cells #[.int .i64 0, .int .i64 t, .int .i64 r, .int .i64 g] 38)).alloc (.cells #[.int .i64 0, .int .i64 0, .int .i64 0] 40)).alloc (.cells #[.int .i64 0, .int .i64 0, .int .i64 0] 36)).cell? ⟨w.heap.size, 3, none⟩ = some (.int .i64 g) := actbox w 0 t r g _ _ _ 3 _ rfl
  have HX1 := Lib.hid (HX0.out.turns (turns_drew (fun _ => False) _) fun k hk => hk.elim)
  have HB1 := Lib.hid (HB0.out.trans (Below.refl _ _).drew)
  have hl2 : l.length < 2000 := by rw [hpm.length_eq]; omega
  have HC := Lib.hid (qpush_any q F l t r g _ (hq.turns (Turns.of_base HB1.out) (fun k hk e => by have := hA k (hFA k hk); omega)) hl2)
  have HR0 := Lib.hid (hr.turns (Turns.of_base HB1.out) (by have := hA s hsA; omega) (fun a ha e => by have := hA _ (hpA a ha); omega))
  have HFN := Lib.hid (fun w2 w3 p' cap' hq2 ht hr3 hp3 ht3 => fin_push (q := q) (s := s) (n := n) (A := A) (F := F) (w := w) (W0 := (((w.alloc (.cells #[.int .i64 0, .int .i64 t, .int .i64 r, .int .i64 g] 38)).alloc (.cells #[.int .i64 0, .int .i64 0, .int .i64 0] 40)).alloc (.cells #[.int .i64 0, .int .i64 0, .int .i64 0] 36)).drew) (w2 := w2) (w3 := w3) (l := l) (d := d) (x := ((t, r), g)) (p := p) (p' := p') (cap' := cap') hA HB1.out HX1.out.size hFA hsA hpA hsF hpF hdn hq2 ht hr3 hp3 ht3 HX1.out hpm)
  have HNA := Lib.hid (show ¬ A w.heap.size from fun hk => by have := hA _ hk; omega)
  have HFA := Lib.hid hFA
  have HSF := Lib.hid hsF
  have HPF := Lib.hid hpF
  have HGA := Lib.hid (show ∀ k, (k = s ∨ ∃ a, p = some a ∧ a.block = k) → A k from fun k hk => by
    rcases hk with rfl | ⟨a, ha, rfl⟩
    · exact hsA
    · exact hpA a ha)
  clear hq hr hpm hFA hpA hA hsF hpF hsA
  go_enter Try.func11, Try.ntmps11
  go_wp2
  refine wp_region_held_drew (S := Turns A _) (by kernel_rfl) (turns_drew A _) (fun hS => ?_)
  refine wpAnyH_take (i := 0) (v := ?_) rfl (by kernel_rfl) (by kernel_rfl) (by kernel_rfl) (fun _ _ _ h => h) (Or.inl ⟨by kernel_rfl, ?_⟩) hS ?_
  rotate_left
  · intro W hSW
    go_simp
    all_goals with_reducible rfl
  refine wpAnyH_take (i := 1) (v := ?_) rfl (by kernel_rfl) (by kernel_rfl) (by kernel_rfl) (fun _ _ _ h => h) (Or.inl ⟨by kernel_rfl, ?_⟩) hS ?_
  rotate_left
  · intro W hSW
    go_simp
    all_goals with_reducible rfl
  refine wpAnyH_take (i := 2) (v := ?_) rfl (by kernel_rfl) (by kernel_rfl) (by kernel_rfl) (fun _ _ _ h => h) (Or.inl ⟨by kernel_rfl, ?_⟩) hS ?_
  rotate_left
  · intro W hSW
    go_simp
    all_goals with_reducible rfl
  refine wpAnyH_take (i := 3) (v := ?_) rfl (by kernel_rfl) (by kernel_rfl) (by kernel_rfl) (fun _ _ _ h => h) (Or.inl ⟨by kernel_rfl, ?_⟩) hS ?_
  rotate_left
  · intro W hSW
    have ea1' := Turns.cell hSW ea1 HNA.out
    have ea2' := Turns.cell hSW ea2 HNA.out
    go_simp
    all_goals with_reducible rfl
  refine wpAnyH_take (i := 4) (v := ?_) rfl (by kernel_rfl) (by kernel_rfl) (by kernel_rfl) (fun _ _ _ h => h) (Or.inl ⟨by kernel_rfl, ?_⟩) hS ?_
  rotate_left
  · intro W hSW
    go_simp
    all_goals with_reducible rfl
  refine wpAnyH_take (i := 5) (v := ?_) rfl (by kernel_rfl) (by kernel_rfl) (by kernel_rfl) (fun _ _ _ h => h) (Or.inl ⟨by kernel_rfl, ?_⟩) hS ?_
  rotate_left
  · intro W hSW
    go_simp
    all_goals with_reducible rfl
  refine wpAnyH_take (i := 6) (v := ?_) rfl (by kernel_rfl) (by kernel_rfl) (by kernel_rfl) (fun _ _ _ h => h) (Or.inl ⟨by kernel_rfl, ?_⟩) hS ?_
  rotate_left
  · intro W hSW
    have ea3' := Turns.cell hSW ea3 HNA.out
    go_simp
    all_goals with_reducible rfl
  refine wpAnyH_take (i := 7) (v := ?_) rfl (by kernel_rfl) (by kernel_rfl) (by kernel_rfl) (fun _ _ _ h => h) (Or.inl ⟨by kernel_rfl, ?_⟩) hS ?_
  rotate_left
  · intro W hSW
    go_simp
    all_goals with_reducible rfl
  refine wpAnyH_take (i := 10) (v := ?_) rfl (by kernel_rfl) (by kernel_rfl) (by kernel_rfl) (fun _ _ _ h => h) (Or.inl ⟨by kernel_rfl, ?_⟩) hS ?_
  rotate_left
  · intro W hSW
    go_simp
    all_goals with_reducible rfl
  refine wpAnyH_take (i := 11) (v := ?_) rfl (by kernel_rfl) (by kernel_rfl) (by kernel_rfl) (fun _ _ _ h => h) (Or.inl ⟨by kernel_rfl, ?_⟩) hS ?_
  rotate_left
  · intro W hSW
    go_simp
    all_goals with_reducible rfl
  refine wpAnyH_take (i := 12) (v := ?_) rfl (by kernel_rfl) (by kernel_rfl) (by kernel_rfl) (fun _ _ _ h => h) (Or.inl ⟨by kernel_rfl, ?_⟩) hS ?_
  rotate_left
  · intro W hSW
    have ea1' := Turns.cell hSW ea1 HNA.out
    have ea2' := Turns.cell hSW ea2 HNA.out
    have ea3' := Turns.cell hSW ea3 HNA.out
    go_simp
    all_goals with_reducible rfl
  refine wpAnyH_ready (rs := [8]) (by kernel_rfl) (by simp) ?_
  refine AllReadyH.cons rfl (fun K hK => ?_) AllReadyH.nil
  go_simp
  go_wp2_with ((go_at_call 15; refine (HC.out).mono ?_; rintro e wn ⟨rfl, hq2, ht2⟩))
  refine hK.out _ _ (hS.trans (ht2.mono fun k _ hk => Or.inl (HFA.out k hk))) (fun hS => ?_)
  clear hK K
  have HR2 := Lib.hid (rpush_any s p cap d t r g wn (HR0.out.turns ht2 HSF.out HPF.out) (by omega))
  refine wpAnyH_ready (rs := [9]) (by kernel_rfl) (by simp) ?_
  refine AllReadyH.cons rfl (fun K hK => ?_) AllReadyH.nil
  go_simp
  go_wp2_with ((go_at_call 14; refine (num_any 0 _).mono ?_; rintro e wk ⟨rfl, rfl⟩))
  refine hK.out _ _ hS (fun hS => ?_)
  clear hK K
  refine wpAnyH_ready (rs := [13]) (by kernel_rfl) (by simp) ?_
  refine AllReadyH.cons rfl (fun K hK => ?_) AllReadyH.nil
  go_simp
  go_wp2_with ((go_at_call 29; refine (HR2.out).mono ?_; rintro e w5 ⟨rfl, p', cap', hr3, ht3, hp3⟩))
  refine hK.out _ _ (hS.trans (ht3.mono fun k _ hk => Or.inl (HGA.out k hk))) (fun hS => ?_)
  clear hK K
  refine wpAnyH_take (i := 14) (v := ?_) rfl (by kernel_rfl) (by kernel_rfl) (by kernel_rfl) (fun _ _ _ h => h) (Or.inl ⟨by kernel_rfl, ?_⟩) hS ?_
  rotate_left
  · intro W hSW
    go_simp
    all_goals with_reducible rfl
  refine wpAnyH_done (by kernel_rfl) ?_ _
  have HF8 := Lib.hid (HFN.out _ _ _ _ hq2 ht2 hr3 hp3 ht3)
  clear hq2 ht2 hr3 hp3 ht3 ea0 ea1 ea2 ea3 hS
  go_simp
  go_wp2
  have HFIN := Lib.hid HF8.out.pair
  have HTN := Lib.hid HF8.out.turns
  have HBX := Lib.hid HF8.out.box
  clear HF8 HR2 HC HR0 HFN HX1 HB1 HSF HPF HGA
  obtain ⟨F9, p9, cap9, l9, d9, hql, rc, hle⟩ := HFIN.out.cell
  rw [← hle] at rc
  have HQL := Lib.hid hql
  have x0 := HBX.out.x0
  have x1 := HBX.out.x1
  have x2 := HBX.out.x2
  have y0 := HBX.out.y0
  have y1 := HBX.out.y1
  have y2 := HBX.out.y2
  have hl9 := hql.len
  clear hql hle
  dsimp only at x0 x1 x2 y0 y1 y2
  refine wp_region_held_drew (S := Bel _) (by kernel_rfl) (Bel.start _) (fun hS => ?_)
  refine wpAnyH_take (i := 0) (v := ?_) rfl (by kernel_rfl) (by kernel_rfl) (by kernel_rfl) (fun _ _ _ h => h) (Or.inl ⟨by kernel_rfl, ?_⟩) hS ?_
  rotate_left
  · intro W hSW
    go_simp
    all_goals with_reducible rfl
  refine wpAnyH_take (i := 1) (v := ?_) rfl (by kernel_rfl) (by kernel_rfl) (by kernel_rfl) (fun _ _ _ h => h) (Or.inl ⟨by kernel_rfl, ?_⟩) hS ?_
  rotate_left
  · intro W hSW
    have x0' := hSW.get x0
    have x1' := hSW.get x1
    have x2' := hSW.get x2
    go_simp
    all_goals with_reducible rfl
  refine wpAnyH_take (i := 2) (v := ?_) rfl (by kernel_rfl) (by kernel_rfl) (by kernel_rfl) (fun _ _ _ h => h) (Or.inl ⟨by kernel_rfl, ?_⟩) hS ?_
  rotate_left
  · intro W hSW
    go_simp
    all_goals with_reducible rfl
  refine wpAnyH_take (i := 3) (v := ?_) rfl (by kernel_rfl) (by kernel_rfl) (by kernel_rfl) (fun _ _ _ h => h) (Or.inl ⟨by kernel_rfl, ?_⟩) hS ?_
  rotate_left
  · intro W hSW
    have y0' := hSW.get y0
    have y1' := hSW.get y1
    have y2' := hSW.get y2
    go_simp
    all_goals with_reducible rfl
  refine wpAnyH_take (i := 4) (v := ?_) rfl (by kernel_rfl) (by kernel_rfl) (by kernel_rfl) (fun _ _ _ h => h) (Or.inl ⟨by kernel_rfl, ?_⟩) hS ?_
  rotate_left
  · intro W hSW
    go_simp
    all_goals with_reducible rfl
  refine wpAnyH_take (i := 5) (v := ?_) rfl (by kernel_rfl) (by kernel_rfl) (by kernel_rfl) (fun _ _ _ h => h) (Or.inl ⟨by kernel_rfl, ?_⟩) hS ?_
  rotate_left
  · intro W hSW
    go_simp
    all_goals with_reducible rfl
  refine wpAnyH_take (i := 6) (v := ?_) rfl (by kernel_rfl) (by kernel_rfl) (by kernel_rfl) (fun _ _ _ h => h) (Or.inl ⟨by kernel_rfl, ?_⟩) hS ?_
  rotate_left
  · intro W hSW
    go_simp
    all_goals with_reducible rfl
  refine wpAnyH_take (i := 7) (v := ?_) rfl (by kernel_rfl) (by kernel_rfl) (by kernel_rfl) (fun _ _ _ h => h) (Or.inl ⟨by kernel_rfl, ?_⟩) hS ?_
  rotate_left
  · intro W hSW
    have x0' := hSW.get x0
    have x1' := hSW.get x1
    have x2' := hSW.get x2
    go_simp
    all_goals with_reducible rfl
  refine wpAnyH_take (i := 8) (v := ?_) rfl (by kernel_rfl) (by kernel_rfl) (by kernel_rfl) (fun _ _ _ h => h) (Or.inl ⟨by kernel_rfl, ?_⟩) hS ?_
  rotate_left
  · intro W hSW
    go_simp
    all_goals with_reducible rfl
  refine wpAnyH_take (i := 9) (v := ?_) rfl (by kernel_rfl) (by kernel_rfl) (by kernel_rfl) (fun _ _ _ h => h) (Or.inl ⟨by kernel_rfl, ?_⟩) hS ?_
  rotate_left
  · intro W hSW
    have y0' := hSW.get y0
    have y1' := hSW.get y1
    have y2' := hSW.get y2
    go_simp
    all_goals with_reducible rfl
  refine wpAnyH_take (i := 10) (v := ?_) rfl (by kernel_rfl) (by kernel_rfl) (by kernel_rfl) (fun _ _ _ h => h) (Or.inl ⟨by kernel_rfl, ?_⟩) hS ?_
  rotate_left
  · intro W hSW
    go_simp
    all_goals with_reducible rfl
  refine wpAnyH_take (i := 11) (v := ?_) rfl (by kernel_rfl) (by kernel_rfl) (by kernel_rfl) (fun _ _ _ h => h) (Or.inl ⟨by kernel_rfl, ?_⟩) hS ?_
  rotate_left
  · intro W hSW
    go_simp
    all_goals with_reducible rfl
  refine wpAnyH_take (i := 12) (v := ?_) rfl (by kernel_rfl) (by kernel_rfl) (by kernel_rfl) (fun _ _ _ h => h) (Or.inl ⟨by kernel_rfl, ?_⟩) hS ?_
  rotate_left
  · intro W hSW
    go_simp
    all_goals with_reducible rfl
  refine wpAnyH_take (i := 13) (v := ?_) rfl (by kernel_rfl) (by kernel_rfl) (by kernel_rfl) (fun _ _ _ h => h) (Or.inl ⟨by kernel_rfl, ?_⟩) hS ?_
  rotate_left
  · intro W hSW
    go_simp
    all_goals with_reducible rfl
  refine wpAnyH_take (i := 14) (v := ?_) rfl (by kernel_rfl) (by kernel_rfl) (by kernel_rfl) (fun _ _ _ h => h) (Or.inl ⟨by kernel_rfl, ?_⟩) hS ?_
  rotate_left
  · intro W hSW
    go_simp
    all_goals with_reducible rfl
  refine wpAnyH_take (i := 15) (v := ?_) rfl (by kernel_rfl) (by kernel_rfl) (by kernel_rfl) (fun _ _ _ h => h) (Or.inl ⟨by kernel_rfl, ?_⟩) hS ?_
  rotate_left
  · intro W hSW
    go_simp
    all_goals with_reducible rfl
  refine wpAnyH_take (i := 16) (v := ?_) rfl (by kernel_rfl) (by kernel_rfl) (by kernel_rfl) (fun _ _ _ h => h) (Or.inl ⟨by kernel_rfl, ?_⟩) hS ?_
  rotate_left
  · intro W hSW
    go_simp
    all_goals with_reducible rfl
  refine wpAnyH_take (i := 17) (v := ?_) rfl (by kernel_rfl) (by kernel_rfl) (by kernel_rfl) (fun _ _ _ h => h) (Or.inl ⟨by kernel_rfl, ?_⟩) hS ?_
  rotate_left
  · intro W hSW
    go_simp
    all_goals with_reducible rfl
  refine wpAnyH_take (i := 18) (v := ?_) rfl (by kernel_rfl) (by kernel_rfl) (by kernel_rfl) (fun _ _ _ h => h) (Or.inl ⟨by kernel_rfl, ?_⟩) hS ?_
  rotate_left
  · intro W hSW
    go_simp
    all_goals with_reducible rfl
  refine wpAnyH_take (i := 20) (v := ?_) rfl (by kernel_rfl) (by kernel_rfl) (by kernel_rfl) (fun _ _ _ h => h) (Or.inl ⟨by kernel_rfl, ?_⟩) hS ?_
  rotate_left
  · intro W hSW
    go_simp
    all_goals with_reducible rfl
  refine wpAnyH_take (i := 21) (v := ?_) rfl (by kernel_rfl) (by kernel_rfl) (by kernel_rfl) (fun _ _ _ h => h) (Or.inl ⟨by kernel_rfl, ?_⟩) hS ?_
  rotate_left
  · intro W hSW
    go_simp
    all_goals with_reducible rfl
  refine wpAnyH_take (i := 22) (v := ?_) rfl (by kernel_rfl) (by kernel_rfl) (by kernel_rfl) (fun _ _ _ h => h) (Or.inl ⟨by kernel_rfl, ?_⟩) hS ?_
  rotate_left
  · intro W hSW
    go_simp
    all_goals with_reducible rfl
  refine wpAnyH_take (i := 23) (v := ?_) rfl (by kernel_rfl) (by kernel_rfl) (by kernel_rfl) (fun _ _ _ h => h) (Or.inl ⟨by kernel_rfl, ?_⟩) hS ?_
  rotate_left
  · intro W hSW
    have rc' := hSW.get rc
    go_simp
    all_goals with_reducible rfl
  refine wpAnyH_take (i := 24) (v := ?_) rfl (by kernel_rfl) (by kernel_rfl) (by kernel_rfl) (fun _ _ _ h => h) (Or.inl ⟨by kernel_rfl, ?_⟩) hS ?_
  rotate_left
  · intro W hSW
    go_simp
    all_goals with_reducible rfl
  refine wpAnyH_ready (rs := [19]) (by kernel_rfl) (by simp) ?_
  refine AllReadyH.cons rfl (fun K hK => ?_) AllReadyH.nil
  go_simp
  go_wp2_with ((go_at_call 16; refine (qlen_any (HQL.out.below hS)).mono ?_; rintro e wl ⟨rfl, rfl⟩))
  refine hK.out _ _ hS (fun hS => ?_)
  clear hK K
  refine wpAnyH_take (i := 25) (v := ?_) rfl (by kernel_rfl) (by kernel_rfl) (by kernel_rfl) (fun _ _ _ h => h) (Or.inl ⟨by kernel_rfl, ?_⟩) hS ?_
  rotate_left
  · intro W hSW
    go_simp
    all_goals with_reducible rfl
  refine wpAnyH_take (i := 26) (v := ?_) rfl (by kernel_rfl) (by kernel_rfl) (by kernel_rfl) (fun _ _ _ h => h) (Or.inl ⟨by kernel_rfl, ?_⟩) hS ?_
  rotate_left
  · intro W hSW
    go_simp
    all_goals with_reducible rfl
  refine wpAnyH_take (i := 27) (v := ?_) rfl (by kernel_rfl) (by kernel_rfl) (by kernel_rfl) (fun _ _ _ h => h) (Or.inl ⟨by kernel_rfl, ?_⟩) hS ?_
  rotate_left
  · intro W hSW
    go_simp
    all_goals with_reducible rfl
  refine wpAnyH_done (by kernel_rfl) ?_ _
  have HE := Lib.hid (HFIN.out.turns (Turns.of_below (F := fun _ => False) hS) (fun _ _ h => h))
  have HT := Lib.hid (HTN.out.trans (Turns.of_below hS))
  have HZ := Lib.hid (Below.size hS)
  clear hS
  go_simp
  go_wp2
  go_ret
  exact ⟨rfl, HE.out.mono (fun k hk => by rcases hk with h | h; exact Or.inl h; exact Or.inr ⟨h.1, Nat.lt_of_lt_of_le h.2 HZ.out⟩) (Nat.le_refl _), HT.out⟩

/-- AN ACT on both -/
theorem step_any (q s : Nat) (A : Nat → Prop) (n : Nat) (kd t r g : Int) (w : World) (h : Pair w q s A n) (hA : ∀ k, A k → k < w.heap.size) (hn : n < 1000) :
    Calls Try.prog 11 #[.pointer (some ⟨q, 0, none⟩), .pointer (some ⟨s, 0, none⟩), .agg #[.int .i64 kd, .int .i64 t, .int .i64 r, .int .i64 g]] w (Stepped q s A n w) := by
  by_cases h0 : kd = 0
  · subst h0; exact step_push q s A n t r g w h hA hn
  · by_cases h1 : kd = 1
    · subst h1; exact step_pop q s A n t r g w h hA
    · exact step_peek q s A n kd t r g w h hA h0 h1

end Go.Proofs.Ytmenlfgfhnnmgaa
