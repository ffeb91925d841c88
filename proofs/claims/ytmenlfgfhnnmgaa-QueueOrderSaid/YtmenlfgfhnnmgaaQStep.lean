/-
  A STEP OF QueuePlays: one act on both queues: they answer the same, and hold the same still.
  No conditions but sizes.
-/
import Derived.Test.YtmenlfgfhnnmgaaQPair
import Derived.Test.YtmenlfgfhnnmgaaQKnows
namespace Go.Proofs.Ytmenlfgfhnnmgaa
open Go.RowKit

/-- what a step leaves -/
def Stepped (q s : Nat) (A : Nat → Prop) (n : Nat) (w : World) (e : Ending) (w' : World) : Prop :=
  e = .returned (.bool true) ∧ Pair w' q s (ext A w w') (n + 1) ∧ Turns A w w'

/-- the last of both calls' answers, put together -/
structure Fin (q s : Nat) (A : Nat → Prop) (n : Nat) (w : World) (x : Qm.It) (W : World) : Prop where
  pair : Pair W q s (ext A w W) (n + 1)
  turns : Turns A w W
  box : SBx w x x W

theorem actbox (w : World) (kd t r g : Int) (E F G : TypeId) (o : Nat) (v : Value) (h : (#[.int .i64 kd, .int .i64 t, .int .i64 r, .int .i64 g] : Array Value)[o]? = some v) : (((w.alloc (.cells #[.int .i64 kd, .int .i64 t, .int .i64 r, .int .i64 g] E)).alloc (.cells #[.int .i64 0, .int .i64 0, .int .i64 0] F)).alloc (.cells #[.int .i64 0, .int .i64 0, .int .i64 0] G)).cell? ⟨w.heap.size, o, none⟩ = some v := by
  have h1 : (w.alloc (.cells #[.int .i64 kd, .int .i64 t, .int .i64 r, .int .i64 g] E)).cell? ⟨w.heap.size, o, none⟩ = some v := by rw [World.cell?_alloc_at _ _ _ _ rfl]; exact h
  rw [((Below.refl _ _).alloc (Nat.le_refl _) _).cell (by simp only [World.size_alloc]; omega), ((Below.refl _ _).alloc (Nat.le_refl _) _).cell (by simp only [World.size_alloc]; omega)]
  exact h1

theorem fin_pop {q s n : Nat} {A F : Nat → Prop} {w W0 w2 w3 : World} {d m m' : List Qm.It} {x : Qm.It} {p p' : Option Addr} {cap' : Nat}
    (hA : ∀ k, A k → k < w.heap.size) (hB0 : Below w.heap.size w W0) (hsz : w.heap.size + 3 ≤ W0.heap.size) (hFA : ∀ k, F k → A k) (hsA : A s) (hpA : ∀ a, p = some a → A a.block) (hsF : ¬ F s) (hpF : ∀ a, p = some a → ¬ F a.block) (hdn : d.length ≤ n)
    (hq : QO w2 q (ext F W0 w2) m) (ht : Turns F W0 w2) (hr : RQ w3 s p' cap' m') (hp' : ∀ a, p' = some a → p = some a ∨ (put3 w2 (w.heap.size + 1) (.int .i64 x.1.1) (.int .i64 x.1.2) (.int .i64 x.2)).heap.size ≤ a.block)
    (ht' : Turns (fun k => k = s) (put3 w2 (w.heap.size + 1) (.int .i64 x.1.1) (.int .i64 x.1.2) (.int .i64 x.2)) w3) (hx : SBx w ((0, 0), 0) ((0, 0), 0) W0) (hm : m.Perm m') (hml : m'.length ≤ d.length) :
    Fin q s A n w x (put3 w3 (w.heap.size + 2) (.int .i64 x.1.1) (.int .i64 x.1.2) (.int .i64 x.2)) := by
  have hsw := hA s hsA
  have z2 : w.heap.size + 3 ≤ w2.heap.size := Nat.le_trans hsz ht.size
  have e2 := put3_size w2 (w.heap.size + 1) (.int .i64 x.1.1) (.int .i64 x.1.2) (.int .i64 x.2)
  have z3 : w2.heap.size ≤ w3.heap.size := by have := ht'.size; omega
  have e3 := put3_size w3 (w.heap.size + 2) (.int .i64 x.1.1) (.int .i64 x.1.2) (.int .i64 x.2)
  have t2 := put3_turns w2 (w.heap.size + 1) (.int .i64 x.1.1) (.int .i64 x.1.2) (.int .i64 x.2)
  have t3 := put3_turns w3 (w.heap.size + 2) (.int .i64 x.1.1) (.int .i64 x.1.2) (.int .i64 x.2)
  have hF2 : ∀ k, ext F W0 w2 k → A k ∨ w.heap.size + 3 ≤ k := fun k hk => by rcases hk with h | h; exact Or.inl (hFA k h); right; omega
  have hsx : ¬ ext F W0 w2 s := fun hk => by rcases hk with h | h; exact hsF h; omega
  have q2 : QO (put3 w2 (w.heap.size + 1) (.int .i64 x.1.1) (.int .i64 x.1.2) (.int .i64 x.2)) q (ext F W0 w2) m := hq.turns t2 fun k hk e => by
    rcases hF2 k hk with h | h
    · have := hA k h; omega
    · omega
  have q3 : QO w3 q (ext F W0 w2) m := q2.turns ht' fun k hk e => hsx (e ▸ hk)
  have q4 : QO (put3 w3 (w.heap.size + 2) (.int .i64 x.1.1) (.int .i64 x.1.2) (.int .i64 x.2)) q (ext F W0 w2) m := q3.turns t3 fun k hk e => by
    rcases hF2 k hk with h | h
    · have := hA k h; omega
    · omega
  have hpb : ∀ a, p' = some a → A a.block ∨ w2.heap.size ≤ a.block := fun a ha => by
    rcases hp' a ha with h | h
    · exact Or.inl (hpA a h)
    · right; omega
  have hplt : ∀ a, p' = some a → a.block < w3.heap.size := fun a ha => (World.ownsRow.lt hr.own a.block (by rw [ha]; rfl)).2
  have r4 : RQ (put3 w3 (w.heap.size + 2) (.int .i64 x.1.1) (.int .i64 x.1.2) (.int .i64 x.2)) s p' cap' m' := hr.turns t3 (by omega) fun a ha e => by
    rcases hpb a ha with h | h
    · have := hA _ h; omega
    · omega
  refine ⟨⟨ext F W0 w2, p', cap', m, m', q4, r4, hm, by omega, fun k hk => ?_, Or.inl hsA, fun a ha => ?_, hsx, fun a ha hk => ?_⟩, ?_, ?_⟩
  · rcases hk with h | h
    · exact Or.inl (hFA k h)
    · right; rw [e3]; omega
  · rcases hpb a ha with h | h
    · exact Or.inl h
    · right; rw [e3]; have := hplt a ha; omega
  · rcases hk with h | h
    · rcases hp' a ha with h1 | h1
      · exact hpF a h1 h
      · have := hA _ (hFA _ h); omega
    · rcases hp' a ha with h1 | h1
      · have := hA _ (hpA a h1); omega
      · omega
  · have k1 : Turns A w W0 := Turns.of_below hB0
    have k2 : Turns A w w2 := k1.trans (ht.mono fun k _ hk => Or.inl (hFA k hk))
    have k3 : Turns A w (put3 w2 (w.heap.size + 1) (.int .i64 x.1.1) (.int .i64 x.1.2) (.int .i64 x.2)) := k2.trans (t2.mono fun k _ hk => Or.inr (by omega))
    have k4 : Turns A w w3 := k3.trans (ht'.mono fun k _ hk => Or.inl (hk ▸ hsA))
    exact k4.trans (t3.mono fun k _ hk => Or.inr (by omega))
  · have b2 : SBx w ((0, 0), 0) ((0, 0), 0) w2 := hx.turns ht fun k hk => hA k (hFA k hk)
    exact (((b2.setx x).turns ht' fun k hk => by omega)).sety x

theorem fin_peek {q s n : Nat} {A F : Nat → Prop} {w W0 w2 w3 : World} {l d : List Qm.It} {x : Qm.It} {p : Option Addr} {cap : Nat}
    (hA : ∀ k, A k → k < w.heap.size) (hB0 : Below w.heap.size w W0) (hsz : w.heap.size + 3 ≤ W0.heap.size) (hFA : ∀ k, F k → A k) (hsA : A s) (hpA : ∀ a, p = some a → A a.block) (hsF : ¬ F s) (hpF : ∀ a, p = some a → ¬ F a.block) (hdn : d.length ≤ n)
    (hq : QO W0 q F l) (ht : Below W0.heap.size W0 w2) (hr : RQ W0 s p cap d)
    (ht' : Below w2.heap.size (put3 w2 (w.heap.size + 1) (.int .i64 x.1.1) (.int .i64 x.1.2) (.int .i64 x.2)) w3) (hx : SBx w ((0, 0), 0) ((0, 0), 0) W0) (hm : l.Perm d) :
    RQ (put3 w2 (w.heap.size + 1) (.int .i64 x.1.1) (.int .i64 x.1.2) (.int .i64 x.2)) s p cap d ∧ Fin q s A n w x (put3 w3 (w.heap.size + 2) (.int .i64 x.1.1) (.int .i64 x.1.2) (.int .i64 x.2)) := by
  have hsw := hA s hsA
  have z2 : w.heap.size + 3 ≤ w2.heap.size := Nat.le_trans hsz ht.size
  have e2 := put3_size w2 (w.heap.size + 1) (.int .i64 x.1.1) (.int .i64 x.1.2) (.int .i64 x.2)
  have z3 : w2.heap.size ≤ w3.heap.size := by have := ht'.size; omega
  have e3 := put3_size w3 (w.heap.size + 2) (.int .i64 x.1.1) (.int .i64 x.1.2) (.int .i64 x.2)
  have t2 := put3_turns w2 (w.heap.size + 1) (.int .i64 x.1.1) (.int .i64 x.1.2) (.int .i64 x.2)
  have t3 := put3_turns w3 (w.heap.size + 2) (.int .i64 x.1.1) (.int .i64 x.1.2) (.int .i64 x.2)
  have ht'' : Turns (fun _ => False) (put3 w2 (w.heap.size + 1) (.int .i64 x.1.1) (.int .i64 x.1.2) (.int .i64 x.2)) w3 := Turns.of_below (by rw [e2]; exact ht')
  have T : Turns (fun k => w.heap.size ≤ k) W0 (put3 w3 (w.heap.size + 2) (.int .i64 x.1.1) (.int .i64 x.1.2) (.int .i64 x.2)) := by
    refine (Turns.of_below ht).trans ((t2.mono fun k _ hk => Or.inl (by omega)).trans ((ht''.mono fun k _ hk => hk.elim).trans (t3.mono fun k _ hk => Or.inl (Or.inl (Or.inl (by omega))))))
  have T2 : Turns (fun k => w.heap.size ≤ k) W0 (put3 w2 (w.heap.size + 1) (.int .i64 x.1.1) (.int .i64 x.1.2) (.int .i64 x.2)) :=
    (Turns.of_below ht).trans (t2.mono fun k _ hk => Or.inl (by omega))
  refine ⟨hr.turns T2 (by omega) (fun a ha e => by have := hA _ (hpA a ha); omega), ⟨F, p, cap, l, d, hq.turns T (fun k hk e => by have := hA k (hFA k hk); omega), hr.turns T (by omega) (fun a ha e => by have := hA _ (hpA a ha); omega), hm, by omega, fun k hk => Or.inl (hFA k hk), Or.inl hsA, fun a ha => Or.inl (hpA a ha), hsF, hpF⟩, ?_, ?_⟩
  · exact (Turns.of_below (F := A) hB0).trans (T.mono fun k _ hk => Or.inr hk)
  · have b2 : SBx w ((0, 0), 0) ((0, 0), 0) w2 := hx.turns (Turns.of_below (F := fun _ => False) ht) fun k hk => hk.elim
    exact (((b2.setx x).turns ht'' fun k hk => hk.elim)).sety x

theorem Pair.cell {q s n : Nat} {A : Nat → Prop} {W : World} (h : Pair W q s A n) : ∃ F p cap, ∃ l d : List Qm.It, QO W q F l ∧ W.cell? ⟨s, 0, none⟩ = some (.slice p d.length cap) ∧ l.length = d.length := by
  obtain ⟨F, p, cap, l, d, h1, h2, h3, -⟩ := h
  exact ⟨F, p, cap, l, d, h1, h2.cell, h3.length_eq⟩

set_option maxRecDepth 100000 in
set_option maxHeartbeats 3000000 in
theorem step_pop (q s : Nat) (A : Nat → Prop) (n : Nat) (t r g : Int) (w : World) (h : Pair w q s A n) (hA : ∀ k, A k → k < w.heap.size)  :
    Calls Try.prog 11 #[.pointer (some ⟨q, 0, none⟩), .pointer (some ⟨s, 0, none⟩), .agg #[.int .i64 1, .int .i64 t, .int .i64 r, .int .i64 g]] w (Stepped q s A n w) := by
  have HA := Lib.hid hA
  have HX0 := Lib.hid (SBx.start w #[.int .i64 1, .int .i64 t, .int .i64 r, .int .i64 g] 38 40 36)
  have HB0 := Lib.hid (show Below w.heap.size w (((w.alloc (.cells #[.int .i64 1, .int .i64 t, .int .i64 r, .int .i64 g] 38)).alloc (.cells #[.int .i64 0, .int .i64 0, .int .i64 0] 40)).alloc (.cells #[.int .i64 0, .int .i64 0, .int .i64 0] 36)) from (((Below.refl _ _).alloc (Nat.le_refl _) _).alloc (by simp) _).alloc (by simp only [World.size_alloc]; omega) _)
  obtain ⟨F, p, cap, l, d, hq, hr, hpm, hdn, hFA, hsA, hpA, hsF, hpF⟩ := h
  have ea0 : (((w.alloc (.cells #[.int .i64 1, .int .i64 t, .int .i64 r, .int .i64 g] 38)).alloc (.cells #[.int .i64 0, .int .i64 0, .int .i64 0] 40)).alloc (.cells #[.int .i64 0, .int .i64 0, .int .i64 0] 36)).cell? ⟨w.heap.size, 0, none⟩ = some (.int .i64 1) := actbox w 1 t r g _ _ _ 0 _ rfl
  have ea1 : (((w.alloc (.cells #[.int .i64 1, .int .i64 t, .int .i64 r, .int .i64 g] 38)).alloc (.cells #[.int .i64 0, .int .i64 0, .int .i64 0] 40)).alloc (.cells #[.int .i64 0, .int .i64 0, .int .i64 0] 36)).cell? ⟨w.heap.size, 1, none⟩ = some (.int .i64 t) := actbox w 1 t r g _ _ _ 1 _ rfl
  have ea2 : (((w.alloc (.cells #[.int .i64 1, .int .i64 t, .int .i64 r, .int .i64 g] 38)).alloc (.cells #[.int .i64 0, .int .i64 0, .int .i64 0] 40)).alloc (.cells #[.int .i64 0, .int .i64 0, .int .i64 0] 36)).cell? ⟨w.heap.size, 2, none⟩ = some (.int .i64 r) := actbox w 1 t r g _ _ _ 2 _ rfl
  have ea3 : (((w.alloc (.cells #[.int .i64 1, .int .i64 t, .int .i64 r, .int .i64 g] 38)).alloc (.cells #[.int .i64 0, .int .i64 0, .int .i64 0] 40)).alloc (.cells #[.int .i64 0, .int .i64 0, .int .i64 0] 36)).cell? ⟨w.heap.size, 3, none⟩ = some (.int .i64 g) := actbox w 1 t r g _ _ _ 3 _ rfl
  have HC := Lib.hid (qpop1 q F l _ (hq.turns (Turns.of_base HB0.out) (fun k hk e => by have := hA k (hFA k hk); omega)))
  have HR0 := Lib.hid (hr.turns (Turns.of_base HB0.out) (by have := hA s hsA; omega) (fun a ha e => by have := hA _ (hpA a ha); omega))
  have HR := Lib.hid (fun w2 x (hx : SBx w ((0, 0), 0) ((0, 0), 0) w2) (ht : Turns F _ w2) => rpop1 s p cap d (put3 w2 (w.heap.size + 1) (.int .i64 (x : Qm.It).1.1) (.int .i64 x.1.2) (.int .i64 x.2)) ((HR0.out.turns ht hsF hpF).turns (put3_turns _ _ _ _ _) (by have := hA s hsA; omega) (fun a ha e => by have := hA _ (hpA a ha); omega)))
  have HFN := Lib.hid (fun w2 w3 m m' (x : Qm.It) p' cap' hq2 ht hr3 hp3 ht3 hm hml => fin_pop (q := q) (s := s) (n := n) (A := A) (F := F) (w := w) (W0 := (((w.alloc (.cells #[.int .i64 1, .int .i64 t, .int .i64 r, .int .i64 g] 38)).alloc (.cells #[.int .i64 0, .int .i64 0, .int .i64 0] 40)).alloc (.cells #[.int .i64 0, .int .i64 0, .int .i64 0] 36))) (w2 := w2) (w3 := w3) (d := d) (m := m) (m' := m') (x := x) (p := p) (p' := p') (cap' := cap') hA HB0.out HX0.out.size hFA hsA hpA hsF hpF hdn hq2 ht hr3 hp3 ht3 HX0.out hm hml)
  have HUN := Lib.hid (fun x x' b b' m m' (h : Tell l x b m) (k : Tell d x' b' m') => h.uniq k hpm)
  have HFA := Lib.hid (fun k hk => hA k (hFA k hk))
  have HSA := Lib.hid hsA
  clear hq hr hpm hFA hpA hA hsF hpF hsA
  go_enter Try.func11, Try.ntmps11
  go_wp2_with fail
  refine HC.out.mono ?_
  rintro e w2 ⟨x, b, m, rfl, hte, hq2, ht2⟩
  have HBX2 := Lib.hid (HX0.out.turns ht2 HFA.out)
  have HTE := Lib.hid hte
  have HQ2 := Lib.hid hq2
  have HT2 := Lib.hid ht2
  have HR2 := Lib.hid (HR.out w2 x HBX2.out ht2)
  clear hte hq2 ht2
  obtain ⟨⟨tx, rx⟩, kx⟩ := x
  unfold itB
  dsimp only at *
  obtain ⟨r0, r1, r2, r3, r4, r5⟩ := res3 HBX2.out.x0 HBX2.out.x1 HBX2.out.x2 (.int .i64 tx) (.int .i64 rx) (.int .i64 kx)
  have x0 := HBX2.out.x0
  have x1 := HBX2.out.x1
  have x2 := HBX2.out.x2
  have xf0 := HBX2.out.fx 0
  have xf1 := HBX2.out.fx 1
  have xf2 := HBX2.out.fx 2
  dsimp only at *
  clear ea0 ea1 ea2 ea3
  go_wp2_with fail
  refine HR2.out.mono ?_
  rintro e w3 ⟨x', b', m', p', cap', rfl, hte', hr3, hp3, ht3⟩
  obtain ⟨rfl, rfl, hm⟩ := HUN.out _ _ _ _ _ _ HTE.out hte'
  have HBX3 := Lib.hid ((HBX2.out.setx ((tx, rx), kx)).turns ht3 (fun k hk => by have := HA.out s HSA.out; omega))
  have HF9 := Lib.hid (HFN.out w2 w3 m m' ((tx, rx), kx) p' cap' HQ2.out HT2.out hr3 hp3 ht3 hm hte'.len)
  clear hte' hr3 hp3 ht3 hm
  clear r0 r1 r2 r3 r4 r5 x0 x1 x2 xf0 xf1 xf2
  unfold itB
  dsimp only at *
  obtain ⟨r0, r1, r2, r3, r4, r5⟩ := res3 HBX3.out.y0 HBX3.out.y1 HBX3.out.y2 (.int .i64 tx) (.int .i64 rx) (.int .i64 kx)
  have x0 := HBX3.out.y0
  have x1 := HBX3.out.y1
  have x2 := HBX3.out.y2
  have xf0 := HBX3.out.fy 0
  have xf1 := HBX3.out.fy 1
  have xf2 := HBX3.out.fy 2
  dsimp only at *
  go_wp2
  all_goals
    clear r0 r1 r2 r3 r4 r5 x0 x1 x2 xf0 xf1 xf2
    have HF8 := Lib.hid (show Fin q s A n w ((tx, rx), kx) (((w3.setCell ⟨w.heap.size + 2, 0, none⟩ (.int .i64 tx)).setCell ⟨w.heap.size + 2, 1, none⟩ (.int .i64 rx)).setCell ⟨w.heap.size + 2, 2, none⟩ (.int .i64 kx)) from HF9.out)
    generalize ((w3.setCell ⟨w.heap.size + 2, 0, none⟩ (.int .i64 tx)).setCell ⟨w.heap.size + 2, 1, none⟩ (.int .i64 rx)).setCell ⟨w.heap.size + 2, 2, none⟩ (.int .i64 kx) = w5 at *
    have HFIN := Lib.hid HF8.out.pair
    have HTN := Lib.hid HF8.out.turns
    have HBX := Lib.hid HF8.out.box
    clear HF8 HF9 HR2 HBX2 HBX3 HT2 HTE HC HR0 HFN HUN
    obtain ⟨F9, p9, cap9, l9, d9, hql, rc, hle⟩ := HFIN.out.cell
    rw [← hle] at rc
    have HQL := Lib.hid hql
    have x0 := HBX.out.x0
    have x1 := HBX.out.x1
    have x2 := HBX.out.x2
    have y0 := HBX.out.y0
    have y1 := HBX.out.y1
    have y2 := HBX.out.y2
    have hl9 := hql.len
    clear hql hle
    dsimp only at x0 x1 x2 y0 y1 y2
    refine wp_region_held_drew (S := Bel _) (by kernel_rfl) (Bel.start _) (fun hS => ?_)
    refine wpAnyH_take (i := 0) (v := ?_) rfl (by kernel_rfl) (by kernel_rfl) (by kernel_rfl) (fun _ _ _ h => h) (Or.inl ⟨by kernel_rfl, ?_⟩) hS ?_
    rotate_left
    · intro W hSW
      go_simp
      all_goals with_reducible rfl
    refine wpAnyH_take (i := 1) (v := ?_) rfl (by kernel_rfl) (by kernel_rfl) (by kernel_rfl) (fun _ _ _ h => h) (Or.inl ⟨by kernel_rfl, ?_⟩) hS ?_
    rotate_left
    · intro W hSW
      have x0' := hSW.get x0
      have x1' := hSW.get x1
      have x2' := hSW.get x2
      go_simp
      all_goals with_reducible rfl
    refine wpAnyH_take (i := 2) (v := ?_) rfl (by kernel_rfl) (by kernel_rfl) (by kernel_rfl) (fun _ _ _ h => h) (Or.inl ⟨by kernel_rfl, ?_⟩) hS ?_
    rotate_left
    · intro W hSW
      go_simp
      all_goals with_reducible rfl
    refine wpAnyH_take (i := 3) (v := ?_) rfl (by kernel_rfl) (by kernel_rfl) (by kernel_rfl) (fun _ _ _ h => h) (Or.inl ⟨by kernel_rfl, ?_⟩) hS ?_
    rotate_left
    · intro W hSW
      have y0' := hSW.get y0
      have y1' := hSW.get y1
      have y2' := hSW.get y2
      go_simp
      all_goals with_reducible rfl
    refine wpAnyH_take (i := 4) (v := ?_) rfl (by kernel_rfl) (by kernel_rfl) (by kernel_rfl) (fun _ _ _ h => h) (Or.inl ⟨by kernel_rfl, ?_⟩) hS ?_
    rotate_left
    · intro W hSW
      go_simp
      all_goals with_reducible rfl
    refine wpAnyH_take (i := 5) (v := ?_) rfl (by kernel_rfl) (by kernel_rfl) (by kernel_rfl) (fun _ _ _ h => h) (Or.inl ⟨by kernel_rfl, ?_⟩) hS ?_
    rotate_left
    · intro W hSW
      go_simp
      all_goals with_reducible rfl
    refine wpAnyH_take (i := 6) (v := ?_) rfl (by kernel_rfl) (by kernel_rfl) (by kernel_rfl) (fun _ _ _ h => h) (Or.inl ⟨by kernel_rfl, ?_⟩) hS ?_
    rotate_left
    · intro W hSW
      go_simp
      all_goals with_reducible rfl
    refine wpAnyH_take (i := 7) (v := ?_) rfl (by kernel_rfl) (by kernel_rfl) (by kernel_rfl) (fun _ _ _ h => h) (Or.inl ⟨by kernel_rfl, ?_⟩) hS ?_
    rotate_left
    · intro W hSW
      have x0' := hSW.get x0
      have x1' := hSW.get x1
      have x2' := hSW.get x2
      go_simp
      all_goals with_reducible rfl
    refine wpAnyH_take (i := 8) (v := ?_) rfl (by kernel_rfl) (by kernel_rfl) (by kernel_rfl) (fun _ _ _ h => h) (Or.inl ⟨by kernel_rfl, ?_⟩) hS ?_
    rotate_left
    · intro W hSW
      go_simp
      all_goals with_reducible rfl
    refine wpAnyH_take (i := 9) (v := ?_) rfl (by kernel_rfl) (by kernel_rfl) (by kernel_rfl) (fun _ _ _ h => h) (Or.inl ⟨by kernel_rfl, ?_⟩) hS ?_
    rotate_left
    · intro W hSW
      have y0' := hSW.get y0
      have y1' := hSW.get y1
      have y2' := hSW.get y2
      go_simp
      all_goals with_reducible rfl
    refine wpAnyH_take (i := 10) (v := ?_) rfl (by kernel_rfl) (by kernel_rfl) (by kernel_rfl) (fun _ _ _ h => h) (Or.inl ⟨by kernel_rfl, ?_⟩) hS ?_
    rotate_left
    · intro W hSW
      go_simp
      all_goals with_reducible rfl
    refine wpAnyH_take (i := 11) (v := ?_) rfl (by kernel_rfl) (by kernel_rfl) (by kernel_rfl) (fun _ _ _ h => h) (Or.inl ⟨by kernel_rfl, ?_⟩) hS ?_
    rotate_left
    · intro W hSW
      go_simp
      all_goals with_reducible rfl
    refine wpAnyH_take (i := 12) (v := ?_) rfl (by kernel_rfl) (by kernel_rfl) (by kernel_rfl) (fun _ _ _ h => h) (Or.inl ⟨by kernel_rfl, ?_⟩) hS ?_
    rotate_left
    · intro W hSW
      go_simp
      all_goals with_reducible rfl
    refine wpAnyH_take (i := 13) (v := ?_) rfl (by kernel_rfl) (by kernel_rfl) (by kernel_rfl) (fun _ _ _ h => h) (Or.inl ⟨by kernel_rfl, ?_⟩) hS ?_
    rotate_left
    · intro W hSW
      go_simp
      all_goals with_reducible rfl
    refine wpAnyH_take (i := 14) (v := ?_) rfl (by kernel_rfl) (by kernel_rfl) (by kernel_rfl) (fun _ _ _ h => h) (Or.inl ⟨by kernel_rfl, ?_⟩) hS ?_
    rotate_left
    · intro W hSW
      go_simp
      all_goals with_reducible rfl
    refine wpAnyH_take (i := 15) (v := ?_) rfl (by kernel_rfl) (by kernel_rfl) (by kernel_rfl) (fun _ _ _ h => h) (Or.inl ⟨by kernel_rfl, ?_⟩) hS ?_
    rotate_left
    · intro W hSW
      go_simp
      all_goals with_reducible rfl
    refine wpAnyH_take (i := 16) (v := ?_) rfl (by kernel_rfl) (by kernel_rfl) (by kernel_rfl) (fun _ _ _ h => h) (Or.inl ⟨by kernel_rfl, ?_⟩) hS ?_
    rotate_left
    · intro W hSW
      go_simp
      all_goals with_reducible rfl
    refine wpAnyH_take (i := 17) (v := ?_) rfl (by kernel_rfl) (by kernel_rfl) (by kernel_rfl) (fun _ _ _ h => h) (Or.inl ⟨by kernel_rfl, ?_⟩) hS ?_
    rotate_left
    · intro W hSW
      go_simp
      all_goals with_reducible rfl
    refine wpAnyH_take (i := 18) (v := ?_) rfl (by kernel_rfl) (by kernel_rfl) (by kernel_rfl) (fun _ _ _ h => h) (Or.inl ⟨by kernel_rfl, ?_⟩) hS ?_
    rotate_left
    · intro W hSW
      go_simp
      all_goals with_reducible rfl
    refine wpAnyH_take (i := 20) (v := ?_) rfl (by kernel_rfl) (by kernel_rfl) (by kernel_rfl) (fun _ _ _ h => h) (Or.inl ⟨by kernel_rfl, ?_⟩) hS ?_
    rotate_left
    · intro W hSW
      go_simp
      all_goals with_reducible rfl
    refine wpAnyH_take (i := 21) (v := ?_) rfl (by kernel_rfl) (by kernel_rfl) (by kernel_rfl) (fun _ _ _ h => h) (Or.inl ⟨by kernel_rfl, ?_⟩) hS ?_
    rotate_left
    · intro W hSW
      go_simp
      all_goals with_reducible rfl
    refine wpAnyH_take (i := 22) (v := ?_) rfl (by kernel_rfl) (by kernel_rfl) (by kernel_rfl) (fun _ _ _ h => h) (Or.inl ⟨by kernel_rfl, ?_⟩) hS ?_
    rotate_left
    · intro W hSW
      go_simp
      all_goals with_reducible rfl
    refine wpAnyH_take (i := 23) (v := ?_) rfl (by kernel_rfl) (by kernel_rfl) (by kernel_rfl) (fun _ _ _ h => h) (Or.inl ⟨by kernel_rfl, ?_⟩) hS ?_
    rotate_left
    · intro W hSW
      have rc' := hSW.get rc
      go_simp
      all_goals with_reducible rfl
    refine wpAnyH_take (i := 24) (v := ?_) rfl (by kernel_rfl) (by kernel_rfl) (by kernel_rfl) (fun _ _ _ h => h) (Or.inl ⟨by kernel_rfl, ?_⟩) hS ?_
    rotate_left
    · intro W hSW
      go_simp
      all_goals with_reducible rfl
    refine wpAnyH_ready (rs := [19]) (by kernel_rfl) (by simp) ?_
    refine AllReadyH.cons rfl (fun K hK => ?_) AllReadyH.nil
    go_simp
    go_wp2_with ((go_at_call 16; refine (qlen_any (HQL.out.below hS)).mono ?_; rintro e wl ⟨rfl, rfl⟩))
    refine hK.out _ _ hS (fun hS => ?_)
    clear hK K
    refine wpAnyH_take (i := 25) (v := ?_) rfl (by kernel_rfl) (by kernel_rfl) (by kernel_rfl) (fun _ _ _ h => h) (Or.inl ⟨by kernel_rfl, ?_⟩) hS ?_
    rotate_left
    · intro W hSW
      go_simp
      all_goals with_reducible rfl
    refine wpAnyH_take (i := 26) (v := ?_) rfl (by kernel_rfl) (by kernel_rfl) (by kernel_rfl) (fun _ _ _ h => h) (Or.inl ⟨by kernel_rfl, ?_⟩) hS ?_
    rotate_left
    · intro W hSW
      go_simp
      all_goals with_reducible rfl
    refine wpAnyH_take (i := 27) (v := ?_) rfl (by kernel_rfl) (by kernel_rfl) (by kernel_rfl) (fun _ _ _ h => h) (Or.inl ⟨by kernel_rfl, ?_⟩) hS ?_
    rotate_left
    · intro W hSW
      go_simp
      all_goals with_reducible rfl
    refine wpAnyH_done (by kernel_rfl) ?_ _
    have HE := Lib.hid (HFIN.out.turns (Turns.of_below (F := fun _ => False) hS) (fun _ _ h => h))
    have HT := Lib.hid (HTN.out.trans (Turns.of_below hS))
    have HZ := Lib.hid (Below.size hS)
    clear hS
    go_simp
    go_wp2
    go_ret
    exact ⟨rfl, HE.out.mono (fun k hk => by rcases hk with h | h; exact Or.inl h; exact Or.inr ⟨h.1, Nat.lt_of_lt_of_le h.2 HZ.out⟩) (Nat.le_refl _), HT.out⟩

set_option maxRecDepth 100000 in
set_option maxHeartbeats 3000000 in
theorem step_peek (q s : Nat) (A : Nat → Prop) (n : Nat) (kd t r g : Int) (w : World) (h : Pair w q s A n) (hA : ∀ k, A k → k < w.heap.size)  (hk0 : kd ≠ 0) (hk1 : kd ≠ 1) :
    Calls Try.prog 11 #[.pointer (some ⟨q, 0, none⟩), .pointer (some ⟨s, 0, none⟩), .agg #[.int .i64 kd, .int .i64 t, .int .i64 r, .int .i64 g]] w (Stepped q s A n w) := by
  have HA := Lib.hid hA
  have HX0 := Lib.hid (SBx.start w #[.int .i64 kd, .int .i64 t, .int .i64 r, .int .i64 g] 38 40 36)
  have HB0 := Lib.hid (show Below w.heap.size w (((w.alloc (.cells #[.int .i64 kd, .int .i64 t, .int .i64 r, .int .i64 g] 38)).alloc (.cells #[.int .i64 0, .int .i64 0, .int .i64 0] 40)).alloc (.cells #[.int .i64 0, .int .i64 0, .int .i64 0] 36)) from (((Below.refl _ _).alloc (Nat.le_refl _) _).alloc (by simp) _).alloc (by simp only [World.size_alloc]; omega) _)
  obtain ⟨F, p, cap, l, d, hq, hr, hpm, hdn, hFA, hsA, hpA, hsF, hpF⟩ := h
  have ea0 : (((w.alloc (.cells #[.int .i64 kd, .int .i64 t, .int .i64 r, .int .i64 g] 38)).alloc (.cells #[.int .i64 0, .int .i64 0, .int .i64 0] 40)).alloc (.cells #[.int .i64 0, .int .i64 0, .int .i64 0] 36)).cell? ⟨w.heap.size, 0, none⟩ = some (.int .i64 kd) := actbox w kd t r g _ _ _ 0 _ rfl
  have ea1 : (((w.alloc (.cells #[.int .i64 kd, .int .i64 t, .int .i64 r, .int .i64 g] 38)).alloc (.cells #[.int .i64 0, .int .i64 0, .int .i64 0] 40)).alloc (.cells #[.int .i64 0, .int .i64 0, .int .i64 0] 36)).cell? ⟨w.heap.size, 1, none⟩ = some (.int .i64 t) := actbox w kd t r g _ _ _ 1 _ rfl
  have ea2 : (((w.alloc (.cells #[.int .i64 kd, .int .i64 t, .int .i64 r, .int .i64 g] 38)).alloc (.cells #[.int .i64 0, .int .i64 0, .int .i64 0] 40)).alloc (.cells #[.int .i64 0, .int .i64 0, .int .i64 0] 36)).cell? ⟨w.heap.size, 2, none⟩ = some (.int .i64 r) := actbox w kd t r g _ _ _ 2 _ rfl
  have ea3 : (((w.alloc (.cells #[.int .i64 kd, .int .i64 t, .int .i64 r, .int .i64 g] 38)).alloc (.cells #[.int .i64 0, .int .i64 0, .int .i64 0] 40)).alloc (.cells #[.int .i64 0, .int .i64 0, .int .i64 0] 36)).cell? ⟨w.heap.size, 3, none⟩ = some (.int .i64 g) := actbox w kd t r g _ _ _ 3 _ rfl
  have HQ0 := Lib.hid (hq.turns (Turns.of_base HB0.out) (fun k hk e => by have := hA k (hFA k hk); omega))
  have HC := Lib.hid (qpeek1 q F l _ HQ0.out)
  have HR0 := Lib.hid (hr.turns (Turns.of_base HB0.out) (by have := hA s hsA; omega) (fun a ha e => by have := hA _ (hpA a ha); omega))
  have HFN := Lib.hid (fun w2 w3 (x : Qm.It) ht ht3 => fin_peek (q := q) (s := s) (n := n) (A := A) (F := F) (w := w) (W0 := (((w.alloc (.cells #[.int .i64 kd, .int .i64 t, .int .i64 r, .int .i64 g] 38)).alloc (.cells #[.int .i64 0, .int .i64 0, .int .i64 0] 40)).alloc (.cells #[.int .i64 0, .int .i64 0, .int .i64 0] 36))) (w2 := w2) (w3 := w3) (l := l) (d := d) (x := x) (p := p) (cap := cap) hA HB0.out HX0.out.size hFA hsA hpA hsF hpF hdn HQ0.out ht HR0.out ht3 HX0.out hpm)
  have HUN := Lib.hid (fun x x' b b' (h : Told l x b) (k : Told d x' b') => h.uniq k hpm)
  have HFA := Lib.hid (fun k hk => hA k (hFA k hk))
  clear hq hr hpm hFA hpA hA hsF hpF hsA
  have k0 : (kd == 0) = false := beq_eq_false_iff_ne.2 hk0
  have k1 : (kd == 1) = false := beq_eq_false_iff_ne.2 hk1
  go_enter Try.func11, Try.ntmps11
  go_wp2_with fail
  refine HC.out.mono ?_
  rintro e w2 ⟨x, b, rfl, hte, ht2⟩
  have HBX2 := Lib.hid (HX0.out.turns (Turns.of_below (F := fun _ => False) ht2) (fun k hk => hk.elim))
  have HTE := Lib.hid hte
  have HT2 := Lib.hid ht2
  have HR2 := Lib.hid (rpeek1 s p cap d _ (HFN.out w2 _ x ht2 (Below.refl _ _)).1)
  clear hte ht2
  obtain ⟨⟨tx, rx⟩, kx⟩ := x
  unfold itB
  dsimp only at *
  obtain ⟨r0, r1, r2, r3, r4, r5⟩ := res3 HBX2.out.x0 HBX2.out.x1 HBX2.out.x2 (.int .i64 tx) (.int .i64 rx) (.int .i64 kx)
  have x0 := HBX2.out.x0
  have x1 := HBX2.out.x1
  have x2 := HBX2.out.x2
  have xf0 := HBX2.out.fx 0
  have xf1 := HBX2.out.fx 1
  have xf2 := HBX2.out.fx 2
  dsimp only at *
  clear ea0 ea1 ea2 ea3
  go_wp2_with fail
  refine HR2.out.mono ?_
  rintro e w3 ⟨x', b', rfl, hte', ht3⟩
  obtain ⟨rfl, rfl⟩ := HUN.out _ _ _ _ HTE.out hte'
  have ht3' : Below w2.heap.size (put3 w2 (w.heap.size + 1) (.int .i64 tx) (.int .i64 rx) (.int .i64 kx)) w3 := by rw [← put3_size w2 (w.heap.size + 1) (.int .i64 tx) (.int .i64 rx) (.int .i64 kx)]; exact ht3
  have HBX3 := Lib.hid ((HBX2.out.setx ((tx, rx), kx)).turns (Turns.of_below (F := fun _ => False) ht3) (fun k hk => hk.elim))
  have HF9 := Lib.hid (HFN.out w2 w3 ((tx, rx), kx) HT2.out ht3').2
  clear hte' ht3 ht3'
  clear r0 r1 r2 r3 r4 r5 x0 x1 x2 xf0 xf1 xf2
  unfold itB
  dsimp only at *
  obtain ⟨r0, r1, r2, r3, r4, r5⟩ := res3 HBX3.out.y0 HBX3.out.y1 HBX3.out.y2 (.int .i64 tx) (.int .i64 rx) (.int .i64 kx)
  have x0 := HBX3.out.y0
  have x1 := HBX3.out.y1
  have x2 := HBX3.out.y2
  have xf0 := HBX3.out.fy 0
  have xf1 := HBX3.out.fy 1
  have xf2 := HBX3.out.fy 2
  dsimp only at *
  go_wp2
  all_goals
    clear r0 r1 r2 r3 r4 r5 x0 x1 x2 xf0 xf1 xf2
    have HF8 := Lib.hid (show Fin q s A n w ((tx, rx), kx) (((w3.setCell ⟨w.heap.size + 2, 0, none⟩ (.int .i64 tx)).setCell ⟨w.heap.size + 2, 1, none⟩ (.int .i64 rx)).setCell ⟨w.heap.size + 2, 2, none⟩ (.int .i64 kx)) from HF9.out)
    generalize ((w3.setCell ⟨w.heap.size + 2, 0, none⟩ (.int .i64 tx)).setCell ⟨w.heap.size + 2, 1, none⟩ (.int .i64 rx)).setCell ⟨w.heap.size + 2, 2, none⟩ (.int .i64 kx) = w5 at *
    have HFIN := Lib.hid HF8.out.pair
    have HTN := Lib.hid HF8.out.turns
    have HBX := Lib.hid HF8.out.box
    clear HF8 HF9 HR2 HBX2 HBX3 HT2 HTE HC HR0 HFN HUN
    obtain ⟨F9, p9, cap9, l9, d9, hql, rc, hle⟩ := HFIN.out.cell
    rw [← hle] at rc
    have HQL := Lib.hid hql
    have x0 := HBX.out.x0
    have x1 := HBX.out.x1
    have x2 := HBX.out.x2
    have y0 := HBX.out.y0
    have y1 := HBX.out.y1
    have y2 := HBX.out.y2
    have hl9 := hql.len
    clear hql hle
    dsimp only at x0 x1 x2 y0 y1 y2
    refine wp_region_held_drew (S := Bel _) (by kernel_rfl) (Bel.start _) (fun hS => ?_)
    refine wpAnyH_take (i := 0) (v := ?_) rfl (by kernel_rfl) (by kernel_rfl) (by kernel_rfl) (fun _ _ _ h => h) (Or.inl ⟨by kernel_rfl, ?_⟩) hS ?_
    rotate_left
    · intro W hSW
      go_simp
      all_goals with_reducible rfl
    refine wpAnyH_take (i := 1) (v := ?_) rfl (by kernel_rfl) (by kernel_rfl) (by kernel_rfl) (fun _ _ _ h => h) (Or.inl ⟨by kernel_rfl, ?_⟩) hS ?_
    rotate_left
    · intro W hSW
      have x0' := hSW.get x0
      have x1' := hSW.get x1
      have x2' := hSW.get x2
      go_simp
      all_goals with_reducible rfl
    refine wpAnyH_take (i := 2) (v := ?_) rfl (by kernel_rfl) (by kernel_rfl) (by kernel_rfl) (fun _ _ _ h => h) (Or.inl ⟨by kernel_rfl, ?_⟩) hS ?_
    rotate_left
    · intro W hSW
      go_simp
      all_goals with_reducible rfl
    refine wpAnyH_take (i := 3) (v := ?_) rfl (by kernel_rfl) (by kernel_rfl) (by kernel_rfl) (fun _ _ _ h => h) (Or.inl ⟨by kernel_rfl, ?_⟩) hS ?_
    rotate_left
    · intro W hSW
      have y0' := hSW.get y0
      have y1' := hSW.get y1
      have y2' := hSW.get y2
      go_simp
      all_goals with_reducible rfl
    refine wpAnyH_take (i := 4) (v := ?_) rfl (by kernel_rfl) (by kernel_rfl) (by kernel_rfl) (fun _ _ _ h => h) (Or.inl ⟨by kernel_rfl, ?_⟩) hS ?_
    rotate_left
    · intro W hSW
      go_simp
      all_goals with_reducible rfl
    refine wpAnyH_take (i := 5) (v := ?_) rfl (by kernel_rfl) (by kernel_rfl) (by kernel_rfl) (fun _ _ _ h => h) (Or.inl ⟨by kernel_rfl, ?_⟩) hS ?_
    rotate_left
    · intro W hSW
      go_simp
      all_goals with_reducible rfl
    refine wpAnyH_take (i := 6) (v := ?_) rfl (by kernel_rfl) (by kernel_rfl) (by kernel_rfl) (fun _ _ _ h => h) (Or.inl ⟨by kernel_rfl, ?_⟩) hS ?_
    rotate_left
    · intro W hSW
      go_simp
      all_goals with_reducible rfl
    refine wpAnyH_take (i := 7) (v := ?_) rfl (by kernel_rfl) (by kernel_rfl) (by kernel_rfl) (fun _ _ _ h => h) (Or.inl ⟨by kernel_rfl, ?_⟩) hS ?_
    rotate_left
    · intro W hSW
      have x0' := hSW.get x0
      have x1' := hSW.get x1
      have x2' := hSW.get x2
      go_simp
      all_goals with_reducible rfl
    refine wpAnyH_take (i := 8) (v := ?_) rfl (by kernel_rfl) (by kernel_rfl) (by kernel_rfl) (fun _ _ _ h => h) (Or.inl ⟨by kernel_rfl, ?_⟩) hS ?_
    rotate_left
    · intro W hSW
      go_simp
      all_goals with_reducible rfl
    refine wpAnyH_take (i := 9) (v := ?_) rfl (by kernel_rfl) (by kernel_rfl) (by kernel_rfl) (fun _ _ _ h => h) (Or.inl ⟨by kernel_rfl, ?_⟩) hS ?_
    rotate_left
    · intro W hSW
      have y0' := hSW.get y0
      have y1' := hSW.get y1
      have y2' := hSW.get y2
      go_simp
      all_goals with_reducible rfl
    refine wpAnyH_take (i := 10) (v := ?_) rfl (by kernel_rfl) (by kernel_rfl) (by kernel_rfl) (fun _ _ _ h => h) (Or.inl ⟨by kernel_rfl, ?_⟩) hS ?_
    rotate_left
    · intro W hSW
      go_simp
      all_goals with_reducible rfl
    refine wpAnyH_take (i := 11) (v := ?_) rfl (by kernel_rfl) (by kernel_rfl) (by kernel_rfl) (fun _ _ _ h => h) (Or.inl ⟨by kernel_rfl, ?_⟩) hS ?_
    rotate_left
    · intro W hSW
      go_simp
      all_goals with_reducible rfl
    refine wpAnyH_take (i := 12) (v := ?_) rfl (by kernel_rfl) (by kernel_rfl) (by kernel_rfl) (fun _ _ _ h => h) (Or.inl ⟨by kernel_rfl, ?_⟩) hS ?_
    rotate_left
    · intro W hSW
      go_simp
      all_goals with_reducible rfl
    refine wpAnyH_take (i := 13) (v := ?_) rfl (by kernel_rfl) (by kernel_rfl) (by kernel_rfl) (fun _ _ _ h => h) (Or.inl ⟨by kernel_rfl, ?_⟩) hS ?_
    rotate_left
    · intro W hSW
      go_simp
      all_goals with_reducible rfl
    refine wpAnyH_take (i := 14) (v := ?_) rfl (by kernel_rfl) (by kernel_rfl) (by kernel_rfl) (fun _ _ _ h => h) (Or.inl ⟨by kernel_rfl, ?_⟩) hS ?_
    rotate_left
    · intro W hSW
      go_simp
      all_goals with_reducible rfl
    refine wpAnyH_take (i := 15) (v := ?_) rfl (by kernel_rfl) (by kernel_rfl) (by kernel_rfl) (fun _ _ _ h => h) (Or.inl ⟨by kernel_rfl, ?_⟩) hS ?_
    rotate_left
    · intro W hSW
      go_simp
      all_goals with_reducible rfl
    refine wpAnyH_take (i := 16) (v := ?_) rfl (by kernel_rfl) (by kernel_rfl) (by kernel_rfl) (fun _ _ _ h => h) (Or.inl ⟨by kernel_rfl, ?_⟩) hS ?_
    rotate_left
    · intro W hSW
      go_simp
      all_goals with_reducible rfl
    refine wpAnyH_take (i := 17) (v := ?_) rfl (by kernel_rfl) (by kernel_rfl) (by kernel_rfl) (fun _ _ _ h => h) (Or.inl ⟨by kernel_rfl, ?_⟩) hS ?_
    rotate_left
    · intro W hSW
      go_simp
      all_goals with_reducible rfl
    refine wpAnyH_take (i := 18) (v := ?_) rfl (by kernel_rfl) (by kernel_rfl) (by kernel_rfl) (fun _ _ _ h => h) (Or.inl ⟨by kernel_rfl, ?_⟩) hS ?_
    rotate_left
    · intro W hSW
      go_simp
      all_goals with_reducible rfl
    refine wpAnyH_take (i := 20) (v := ?_) rfl (by kernel_rfl) (by kernel_rfl) (by kernel_rfl) (fun _ _ _ h => h) (Or.inl ⟨by kernel_rfl, ?_⟩) hS ?_
    rotate_left
    · intro W hSW
      go_simp
      all_goals with_reducible rfl
    refine wpAnyH_take (i := 21) (v := ?_) rfl (by kernel_rfl) (by kernel_rfl) (by kernel_rfl) (fun _ _ _ h => h) (Or.inl ⟨by kernel_rfl, ?_⟩) hS ?_
    rotate_left
    · intro W hSW
      go_simp
      all_goals with_reducible rfl
    refine wpAnyH_take (i := 22) (v := ?_) rfl (by kernel_rfl) (by kernel_rfl) (by kernel_rfl) (fun _ _ _ h => h) (Or.inl ⟨by kernel_rfl, ?_⟩) hS ?_
    rotate_left
    · intro W hSW
      go_simp
      all_goals with_reducible rfl
    refine wpAnyH_take (i := 23) (v := ?_) rfl (by kernel_rfl) (by kernel_rfl) (by kernel_rfl) (fun _ _ _ h => h) (Or.inl ⟨by kernel_rfl, ?_⟩) hS ?_
    rotate_left
    · intro W hSW
      have rc' := hSW.get rc
      go_simp
      all_goals with_reducible rfl
    refine wpAnyH_take (i := 24) (v := ?_) rfl (by kernel_rfl) (by kernel_rfl) (by kernel_rfl) (fun _ _ _ h => h) (Or.inl ⟨by kernel_rfl, ?_⟩) hS ?_
    rotate_left
    · intro W hSW
      go_simp
      all_goals with_reducible rfl
    refine wpAnyH_ready (rs := [19]) (by kernel_rfl) (by simp) ?_
    refine AllReadyH.cons rfl (fun K hK => ?_) AllReadyH.nil
    go_simp
    go_wp2_with ((go_at_call 16; refine (qlen_any (HQL.out.below hS)).mono ?_; rintro e wl ⟨rfl, rfl⟩))
    refine hK.out _ _ hS (fun hS => ?_)
    clear hK K
    refine wpAnyH_take (i := 25) (v := ?_) rfl (by kernel_rfl) (by kernel_rfl) (by kernel_rfl) (fun _ _ _ h => h) (Or.inl ⟨by kernel_rfl, ?_⟩) hS ?_
    rotate_left
    · intro W hSW
      go_simp
      all_goals with_reducible rfl
    refine wpAnyH_take (i := 26) (v := ?_) rfl (by kernel_rfl) (by kernel_rfl) (by kernel_rfl) (fun _ _ _ h => h) (Or.inl ⟨by kernel_rfl, ?_⟩) hS ?_
    rotate_left
    · intro W hSW
      go_simp
      all_goals with_reducible rfl
    refine wpAnyH_take (i := 27) (v := ?_) rfl (by kernel_rfl) (by kernel_rfl) (by kernel_rfl) (fun _ _ _ h => h) (Or.inl ⟨by kernel_rfl, ?_⟩) hS ?_
    rotate_left
    · intro W hSW
      go_simp
      all_goals with_reducible rfl
    refine wpAnyH_done (by kernel_rfl) ?_ _
    have HE := Lib.hid (HFIN.out.turns (Turns.of_below (F := fun _ => False) hS) (fun _ _ h => h))
    have HT := Lib.hid (HTN.out.trans (Turns.of_below hS))
    have HZ := Lib.hid (Below.size hS)
    clear hS
    go_simp
    go_wp2
    go_ret
    exact ⟨rfl, HE.out.mono (fun k hk => by rcases hk with h | h; exact Or.inl h; exact Or.inr ⟨h.1, Nat.lt_of_lt_of_le h.2 HZ.out⟩) (Nat.le_refl _), HT.out⟩

end Go.Proofs.Ytmenlfgfhnnmgaa
