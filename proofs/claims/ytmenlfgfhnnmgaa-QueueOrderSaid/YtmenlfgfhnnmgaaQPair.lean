/-
  A QUEUE OF THE PROGRAM's BESIDE ONE OF THE DOCUMENT's: both hold the same items, in blocks of their own; what Pop and Peek tell of them.
  No conditions but sizes.
-/
import Derived.Test.YtmenlfgfhnnmgaaQRefPop
namespace Go.Proofs.Ytmenlfgfhnnmgaa
open Go.RowKit

/-- a queue of the program's and one of the document's with the same items, at most n, in blocks of A -/
def Pair (w : World) (q s : Nat) (A : Nat → Prop) (n : Nat) : Prop :=
  ∃ F p cap l d, QO w q F l ∧ RQ w s p cap d ∧ l.Perm d ∧ d.length ≤ n ∧ (∀ k, F k → A k) ∧ A s ∧ (∀ a, p = some a → A a.block) ∧ ¬ F s ∧ (∀ a, p = some a → ¬ F a.block)
theorem Pair.turns {w w' : World} {q s : Nat} {A G : Nat → Prop} {n : Nat} (h : Pair w q s A n) (ht : Turns G w w') (hd : ∀ k, A k → ¬ G k) : Pair w' q s A n := by
  obtain ⟨F, p, cap, l, d, h1, h2, h3, h4, h5, h6, h7, h8, h9⟩ := h
  exact ⟨F, p, cap, l, d, h1.turns ht fun k hk => hd k (h5 k hk), h2.turns ht (hd s h6) (fun a ha => hd _ (h7 a ha)), h3, h4, h5, h6, h7, h8, h9⟩
theorem Pair.mono {w : World} {q s : Nat} {A B : Nat → Prop} {n m : Nat} (h : Pair w q s A n) (hA : ∀ k, A k → B k) (hn : n ≤ m) : Pair w q s B m := by
  obtain ⟨F, p, cap, l, d, h1, h2, h3, h4, h5, h6, h7, h8, h9⟩ := h
  exact ⟨F, p, cap, l, d, h1, h2, h3, by omega, fun k hk => hA k (h5 k hk), hA s h6, fun a ha => hA _ (h7 a ha), h8, h9⟩

/-- what Pop tells of a row: the least one, and what is left -/
def Tell (l : List Qm.It) (x : Qm.It) (b : Bool) (m : List Qm.It) : Prop := (l = [] ∧ m = [] ∧ x = ((0, 0), 0) ∧ b = false) ∨ (Qm.Least x l ∧ (x :: m).Perm l ∧ b = true)
theorem Tell.uniq {l d m m' : List Qm.It} {x x' : Qm.It} {b b' : Bool} (h : Tell l x b m) (k : Tell d x' b' m') (hp : l.Perm d) : x = x' ∧ b = b' ∧ m.Perm m' := by
  rcases h with ⟨rfl, rfl, rfl, rfl⟩ | ⟨h1, h2, rfl⟩ <;> rcases k with ⟨rfl, rfl, rfl, rfl⟩ | ⟨k1, k2, rfl⟩
  · exact ⟨rfl, rfl, List.Perm.refl _⟩
  · have := k1.1; rw [← hp.mem_iff] at this; cases this
  · have := h1.1; rw [hp.mem_iff] at this; cases this
  · obtain rfl := (h1.perm hp).uniq k1
    exact ⟨rfl, rfl, (List.perm_cons x).1 (h2.trans (hp.trans k2.symm))⟩
theorem Tell.len {l m : List Qm.It} {x : Qm.It} {b : Bool} (h : Tell l x b m) : m.length ≤ l.length := by
  rcases h with ⟨rfl, rfl, -, -⟩ | ⟨-, h2, -⟩
  · exact Nat.le_refl _
  · rw [← h2.length_eq]; simp
/-- .. and Peek -/
def Told (l : List Qm.It) (x : Qm.It) (b : Bool) : Prop := (l = [] ∧ x = ((0, 0), 0) ∧ b = false) ∨ (Qm.Least x l ∧ b = true)
theorem Told.uniq {l d : List Qm.It} {x x' : Qm.It} {b b' : Bool} (h : Told l x b) (k : Told d x' b') (hp : l.Perm d) : x = x' ∧ b = b' := by
  rcases h with ⟨rfl, rfl, rfl⟩ | ⟨h1, rfl⟩ <;> rcases k with ⟨rfl, rfl, rfl⟩ | ⟨k1, rfl⟩
  · exact ⟨rfl, rfl⟩
  · have := k1.1; rw [← hp.mem_iff] at this; cases this
  · have := h1.1; rw [hp.mem_iff] at this; cases this
  · exact ⟨(h1.perm hp).uniq k1, rfl⟩

def QPop1 (q : Nat) (F : Nat → Prop) (l : List Qm.It) (w : World) (e : Ending) (w' : World) : Prop := ∃ x b m, e = .returned (itB x b) ∧ Tell l x b m ∧ QO w' q (ext F w w') m ∧ Turns F w w'
theorem qpop1 (q : Nat) (F : Nat → Prop) (l : List Qm.It) (w : World) (h : QO w q F l) : Calls Try.prog 12 #[.pointer (some ⟨q, 0, none⟩)] w (QPop1 q F l w) :=
  (qpop_any q F l w h).mono fun e w' hh => by
    rcases hh with ⟨⟨h1, h2, h3⟩ | ⟨x, m, h1, h2, h3, h4⟩, ht⟩
    · exact ⟨_, _, [], h2, Or.inl ⟨h1, rfl, rfl, rfl⟩, h3, ht⟩
    · exact ⟨_, _, m, h3, Or.inr ⟨h1, h2, rfl⟩, h4, ht⟩
def RPop1 (s : Nat) (p : Option Addr) (d : List Qm.It) (w : World) (e : Ending) (w' : World) : Prop :=
  ∃ x b m p' cap', e = .returned (itB x b) ∧ Tell d x b m ∧ RQ w' s p' cap' m ∧ (∀ a, p' = some a → p = some a ∨ w.heap.size ≤ a.block) ∧ Turns (fun k => k = s) w w'
theorem rpop1 (s : Nat) (p : Option Addr) (cap : Nat) (d : List Qm.It) (w : World) (h : RQ w s p cap d) : Calls Try.prog 30 #[.pointer (some ⟨s, 0, none⟩)] w (RPop1 s p d w) :=
  (rpop_any s p cap d w h).mono fun e w' hh => by
    obtain ⟨p', cap', m, h0, h1, hp, ht⟩ := hh
    rcases h1 with ⟨h1, h2, h3⟩ | ⟨x, h1, h2, h3⟩
    · exact ⟨_, _, m, p', cap', h3, Or.inl ⟨h1, h2, rfl, rfl⟩, h0, hp, ht⟩
    · exact ⟨_, _, m, p', cap', h3, Or.inr ⟨h1, h2, rfl⟩, h0, hp, ht⟩
def Peek1 (l : List Qm.It) (w : World) (e : Ending) (w' : World) : Prop := ∃ x b, e = .returned (itB x b) ∧ Told l x b ∧ Below w.heap.size w w'
theorem qpeek1 (q : Nat) (F : Nat → Prop) (l : List Qm.It) (w : World) (h : QO w q F l) : Calls Try.prog 13 #[.pointer (some ⟨q, 0, none⟩)] w (Peek1 l w) :=
  (qpeek_any q F l w h).mono fun e w' hh => by
    rcases hh with ⟨⟨h1, h2⟩ | ⟨x, h1, h2⟩, ht⟩
    · exact ⟨_, _, h2, Or.inl ⟨h1, rfl, rfl⟩, ht⟩
    · exact ⟨_, _, h2, Or.inr ⟨h1, rfl⟩, ht⟩
theorem rpeek1 (s : Nat) (p : Option Addr) (cap : Nat) (d : List Qm.It) (w : World) (h : RQ w s p cap d) : Calls Try.prog 31 #[.pointer (some ⟨s, 0, none⟩)] w (Peek1 d w) :=
  (rpeek_any s p cap d w h).mono fun e w' hh => by
    rcases hh with ⟨⟨h1, h2⟩ | ⟨x, h1, h2⟩, ht⟩
    · exact ⟨_, _, h2, Or.inl ⟨h1, rfl, rfl⟩, ht⟩
    · exact ⟨_, _, h2, Or.inr ⟨h1, rfl⟩, ht⟩

/-- the boxes of a step: the act, and the two answers -/
structure SBx (w : World) (x y : Qm.It) (W : World) : Prop where
  size : w.heap.size + 3 ≤ W.heap.size
  x0 : W.cell? ⟨w.heap.size + 1, 0, none⟩ = some (.int .i64 x.1.1)
  x1 : W.cell? ⟨w.heap.size + 1, 1, none⟩ = some (.int .i64 x.1.2)
  x2 : W.cell? ⟨w.heap.size + 1, 2, none⟩ = some (.int .i64 x.2)
  y0 : W.cell? ⟨w.heap.size + 2, 0, none⟩ = some (.int .i64 y.1.1)
  y1 : W.cell? ⟨w.heap.size + 2, 1, none⟩ = some (.int .i64 y.1.2)
  y2 : W.cell? ⟨w.heap.size + 2, 2, none⟩ = some (.int .i64 y.2)
  fx : ∀ o, W.frozen? ⟨w.heap.size + 1, o, none⟩ = false
  fy : ∀ o, W.frozen? ⟨w.heap.size + 2, o, none⟩ = false
theorem SBx.turns {w W W' : World} {x y : Qm.It} {G : Nat → Prop} (h : SBx w x y W) (ht : Turns G W W') (hG : ∀ k, G k → k < w.heap.size) : SBx w x y W' := by
  have n1 : ¬ G (w.heap.size + 1) := fun hg => by have := hG _ hg; omega
  have n2 : ¬ G (w.heap.size + 2) := fun hg => by have := hG _ hg; omega
  have hs := h.size
  exact ⟨Nat.le_trans h.size ht.size, ht.cell h.x0 n1, ht.cell h.x1 n1, ht.cell h.x2 n1, ht.cell h.y0 n2, ht.cell h.y1 n2, ht.cell h.y2 n2,
    fun o => by rw [ht.frozen (by show w.heap.size + 1 < _; omega) n1]; exact h.fx o, fun o => by rw [ht.frozen (by show w.heap.size + 2 < _; omega) n2]; exact h.fy o⟩
theorem put3_frozen (W : World) (b : Nat) (u v z : Value) (p : Addr) : (put3 W b u v z).frozen? p = W.frozen? p := by
  unfold put3; rw [World.frozen?_setCell, World.frozen?_setCell, World.frozen?_setCell]
theorem put3_size (W : World) (b : Nat) (u v z : Value) : (put3 W b u v z).heap.size = W.heap.size := by
  unfold put3; simp [World.setCell]
theorem put3_other (W : World) (b : Nat) (u v z : Value) {p : Addr} (hp : p.block ≠ b) : (put3 W b u v z).cell? p = W.cell? p := by
  have n : ∀ o, (⟨b, o, none⟩ : Addr) ≠ p := fun o e => hp (by rw [← e])
  unfold put3; rw [cell_other (n 2), cell_other (n 1), cell_other (n 0)]
theorem SBx.setx {w W : World} {x y : Qm.It} (h : SBx w x y W) (x' : Qm.It) : SBx w x' y (put3 W (w.heap.size + 1) (.int .i64 x'.1.1) (.int .i64 x'.1.2) (.int .i64 x'.2)) := by
  obtain ⟨-, -, -, r3, r4, r5⟩ := res3 h.x0 h.x1 h.x2 (.int .i64 x'.1.1) (.int .i64 x'.1.2) (.int .i64 x'.2)
  exact ⟨by rw [put3_size]; exact h.size, r3, r4, r5, by rw [put3_other _ _ _ _ _ (by simp)]; exact h.y0, by rw [put3_other _ _ _ _ _ (by simp)]; exact h.y1, by rw [put3_other _ _ _ _ _ (by simp)]; exact h.y2,
    fun o => by rw [put3_frozen]; exact h.fx o, fun o => by rw [put3_frozen]; exact h.fy o⟩
theorem SBx.sety {w W : World} {x y : Qm.It} (h : SBx w x y W) (y' : Qm.It) : SBx w x y' (put3 W (w.heap.size + 2) (.int .i64 y'.1.1) (.int .i64 y'.1.2) (.int .i64 y'.2)) := by
  obtain ⟨-, -, -, r3, r4, r5⟩ := res3 h.y0 h.y1 h.y2 (.int .i64 y'.1.1) (.int .i64 y'.1.2) (.int .i64 y'.2)
  exact ⟨by rw [put3_size]; exact h.size, by rw [put3_other _ _ _ _ _ (by simp)]; exact h.x0, by rw [put3_other _ _ _ _ _ (by simp)]; exact h.x1, by rw [put3_other _ _ _ _ _ (by simp)]; exact h.x2, r3, r4, r5,
    fun o => by rw [put3_frozen]; exact h.fx o, fun o => by rw [put3_frozen]; exact h.fy o⟩
theorem at3 (w : World) (vs : Array Value) (E : TypeId) (n : Nat) (hn : w.heap.size = n) : (∀ o, (w.alloc (.cells vs E)).cell? ⟨n, o, none⟩ = vs[o]?) ∧ (∀ o, (w.alloc (.cells vs E)).frozen? ⟨n, o, none⟩ = false) := by
  subst hn
  exact ⟨fun o => World.cell?_alloc_at _ _ _ _ rfl, fun o => World.frozen?_alloc_at _ _ _ _ rfl⟩
theorem SBx.start (w : World) (vs : Array Value) (E F G : TypeId) : SBx w ((0, 0), 0) ((0, 0), 0) (((w.alloc (.cells vs E)).alloc (.cells #[.int .i64 0, .int .i64 0, .int .i64 0] F)).alloc (.cells #[.int .i64 0, .int .i64 0, .int .i64 0] G)) := by
  have e1 : (w.alloc (.cells vs E)).heap.size = w.heap.size + 1 := by simp
  have e2 : ((w.alloc (.cells vs E)).alloc (.cells #[.int .i64 0, .int .i64 0, .int .i64 0] F)).heap.size = w.heap.size + 2 := by simp
  obtain ⟨hX, hfX⟩ := at3 (w.alloc (.cells vs E)) #[Value.int .i64 0, .int .i64 0, .int .i64 0] F _ e1
  obtain ⟨hY, hfY⟩ := at3 ((w.alloc (.cells vs E)).alloc (.cells #[.int .i64 0, .int .i64 0, .int .i64 0] F)) #[Value.int .i64 0, .int .i64 0, .int .i64 0] G _ e2
  have hb : Below (w.heap.size + 2) ((w.alloc (.cells vs E)).alloc (.cells #[.int .i64 0, .int .i64 0, .int .i64 0] F)) (((w.alloc (.cells vs E)).alloc (.cells #[.int .i64 0, .int .i64 0, .int .i64 0] F)).alloc (.cells #[.int .i64 0, .int .i64 0, .int .i64 0] G)) :=
    (Below.refl _ _).alloc (by rw [e2]; omega) _
  refine ⟨by simp, ?_, ?_, ?_, by rw [hY]; rfl, by rw [hY]; rfl, by rw [hY]; rfl, fun o => ?_, hfY⟩
  · rw [hb.cell (by simp), hX]; rfl
  · rw [hb.cell (by simp), hX]; rfl
  · rw [hb.cell (by simp), hX]; rfl
  · rw [hb.frozen (by simp)]; exact hfX o

end Go.Proofs.Ytmenlfgfhnnmgaa
