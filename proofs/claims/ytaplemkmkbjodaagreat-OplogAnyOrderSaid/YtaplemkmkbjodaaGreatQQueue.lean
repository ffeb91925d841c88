/-
  THE PROGRAM's QUEUE: ours, Len, Clone, New, Push, Peek, Pop.
  No conditions but sizes.
-/
import Derived.Test.YtaplemkmkbjodaaGreatQHeap
namespace Go.Proofs.YtaplemkmkbjodaaGreat
open Go.RowKit

/-- a queue at block q, of blocks of F, that holds these items (in whatever order) -/
def QO (w : World) (q : Nat) (F : Nat → Prop) (l : List Qm.It) : Prop :=
  ∃ c p cap d, w.cell? ⟨q, 0, none⟩ = some (.pointer (some ⟨c, 0, none⟩)) ∧ q ≠ c ∧ (∀ a, p = some a → a.block ≠ q) ∧ HQ w c p cap d ∧ Qm.HeapF d d.length 0 ∧ d.Perm l ∧ F q ∧ F c ∧ ∀ k, inRow p k → F k
theorem QO.mono {w : World} {q : Nat} {F G : Nat → Prop} {l : List Qm.It} (h : QO w q F l) (hm : ∀ k, F k → G k) : QO w q G l := by
  obtain ⟨c, p, cap, d, h1, h2, h3, h4, h5, h6, h7, h8, h9⟩ := h
  exact ⟨c, p, cap, d, h1, h2, h3, h4, h5, h6, hm _ h7, hm _ h8, fun k hk => hm _ (h9 k hk)⟩
theorem QO.perm {w : World} {q : Nat} {F : Nat → Prop} {l m : List Qm.It} (h : QO w q F l) (hp : l.Perm m) : QO w q F m := by
  obtain ⟨c, p, cap, d, h1, h2, h3, h4, h5, h6, h7⟩ := h
  exact ⟨c, p, cap, d, h1, h2, h3, h4, h5, h6.trans hp, h7⟩
theorem QO.turns {w w' : World} {q : Nat} {F G : Nat → Prop} {l : List Qm.It} (h : QO w q F l) (ht : Turns G w w') (hd : ∀ k, F k → ¬ G k) : QO w' q F l := by
  obtain ⟨c, p, cap, d, h1, h2, h3, h4, h5, h6, h7, h8, h9⟩ := h
  exact ⟨c, p, cap, d, ht.cell h1 (hd _ h7), h2, h3, h4.turns ht (hd _ h8) (fun a ha => hd _ (h9 _ ⟨a, ha, rfl⟩)), h5, h6, h7, h8, h9⟩
theorem QO.below {w w' : World} {q : Nat} {F : Nat → Prop} {l : List Qm.It} (h : QO w q F l) (hb : Below w.heap.size w w') : QO w' q F l :=
  h.turns (G := fun _ => False) (Turns.of_below hb) (fun _ _ h => h)
theorem QO.len {w : World} {q : Nat} {F : Nat → Prop} {l : List Qm.It} (h : QO w q F l) : l.length ≤ 2000 := by
  obtain ⟨c, p, cap, d, h1, h2, h3, h4, h5, h6, -⟩ := h
  rw [← h6.length_eq]; exact h4.len

/-- the blocks of F, and new ones -/
def ext (F : Nat → Prop) (w w' : World) (k : Nat) : Prop := F k ∨ (w.heap.size ≤ k ∧ k < w'.heap.size)

set_option maxRecDepth 100000 in
set_option maxHeartbeats 1000000 in
theorem ours_yes (q c : Nat) (w : World) (h : w.cell? ⟨q, 0, none⟩ = some (.pointer (some ⟨c, 0, none⟩))) : Calls Tryz.prog 102 #[.pointer (some ⟨q, 0, none⟩)] w fun e w' => e = .returned (.bool true) ∧ w = w' := by
  go_enter Tryz.func102, Tryz.ntmps102
  go_wp2
  go_ret
  exact ⟨rfl, rfl⟩

/-- no queue, or one that nobody made -/
def NoQ (w : World) (v : Value) : Prop := v = .pointer none ∨ ∃ b, v = .pointer (some ⟨b, 0, none⟩) ∧ w.cell? ⟨b, 0, none⟩ = some (.pointer none)

set_option maxRecDepth 100000 in
set_option maxHeartbeats 1000000 in
theorem ours_no (v : Value) (w : World) (h : NoQ w v) : Calls Tryz.prog 102 #[v] w fun e w' => e = .returned (.bool false) ∧ w = w' := by
  rcases h with rfl | ⟨b, rfl, hc⟩
  · go_enter Tryz.func102, Tryz.ntmps102
    go_wp2
    go_ret
    exact ⟨rfl, rfl⟩
  · go_enter Tryz.func102, Tryz.ntmps102
    go_wp2
    go_ret
    exact ⟨rfl, rfl⟩

set_option maxRecDepth 100000 in
set_option maxHeartbeats 1000000 in
theorem qlen_no (v : Value) (w : World) (h : NoQ w v) : Calls Tryz.prog 82 #[v] w fun e w' => e = .returned (.int .i64 0) ∧ w = w' := by
  have HO := Lib.hid (ours_no v w h)
  clear h
  go_enter Tryz.func82, Tryz.ntmps82
  go_wp2_with fail
  refine HO.out.mono ?_
  rintro e w1 ⟨rfl, rfl⟩
  go_wp2
  go_ret
  exact ⟨rfl, rfl⟩

set_option maxRecDepth 100000 in
set_option maxHeartbeats 1000000 in
theorem qlen_at (q c : Nat) (p : Option Addr) (n k : Nat) (w : World) (h : w.cell? ⟨q, 0, none⟩ = some (.pointer (some ⟨c, 0, none⟩))) (hc : w.cell? ⟨c, 0, none⟩ = some (.slice p n k)) :
    Calls Tryz.prog 82 #[.pointer (some ⟨q, 0, none⟩)] w fun e w' => e = .returned (.int .i64 (n : Int)) ∧ w = w' := by
  have HO := Lib.hid (ours_yes q c w h)
  have HL := Lib.hid (fun W => qitems_len p n k W)
  go_enter Tryz.func82, Tryz.ntmps82
  go_wp2_with fail
  refine HO.out.mono ?_
  rintro e w1 ⟨rfl, rfl⟩
  go_wp2_with fail
  refine (HL.out _).mono ?_
  rintro e w1 ⟨rfl, rfl⟩
  go_wp2
  go_ret
  exact ⟨rfl, rfl⟩

theorem qlen_any {q : Nat} {F : Nat → Prop} {l : List Qm.It} {w : World} (h : QO w q F l) :
    Calls Tryz.prog 82 #[.pointer (some ⟨q, 0, none⟩)] w fun e w' => e = .returned (.int .i64 (l.length : Int)) ∧ w = w' := by
  obtain ⟨c, p, cap, d, h1, h2, h3, h4, h5, h6, -⟩ := h
  rw [← h6.length_eq]
  exact qlen_at q c p d.length cap w h1 h4.cell

set_option maxRecDepth 100000 in
set_option maxHeartbeats 1000000 in
theorem qpush_no (v : Value) (t r k : Int) (w : World) (h : NoQ w v) : Calls Tryz.prog 81 #[v, .agg #[.int .i64 t, .int .i64 r, .int .i64 k]] w fun e w' => e = .returned (.int .i64 1) ∧ Below w.heap.size w w' := by
  have hb := (Below.refl w.heap.size w).alloc (Nat.le_refl _) (.cells #[.int .i64 t, .int .i64 r, .int .i64 k] 115)
  have h' : NoQ (w.alloc (.cells #[.int .i64 t, .int .i64 r, .int .i64 k] 115)) v := by
    rcases h with h | ⟨b, h, hc⟩
    · exact Or.inl h
    · exact Or.inr ⟨b, h, by rw [hb.cell (cell_lt hc)]; exact hc⟩
  have HO := Lib.hid (ours_no v _ h')
  have HB := Lib.hid hb
  clear h h' hb
  go_enter Tryz.func81, Tryz.ntmps81
  go_wp2_with fail
  refine HO.out.mono ?_
  rintro e w1 ⟨rfl, rfl⟩
  go_wp2
  go_ret
  exact ⟨rfl, HB.out⟩

/-- what Push leaves -/
def QPushed (q : Nat) (F : Nat → Prop) (l : List Qm.It) (w : World) (e : Ending) (w' : World) : Prop :=
  e = .returned (.int .i64 0) ∧ QO w' q (ext F w w') l ∧ Turns F w w'

set_option maxRecDepth 100000 in
set_option maxHeartbeats 2000000 in
theorem qpush_any (q : Nat) (F : Nat → Prop) (l : List Qm.It) (t r k : Int) (w : World) (h : QO w q F l) (hl : l.length < 2000) :
    Calls Tryz.prog 81 #[.pointer (some ⟨q, 0, none⟩), .agg #[.int .i64 t, .int .i64 r, .int .i64 k]] w (QPushed q F (((t, r), k) :: l) w) := by
  have hb := (Below.refl w.heap.size w).alloc (Nat.le_refl _) (.cells #[.int .i64 t, .int .i64 r, .int .i64 k] 115)
  have h' := h.below hb
  obtain ⟨c, p, cap, d, h1, h2, h3, h4, h5, h6, h7, h8, h9⟩ := h'
  have hdl : d.length < 2000 := by rw [h6.length_eq]; exact hl
  have HO := Lib.hid (ours_yes q c _ h1)
  have HL := Lib.hid (qlen_at q c p d.length cap _ h1 h4.cell)
  have hq0 := h1
  have HB := Lib.hid hb
  have HP := Lib.hid (fun W (hW : Below (w.alloc (.cells #[.int .i64 t, .int .i64 r, .int .i64 k] 115)).heap.size (w.alloc (.cells #[.int .i64 t, .int .i64 r, .int .i64 k] 115)) W) => hpush_any c p cap d t r k W (h4.below hW) h5 hdl)
  have HE := Lib.hid (show ∀ W, Below (w.alloc (.cells #[.int .i64 t, .int .i64 r, .int .i64 k] 115)).heap.size (w.alloc (.cells #[.int .i64 t, .int .i64 r, .int .i64 k] 115)) W → ∀ e w', HPushed c p (d ++ [((t, r), k)]) W e w' → QPushed q F (((t, r), k) :: l) w (.returned (.int .i64 0)) w' from by
    rintro W hW e w' ⟨-, p', cap', d', k1, k2, k3, k4, k5⟩
    have hbW : Below w.heap.size w W := hb.trans (hW.mono (by simp))
    refine ⟨rfl, ⟨c, p', cap', d', k4.cell (by rw [hW.cell (cell_lt h1)]; exact h1) ?_, h2, fun a ha => ?_, k1, k3, ?_, Or.inl h7, Or.inl h8, ?_⟩, (Turns.of_below hbW).trans (k4.mono fun j _ hj => Or.inl ?_)⟩
    · rintro (e | ⟨a, ha, e⟩)
      · exact h2 e
      · exact h3 a ha e
    · rcases k5 a ha with h | h
      · exact h3 a h
      · have := cell_lt h1
        have := hW.size
        simp at *
        omega
    · refine k2.trans ?_
      exact (List.perm_append_comm (l₁ := d) (l₂ := [((t, r), k)])).trans (h6.cons _)
    · rintro j ⟨a, ha, rfl⟩
      rcases k5 a ha with h | h
      · exact Or.inl (h9 _ ⟨a, h, rfl⟩)
      · exact Or.inr ⟨Nat.le_trans hbW.size h.1, h.2⟩
    · rcases hj with rfl | hj
      · exact h8
      · exact h9 _ hj)
  have hd3 : decide (1048576 ≤ (d.length : Int)) = false := decide_eq_false (by omega)
  clear h hb h1 h2 h3 h4 h5 h6 h7 h8 h9
  go_enter Tryz.func81, Tryz.ntmps81
  go_wp2_with fail
  refine HO.out.mono ?_
  rintro e w1 ⟨rfl, rfl⟩
  go_wp2_with fail
  refine HL.out.mono ?_
  rintro e w1 ⟨rfl, rfl⟩
  go_wp2
  go_region_with (go_at_call 103; refine (HP.out _ (Below.refl _ _).drew).mono ?_; intro e w' hpp; have hE := HE.out _ (Below.refl _ _).drew e w' hpp; have hee := hpp.1; subst hee; clear hpp)
  all_goals
    have HE2 := Lib.hid hE
    clear hE
    go_wp2
    go_ret
    exact HE2.out

end Go.Proofs.YtaplemkmkbjodaaGreat
