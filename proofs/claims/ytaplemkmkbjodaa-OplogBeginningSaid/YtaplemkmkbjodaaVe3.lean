/-
  Covers, Compare and Total, of both sides.
  No conditions.
-/
import Derived.Test.YtaplemkmkbjodaaVe2
import Derived.Deep.RegionHeld
import Derived.Deep.QuietTactic
import Derived.BigQuiet
namespace Go.Proofs.Ytaplemkmkbjodaa
open Go.RowKit

/-- nothing of w has turned -/
def VBel (w W : World) : Prop := Below w.heap.size w W
theorem VBel.start (w : World) : VBel w w.drew := (Below.refl _ _).drew
theorem VBel.get {w W : World} (h : VBel w W) {a : Addr} {v : Value} (hc : w.cell? a = some v) : W.cell? a = some v := by rw [Below.cell h (cell_lt hc)]; exact hc
theorem VBel.trans {w W W' : World} (h : VBel w W) (hb : Below W.heap.size W W') : VBel w W' := Below.trans h (hb.mono (Below.size h))
theorem VAt.bel {w W : World} {b : Nat} {a : Nat → Int} (h : VAt w b a) (hb : VBel w W) : VAt W b a := h.kept hb
/-- a vector read, in a region that draws its order -/
theorem exec_load_vec {t : TypeId} (V : VT Try.prog t) {c : Act} {w : World} {o : Oper} {x : Operand} (ho : o.op = .load t x) {b : Nat} {v : Nat → Int} (hx : c.eval x = .pointer (some ⟨b, 0, none⟩)) (hv : VAt w b v) :
    (execOp c.eval o).run Try.prog w = .ok (.value (.agg (vecA v))) w := by
  unfold execOp
  simp only [ho, hx, Sem.run_bind, V.load hv, Result.andThen_ok, Sem.run_pure]
/-- two new rows -/
theorem two_rows (w : World) (a b : Nat → Int) (T U : TypeId) :
    ∀ W, W = (w.alloc (.cells (vecA a) T)).alloc (.cells (vecA b) U) → VAt W w.heap.size a ∧ VAt W (w.heap.size + 1) b ∧ Below w.heap.size w W := by
  rintro W rfl
  have h1 : ∀ (w : World) (o : Obj), Below w.heap.size w (w.alloc o) := fun w o => (Below.refl _ _).alloc (Nat.le_refl _) _
  have e1 : (w.alloc (.cells (vecA a) T)).heap.size = w.heap.size + 1 := by simp
  refine ⟨(VAt.new w a T).kept (h1 _ _), ?_, (h1 w _).trans ((h1 _ _).mono (by simp))⟩
  have := VAt.new (w.alloc (.cells (vecA a) T)) b U
  rw [e1] at this; exact this

set_option maxRecDepth 100000 in
set_option maxHeartbeats 2000000 in
theorem covers_any (a b : Nat → Int) (w : World) : Calls Try.prog 21 #[.agg (vecA a), .agg (vecA b)] w fun e w' => e = .returned (.bool (coversB a b)) ∧ Below w.heap.size w w' := by
  obtain ⟨V1, V2, hb0⟩ := two_rows w a b 43 43 _ rfl
  have HB0 := Lib.hid hb0
  have HV1 := Lib.hid V1
  have HV2 := Lib.hid V2
  clear hb0 V1 V2
  go_enter Try.func21, Try.ntmps21
  go_wp2
  obtain ⟨wx, hwx⟩ : ∃ wx : World, wx = (w.alloc (.cells (vecA a) 43)).alloc (.cells (vecA b) 43) := ⟨_, rfl⟩
  rw [← hwx] at HB0 HV1 HV2 ⊢
  clear hwx
  refine wp_region_held_drew (S := VBel wx) (by kernel_rfl) (VBel.start wx) (fun hS => ?_)
  refine wpAnyH_take (i := 0) (v := .agg (vecA _)) rfl (by kernel_rfl) (by kernel_rfl) (by kernel_rfl) (fun _ _ _ h => h) (Or.inl ⟨by kernel_rfl, fun W hSW => exec_load_vec vtP rfl rfl (HV1.out.bel hSW)⟩) hS ?_
  refine wpAnyH_take (i := 1) (v := .agg (vecA _)) rfl (by kernel_rfl) (by kernel_rfl) (by kernel_rfl) (fun _ _ _ h => h) (Or.inl ⟨by kernel_rfl, fun W hSW => exec_load_vec vtP rfl rfl (HV2.out.bel hSW)⟩) hS ?_
  refine wpAnyH_take (i := 3) (v := .agg (vecA _)) rfl (by kernel_rfl) (by kernel_rfl) (by kernel_rfl) (fun _ _ _ h => h) (Or.inl ⟨by kernel_rfl, fun W hSW => exec_load_vec vtP rfl rfl (HV1.out.bel hSW)⟩) hS ?_
  refine wpAnyH_ready (rs := [2]) (by kernel_rfl) (by simp) ?_
  refine AllReadyH.cons rfl (fun K hK => ?_) AllReadyH.nil
  go_simp
  go_wp2_with ((go_at_call 46; refine (join_any a b _).mono ?_; rintro e wn ⟨rfl, hbn⟩))
  refine hK.out _ _ (hS.trans hbn) (fun hS => ?_)
  clear hK K
  refine wpAnyH_take (i := 4) (v := ?_) rfl (by kernel_rfl) (by kernel_rfl) (by kernel_rfl) (fun _ _ _ h => h) (Or.inl ⟨by kernel_rfl, ?_⟩) hS ?_
  rotate_left
  · intro W hSW
    have hEq := vtP.eq W (joinF a b) (a)
    go_simp
    all_goals with_reducible rfl
  refine wpAnyH_take (i := 5) (v := ?_) rfl (by kernel_rfl) (by kernel_rfl) (by kernel_rfl) (fun _ _ _ h => h) (Or.inl ⟨by kernel_rfl, ?_⟩) hS ?_
  rotate_left
  · intro W hSW
    go_simp
    all_goals with_reducible rfl
  refine wpAnyH_done (by kernel_rfl) ?_ _
  have HE := Lib.hid (HB0.out.trans (Below.mono hS HB0.out.size))
  go_wp2
  go_ret
  exact ⟨vret_bool (covers_join a b), HE.out⟩

theorem coversTo_step {a b : Nat → Int} {k : Nat} (h : ∀ i, i < k → b i ≤ a i) (hk : ¬ a k < b k) : ∀ i, i < k + 1 → b i ≤ a i := fun i hi => by
  rcases Nat.lt_or_ge i k with e | e
  · exact h i e
  · obtain rfl : i = k := by omega
    omega
theorem covers_no {a b : Nat → Int} {k : Nat} (hk : k < 16) (h : a k < b k) : coversB a b = false := by
  rw [Bool.eq_false_iff]
  intro hc
  have := coversB_iff.1 hc k hk
  omega

end Go.Proofs.Ytaplemkmkbjodaa
