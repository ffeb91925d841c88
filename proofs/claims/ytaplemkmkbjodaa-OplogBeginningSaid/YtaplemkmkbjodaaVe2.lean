/-
  Join and Meet, of both sides.
  No conditions.
-/
import Derived.Test.YtaplemkmkbjodaaVe1
import Derived.Outline
namespace Go.Proofs.Ytaplemkmkbjodaa
open Go.RowKit

/-- three new rows -/
theorem three_rows (w : World) (a b z : Nat → Int) (T U V : TypeId) :
    ∀ W, W = ((w.alloc (.cells (vecA a) T)).alloc (.cells (vecA b) U)).alloc (.cells (vecA z) V) →
      VAt W w.heap.size a ∧ VAt W (w.heap.size + 1) b ∧ VAt W (w.heap.size + 2) z ∧ Below w.heap.size w W := by
  rintro W rfl
  have h1 : ∀ (w : World) (o : Obj), Below w.heap.size w (w.alloc o) := fun w o => (Below.refl _ _).alloc (Nat.le_refl _) _
  have e1 : (w.alloc (.cells (vecA a) T)).heap.size = w.heap.size + 1 := by simp
  have e2 : ((w.alloc (.cells (vecA a) T)).alloc (.cells (vecA b) U)).heap.size = w.heap.size + 2 := by simp
  refine ⟨((VAt.new w a T).kept (h1 _ _)).kept (h1 _ _), ?_, ?_, ((h1 w _).trans ((h1 _ _).mono (by simp))).trans ((h1 _ _).mono (by simp only [World.size_alloc]; omega))⟩
  · have := (VAt.new (w.alloc (.cells (vecA a) T)) b U).kept (h1 _ (.cells (vecA z) V))
    rw [e1] at this; exact this
  · have := VAt.new ((w.alloc (.cells (vecA a) T)).alloc (.cells (vecA b) U)) z V
    rw [e2] at this; exact this
theorem upTo_zero (f a : Nat → Int) : upTo 0 f a = a := funext fun i => by simp [upTo]
theorem upTo_step (f a : Nat → Int) (k : Nat) : (fun j => if j = k then f k else upTo k f a j) = upTo (k + 1) f a := funext fun j => by
  unfold upTo
  by_cases e : j = k
  · subst e; simp
  · by_cases e2 : j < k
    · simp [e, e2]; omega
    · have : ¬ j < k + 1 := by omega
      simp [e, e2, this]
theorem upTo_all (f a : Nat → Int) : ∀ i, i < 16 → upTo 16 f a i = f i := fun i hi => by simp [upTo, hi]
theorem upTo_at (f a : Nat → Int) (k : Nat) : upTo k f a k = a k := by simp [upTo]

set_option maxRecDepth 100000 in
set_option maxHeartbeats 2000000 in
theorem join_any (a b : Nat → Int) (w : World) : Calls Try.prog 46 #[.agg (vecA a), .agg (vecA b)] w fun e w' => e = .returned (.agg (vecA (joinF a b))) ∧ Below w.heap.size w w' := by
  obtain ⟨V1, V2, V3, hb0⟩ := three_rows w a b (fun _ => 0) 43 43 43 _ rfl
  have HB0 := Lib.hid hb0
  have HV1 := Lib.hid V1
  have HV2 := Lib.hid V2
  have HV3 := Lib.hid V3
  clear hb0 V1 V3
  go_enter Try.func46, Try.ntmps46
  skip
  go_wp2_with (refine wpList_load_vec vtP rfl _ rfl _ rfl _ (by assumption) ?_)
  clear V2
  go_loopw [8] (fun i wr => ∃ k : Nat, k ≤ 16 ∧ i = .int .i64 (k : Int) ∧ VAt wr w.heap.size (upTo k (joinF a b) a) ∧ VAt wr (w.heap.size + 1) b ∧ VAt wr (w.heap.size + 2) (fun _ => 0) ∧ Below w.heap.size w wr) (fun i _ => 16 - (intOf i).toNat)
  case atStart => exact ⟨0, by omega, rfl, by rw [upTo_zero]; exact HV1.out, HV2.out, HV3.out, HB0.out⟩
  case round =>
    obtain ⟨k, hk, rfl, V1, V2, V3, hb⟩ := hrel
    by_cases hlt : k < 16
    · have ix := fun (W : World) => vtP.index W b k hlt
      have c1 := V1.cell k hlt
      have f1 := V1.free k
      rw [upTo_at] at c1
      have HN := Lib.hid (show VAt (wr.setCell ⟨w.heap.size, k, none⟩ (.int .i64 (if a k < b k then b k else a k))) w.heap.size (upTo (k + 1) (joinF a b) a) from by
        have := V1.set k (joinF a b k)
        rw [upTo_step] at this
        exact this)
      have HN2 := Lib.hid (V2.setOther (c := w.heap.size) (by omega) k (.int .i64 (if a k < b k then b k else a k)))
      have HN3 := Lib.hid (V3.setOther (c := w.heap.size) (by omega) k (.int .i64 (if a k < b k then b k else a k)))
      have HB := Lib.hid (hb.setCell (p := ⟨w.heap.size, k, none⟩) (Nat.le_refl _) (.int .i64 (if a k < b k then b k else a k)))
      clear V1 V2 V3 hb
      go_wp2
      go_roundw
      case rel => exact ⟨k + 1, by omega, by go_num, HN.out, HN2.out, HN3.out, HB.out⟩
      case measure => simp [intOf]; omega
    · obtain rfl : k = 16 := by omega
      have V1' : VAt wr w.heap.size (joinF a b) := V1.congr (upTo_all _ _)
      have V3' : VAt wr (w.heap.size + 1 + 1) (fun _ => 0) := V3
      have HB := Lib.hid hb
      clear V1 V2 V3 hb
      go_wp2_with (first | (refine wpList_load_vec vtP rfl _ rfl _ rfl _ (by assumption) ?_) | (refine wpList_store_vec vtP rfl _ _ rfl _ rfl _ _ (by assumption) rfl ?_; intro w2 hv2 _ _ hb2))
      exact bodyPost_ret (results_vec vtP _ rfl hv2 rfl) rfl ⟨rfl, hb2 _ _ HB.out (by omega)⟩

end Go.Proofs.Ytaplemkmkbjodaa
