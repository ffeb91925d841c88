/-
  THE LAW's Light: are batches few and small?
  No conditions.
-/
import Derived.Test.YtaplemkmkbjodaaLgSeq
import Derived.Test.YtaplemkmkbjodaaGH
namespace Go.Proofs.Ytaplemkmkbjodaa
open Go.RowKit

def light1 (x : Bat) : Bool := lightT x && decide (x.ops.length ≤ 20)
def light9 (l : List Be) : Bool := (l.all fun e => light1 e.x) && decide (l.length ≤ 80)
theorem light9_no {l : List Be} {k : Nat} (hk : k < l.length) (h : light1 (beOf l k).x = false) : light9 l = false := by
  unfold light9
  rw [Bool.and_eq_false_iff]
  refine Or.inl ?_
  rw [List.all_eq_false]
  exact ⟨_, beOf_mem hk, by rw [h]; simp⟩
theorem light9_end {l : List Be} {k : Nat} (hk : k = l.length ∨ k = 90) (hl : k ≤ l.length) (h : ∀ j, j < k → light1 (beOf l j).x = true) : light9 l = decide (l.length ≤ 80) := by
  unfold light9
  by_cases h80 : l.length ≤ 80
  · obtain rfl : k = l.length := by omega
    have : (l.all fun e => light1 e.x) = true := List.all_eq_true.2 fun e he => by
      obtain ⟨j, hj, rfl⟩ := List.mem_iff_getElem.1 he
      have := h j hj
      rwa [show beOf l j = l[j] from by simp [beOf, hj]] at this
    rw [this, Bool.true_and]
  · rw [decide_eq_false h80, Bool.and_false]
theorem light9_mem {l : List Be} (h : light9 l = true) {e : Be} (he : e ∈ l) : lightT e.x = true ∧ e.x.ops.length ≤ 20 := by
  simp only [light9, light1, Bool.and_eq_true, decide_eq_true_eq, List.all_eq_true] at h
  exact h.1 e he
theorem light9_len {l : List Be} (h : light9 l = true) : l.length ≤ 80 := by
  simp only [light9, Bool.and_eq_true, decide_eq_true_eq] at h
  exact h.2

set_option maxRecDepth 100000 in
set_option maxHeartbeats 8000000 in
theorem light9_any (p : Option Addr) (c : Nat) (l : List Be) (w : World) (h : Rd w p (beCells l)) (ho : ∀ e, e ∈ l → Bops w e.x e.p e.c) :
    Calls Try.prog 19 #[.slice p l.length c] w fun e w' => e = .returned (.bool (light9 l)) ∧ Below w.heap.size w w' := by
  have HR := Lib.hid (fun W (hW : Below w.heap.size w W) => h.below hW)
  have HLI := Lib.hid (fun (k : Nat) (hk : k < l.length) W (hW : Below w.heap.size w W) => light_any (beOf l k).x (beOf l k).p (beOf l k).c W ((ho _ (beOf_mem hk)).kept hW))
  clear h ho
  go_enter Try.func19, Try.ntmps19
  go_wp2
  go_loopw [3] (fun i wr => ∃ k : Nat, k ≤ l.length ∧ k ≤ 90 ∧ i = .int .i64 (k : Int) ∧ (∀ j, j < k → light1 (beOf l j).x = true) ∧ Below w.heap.size w wr) (fun i _ => l.length - (intOf i).toNat)
  case atStart => exact ⟨0, Nat.zero_le _, by omega, rfl, fun j hj => by omega, Below.refl _ _⟩
  case round =>
    obtain ⟨k, hk, hk9, rfl, hgood, hbw⟩ := hrel
    have HG := Lib.hid hgood
    have HB := Lib.hid hbw
    clear hgood hbw
    by_cases hlt : k < l.length
    · have hd0 : decide ((k : Int) < (l.length : Int)) = true := decide_eq_true (by omega)
      by_cases h90 : k < 90
      · have hd1 : decide ((k : Int) < 90) = true := decide_eq_true (by omega)
        have HRD := Lib.hid (HR.out _ HB.out)
        obtain ⟨b, o, rfl, -⟩ := HRD.out.addr (by rw [beCells_length]; omega)
        have HC := Lib.hid (HLI.out k hlt wr HB.out)
        have HN := Lib.hid (fun (h : light1 (beOf l k).x = false) => light9_no hlt h)
        have HGK := Lib.hid (fun (h : light1 (beOf l k).x = true) => (fun j hj => by
          by_cases e : j = k
          · rw [e]; exact h
          · exact HG.out j (by omega) : ∀ j, j < k + 1 → light1 (beOf l j).x = true))
        go_wp2_with (refine wpList_load_be btR rfl _ rfl b o k rfl l HRD.out hlt ?_)
        refine HC.out.mono ?_
        rintro e w2 ⟨rfl, hb2⟩
        have hrd2 := (HRD.out.below hb2).be k hlt
        have HB2 := Lib.hid (HB.out.trans (hb2.mono HB.out.size))
        have y3 := hrd2 3 _ rfl
        clear hb2 hrd2
        cases hl : lightT (beOf l k).x with
        | false =>
          have HE := Lib.hid (HN.out (by unfold light1; rw [hl]; rfl))
          clear hl
          go_wp2
          go_ret
          exact ⟨by rw [HE.out]; rfl, HB2.out⟩
        | true =>
          by_cases h20 : (beOf l k).x.ops.length ≤ 20
          · have hd2 : decide (20 < ((beOf l k).x.ops.length : Int)) = false := decide_eq_false (by omega)
            have HGN := Lib.hid (HGK.out (by unfold light1; rw [hl, decide_eq_true h20]; rfl))
            clear hl h20
            go_wp2
            go_roundw
            case rel => exact ⟨k + 1, by omega, by omega, by go_num, HGN.out, HB2.out⟩
            case measure => simp [intOf]; omega
          · have hd2 : decide (20 < ((beOf l k).x.ops.length : Int)) = true := decide_eq_true (by omega)
            have HE := Lib.hid (HN.out (by unfold light1; rw [hl, decide_eq_false h20]; rfl))
            clear hl h20
            go_wp2
            go_ret
            exact ⟨by rw [HE.out]; rfl, HB2.out⟩
      · have hd1 : decide ((k : Int) < 90) = false := decide_eq_false (by omega)
        have HE := Lib.hid (light9_end (Or.inr (by omega)) hk HG.out)
        go_wp2
        go_ret
        exact ⟨by rw [HE.out, ← show decide ((l.length : Int) ≤ 80) = decide (l.length ≤ 80) from decide_eq_decide.2 (by omega)]; rfl, HB.out⟩
    · obtain rfl : k = l.length := by omega
      have hd0 : decide ((l.length : Int) < (l.length : Int)) = false := decide_eq_false (by omega)
      have HE := Lib.hid (light9_end (Or.inl rfl) (Nat.le_refl _) HG.out)
      go_wp2
      go_ret
      exact ⟨by rw [HE.out, ← show decide ((l.length : Int) ≤ 80) = decide (l.length ≤ 80) from decide_eq_decide.2 (by omega)]; rfl, HB.out⟩
end Go.Proofs.Ytaplemkmkbjodaa
