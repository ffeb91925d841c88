/-
  QueueRows' walk.
  Conditions: none.
-/
import Derived.Test.YtknjojmcjkpjiaaQRowsOf
import Derived.Test.YtknjojmcjkpjiaaQItems
import Derived.Test.YtknjojmcjkpjiaaQRefPlace
import Derived.Test.YtknjojmcjkpjiaaQKnows
namespace Go.Proofs.Ytknjojmcjkpjiaa
open Go.RowKit

/-- the three boxes of the law -/
structure Bx (t r g t' r' g' st sr : Int) (w W : World) : Prop where
  below : Below w.heap.size w W
  a0 : W.cell? ⟨w.heap.size, 0, none⟩ = some (.int .i64 t)
  a1 : W.cell? ⟨w.heap.size, 1, none⟩ = some (.int .i64 r)
  a2 : W.cell? ⟨w.heap.size, 2, none⟩ = some (.int .i64 g)
  b0 : W.cell? ⟨w.heap.size + 1, 0, none⟩ = some (.int .i64 t')
  b1 : W.cell? ⟨w.heap.size + 1, 1, none⟩ = some (.int .i64 r')
  b2 : W.cell? ⟨w.heap.size + 1, 2, none⟩ = some (.int .i64 g')
  s0 : W.cell? ⟨w.heap.size + 2, 0, none⟩ = some (.int .i64 st)
  s1 : W.cell? ⟨w.heap.size + 2, 1, none⟩ = some (.int .i64 sr)
theorem Bx.step {t r g t' r' g' st sr : Int} {w W W' : World} (h : Bx t r g t' r' g' st sr w W) (hb : Below W.heap.size W W') : Bx t r g t' r' g' st sr w W' :=
  ⟨h.below.trans (hb.mono h.below.size), by rw [hb.cell (cell_lt h.a0)]; exact h.a0, by rw [hb.cell (cell_lt h.a1)]; exact h.a1, by rw [hb.cell (cell_lt h.a2)]; exact h.a2,
   by rw [hb.cell (cell_lt h.b0)]; exact h.b0, by rw [hb.cell (cell_lt h.b1)]; exact h.b1, by rw [hb.cell (cell_lt h.b2)]; exact h.b2, by rw [hb.cell (cell_lt h.s0)]; exact h.s0, by rw [hb.cell (cell_lt h.s1)]; exact h.s1⟩
theorem Bx.start (t r g t' r' g' st sr : Int) (w : World) (E F G : TypeId) :
    Bx t r g t' r' g' st sr w (((w.alloc (.cells #[.int .i64 t, .int .i64 r, .int .i64 g] E)).alloc (.cells #[.int .i64 t', .int .i64 r', .int .i64 g'] F)).alloc (.cells #[.int .i64 st, .int .i64 sr] G)) := by
  have h1 : ∀ (w : World) (o : Obj), Below w.heap.size w (w.alloc o) := fun w o => (Below.refl _ _).alloc (Nat.le_refl _) _
  have hA : ∀ (o : Nat), (w.alloc (.cells #[.int .i64 t, .int .i64 r, .int .i64 g] E)).cell? ⟨w.heap.size, o, none⟩ = #[Value.int .i64 t, .int .i64 r, .int .i64 g][o]? := fun o => World.cell?_alloc_at _ _ _ _ rfl
  have hB : ∀ (w : World) (o : Nat), (w.alloc (.cells #[.int .i64 t', .int .i64 r', .int .i64 g'] F)).cell? ⟨w.heap.size, o, none⟩ = #[Value.int .i64 t', .int .i64 r', .int .i64 g'][o]? := fun w o => World.cell?_alloc_at _ _ _ _ rfl
  have hC : ∀ (w : World) (o : Nat), (w.alloc (.cells #[.int .i64 st, .int .i64 sr] G)).cell? ⟨w.heap.size, o, none⟩ = #[Value.int .i64 st, .int .i64 sr][o]? := fun w o => World.cell?_alloc_at _ _ _ _ rfl
  have e1 : (w.alloc (.cells #[.int .i64 t, .int .i64 r, .int .i64 g] E)).heap.size = w.heap.size + 1 := by simp
  have e2 : ((w.alloc (.cells #[.int .i64 t, .int .i64 r, .int .i64 g] E)).alloc (.cells #[.int .i64 t', .int .i64 r', .int .i64 g'] F)).heap.size = w.heap.size + 2 := by simp
  have hB' := hB (w.alloc (.cells #[.int .i64 t, .int .i64 r, .int .i64 g] E))
  have hC' := hC ((w.alloc (.cells #[.int .i64 t, .int .i64 r, .int .i64 g] E)).alloc (.cells #[.int .i64 t', .int .i64 r', .int .i64 g'] F))
  rw [e1] at hB'
  rw [e2] at hC'
  refine ⟨((h1 w _).trans ((h1 _ _).mono (by simp))).trans ((h1 _ _).mono (by simp only [World.size_alloc]; omega)), ?_, ?_, ?_, ?_, ?_, ?_, ?_, ?_⟩
  · rw [(h1 _ _).cell (by simp only [World.size_alloc]; omega), (h1 _ _).cell (by simp), hA]; rfl
  · rw [(h1 _ _).cell (by simp only [World.size_alloc]; omega), (h1 _ _).cell (by simp), hA]; rfl
  · rw [(h1 _ _).cell (by simp only [World.size_alloc]; omega), (h1 _ _).cell (by simp), hA]; rfl
  · rw [(h1 _ _).cell (by simp), hB']; rfl
  · rw [(h1 _ _).cell (by simp), hB']; rfl
  · rw [(h1 _ _).cell (by simp), hB']; rfl
  · rw [hC']; rfl
  · rw [hC']; rfl
theorem flat_le : ∀ {L : List (List Qm.St)} {b : Nat}, (∀ i, i < L.length → (rowAt L i).length ≤ b) → (flatL L).length ≤ L.length * b
  | [], b, _ => by simp [flatL]
  | a :: L, b, h => by
    have h0 := h 0 (by simp)
    have h1 := flat_le (L := L) (b := b) fun i hi => h (i + 1) (by simpa using hi)
    have e : (flatL (a :: L)).length = a.length + (flatL L).length := by simp [flatL]
    have e0 : rowAt (a :: L) 0 = a := rfl
    rw [e0] at h0
    rw [e, List.length_cons, Nat.succ_mul]
    omega
theorem rd_two (w : World) (x y : Qm.It) (E : TypeId) : Rd (w.alloc (.cells #[.int .i64 x.1.1, .int .i64 x.1.2, .int .i64 x.2, .int .i64 y.1.1, .int .i64 y.1.2, .int .i64 y.2] E)) (some ⟨w.heap.size, 0, none⟩) (itCells [x, y]) := fun _ => ⟨_, 0, rfl, fun i u hu => by
  rw [Nat.zero_add, World.cell?_alloc_at _ _ _ _ rfl]
  rw [← hu]
  simp [itCells]⟩

set_option maxRecDepth 100000 in
set_option maxHeartbeats 8000000 in
theorem queueRows_walk (t r g t' r' g' : Int) (p : Option Addr) (cap : Nat) (L : List (List Qm.St)) (st sr : Int) (w : World) (h : Rws w p L) (_ : L.length ≤ cap) (_ : p = none → cap = 0) :
    Calls Try.prog 5 #[.agg #[.int .i64 t, .int .i64 r, .int .i64 g], .agg #[.int .i64 t', .int .i64 r', .int .i64 g'], .slice p L.length cap, .agg #[.int .i64 st, .int .i64 sr]] w (Yes w) := by
  have HX0 := Lib.hid (Bx.start t r g t' r' g' st sr w 36 36 34)
  have H0 := Lib.hid h
  clear h
  by_cases hL : 20 < L.length
  · go_enter Try.func5, Try.ntmps5
    go_wp2_with fail
    refine (knows_any _).mono ?_
    rintro e w1 ⟨rfl, hb⟩
    have HE := Lib.hid ((HX0.out.step hb).below)
    clear hb
    go_wp2
    go_ret
    exact ⟨rfl, HE.out⟩
  · have d20 : decide (20 < (L.length : Int)) = false := decide_eq_false (by omega)
    have hL20 : L.length ≤ 20 := by omega
    clear hL
    go_enter Try.func5, Try.ntmps5
    go_wp2
    go_loopw [9] (fun i wr => ∃ k : Nat, k ≤ L.length ∧ i = .int .i64 (k : Int) ∧ (∀ j, j < k → (rowAt L j).length ≤ 60) ∧ Bx t r g t' r' g' st sr w wr) (fun i _ => L.length - (intOf i).toNat)
    case atStart => exact ⟨0, Nat.zero_le _, rfl, fun j hj => by omega, HX0.out⟩
    case round =>
      obtain ⟨k, hk, rfl, hall, hx⟩ := hrel
      have HX := Lib.hid hx
      have HA := Lib.hid hall
      clear hx hall
      by_cases hlt : k < L.length
      · obtain ⟨b, o, rfl, hc⟩ := H0.out (by omega)
        obtain ⟨pi, ci, h1, -, -⟩ := hc k hlt
        have h1' : wr.cell? ⟨b, o + k, none⟩ = some (.slice pi (rowAt L k).length ci) := by rw [HX.out.below.cell (cell_lt h1)]; exact h1
        have hbl : b < wr.heap.size := cell_lt h1'
        clear hc h1
        by_cases h60 : 60 < (rowAt L k).length
        · go_wp2_with fail
          refine (knows_any _).mono ?_
          rintro e w1 ⟨rfl, hb⟩
          have HE := Lib.hid ((HX.out.step hb).below)
          clear hb
          go_wp2
          go_ret
          exact ⟨rfl, HE.out⟩
        · have d60 : decide (60 < ((rowAt L k).length : Int)) = false := decide_eq_false (by omega)
          have HA2 := Lib.hid (show ∀ j, j < k + 1 → (rowAt L j).length ≤ 60 from fun j hj => by
            by_cases e : j = k
            · subst e; omega
            · exact HA.out j (by omega))
          clear h60
          go_wp2
          go_roundw
          case rel => exact ⟨k + 1, by omega, by go_num, HA2.out, HX.out⟩
          case measure => simp [intOf]; omega
      · obtain rfl : k = L.length := by omega
        have hfl : (flatL L).length ≤ 1200 := by have := flat_le HA.out; omega
        have HRO := Lib.hid (rows_any p cap L wr (H0.out.below HX.out.below) HA.out hL20)
        clear hlt
        go_wp2_with fail
        refine HRO.out.mono ?_
        rintro e w1 ⟨px, cx, rfl, hx, -, -, hb1⟩
        have HX1 := Lib.hid (HX.out.step hb1)
        have HRX := Lib.hid hx
        have HME := Lib.hid (merge_any px cx L w1 hx (by omega) (by omega))
        clear hx hb1
        go_wp2_with fail
        refine HME.out.mono ?_
        rintro e w2 ⟨pm, cm, M, rfl, hrm, -, -, hRm, hmm, -, hb2⟩
        have HX2 := Lib.hid (HX1.out.step hb2)
        have HRX2 := Lib.hid (HRX.out.below hb2)
        have HRM := Lib.hid hrm
        have HRS := Lib.hid hRm
        have HMM := Lib.hid hmm
        have HRE := Lib.hid (refMerge_any p cap L w2 (H0.out.below HX2.out.below) (by omega) (by omega))
        clear hrm hRm hmm hb2
        go_wp2_with fail
        refine HRE.out.mono ?_
        rintro e w3 ⟨pn, cn, M', rfl, hro⟩
        obtain rfl : M' = M := Qm.rising_uniq hro.rise HRS.out fun x => (hro.mem x).trans (HMM.out x).symm
        have hml : M'.length ≤ 5000 := by have := hro.len; omega
        have HX3 := Lib.hid (HX2.out.step hro.below)
        have HRX3 := Lib.hid (HRX2.out.below hro.below)
        have HSA := Lib.hid (same_any pm pn cm cn M' M' w3 (HRM.out.below hro.below) hro.rd hml)
        rw [decide_eq_true rfl] at HSA
        clear hro
        go_wp2_with fail
        refine HSA.out.mono ?_
        rintro e w4 ⟨rfl, hb4⟩
        have HX4 := Lib.hid (HX3.out.step hb4)
        have HRX4 := Lib.hid (HRX3.out.below hb4)
        clear hb4
        go_wp2
        go_loopw [12] (fun i wr => ∃ k : Nat, k ≤ L.length ∧ i = .int .i64 (k : Int) ∧ Below w4.heap.size w4 wr) (fun i _ => L.length - (intOf i).toNat)
        case atStart => exact ⟨0, Nat.zero_le _, rfl, Below.refl _ _⟩
        case round =>
          rename_i wr0 _ _ _ _ _ _
          obtain ⟨k, hk, rfl, hb⟩ := hrel
          have HB := Lib.hid hb
          have HXR := Lib.hid (HX4.out.step hb)
          clear hb
          by_cases hlt : k < L.length
          · obtain ⟨b, o, rfl, hc⟩ := (H0.out.below HXR.out.below) (by omega)
            obtain ⟨pi, ci, z1, hri, -⟩ := hc k hlt
            obtain ⟨bx, ox, rfl, hcx⟩ := (HRX4.out.below HB.out) (by omega)
            obtain ⟨pj, cj, y1, hrj, -⟩ := hcx k hlt
            have HRI := Lib.hid hri
            have HRJ := Lib.hid hrj
            have HZ := Lib.hid z1
            have HY := Lib.hid y1
            have s0 := HXR.out.s0
            have s1 := HXR.out.s1
            have h60 := HA.out k hlt
            clear hc hcx hri hrj
            go_wp2
            refine wp_region_held_drew (S := Bel wr) (by kernel_rfl) (Bel.start wr) (fun hS => ?_)
            refine wpAnyH_take (i := 0) (v := ?_) rfl (by kernel_rfl) (by kernel_rfl) (by kernel_rfl) (fun _ _ _ h => h) (Or.inl ⟨by kernel_rfl, ?_⟩) hS ?_
            rotate_left
            · intro W hSW
              go_simp
              all_goals with_reducible rfl
            refine wpAnyH_take (i := 1) (v := ?_) rfl (by kernel_rfl) (by kernel_rfl) (by kernel_rfl) (fun _ _ _ h => h) (Or.inl ⟨by kernel_rfl, ?_⟩) hS ?_
            rotate_left
            · intro W hSW
              go_simp
              all_goals with_reducible rfl
            refine wpAnyH_take (i := 2) (v := ?_) rfl (by kernel_rfl) (by kernel_rfl) (by kernel_rfl) (fun _ _ _ h => h) (Or.inl ⟨by kernel_rfl, ?_⟩) hS ?_
            rotate_left
            · intro W hSW
              go_simp
              all_goals with_reducible rfl
            refine wpAnyH_take (i := 3) (v := ?_) rfl (by kernel_rfl) (by kernel_rfl) (by kernel_rfl) (fun _ _ _ h => h) (Or.inl ⟨by kernel_rfl, ?_⟩) hS ?_
            rotate_left
            · intro W hSW
              have y1' := hSW.get y1
              go_simp
              all_goals with_reducible rfl
            refine wpAnyH_take (i := 4) (v := ?_) rfl (by kernel_rfl) (by kernel_rfl) (by kernel_rfl) (fun _ _ _ h => h) (Or.inl ⟨by kernel_rfl, ?_⟩) hS ?_
            rotate_left
            · intro W hSW
              have s0' := hSW.get s0
              have s1' := hSW.get s1
              go_simp
              all_goals with_reducible rfl
            refine wpAnyH_ready (rs := [5]) (by kernel_rfl) (by simp) ?_
            refine AllReadyH.cons rfl (fun K hK => ?_) AllReadyH.nil
            go_simp
            go_wp2_with ((go_at_call 21; refine (place_any pj cj (rowAt L k) st sr _ (HRJ.out.below hS) (by omega)).mono ?_; rintro e wn ⟨n, bb, rfl, hp, hbn⟩))
            refine hK.out _ _ (hS.trans hbn) (fun hS => ?_)
            clear hK K
            unfold intB
            refine wpAnyH_take (i := 6) (v := ?_) rfl (by kernel_rfl) (by kernel_rfl) (by kernel_rfl) (fun _ _ _ h => h) (Or.inl ⟨by kernel_rfl, ?_⟩) hS ?_
            rotate_left
            · intro W hSW
              go_simp
              all_goals with_reducible rfl
            refine wpAnyH_take (i := 7) (v := ?_) rfl (by kernel_rfl) (by kernel_rfl) (by kernel_rfl) (fun _ _ _ h => h) (Or.inl ⟨by kernel_rfl, ?_⟩) hS ?_
            rotate_left
            · intro W hSW
              go_simp
              all_goals with_reducible rfl
            refine wpAnyH_take (i := 8) (v := ?_) rfl (by kernel_rfl) (by kernel_rfl) (by kernel_rfl) (fun _ _ _ h => h) (Or.inl ⟨by kernel_rfl, ?_⟩) hS ?_
            rotate_left
            · intro W hSW
              go_simp
              all_goals with_reducible rfl
            refine wpAnyH_take (i := 9) (v := ?_) rfl (by kernel_rfl) (by kernel_rfl) (by kernel_rfl) (fun _ _ _ h => h) (Or.inl ⟨by kernel_rfl, ?_⟩) hS ?_
            rotate_left
            · intro W hSW
              go_simp
              all_goals with_reducible rfl
            refine wpAnyH_take (i := 10) (v := ?_) rfl (by kernel_rfl) (by kernel_rfl) (by kernel_rfl) (fun _ _ _ h => h) (Or.inl ⟨by kernel_rfl, ?_⟩) hS ?_
            rotate_left
            · intro W hSW
              go_simp
              all_goals with_reducible rfl
            refine wpAnyH_done (by kernel_rfl) ?_ _
            have HP := Lib.hid hp
            have HN := Lib.hid hS
            have HXN := Lib.hid (HXR.out.step hS)
            clear hp hS hbn y1 z1 s0 s1
            have y1 := HN.out.get HY.out
            have z1 := HN.out.get HZ.out
            have s0 := HXN.out.s0
            have s1 := HXN.out.s1
            replace HRI := Lib.hid (HRI.out.below HN.out)
            replace HRJ := Lib.hid (HRJ.out.below HN.out)
            go_simp
            go_wp2
            refine wp_region_held_drew (S := Bel wn) (by kernel_rfl) (Bel.start wn) (fun hS => ?_)
            refine wpAnyH_take (i := 0) (v := ?_) rfl (by kernel_rfl) (by kernel_rfl) (by kernel_rfl) (fun _ _ _ h => h) (Or.inl ⟨by kernel_rfl, ?_⟩) hS ?_
            rotate_left
            · intro W hSW
              go_simp
              all_goals with_reducible rfl
            refine wpAnyH_take (i := 1) (v := ?_) rfl (by kernel_rfl) (by kernel_rfl) (by kernel_rfl) (fun _ _ _ h => h) (Or.inl ⟨by kernel_rfl, ?_⟩) hS ?_
            rotate_left
            · intro W hSW
              go_simp
              all_goals with_reducible rfl
            refine wpAnyH_take (i := 2) (v := ?_) rfl (by kernel_rfl) (by kernel_rfl) (by kernel_rfl) (fun _ _ _ h => h) (Or.inl ⟨by kernel_rfl, ?_⟩) hS ?_
            rotate_left
            · intro W hSW
              go_simp
              all_goals with_reducible rfl
            refine wpAnyH_take (i := 3) (v := ?_) rfl (by kernel_rfl) (by kernel_rfl) (by kernel_rfl) (fun _ _ _ h => h) (Or.inl ⟨by kernel_rfl, ?_⟩) hS ?_
            rotate_left
            · intro W hSW
              have z1' := hSW.get z1
              go_simp
              all_goals with_reducible rfl
            refine wpAnyH_take (i := 4) (v := ?_) rfl (by kernel_rfl) (by kernel_rfl) (by kernel_rfl) (fun _ _ _ h => h) (Or.inl ⟨by kernel_rfl, ?_⟩) hS ?_
            rotate_left
            · intro W hSW
              have s0' := hSW.get s0
              have s1' := hSW.get s1
              go_simp
              all_goals with_reducible rfl
            refine wpAnyH_ready (rs := [5]) (by kernel_rfl) (by simp) ?_
            refine AllReadyH.cons rfl (fun K hK => ?_) AllReadyH.nil
            go_simp
            go_wp2_with ((go_at_call 22; refine (refPlace_any pi ci (rowAt L k) st sr _ (HRI.out.below hS) (by omega)).mono ?_; rintro e wm ⟨n2, bb2, rfl, hp, hbn⟩))
            refine hK.out _ _ (hS.trans hbn) (fun hS => ?_)
            clear hK K
            unfold intB
            refine wpAnyH_take (i := 6) (v := ?_) rfl (by kernel_rfl) (by kernel_rfl) (by kernel_rfl) (fun _ _ _ h => h) (Or.inl ⟨by kernel_rfl, ?_⟩) hS ?_
            rotate_left
            · intro W hSW
              go_simp
              all_goals with_reducible rfl
            refine wpAnyH_take (i := 7) (v := ?_) rfl (by kernel_rfl) (by kernel_rfl) (by kernel_rfl) (fun _ _ _ h => h) (Or.inl ⟨by kernel_rfl, ?_⟩) hS ?_
            rotate_left
            · intro W hSW
              go_simp
              all_goals with_reducible rfl
            refine wpAnyH_take (i := 8) (v := ?_) rfl (by kernel_rfl) (by kernel_rfl) (by kernel_rfl) (fun _ _ _ h => h) (Or.inl ⟨by kernel_rfl, ?_⟩) hS ?_
            rotate_left
            · intro W hSW
              go_simp
              all_goals with_reducible rfl
            refine wpAnyH_take (i := 9) (v := ?_) rfl (by kernel_rfl) (by kernel_rfl) (by kernel_rfl) (fun _ _ _ h => h) (Or.inl ⟨by kernel_rfl, ?_⟩) hS ?_
            rotate_left
            · intro W hSW
              go_simp
              all_goals with_reducible rfl
            refine wpAnyH_take (i := 10) (v := ?_) rfl (by kernel_rfl) (by kernel_rfl) (by kernel_rfl) (fun _ _ _ h => h) (Or.inl ⟨by kernel_rfl, ?_⟩) hS ?_
            rotate_left
            · intro W hSW
              go_simp
              all_goals with_reducible rfl
            refine wpAnyH_done (by kernel_rfl) ?_ _
            obtain ⟨rfl, rfl⟩ := HP.out.uniq hp
            have HM := Lib.hid hS
            clear hp hS hbn s0 s1
            replace y1 := HM.out.get y1
            replace z1 := HM.out.get z1
            replace HRI := Lib.hid (HRI.out.below HM.out)
            replace HRJ := Lib.hid (HRJ.out.below HM.out)
            have hB3 := Lib.hid (HB.out.trans ((Below.trans HN.out (Below.mono HM.out HN.out.size)).mono HB.out.size))
            obtain ⟨rb, hR1, hR2⟩ : ∃ rb, (∀ W, Below wm.heap.size wm W → Calls Try.prog 23 #[.slice pj (rowAt L k).length cj] W fun e w' => e = .returned (.bool rb) ∧ Below W.heap.size W w') ∧ (∀ W, Below wm.heap.size wm W → Calls Try.prog 24 #[.slice pi (rowAt L k).length ci] W fun e w' => e = .returned (.bool rb) ∧ Below W.heap.size W w') :=
              ⟨decide _, fun W hb => rising_any pj cj _ W (HRJ.out.below hb) (by omega), fun W hb => refRising_any pi ci _ W (HRI.out.below hb) (by omega)⟩
            have HR1 := Lib.hid hR1
            have HR2 := Lib.hid hR2
            have HSM := Lib.hid (show ∀ W, Below wm.heap.size wm W → Calls Try.prog 19 #[.slice pj (rowAt L k).length cj, .slice pi (rowAt L k).length ci] W fun e w' => e = .returned (.bool true) ∧ Below W.heap.size W w' from fun W hb => by
              have := same_any pj pi cj ci _ _ W (HRJ.out.below hb) (HRI.out.below hb) (by omega : (rowAt L k).length ≤ 5000)
              rw [decide_eq_true rfl] at this
              exact this)
            clear hR1 hR2
            go_simp
            go_wp2
            all_goals
              refine wp_region_held_drew (S := Bel wm) (by kernel_rfl) (Bel.start wm) (fun hS => ?_)
              refine wpAnyH_take (i := 0) (v := ?_) rfl (by kernel_rfl) (by kernel_rfl) (by kernel_rfl) (fun _ _ _ h => h) (Or.inl ⟨by kernel_rfl, ?_⟩) hS ?_
              rotate_left
              · intro W hSW
                go_simp
                all_goals with_reducible rfl
              refine wpAnyH_take (i := 1) (v := ?_) rfl (by kernel_rfl) (by kernel_rfl) (by kernel_rfl) (fun _ _ _ h => h) (Or.inl ⟨by kernel_rfl, ?_⟩) hS ?_
              rotate_left
              · intro W hSW
                go_simp
                all_goals with_reducible rfl
              refine wpAnyH_take (i := 2) (v := ?_) rfl (by kernel_rfl) (by kernel_rfl) (by kernel_rfl) (fun _ _ _ h => h) (Or.inl ⟨by kernel_rfl, ?_⟩) hS ?_
              rotate_left
              · intro W hSW
                go_simp
                all_goals with_reducible rfl
              refine wpAnyH_take (i := 3) (v := ?_) rfl (by kernel_rfl) (by kernel_rfl) (by kernel_rfl) (fun _ _ _ h => h) (Or.inl ⟨by kernel_rfl, ?_⟩) hS ?_
              rotate_left
              · intro W hSW
                go_simp
                all_goals with_reducible rfl
              refine wpAnyH_take (i := 4) (v := ?_) rfl (by kernel_rfl) (by kernel_rfl) (by kernel_rfl) (fun _ _ _ h => h) (Or.inl ⟨by kernel_rfl, ?_⟩) hS ?_
              rotate_left
              · intro W hSW
                go_simp
                all_goals with_reducible rfl
              refine wpAnyH_take (i := 5) (v := ?_) rfl (by kernel_rfl) (by kernel_rfl) (by kernel_rfl) (fun _ _ _ h => h) (Or.inl ⟨by kernel_rfl, ?_⟩) hS ?_
              rotate_left
              · intro W hSW
                go_simp
                all_goals with_reducible rfl
              refine wpAnyH_take (i := 6) (v := ?_) rfl (by kernel_rfl) (by kernel_rfl) (by kernel_rfl) (fun _ _ _ h => h) (Or.inl ⟨by kernel_rfl, ?_⟩) hS ?_
              rotate_left
              · intro W hSW
                go_simp
                all_goals with_reducible rfl
              refine wpAnyH_take (i := 7) (v := ?_) rfl (by kernel_rfl) (by kernel_rfl) (by kernel_rfl) (fun _ _ _ h => h) (Or.inl ⟨by kernel_rfl, ?_⟩) hS ?_
              rotate_left
              · intro W hSW
                go_simp
                all_goals with_reducible rfl
              refine wpAnyH_take (i := 8) (v := ?_) rfl (by kernel_rfl) (by kernel_rfl) (by kernel_rfl) (fun _ _ _ h => h) (Or.inl ⟨by kernel_rfl, ?_⟩) hS ?_
              rotate_left
              · intro W hSW
                go_simp
                all_goals with_reducible rfl
              refine wpAnyH_take (i := 9) (v := ?_) rfl (by kernel_rfl) (by kernel_rfl) (by kernel_rfl) (fun _ _ _ h => h) (Or.inl ⟨by kernel_rfl, ?_⟩) hS ?_
              rotate_left
              · intro W hSW
                go_simp
                all_goals with_reducible rfl
              refine wpAnyH_take (i := 10) (v := ?_) rfl (by kernel_rfl) (by kernel_rfl) (by kernel_rfl) (fun _ _ _ h => h) (Or.inl ⟨by kernel_rfl, ?_⟩) hS ?_
              rotate_left
              · intro W hSW
                go_simp
                all_goals with_reducible rfl
              refine wpAnyH_take (i := 11) (v := ?_) rfl (by kernel_rfl) (by kernel_rfl) (by kernel_rfl) (fun _ _ _ h => h) (Or.inl ⟨by kernel_rfl, ?_⟩) hS ?_
              rotate_left
              · intro W hSW
                go_simp
                all_goals with_reducible rfl
              refine wpAnyH_take (i := 12) (v := ?_) rfl (by kernel_rfl) (by kernel_rfl) (by kernel_rfl) (fun _ _ _ h => h) (Or.inl ⟨by kernel_rfl, ?_⟩) hS ?_
              rotate_left
              · intro W hSW
                have y1' := hSW.get y1
                go_simp
                all_goals with_reducible rfl
              refine wpAnyH_take (i := 14) (v := ?_) rfl (by kernel_rfl) (by kernel_rfl) (by kernel_rfl) (fun _ _ _ h => h) (Or.inl ⟨by kernel_rfl, ?_⟩) hS ?_
              rotate_left
              · intro W hSW
                go_simp
                all_goals with_reducible rfl
              refine wpAnyH_take (i := 15) (v := ?_) rfl (by kernel_rfl) (by kernel_rfl) (by kernel_rfl) (fun _ _ _ h => h) (Or.inl ⟨by kernel_rfl, ?_⟩) hS ?_
              rotate_left
              · intro W hSW
                go_simp
                all_goals with_reducible rfl
              refine wpAnyH_take (i := 16) (v := ?_) rfl (by kernel_rfl) (by kernel_rfl) (by kernel_rfl) (fun _ _ _ h => h) (Or.inl ⟨by kernel_rfl, ?_⟩) hS ?_
              rotate_left
              · intro W hSW
                go_simp
                all_goals with_reducible rfl
              refine wpAnyH_take (i := 17) (v := ?_) rfl (by kernel_rfl) (by kernel_rfl) (by kernel_rfl) (fun _ _ _ h => h) (Or.inl ⟨by kernel_rfl, ?_⟩) hS ?_
              rotate_left
              · intro W hSW
                have z1' := hSW.get z1
                go_simp
                all_goals with_reducible rfl
              refine wpAnyH_ready (rs := [13]) (by kernel_rfl) (by simp) ?_
              refine AllReadyH.cons rfl (fun K hK => ?_) AllReadyH.nil
              go_simp
              go_wp2_with ((go_at_call 23; refine (HR1.out _ hS).mono ?_; rintro e wn ⟨rfl, hbn⟩))
              refine hK.out _ _ (hS.trans hbn) (fun hS => ?_)
              clear hK K
              refine wpAnyH_ready (rs := [18]) (by kernel_rfl) (by simp) ?_
              refine AllReadyH.cons rfl (fun K hK => ?_) AllReadyH.nil
              go_simp
              go_wp2_with ((go_at_call 24; refine (HR2.out _ hS).mono ?_; rintro e wn ⟨rfl, hbn⟩))
              refine hK.out _ _ (hS.trans hbn) (fun hS => ?_)
              clear hK K
              refine wpAnyH_take (i := 19) (v := ?_) rfl (by kernel_rfl) (by kernel_rfl) (by kernel_rfl) (fun _ _ _ h => h) (Or.inl ⟨by kernel_rfl, ?_⟩) hS ?_
              rotate_left
              · intro W hSW
                go_simp
                all_goals with_reducible rfl
              refine wpAnyH_take (i := 20) (v := ?_) rfl (by kernel_rfl) (by kernel_rfl) (by kernel_rfl) (fun _ _ _ h => h) (Or.inl ⟨by kernel_rfl, ?_⟩) hS ?_
              rotate_left
              · intro W hSW
                go_simp
                all_goals with_reducible rfl
              refine wpAnyH_take (i := 21) (v := ?_) rfl (by kernel_rfl) (by kernel_rfl) (by kernel_rfl) (fun _ _ _ h => h) (Or.inl ⟨by kernel_rfl, ?_⟩) hS ?_
              rotate_left
              · intro W hSW
                go_simp
                all_goals with_reducible rfl
              refine wpAnyH_take (i := 22) (v := ?_) rfl (by kernel_rfl) (by kernel_rfl) (by kernel_rfl) (fun _ _ _ h => h) (Or.inl ⟨by kernel_rfl, ?_⟩) hS ?_
              rotate_left
              · intro W hSW
                go_simp
                all_goals with_reducible rfl
              refine wpAnyH_take (i := 23) (v := ?_) rfl (by kernel_rfl) (by kernel_rfl) (by kernel_rfl) (fun _ _ _ h => h) (Or.inl ⟨by kernel_rfl, ?_⟩) hS ?_
              rotate_left
              · intro W hSW
                go_simp
                all_goals with_reducible rfl
              refine wpAnyH_take (i := 24) (v := ?_) rfl (by kernel_rfl) (by kernel_rfl) (by kernel_rfl) (fun _ _ _ h => h) (Or.inl ⟨by kernel_rfl, ?_⟩) hS ?_
              rotate_left
              · intro W hSW
                go_simp
                all_goals with_reducible rfl
              refine wpAnyH_take (i := 25) (v := ?_) rfl (by kernel_rfl) (by kernel_rfl) (by kernel_rfl) (fun _ _ _ h => h) (Or.inl ⟨by kernel_rfl, ?_⟩) hS ?_
              rotate_left
              · intro W hSW
                have y1' := hSW.get y1
                go_simp
                all_goals with_reducible rfl
              refine wpAnyH_take (i := 26) (v := ?_) rfl (by kernel_rfl) (by kernel_rfl) (by kernel_rfl) (fun _ _ _ h => h) (Or.inl ⟨by kernel_rfl, ?_⟩) hS ?_
              rotate_left
              · intro W hSW
                go_simp
                all_goals with_reducible rfl
              refine wpAnyH_take (i := 27) (v := ?_) rfl (by kernel_rfl) (by kernel_rfl) (by kernel_rfl) (fun _ _ _ h => h) (Or.inl ⟨by kernel_rfl, ?_⟩) hS ?_
              rotate_left
              · intro W hSW
                go_simp
                all_goals with_reducible rfl
              refine wpAnyH_take (i := 28) (v := ?_) rfl (by kernel_rfl) (by kernel_rfl) (by kernel_rfl) (fun _ _ _ h => h) (Or.inl ⟨by kernel_rfl, ?_⟩) hS ?_
              rotate_left
              · intro W hSW
                go_simp
                all_goals with_reducible rfl
              refine wpAnyH_take (i := 29) (v := ?_) rfl (by kernel_rfl) (by kernel_rfl) (by kernel_rfl) (fun _ _ _ h => h) (Or.inl ⟨by kernel_rfl, ?_⟩) hS ?_
              rotate_left
              · intro W hSW
                have z1' := hSW.get z1
                go_simp
                all_goals with_reducible rfl
              refine wpAnyH_ready (rs := [30]) (by kernel_rfl) (by simp) ?_
              refine AllReadyH.cons rfl (fun K hK => ?_) AllReadyH.nil
              go_simp
              go_wp2_with ((go_at_call 19; refine (HSM.out _ hS).mono ?_; rintro e wk ⟨rfl, hbn⟩))
              refine hK.out _ _ (hS.trans hbn) (fun hS => ?_)
              clear hK K
              refine wpAnyH_take (i := 31) (v := ?_) rfl (by kernel_rfl) (by kernel_rfl) (by kernel_rfl) (fun _ _ _ h => h) (Or.inl ⟨by kernel_rfl, ?_⟩) hS ?_
              rotate_left
              · intro W hSW
                go_simp
                all_goals with_reducible rfl
              refine wpAnyH_take (i := 32) (v := ?_) rfl (by kernel_rfl) (by kernel_rfl) (by kernel_rfl) (fun _ _ _ h => h) (Or.inl ⟨by kernel_rfl, ?_⟩) hS ?_
              rotate_left
              · intro W hSW
                go_simp
                all_goals with_reducible rfl
              refine wpAnyH_done (by kernel_rfl) ?_ _
              have HE := Lib.hid (hB3.out.trans (Below.mono hS hB3.out.size))
              clear hS
              go_simp
              go_wp2
              go_roundw
              case rel => exact ⟨k + 1, by omega, by go_num, HE.out⟩
              case measure => simp [intOf]; omega
          · have a0 := HXR.out.a0
            have a1 := HXR.out.a1
            have a2 := HXR.out.a2
            have b0 := HXR.out.b0
            have b1 := HXR.out.b1
            have b2 := HXR.out.b2
            have HXH := Lib.hid HXR.out
            obtain ⟨bv, hF1, hF2⟩ : ∃ bv, (∀ W, Calls Try.prog 25 #[.agg #[.int .i64 t, .int .i64 r, .int .i64 g], .agg #[.int .i64 t', .int .i64 r', .int .i64 g']] W fun e w' => e = .returned (.bool bv) ∧ Below W.heap.size W w') ∧ (∀ W, Calls Try.prog 26 #[.agg #[.int .i64 t, .int .i64 r, .int .i64 g], .agg #[.int .i64 t', .int .i64 r', .int .i64 g']] W fun e w' => e = .returned (.bool bv) ∧ Below W.heap.size W w') :=
              ⟨decide _, fun W => before_any t r g t' r' g' W, fun W => refBefore_any t r g t' r' g' W⟩
            have HF1 := Lib.hid hF1
            have HF2 := Lib.hid hF2
            clear hF1 hF2
            go_wp2_with fail
            refine (items_any (some ⟨wr.heap.size, 0, none⟩) 2 [((t, r), g), ((t', r'), g')] _ (rd_two wr ((t, r), g) ((t', r'), g') _) (by simp)).mono ?_
            rintro e w6 ⟨py, cy, rfl, hoy, hb6⟩
            have hb6' : Below wr.heap.size wr w6 := ((Below.refl _ _).alloc (Nat.le_refl _) _).trans (hb6.mono (by simp))
            have HX6 := Lib.hid (HXH.out.step hb6')
            obtain ⟨py', cy', ey, hry, -, -, -, hpy⟩ := own_rd hoy
            obtain ⟨rfl, rfl⟩ : py = py' ∧ cy = cy' := by cases ey; exact ⟨rfl, rfl⟩
            obtain ⟨by0, oy, rfl, -⟩ := hry.addr (by simp [itCells])
            obtain rfl : oy = 0 := by have := (hpy _ rfl).2.2.2; cases this; rfl
            have y0 : w6.cell? ⟨by0, 0, none⟩ = some (.int .i64 t) := hry.cell (i := 0) rfl
            have y1 : w6.cell? ⟨by0, 1, none⟩ = some (.int .i64 r) := hry.cell (i := 1) rfl
            have y2 : w6.cell? ⟨by0, 2, none⟩ = some (.int .i64 g) := hry.cell (i := 2) rfl
            have y3 : w6.cell? ⟨by0, 3, none⟩ = some (.int .i64 t') := hry.cell (i := 3) rfl
            have y4 : w6.cell? ⟨by0, 4, none⟩ = some (.int .i64 r') := hry.cell (i := 4) rfl
            have y5 : w6.cell? ⟨by0, 5, none⟩ = some (.int .i64 g') := hry.cell (i := 5) rfl
            have a0 := HX6.out.a0
            have a1 := HX6.out.a1
            have a2 := HX6.out.a2
            have b0 := HX6.out.b0
            have b1 := HX6.out.b1
            have b2 := HX6.out.b2
            clear hoy hb6 hb6' ey hry hpy
            go_wp2
            all_goals
              refine wp_region_held_drew (S := Bel w6) (by kernel_rfl) (Bel.start w6) (fun hS => ?_)
              refine wpAnyH_take (i := 0) (v := ?_) rfl (by kernel_rfl) (by kernel_rfl) (by kernel_rfl) (fun _ _ _ h => h) (Or.inl ⟨by kernel_rfl, ?_⟩) hS ?_
              rotate_left
              · intro W hSW
                go_simp
                all_goals with_reducible rfl
              refine wpAnyH_take (i := 1) (v := ?_) rfl (by kernel_rfl) (by kernel_rfl) (by kernel_rfl) (fun _ _ _ h => h) (Or.inl ⟨by kernel_rfl, ?_⟩) hS ?_
              rotate_left
              · intro W hSW
                go_simp
                all_goals with_reducible rfl
              refine wpAnyH_take (i := 2) (v := ?_) rfl (by kernel_rfl) (by kernel_rfl) (by kernel_rfl) (fun _ _ _ h => h) (Or.inl ⟨by kernel_rfl, ?_⟩) hS ?_
              rotate_left
              · intro W hSW
                have y0' := hSW.get y0
                have y1' := hSW.get y1
                have y2' := hSW.get y2
                go_simp
                all_goals with_reducible rfl
              refine wpAnyH_take (i := 3) (v := ?_) rfl (by kernel_rfl) (by kernel_rfl) (by kernel_rfl) (fun _ _ _ h => h) (Or.inl ⟨by kernel_rfl, ?_⟩) hS ?_
              rotate_left
              · intro W hSW
                go_simp
                all_goals with_reducible rfl
              refine wpAnyH_take (i := 4) (v := ?_) rfl (by kernel_rfl) (by kernel_rfl) (by kernel_rfl) (fun _ _ _ h => h) (Or.inl ⟨by kernel_rfl, ?_⟩) hS ?_
              rotate_left
              · intro W hSW
                go_simp
                all_goals with_reducible rfl
              refine wpAnyH_take (i := 5) (v := ?_) rfl (by kernel_rfl) (by kernel_rfl) (by kernel_rfl) (fun _ _ _ h => h) (Or.inl ⟨by kernel_rfl, ?_⟩) hS ?_
              rotate_left
              · intro W hSW
                have y3' := hSW.get y3
                have y4' := hSW.get y4
                have y5' := hSW.get y5
                go_simp
                all_goals with_reducible rfl
              refine wpAnyH_take (i := 7) (v := ?_) rfl (by kernel_rfl) (by kernel_rfl) (by kernel_rfl) (fun _ _ _ h => h) (Or.inl ⟨by kernel_rfl, ?_⟩) hS ?_
              rotate_left
              · intro W hSW
                have a0' := hSW.get a0
                have a1' := hSW.get a1
                have a2' := hSW.get a2
                go_simp
                all_goals with_reducible rfl
              refine wpAnyH_take (i := 8) (v := ?_) rfl (by kernel_rfl) (by kernel_rfl) (by kernel_rfl) (fun _ _ _ h => h) (Or.inl ⟨by kernel_rfl, ?_⟩) hS ?_
              rotate_left
              · intro W hSW
                have b0' := hSW.get b0
                have b1' := hSW.get b1
                have b2' := hSW.get b2
                go_simp
                all_goals with_reducible rfl
              refine wpAnyH_ready (rs := [6]) (by kernel_rfl) (by simp) ?_
              refine AllReadyH.cons rfl (fun K hK => ?_) AllReadyH.nil
              go_simp
              go_wp2_with ((go_at_call 25; refine (HF1.out _).mono ?_; rintro e wn ⟨rfl, hbn⟩))
              refine hK.out _ _ (hS.trans hbn) (fun hS => ?_)
              clear hK K
              refine wpAnyH_ready (rs := [9]) (by kernel_rfl) (by simp) ?_
              refine AllReadyH.cons rfl (fun K hK => ?_) AllReadyH.nil
              go_simp
              go_wp2_with ((go_at_call 26; refine (HF2.out _).mono ?_; rintro e wn ⟨rfl, hbn⟩))
              refine hK.out _ _ (hS.trans hbn) (fun hS => ?_)
              clear hK K
              refine wpAnyH_take (i := 10) (v := ?_) rfl (by kernel_rfl) (by kernel_rfl) (by kernel_rfl) (fun _ _ _ h => h) (Or.inl ⟨by kernel_rfl, ?_⟩) hS ?_
              rotate_left
              · intro W hSW
                go_simp
                all_goals with_reducible rfl
              refine wpAnyH_take (i := 11) (v := ?_) rfl (by kernel_rfl) (by kernel_rfl) (by kernel_rfl) (fun _ _ _ h => h) (Or.inl ⟨by kernel_rfl, ?_⟩) hS ?_
              rotate_left
              · intro W hSW
                go_simp
                all_goals with_reducible rfl
              refine wpAnyH_ready (rs := [12]) (by kernel_rfl) (by simp) ?_
              refine AllReadyH.cons rfl (fun K hK => ?_) AllReadyH.nil
              go_simp
              go_wp2_with ((go_at_call 8; refine (knows_any _).mono ?_; rintro e wz ⟨rfl, hbn⟩))
              refine hK.out _ _ (hS.trans hbn) (fun hS => ?_)
              clear hK K
              refine wpAnyH_take (i := 13) (v := ?_) rfl (by kernel_rfl) (by kernel_rfl) (by kernel_rfl) (fun _ _ _ h => h) (Or.inl ⟨by kernel_rfl, ?_⟩) hS ?_
              rotate_left
              · intro W hSW
                go_simp
                all_goals with_reducible rfl
              refine wpAnyH_take (i := 14) (v := ?_) rfl (by kernel_rfl) (by kernel_rfl) (by kernel_rfl) (fun _ _ _ h => h) (Or.inl ⟨by kernel_rfl, ?_⟩) hS ?_
              rotate_left
              · intro W hSW
                go_simp
                all_goals with_reducible rfl
              refine wpAnyH_done (by kernel_rfl) ?_ _
              have HE := Lib.hid ((HX6.out.step hS).below)
              clear hS
              go_simp
              go_wp2
              go_ret
              exact ⟨rfl, HE.out⟩

end Go.Proofs.Ytknjojmcjkpjiaa
