/-
  THE DOCUMENT's QUEUE: first, Peek.
  No conditions but sizes.
-/
import Derived.Test.YtmenlfgfhnnmgaaQSearch
import Derived.Test.YtmenlfgfhnnmgaaQNew
namespace Go.Proofs.Ytmenlfgfhnnmgaa
open Go.RowKit

/-- the document's queue at block s holds these items, in their order -/
structure RQ (w : World) (s : Nat) (p : Option Addr) (cap : Nat) (d : List Qm.It) : Prop where
  cell : w.cell? ⟨s, 0, none⟩ = some (.slice p d.length cap)
  free : w.frozen? ⟨s, 0, none⟩ = false
  own : w.ownsRow 0 36 3 (.slice p d.length cap) d.length (itCells d)
  ne : ∀ a, p = some a → a.block ≠ s
  len : d.length ≤ 2000
theorem RQ.turns {F : Nat → Prop} {w w' : World} {s : Nat} {p : Option Addr} {cap : Nat} {d : List Qm.It} (h : RQ w s p cap d) (ht : Turns F w w') (hc : ¬ F s) (hg : ∀ a, p = some a → ¬ F a.block) : RQ w' s p cap d :=
  ⟨ht.cell h.cell hc, by rw [ht.frozen (cell_lt h.cell) hc]; exact h.free, ht.own h.own fun k hk => by
    rcases own_addr h.own with rfl | ⟨g, rfl⟩
    · cases hk
    · cases hk; exact hg _ rfl, h.ne, h.len⟩
theorem RQ.below {w w' : World} {s : Nat} {p : Option Addr} {cap : Nat} {d : List Qm.It} (h : RQ w s p cap d) (hb : Below w.heap.size w w') : RQ w' s p cap d :=
  h.turns (F := fun _ => False) (Turns.of_below hb) (fun h => h) (fun _ _ h => h)
theorem RQ.rd {w : World} {s : Nat} {p : Option Addr} {cap : Nat} {d : List Qm.It} (h : RQ w s p cap d) : Rd w p (itCells d) := by
  obtain ⟨p', c', e, hr, -⟩ := own_rd h.own
  cases e
  exact hr

/-- what first answers -/
def Firsts (d : List Qm.It) (k : Int) : Prop := (d = [] ∧ k = -1) ∨ ∃ i : Nat, k = (i : Int) ∧ i < d.length ∧ Qm.Least (Qm.itAt d i) d

set_option maxRecDepth 100000 in
set_option maxHeartbeats 1500000 in
theorem first_any (s : Nat) (p : Option Addr) (cap : Nat) (d : List Qm.It) (w : World) (h : RQ w s p cap d) :
    Calls Try.prog 44 #[.pointer (some ⟨s, 0, none⟩)] w fun e w' => ∃ k : Int, Firsts d k ∧ e = .returned (.int .i64 k) ∧ Below w.heap.size w w' := by
  have HQ0 := Lib.hid h
  have hlen := h.len
  clear h
  go_enter Try.func44, Try.ntmps44
  go_wp2
  go_loopw [3, 4] (fun a i wr => ∃ n : Nat, n ≤ d.length ∧ i = .int .i64 (n : Int) ∧ ((n = 0 ∧ a = .int .i64 (-1)) ∨ ∃ m : Nat, m < n ∧ a = .int .i64 (m : Int) ∧ ∀ j, j < n → ¬ Qm.ltI (Qm.itAt d j) (Qm.itAt d m)) ∧ Below w.heap.size w wr) (fun _ i _ => d.length - (intOf i).toNat)
  case atStart => exact ⟨0, Nat.zero_le _, rfl, Or.inl ⟨rfl, rfl⟩, Below.refl _ _⟩
  case round =>
    obtain ⟨n, hn, rfl, ha, hb⟩ := hrel
    have HB := Lib.hid hb
    have HW := Lib.hid (HQ0.out.below hb)
    have hc := HW.out.cell
    clear hb
    by_cases hlt : n < d.length
    · rcases ha with ⟨rfl, rfl⟩ | ⟨m, hm, rfl, hmin⟩
      · go_wp2
        refine wp_region_held_drew (S := Bel wr) (by kernel_rfl) (Bel.start wr) (fun hS => ?_)
        refine wpAnyH_take (i := 0) (v := ?_) rfl (by kernel_rfl) (by kernel_rfl) (by kernel_rfl) (fun _ _ _ h => h) (Or.inl ⟨by kernel_rfl, ?_⟩) hS ?_
        rotate_left
        · intro W hSW
          go_simp
          all_goals with_reducible rfl
        refine wpAnyH_take (i := 1) (v := ?_) rfl (by kernel_rfl) (by kernel_rfl) (by kernel_rfl) (fun _ _ _ h => h) (Or.inl ⟨by kernel_rfl, ?_⟩) hS ?_
        rotate_left
        · intro W hSW
          go_simp
          all_goals with_reducible rfl
        refine wpAnyH_take (i := 2) (v := ?_) rfl (by kernel_rfl) (by kernel_rfl) (by kernel_rfl) (fun _ _ _ h => h) (Or.inl ⟨by kernel_rfl, ?_⟩) hS ?_
        rotate_left
        · intro W hSW
          go_simp
          all_goals with_reducible rfl
        refine wpAnyH_take (i := 3) (v := undef) rfl (by kernel_rfl) (by kernel_rfl) (by kernel_rfl) (fun _ _ _ h => h) (Or.inr ⟨by kernel_rfl, rfl⟩) hS ?_
        refine wpAnyH_take (i := 4) (v := undef) rfl (by kernel_rfl) (by kernel_rfl) (by kernel_rfl) (fun _ _ _ h => h) (Or.inr ⟨by kernel_rfl, rfl⟩) hS ?_
        refine wpAnyH_take (i := 5) (v := undef) rfl (by kernel_rfl) (by kernel_rfl) (by kernel_rfl) (fun _ _ _ h => h) (Or.inr ⟨by kernel_rfl, rfl⟩) hS ?_
        refine wpAnyH_take (i := 6) (v := undef) rfl (by kernel_rfl) (by kernel_rfl) (by kernel_rfl) (fun _ _ _ h => h) (Or.inr ⟨by kernel_rfl, rfl⟩) hS ?_
        refine wpAnyH_take (i := 7) (v := undef) rfl (by kernel_rfl) (by kernel_rfl) (by kernel_rfl) (fun _ _ _ h => h) (Or.inr ⟨by kernel_rfl, rfl⟩) hS ?_
        refine wpAnyH_take (i := 8) (v := undef) rfl (by kernel_rfl) (by kernel_rfl) (by kernel_rfl) (fun _ _ _ h => h) (Or.inr ⟨by kernel_rfl, rfl⟩) hS ?_
        refine wpAnyH_take (i := 9) (v := undef) rfl (by kernel_rfl) (by kernel_rfl) (by kernel_rfl) (fun _ _ _ h => h) (Or.inr ⟨by kernel_rfl, rfl⟩) hS ?_
        refine wpAnyH_take (i := 10) (v := undef) rfl (by kernel_rfl) (by kernel_rfl) (by kernel_rfl) (fun _ _ _ h => h) (Or.inr ⟨by kernel_rfl, rfl⟩) hS ?_
        refine wpAnyH_take (i := 11) (v := undef) rfl (by kernel_rfl) (by kernel_rfl) (by kernel_rfl) (fun _ _ _ h => h) (Or.inr ⟨by kernel_rfl, rfl⟩) hS ?_
        refine wpAnyH_take (i := 12) (v := undef) rfl (by kernel_rfl) (by kernel_rfl) (by kernel_rfl) (fun _ _ _ h => h) (Or.inr ⟨by kernel_rfl, rfl⟩) hS ?_
        refine wpAnyH_take (i := 13) (v := undef) rfl (by kernel_rfl) (by kernel_rfl) (by kernel_rfl) (fun _ _ _ h => h) (Or.inr ⟨by kernel_rfl, rfl⟩) hS ?_
        refine wpAnyH_take (i := 14) (v := undef) rfl (by kernel_rfl) (by kernel_rfl) (by kernel_rfl) (fun _ _ _ h => h) (Or.inr ⟨by kernel_rfl, rfl⟩) hS ?_
        refine wpAnyH_take (i := 15) (v := undef) rfl (by kernel_rfl) (by kernel_rfl) (by kernel_rfl) (fun _ _ _ h => h) (Or.inr ⟨by kernel_rfl, rfl⟩) hS ?_
        refine wpAnyH_take (i := 16) (v := undef) rfl (by kernel_rfl) (by kernel_rfl) (by kernel_rfl) (fun _ _ _ h => h) (Or.inr ⟨by kernel_rfl, rfl⟩) hS ?_
        refine wpAnyH_take (i := 17) (v := undef) rfl (by kernel_rfl) (by kernel_rfl) (by kernel_rfl) (fun _ _ _ h => h) (Or.inr ⟨by kernel_rfl, rfl⟩) hS ?_
        refine wpAnyH_take (i := 18) (v := ?_) rfl (by kernel_rfl) (by kernel_rfl) (by kernel_rfl) (fun _ _ _ h => h) (Or.inl ⟨by kernel_rfl, ?_⟩) hS ?_
        rotate_left
        · intro W hSW
          go_simp
          all_goals with_reducible rfl
        refine wpAnyH_done (by kernel_rfl) ?_ _
        have HE := Lib.hid (HB.out.trans (Below.mono hS HB.out.size))
        clear hS
        go_simp
        go_wp2
        go_roundw
        case rel => exact ⟨1, by omega, by go_num, Or.inr ⟨0, by omega, by go_num, fun j hj => by obtain rfl : j = 0 := (by omega); exact Qm.ltI_irrefl _⟩, HE.out⟩
        case measure => simp [intOf]; omega
      · have hrd := HW.out.rd
        obtain ⟨b, o, rfl, -⟩ := hrd.addr (by rw [itCells_length]; omega)
        obtain ⟨x0, x1, x2⟩ := hrd.it n hlt
        obtain ⟨y0, y1, y2⟩ := hrd.it m (by omega)
        have HM := Lib.hid hmin
        have hml : m < d.length := by omega
        have hd2 := hlen
        have dm : decide ((m : Int) < 0) = false := decide_eq_false (by omega)
        have hF : ∀ W, Calls Try.prog 26 #[.agg #[.int .i64 (Qm.itAt d n).1.1, .int .i64 (Qm.itAt d n).1.2, .int .i64 (Qm.itAt d n).2], .agg #[.int .i64 (Qm.itAt d m).1.1, .int .i64 (Qm.itAt d m).1.2, .int .i64 (Qm.itAt d m).2]] W fun e w' => e = .returned (.bool (decide (Qm.ltI (Qm.itAt d n) (Qm.itAt d m)))) ∧ Below W.heap.size W w' :=
          fun W => refBefore_any (Qm.itAt d n).1.1 (Qm.itAt d n).1.2 (Qm.itAt d n).2 (Qm.itAt d m).1.1 (Qm.itAt d m).1.2 (Qm.itAt d m).2 W
        by_cases hx : Qm.ltI (Qm.itAt d n) (Qm.itAt d m)
        · simp only [decide_eq_true hx] at hF
          have HF := Lib.hid hF
          have HX := Lib.hid hx
          clear hF hx hrd hmin
          go_wp2
          refine wp_region_held_drew (S := Bel wr) (by kernel_rfl) (Bel.start wr) (fun hS => ?_)
          refine wpAnyH_take (i := 0) (v := ?_) rfl (by kernel_rfl) (by kernel_rfl) (by kernel_rfl) (fun _ _ _ h => h) (Or.inl ⟨by kernel_rfl, ?_⟩) hS ?_
          rotate_left
          · intro W hSW
            go_simp
            all_goals with_reducible rfl
          refine wpAnyH_take (i := 1) (v := ?_) rfl (by kernel_rfl) (by kernel_rfl) (by kernel_rfl) (fun _ _ _ h => h) (Or.inl ⟨by kernel_rfl, ?_⟩) hS ?_
          rotate_left
          · intro W hSW
            go_simp
            all_goals with_reducible rfl
          refine wpAnyH_take (i := 2) (v := ?_) rfl (by kernel_rfl) (by kernel_rfl) (by kernel_rfl) (fun _ _ _ h => h) (Or.inl ⟨by kernel_rfl, ?_⟩) hS ?_
          rotate_left
          · intro W hSW
            go_simp
            all_goals with_reducible rfl
          refine wpAnyH_take (i := 3) (v := ?_) rfl (by kernel_rfl) (by kernel_rfl) (by kernel_rfl) (fun _ _ _ h => h) (Or.inl ⟨by kernel_rfl, ?_⟩) hS ?_
          rotate_left
          · intro W hSW
            go_simp
            all_goals with_reducible rfl
          refine wpAnyH_take (i := 4) (v := ?_) rfl (by kernel_rfl) (by kernel_rfl) (by kernel_rfl) (fun _ _ _ h => h) (Or.inl ⟨by kernel_rfl, ?_⟩) hS ?_
          rotate_left
          · intro W hSW
            go_simp
            all_goals with_reducible rfl
          refine wpAnyH_take (i := 5) (v := ?_) rfl (by kernel_rfl) (by kernel_rfl) (by kernel_rfl) (fun _ _ _ h => h) (Or.inl ⟨by kernel_rfl, ?_⟩) hS ?_
          rotate_left
          · intro W hSW
            go_simp
            all_goals with_reducible rfl
          refine wpAnyH_take (i := 6) (v := ?_) rfl (by kernel_rfl) (by kernel_rfl) (by kernel_rfl) (fun _ _ _ h => h) (Or.inl ⟨by kernel_rfl, ?_⟩) hS ?_
          rotate_left
          · intro W hSW
            have hc' := hSW.get hc
            go_simp
            all_goals with_reducible rfl
          refine wpAnyH_take (i := 7) (v := ?_) rfl (by kernel_rfl) (by kernel_rfl) (by kernel_rfl) (fun _ _ _ h => h) (Or.inl ⟨by kernel_rfl, ?_⟩) hS ?_
          rotate_left
          · intro W hSW
            go_simp
            all_goals with_reducible rfl
          refine wpAnyH_take (i := 8) (v := ?_) rfl (by kernel_rfl) (by kernel_rfl) (by kernel_rfl) (fun _ _ _ h => h) (Or.inl ⟨by kernel_rfl, ?_⟩) hS ?_
          rotate_left
          · intro W hSW
            go_simp
            all_goals with_reducible rfl
          refine wpAnyH_take (i := 9) (v := ?_) rfl (by kernel_rfl) (by kernel_rfl) (by kernel_rfl) (fun _ _ _ h => h) (Or.inl ⟨by kernel_rfl, ?_⟩) hS ?_
          rotate_left
          · intro W hSW
            have x0' := hSW.get x0
            have x1' := hSW.get x1
            have x2' := hSW.get x2
            go_simp
            all_goals with_reducible rfl
          refine wpAnyH_take (i := 10) (v := ?_) rfl (by kernel_rfl) (by kernel_rfl) (by kernel_rfl) (fun _ _ _ h => h) (Or.inl ⟨by kernel_rfl, ?_⟩) hS ?_
          rotate_left
          · intro W hSW
            go_simp
            all_goals with_reducible rfl
          refine wpAnyH_take (i := 11) (v := ?_) rfl (by kernel_rfl) (by kernel_rfl) (by kernel_rfl) (fun _ _ _ h => h) (Or.inl ⟨by kernel_rfl, ?_⟩) hS ?_
          rotate_left
          · intro W hSW
            go_simp
            all_goals with_reducible rfl
          refine wpAnyH_take (i := 12) (v := ?_) rfl (by kernel_rfl) (by kernel_rfl) (by kernel_rfl) (fun _ _ _ h => h) (Or.inl ⟨by kernel_rfl, ?_⟩) hS ?_
          rotate_left
          · intro W hSW
            go_simp
            all_goals with_reducible rfl
          refine wpAnyH_take (i := 13) (v := ?_) rfl (by kernel_rfl) (by kernel_rfl) (by kernel_rfl) (fun _ _ _ h => h) (Or.inl ⟨by kernel_rfl, ?_⟩) hS ?_
          rotate_left
          · intro W hSW
            have hc' := hSW.get hc
            go_simp
            all_goals with_reducible rfl
          refine wpAnyH_take (i := 14) (v := ?_) rfl (by kernel_rfl) (by kernel_rfl) (by kernel_rfl) (fun _ _ _ h => h) (Or.inl ⟨by kernel_rfl, ?_⟩) hS ?_
          rotate_left
          · intro W hSW
            go_simp
            all_goals with_reducible rfl
          refine wpAnyH_take (i := 15) (v := ?_) rfl (by kernel_rfl) (by kernel_rfl) (by kernel_rfl) (fun _ _ _ h => h) (Or.inl ⟨by kernel_rfl, ?_⟩) hS ?_
          rotate_left
          · intro W hSW
            go_simp
            all_goals with_reducible rfl
          refine wpAnyH_take (i := 16) (v := ?_) rfl (by kernel_rfl) (by kernel_rfl) (by kernel_rfl) (fun _ _ _ h => h) (Or.inl ⟨by kernel_rfl, ?_⟩) hS ?_
          rotate_left
          · intro W hSW
            have y0' := hSW.get y0
            have y1' := hSW.get y1
            have y2' := hSW.get y2
            go_simp
            all_goals with_reducible rfl
          refine wpAnyH_ready (rs := [17]) (by kernel_rfl) (by simp) ?_
          refine AllReadyH.cons rfl (fun K hK => ?_) AllReadyH.nil
          go_simp
          go_wp2_with ((go_at_call 26; refine (HF.out _).mono ?_; rintro e wn ⟨rfl, hbn⟩))
          refine hK.out _ _ (hS.trans hbn) (fun hS => ?_)
          clear hK K
          refine wpAnyH_take (i := 18) (v := ?_) rfl (by kernel_rfl) (by kernel_rfl) (by kernel_rfl) (fun _ _ _ h => h) (Or.inl ⟨by kernel_rfl, ?_⟩) hS ?_
          rotate_left
          · intro W hSW
            go_simp
            all_goals with_reducible rfl
          refine wpAnyH_done (by kernel_rfl) ?_ _
          have HE := Lib.hid (HB.out.trans (Below.mono hS HB.out.size))
          clear hS
          go_simp
          go_wp2
          go_roundw
          case rel => exact ⟨n + 1, by omega, by go_num, Or.inr ⟨n, by omega, by go_num, fun j hj hl => by
            by_cases e : j = n
            · subst e; exact Qm.ltI_irrefl _ hl
            · exact HM.out j (by omega) (Qm.ltI_trans hl HX.out)⟩, HE.out⟩
          case measure => simp [intOf]; omega
        · simp only [decide_eq_false hx] at hF
          have HF := Lib.hid hF
          have HX := Lib.hid hx
          clear hF hx hrd hmin
          go_wp2
          refine wp_region_held_drew (S := Bel wr) (by kernel_rfl) (Bel.start wr) (fun hS => ?_)
          refine wpAnyH_take (i := 0) (v := ?_) rfl (by kernel_rfl) (by kernel_rfl) (by kernel_rfl) (fun _ _ _ h => h) (Or.inl ⟨by kernel_rfl, ?_⟩) hS ?_
          rotate_left
          · intro W hSW
            go_simp
            all_goals with_reducible rfl
          refine wpAnyH_take (i := 1) (v := ?_) rfl (by kernel_rfl) (by kernel_rfl) (by kernel_rfl) (fun _ _ _ h => h) (Or.inl ⟨by kernel_rfl, ?_⟩) hS ?_
          rotate_left
          · intro W hSW
            go_simp
            all_goals with_reducible rfl
          refine wpAnyH_take (i := 2) (v := ?_) rfl (by kernel_rfl) (by kernel_rfl) (by kernel_rfl) (fun _ _ _ h => h) (Or.inl ⟨by kernel_rfl, ?_⟩) hS ?_
          rotate_left
          · intro W hSW
            go_simp
            all_goals with_reducible rfl
          refine wpAnyH_take (i := 3) (v := ?_) rfl (by kernel_rfl) (by kernel_rfl) (by kernel_rfl) (fun _ _ _ h => h) (Or.inl ⟨by kernel_rfl, ?_⟩) hS ?_
          rotate_left
          · intro W hSW
            go_simp
            all_goals with_reducible rfl
          refine wpAnyH_take (i := 4) (v := ?_) rfl (by kernel_rfl) (by kernel_rfl) (by kernel_rfl) (fun _ _ _ h => h) (Or.inl ⟨by kernel_rfl, ?_⟩) hS ?_
          rotate_left
          · intro W hSW
            go_simp
            all_goals with_reducible rfl
          refine wpAnyH_take (i := 5) (v := ?_) rfl (by kernel_rfl) (by kernel_rfl) (by kernel_rfl) (fun _ _ _ h => h) (Or.inl ⟨by kernel_rfl, ?_⟩) hS ?_
          rotate_left
          · intro W hSW
            go_simp
            all_goals with_reducible rfl
          refine wpAnyH_take (i := 6) (v := ?_) rfl (by kernel_rfl) (by kernel_rfl) (by kernel_rfl) (fun _ _ _ h => h) (Or.inl ⟨by kernel_rfl, ?_⟩) hS ?_
          rotate_left
          · intro W hSW
            have hc' := hSW.get hc
            go_simp
            all_goals with_reducible rfl
          refine wpAnyH_take (i := 7) (v := ?_) rfl (by kernel_rfl) (by kernel_rfl) (by kernel_rfl) (fun _ _ _ h => h) (Or.inl ⟨by kernel_rfl, ?_⟩) hS ?_
          rotate_left
          · intro W hSW
            go_simp
            all_goals with_reducible rfl
          refine wpAnyH_take (i := 8) (v := ?_) rfl (by kernel_rfl) (by kernel_rfl) (by kernel_rfl) (fun _ _ _ h => h) (Or.inl ⟨by kernel_rfl, ?_⟩) hS ?_
          rotate_left
          · intro W hSW
            go_simp
            all_goals with_reducible rfl
          refine wpAnyH_take (i := 9) (v := ?_) rfl (by kernel_rfl) (by kernel_rfl) (by kernel_rfl) (fun _ _ _ h => h) (Or.inl ⟨by kernel_rfl, ?_⟩) hS ?_
          rotate_left
          · intro W hSW
            have x0' := hSW.get x0
            have x1' := hSW.get x1
            have x2' := hSW.get x2
            go_simp
            all_goals with_reducible rfl
          refine wpAnyH_take (i := 10) (v := ?_) rfl (by kernel_rfl) (by kernel_rfl) (by kernel_rfl) (fun _ _ _ h => h) (Or.inl ⟨by kernel_rfl, ?_⟩) hS ?_
          rotate_left
          · intro W hSW
            go_simp
            all_goals with_reducible rfl
          refine wpAnyH_take (i := 11) (v := ?_) rfl (by kernel_rfl) (by kernel_rfl) (by kernel_rfl) (fun _ _ _ h => h) (Or.inl ⟨by kernel_rfl, ?_⟩) hS ?_
          rotate_left
          · intro W hSW
            go_simp
            all_goals with_reducible rfl
          refine wpAnyH_take (i := 12) (v := ?_) rfl (by kernel_rfl) (by kernel_rfl) (by kernel_rfl) (fun _ _ _ h => h) (Or.inl ⟨by kernel_rfl, ?_⟩) hS ?_
          rotate_left
          · intro W hSW
            go_simp
            all_goals with_reducible rfl
          refine wpAnyH_take (i := 13) (v := ?_) rfl (by kernel_rfl) (by kernel_rfl) (by kernel_rfl) (fun _ _ _ h => h) (Or.inl ⟨by kernel_rfl, ?_⟩) hS ?_
          rotate_left
          · intro W hSW
            have hc' := hSW.get hc
            go_simp
            all_goals with_reducible rfl
          refine wpAnyH_take (i := 14) (v := ?_) rfl (by kernel_rfl) (by kernel_rfl) (by kernel_rfl) (fun _ _ _ h => h) (Or.inl ⟨by kernel_rfl, ?_⟩) hS ?_
          rotate_left
          · intro W hSW
            go_simp
            all_goals with_reducible rfl
          refine wpAnyH_take (i := 15) (v := ?_) rfl (by kernel_rfl) (by kernel_rfl) (by kernel_rfl) (fun _ _ _ h => h) (Or.inl ⟨by kernel_rfl, ?_⟩) hS ?_
          rotate_left
          · intro W hSW
            go_simp
            all_goals with_reducible rfl
          refine wpAnyH_take (i := 16) (v := ?_) rfl (by kernel_rfl) (by kernel_rfl) (by kernel_rfl) (fun _ _ _ h => h) (Or.inl ⟨by kernel_rfl, ?_⟩) hS ?_
          rotate_left
          · intro W hSW
            have y0' := hSW.get y0
            have y1' := hSW.get y1
            have y2' := hSW.get y2
            go_simp
            all_goals with_reducible rfl
          refine wpAnyH_ready (rs := [17]) (by kernel_rfl) (by simp) ?_
          refine AllReadyH.cons rfl (fun K hK => ?_) AllReadyH.nil
          go_simp
          go_wp2_with ((go_at_call 26; refine (HF.out _).mono ?_; rintro e wn ⟨rfl, hbn⟩))
          refine hK.out _ _ (hS.trans hbn) (fun hS => ?_)
          clear hK K
          refine wpAnyH_take (i := 18) (v := ?_) rfl (by kernel_rfl) (by kernel_rfl) (by kernel_rfl) (fun _ _ _ h => h) (Or.inl ⟨by kernel_rfl, ?_⟩) hS ?_
          rotate_left
          · intro W hSW
            go_simp
            all_goals with_reducible rfl
          refine wpAnyH_done (by kernel_rfl) ?_ _
          have HE := Lib.hid (HB.out.trans (Below.mono hS HB.out.size))
          clear hS
          go_simp
          go_wp2
          go_roundw
          case rel => exact ⟨n + 1, by omega, by go_num, Or.inr ⟨m, by omega, by go_num, fun j hj hl => by
            by_cases e : j = n
            · subst e; exact HX.out hl
            · exact HM.out j (by omega) hl⟩, HE.out⟩
          case measure => simp [intOf]; omega
    · obtain rfl : n = d.length := by omega
      rcases ha with ⟨h0, rfl⟩ | ⟨m, hm, rfl, hmin⟩
      · have HD := Lib.hid (List.eq_nil_of_length_eq_zero h0)
        clear h0
        go_wp2
        go_ret
        exact ⟨-1, Or.inl ⟨HD.out, rfl⟩, rfl, HB.out⟩
      · have HM := Lib.hid hmin
        clear hmin
        go_wp2
        go_ret
        exact ⟨m, Or.inr ⟨m, rfl, hm, Qm.itAt_mem hm, fun x hx => by obtain ⟨k, hk, rfl⟩ := Qm.mem_itAt hx; exact HM.out k hk⟩, rfl, HB.out⟩

end Go.Proofs.Ytmenlfgfhnnmgaa
