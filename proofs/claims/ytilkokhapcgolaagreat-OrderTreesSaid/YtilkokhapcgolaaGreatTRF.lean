/-
  THE DOCUMENT's TREE IN MEMORY; its find.
  No conditions but sizes.
  THE DOCUMENT's TREE: Right of spots, Has, Above.
  No conditions but sizes.
  THE DOCUMENT's TREE: Within.
  No conditions but sizes.
-/
import Derived.Test.YtilkokhapcgolaaGreatRtMath
import Derived.Test.YtilkokhapcgolaaGreatRtPlace
import Derived.Test.YtilkokhapcgolaaGreatRk
import Derived.Test.YtilkokhapcgolaaGreatTLawK
import Derived.Test.YtilkokhapcgolaaGreatQCmp
namespace Go.Proofs.YtilkokhapcgolaaGreat
open Go.RowKit
open Tm (Sp Tr)

/-- a row's cells -/
def rwL (x : Qm.St × Sp) : List Value := [.int .i64 x.1.1, .int .i64 x.1.2, .int .i64 x.2.1.1, .int .i64 x.2.1.2, .string x.2.2]
theorem rwK : RK 71 30 5 48 rwL where
  und := Tryz.underlying30
  elem := by kernel_rfl
  size := fun _ => by kernel_rfl
  info := by
    have h : (Tryz.prog.info? 71).map (fun i => (i.zero, i.size, i.bytes)) = some (some (.agg #[.int .i64 0, .int .i64 0, .int .i64 0, .int .i64 0, .string ⟨#[]⟩]), 5, 48) := by kernel_rfl
    obtain ⟨i, h0, h1, h2, h3⟩ := info_split h
    exact ⟨i, _, h0, h1, h2, h3, rfl⟩
  row := ⟨_, Tryz.underlying71⟩
  len := fun _ => rfl
  one := fun x u hu => by
    simp [rwL] at hu
    rcases hu with rfl | rfl | rfl | rfl | rfl <;> rfl
  pos := by decide
  small := by decide
theorem rw_node {c : Act} {o : Oper} {x : Operand} {w : World} (ho : o.op = .load 24 x) {b s i : Nat} (hx : c.eval x = .pointer (some ⟨b, s + i * 5 + 0, none⟩)) {R : Tr} {e : Qm.St × Sp} (hrd : Rd w (some ⟨b, s, none⟩) (R.flatMap rwL)) (hi : R[i]? = some e) :
    (execOp c.eval o).run Tryz.prog w = .ok (.value (snV e.1)) w :=
  rwK.loadPart Tryz.underlying24 ho hx [.int .i64 e.1.1, .int .i64 e.1.2] hrd hi (fun j v h => by match j, h with | 0, h => exact h | 1, h => exact h) (by kernel_rfl)
theorem rw_par {c : Act} {o : Oper} {x : Operand} {w : World} (ho : o.op = .load 24 x) {b s i : Nat} (hx : c.eval x = .pointer (some ⟨b, s + i * 5 + 2, none⟩)) {R : Tr} {e : Qm.St × Sp} (hrd : Rd w (some ⟨b, s, none⟩) (R.flatMap rwL)) (hi : R[i]? = some e) :
    (execOp c.eval o).run Tryz.prog w = .ok (.value (snV e.2.1)) w :=
  rwK.loadPart Tryz.underlying24 ho hx [.int .i64 e.2.1.1, .int .i64 e.2.1.2] hrd hi (fun j v h => by match j, h with | 0, h => exact h | 1, h => exact h) (by kernel_rfl)
theorem two_cells {w : World} {k : Nat} {n : Qm.St} (h : AgAt w k #[.int .i64 n.1, .int .i64 n.2]) : w.cell? ⟨k, 0, none⟩ = some (.int .i64 n.1) ∧ w.cell? ⟨k, 1, none⟩ = some (.int .i64 n.2) := ⟨by rw [h.cell 0]; rfl, by rw [h.cell 1]; rfl⟩

/-- the document's tree, to be read -/
structure RtR (w : World) (q : Nat) (R : Tr) (p : Option Addr) (c : Nat) : Prop where
  at_ : AgAt w q #[.slice p R.length c]
  rd : Rd w p (R.flatMap rwL)
  len : R.length ≤ 500
  cap : R.length ≤ c
  nil : p = none → c = 0
theorem RtR.kept {w w' : World} {q : Nat} {R : Tr} {p : Option Addr} {c : Nat} (h : RtR w q R p c) (hb : Below w.heap.size w w') : RtR w' q R p c := ⟨AgAt.kept h.at_ hb, h.rd.below hb, h.len, h.cap, h.nil⟩
theorem RtR.cell {w : World} {q : Nat} {R : Tr} {p : Option Addr} {c : Nat} (h : RtR w q R p c) : w.cell? ⟨q, 0, none⟩ = some (.slice p R.length c) := by rw [AgAt.cell h.at_ 0]; rfl
theorem RtR.addr {w : World} {q : Nat} {R : Tr} {p : Option Addr} {c : Nat} (h : RtR w q R p c) (h0 : 0 < R.length) : ∃ b o, p = some ⟨b, o, none⟩ := by
  obtain ⟨b, o, e, -⟩ := h.rd.addr (by rw [rwK.length]; omega)
  exact ⟨b, o, e⟩

set_option maxRecDepth 100000 in
set_option maxHeartbeats 8000000 in
theorem rfind_any {q : Nat} {R : Tr} {p : Option Addr} {c : Nat} (n : Qm.St) (w : World) (h : RtR w q R p c) :
    Calls Tryz.prog 24 #[.pointer (some ⟨q, 0, none⟩), snV n] w fun e w' => (∃ (i : Nat) (b : Bool), Rtm.Found R n i b ∧ e = .returned (.tuple #[.int .i64 (i : Int), .bool b])) ∧ Below w.heap.size w w' := by
  have hb0 : Below w.heap.size w (w.alloc (.cells #[.int .i64 n.1, .int .i64 n.2] 24)) := (Below.refl _ _).alloc (Nat.le_refl _) _
  have HX0 := Lib.hid (AgAt.new w #[.int .i64 n.1, .int .i64 n.2] 24)
  have HT0 := Lib.hid (h.kept hb0)
  have HB0 := Lib.hid hb0
  have hlen := h.len
  clear h hb0
  unfold snV
  go_enter Tryz.func24, Tryz.ntmps24
  go_wp2
  generalize w.alloc (.cells #[.int .i64 n.1, .int .i64 n.2] 24) = w0 at *
  go_loopw [6] (fun i wr => ∃ k : Nat, i = .int .i64 (k : Int) ∧ k ≤ R.length ∧ (∀ j e, j < k → R[j]? = some e → Qm.ltS e.1 n) ∧ Below w0.heap.size w0 wr) (fun i _ => R.length - (intOf i).toNat)
  case atStart => exact ⟨0, rfl, Nat.zero_le _, fun j e h => absurd h (Nat.not_lt_zero _), Below.refl _ _⟩
  case round =>
    obtain ⟨k, rfl, hk, hlo, hb⟩ := hrel
    have HB := Lib.hid hb
    have HLO := Lib.hid hlo
    have HT := Lib.hid (HT0.out.kept hb)
    have HX := Lib.hid (AgAt.kept HX0.out hb)
    clear hb hlo
    have y0 := HT.out.cell
    by_cases hlt : k < R.length
    · obtain ⟨b, o, rfl⟩ := HT.out.addr (by omega)
      obtain ⟨e, he⟩ : ∃ e, R[k]? = some e := ⟨_, List.getElem?_eq_getElem hlt⟩
      have HK := Lib.hid he
      have HLT := Lib.hid hlt
      have HC := Lib.hid (fun W => qrefCompare_any e.1.1 e.1.2 n.1 n.2 W)
      have hk5 : k < 500 := by omega
      have HLE := Lib.hid hk
      clear he
      rcases Qm.ltS_tri e.1 n with hc | hc | hc
      · rw [show qcmpS e.1.1 e.1.2 n.1 n.2 = -1 from cmpV_lt hc] at HC
        have HNX := Lib.hid (show ∀ j e', j < k + 1 → R[j]? = some e' → Qm.ltS e'.1 n from fun j e' hj he' => by
          by_cases h1 : j < k
          · exact HLO.out j e' h1 he'
          · obtain rfl : j = k := by omega
            rw [HK.out] at he'
            cases he'
            exact hc)
        clear hc
        go_wp2
        refine wp_region_held_drew (S := fun W => Below wr.heap.size wr W) (by kernel_rfl) (Below.drew (Below.refl _ _)) (fun hS => ?_)
        refine wpAnyH_take (i := 0) (v := ?_) rfl (by kernel_rfl) (by kernel_rfl) (by kernel_rfl) (fun _ _ _ h => h) (Or.inl ⟨by kernel_rfl, ?_⟩) hS ?_
        rotate_left
        · intro W hSW
          go_simp
          all_goals with_reducible rfl
        refine wpAnyH_take (i := 1) (v := ?_) rfl (by kernel_rfl) (by kernel_rfl) (by kernel_rfl) (fun _ _ _ h => h) (Or.inl ⟨by kernel_rfl, ?_⟩) hS ?_
        rotate_left
        · intro W hSW
          go_simp
          all_goals with_reducible rfl
        refine wpAnyH_take (i := 2) (v := ?_) rfl (by kernel_rfl) (by kernel_rfl) (by kernel_rfl) (fun _ _ _ h => h) (Or.inl ⟨by kernel_rfl, ?_⟩) hS ?_
        rotate_left
        · intro W hSW
          go_simp
          all_goals with_reducible rfl
        refine wpAnyH_take (i := 3) (v := ?_) rfl (by kernel_rfl) (by kernel_rfl) (by kernel_rfl) (fun _ _ _ h => h) (Or.inl ⟨by kernel_rfl, ?_⟩) hS ?_
        rotate_left
        · intro W hSW
          have y0' := (HT.out.kept hSW).cell
          go_simp
          all_goals with_reducible rfl
        go_simp
        refine wpAnyH_take (i := 4) (v := ?_) rfl (by kernel_rfl) (by kernel_rfl) (by kernel_rfl) (fun _ _ _ h => h) (Or.inl ⟨by kernel_rfl, ?_⟩) hS ?_
        rotate_left
        · intro W hSW
          go_simp
          all_goals with_reducible rfl
        refine wpAnyH_take (i := 5) (v := ?_) rfl (by kernel_rfl) (by kernel_rfl) (by kernel_rfl) (fun _ _ _ h => h) (Or.inl ⟨by kernel_rfl, ?_⟩) hS ?_
        rotate_left
        · intro W hSW
          go_simp
          all_goals with_reducible rfl
        refine wpAnyH_take (i := 6) (v := ?_) rfl (by kernel_rfl) (by kernel_rfl) (by kernel_rfl) (fun _ _ _ h => h) (Or.inl ⟨by kernel_rfl, ?_⟩) hS ?_
        rotate_left
        · intro W hSW
          go_simp
          all_goals with_reducible rfl
        go_simp
        refine wpAnyH_take (i := 7) (v := snV e.1) rfl (by kernel_rfl) (by kernel_rfl) (by kernel_rfl) (fun _ _ _ h => h) (Or.inl ⟨by kernel_rfl, fun W hSW => rw_node rfl rfl (HT.out.kept hSW).rd HK.out⟩) hS ?_
        refine wpAnyH_take (i := 8) (v := ?_) rfl (by kernel_rfl) (by kernel_rfl) (by kernel_rfl) (fun _ _ _ h => h) (Or.inl ⟨by kernel_rfl, ?_⟩) hS ?_
        rotate_left
        · intro W hSW
          obtain ⟨s0', s1'⟩ := two_cells (AgAt.kept HX.out hSW)
          go_simp
          all_goals with_reducible rfl
        go_simp
        refine wpAnyH_ready (rs := [9]) (by kernel_rfl) (by simp) ?_
        refine AllReadyH.cons rfl (fun K hK => ?_) AllReadyH.nil
        go_simp
        go_wp2_with ((go_at_call 46; refine (HC.out _).mono ?_; rintro e wn ⟨rfl, hbn⟩))
        refine hK.out _ _ (hS.trans (hbn.mono hS.size)) (fun hS => ?_)
        clear hK K hbn
        refine wpAnyH_take (i := 10) (v := ?_) rfl (by kernel_rfl) (by kernel_rfl) (by kernel_rfl) (fun _ _ _ h => h) (Or.inl ⟨by kernel_rfl, ?_⟩) hS ?_
        rotate_left
        · intro W hSW
          go_simp
          all_goals with_reducible rfl
        go_simp
        refine wpAnyH_done (by kernel_rfl) ?_ _
        go_simp
        have HN := Lib.hid hS
        clear hS
        go_wp2
        go_roundw
        case rel => exact ⟨k + 1, by go_num, by have := HLT.out; omega, HNX.out, HB.out.trans (HN.out.mono HB.out.size)⟩
        case measure => simp [intOf]; have := HLT.out; omega
      ·
        rw [show qcmpS e.1.1 e.1.2 n.1 n.2 = 0 from by rw [hc]; exact cmpV_eq n] at HC
        have HEQ := Lib.hid (show decide (e.1 = n) = true from decide_eq_true hc)
        have HF := Lib.hid (show Rtm.Found R n k true from ⟨HLE.out, HLO.out, (fun _ => ⟨e.2, by rw [HK.out, ← hc]⟩), (fun h => by cases h)⟩)
        clear hc
        go_wp2
        refine wp_region_held_drew (S := fun W => Below wr.heap.size wr W) (by kernel_rfl) (Below.drew (Below.refl _ _)) (fun hS => ?_)
        refine wpAnyH_take (i := 0) (v := ?_) rfl (by kernel_rfl) (by kernel_rfl) (by kernel_rfl) (fun _ _ _ h => h) (Or.inl ⟨by kernel_rfl, ?_⟩) hS ?_
        rotate_left
        · intro W hSW
          go_simp
          all_goals with_reducible rfl
        refine wpAnyH_take (i := 1) (v := ?_) rfl (by kernel_rfl) (by kernel_rfl) (by kernel_rfl) (fun _ _ _ h => h) (Or.inl ⟨by kernel_rfl, ?_⟩) hS ?_
        rotate_left
        · intro W hSW
          go_simp
          all_goals with_reducible rfl
        refine wpAnyH_take (i := 2) (v := ?_) rfl (by kernel_rfl) (by kernel_rfl) (by kernel_rfl) (fun _ _ _ h => h) (Or.inl ⟨by kernel_rfl, ?_⟩) hS ?_
        rotate_left
        · intro W hSW
          go_simp
          all_goals with_reducible rfl
        refine wpAnyH_take (i := 3) (v := ?_) rfl (by kernel_rfl) (by kernel_rfl) (by kernel_rfl) (fun _ _ _ h => h) (Or.inl ⟨by kernel_rfl, ?_⟩) hS ?_
        rotate_left
        · intro W hSW
          have y0' := (HT.out.kept hSW).cell
          go_simp
          all_goals with_reducible rfl
        go_simp
        refine wpAnyH_take (i := 4) (v := ?_) rfl (by kernel_rfl) (by kernel_rfl) (by kernel_rfl) (fun _ _ _ h => h) (Or.inl ⟨by kernel_rfl, ?_⟩) hS ?_
        rotate_left
        · intro W hSW
          go_simp
          all_goals with_reducible rfl
        refine wpAnyH_take (i := 5) (v := ?_) rfl (by kernel_rfl) (by kernel_rfl) (by kernel_rfl) (fun _ _ _ h => h) (Or.inl ⟨by kernel_rfl, ?_⟩) hS ?_
        rotate_left
        · intro W hSW
          go_simp
          all_goals with_reducible rfl
        refine wpAnyH_take (i := 6) (v := ?_) rfl (by kernel_rfl) (by kernel_rfl) (by kernel_rfl) (fun _ _ _ h => h) (Or.inl ⟨by kernel_rfl, ?_⟩) hS ?_
        rotate_left
        · intro W hSW
          go_simp
          all_goals with_reducible rfl
        go_simp
        refine wpAnyH_take (i := 7) (v := snV e.1) rfl (by kernel_rfl) (by kernel_rfl) (by kernel_rfl) (fun _ _ _ h => h) (Or.inl ⟨by kernel_rfl, fun W hSW => rw_node rfl rfl (HT.out.kept hSW).rd HK.out⟩) hS ?_
        refine wpAnyH_take (i := 8) (v := ?_) rfl (by kernel_rfl) (by kernel_rfl) (by kernel_rfl) (fun _ _ _ h => h) (Or.inl ⟨by kernel_rfl, ?_⟩) hS ?_
        rotate_left
        · intro W hSW
          obtain ⟨s0', s1'⟩ := two_cells (AgAt.kept HX.out hSW)
          go_simp
          all_goals with_reducible rfl
        go_simp
        refine wpAnyH_ready (rs := [9]) (by kernel_rfl) (by simp) ?_
        refine AllReadyH.cons rfl (fun K hK => ?_) AllReadyH.nil
        go_simp
        go_wp2_with ((go_at_call 46; refine (HC.out _).mono ?_; rintro e wn ⟨rfl, hbn⟩))
        refine hK.out _ _ (hS.trans (hbn.mono hS.size)) (fun hS => ?_)
        clear hK K hbn
        refine wpAnyH_take (i := 10) (v := ?_) rfl (by kernel_rfl) (by kernel_rfl) (by kernel_rfl) (fun _ _ _ h => h) (Or.inl ⟨by kernel_rfl, ?_⟩) hS ?_
        rotate_left
        · intro W hSW
          go_simp
          all_goals with_reducible rfl
        go_simp
        refine wpAnyH_done (by kernel_rfl) ?_ _
        go_simp
        have HN := Lib.hid hS
        have HT := Lib.hid (HT.out.kept hS)
        have HX := Lib.hid (AgAt.kept HX.out hS)
        clear hS HC
        go_upto_region 5 with fail
        generalize wn = w5 at *
        refine wp_region_held_drew (S := fun W => Below w5.heap.size w5 W) (by kernel_rfl) (Below.drew (Below.refl _ _)) (fun hS => ?_)
        refine wpAnyH_take (i := 0) (v := ?_) rfl (by kernel_rfl) (by kernel_rfl) (by kernel_rfl) (fun _ _ _ h => h) (Or.inl ⟨by kernel_rfl, ?_⟩) hS ?_
        rotate_left
        · intro W hSW
          go_simp
          all_goals with_reducible rfl
        refine wpAnyH_take (i := 1) (v := ?_) rfl (by kernel_rfl) (by kernel_rfl) (by kernel_rfl) (fun _ _ _ h => h) (Or.inl ⟨by kernel_rfl, ?_⟩) hS ?_
        rotate_left
        · intro W hSW
          go_simp
          all_goals with_reducible rfl
        refine wpAnyH_take (i := 2) (v := ?_) rfl (by kernel_rfl) (by kernel_rfl) (by kernel_rfl) (fun _ _ _ h => h) (Or.inl ⟨by kernel_rfl, ?_⟩) hS ?_
        rotate_left
        · intro W hSW
          go_simp
          all_goals with_reducible rfl
        refine wpAnyH_take (i := 3) (v := ?_) rfl (by kernel_rfl) (by kernel_rfl) (by kernel_rfl) (fun _ _ _ h => h) (Or.inl ⟨by kernel_rfl, ?_⟩) hS ?_
        rotate_left
        · intro W hSW
          go_simp
          all_goals with_reducible rfl
        go_simp
        refine wpAnyH_take (i := 4) (v := ?_) rfl (by kernel_rfl) (by kernel_rfl) (by kernel_rfl) (fun _ _ _ h => h) (Or.inl ⟨by kernel_rfl, ?_⟩) hS ?_
        rotate_left
        · intro W hSW
          have y0' := (HT.out.kept hSW).cell
          go_simp
          all_goals with_reducible rfl
        refine wpAnyH_take (i := 5) (v := ?_) rfl (by kernel_rfl) (by kernel_rfl) (by kernel_rfl) (fun _ _ _ h => h) (Or.inl ⟨by kernel_rfl, ?_⟩) hS ?_
        rotate_left
        · intro W hSW
          go_simp
          all_goals with_reducible rfl
        refine wpAnyH_take (i := 6) (v := ?_) rfl (by kernel_rfl) (by kernel_rfl) (by kernel_rfl) (fun _ _ _ h => h) (Or.inl ⟨by kernel_rfl, ?_⟩) hS ?_
        rotate_left
        · intro W hSW
          go_simp
          all_goals with_reducible rfl
        refine wpAnyH_take (i := 7) (v := ?_) rfl (by kernel_rfl) (by kernel_rfl) (by kernel_rfl) (fun _ _ _ h => h) (Or.inl ⟨by kernel_rfl, ?_⟩) hS ?_
        rotate_left
        · intro W hSW
          go_simp
          all_goals with_reducible rfl
        go_simp
        refine wpAnyH_take (i := 8) (v := snV e.1) rfl (by kernel_rfl) (by kernel_rfl) (by kernel_rfl) (fun _ _ _ h => h) (Or.inl ⟨by kernel_rfl, fun W hSW => rw_node rfl rfl (HT.out.kept hSW).rd HK.out⟩) hS ?_
        refine wpAnyH_take (i := 9) (v := ?_) rfl (by kernel_rfl) (by kernel_rfl) (by kernel_rfl) (fun _ _ _ h => h) (Or.inl ⟨by kernel_rfl, ?_⟩) hS ?_
        rotate_left
        · intro W hSW
          obtain ⟨s0', s1'⟩ := two_cells (AgAt.kept HX.out hSW)
          go_simp
          all_goals with_reducible rfl
        go_simp
        refine wpAnyH_take (i := 10) (v := .bool true) rfl (by kernel_rfl) (by kernel_rfl) (by kernel_rfl) (fun _ _ _ h => h) (Or.inl ⟨by kernel_rfl, fun W hSW => (exec_eql_st rfl e.1 n rfl rfl).trans (by rw [HEQ.out])⟩) hS ?_
        refine wpAnyH_take (i := 11) (v := ?_) rfl (by kernel_rfl) (by kernel_rfl) (by kernel_rfl) (fun _ _ _ h => h) (Or.inl ⟨by kernel_rfl, ?_⟩) hS ?_
        rotate_left
        · intro W hSW
          go_simp
          all_goals with_reducible rfl
        refine wpAnyH_take (i := 12) (v := ?_) rfl (by kernel_rfl) (by kernel_rfl) (by kernel_rfl) (fun _ _ _ h => h) (Or.inl ⟨by kernel_rfl, ?_⟩) hS ?_
        rotate_left
        · intro W hSW
          go_simp
          all_goals with_reducible rfl
        go_simp
        refine wpAnyH_done (by kernel_rfl) ?_ _
        go_simp
        have HN2 := Lib.hid hS
        clear hS
        go_wp2
        go_ret2
        exact ⟨⟨k, true, HF.out, rfl⟩, HB0.out.trans ((HB.out.trans ((HN.out.trans (HN2.out.mono HN.out.size)).mono HB.out.size)).mono HB0.out.size)⟩
      ·
        rw [show qcmpS e.1.1 e.1.2 n.1 n.2 = 1 from cmpV_gt hc] at HC
        have HEQ := Lib.hid (show decide (e.1 = n) = false from decide_eq_false (fun h => by rw [h] at hc; exact Qm.ltS_irrefl _ hc))
        have HF := Lib.hid (show Rtm.Found R n k false from ⟨HLE.out, HLO.out, (fun h => by cases h), (fun _ e2 h2 => by rw [HK.out] at h2; cases h2; exact hc)⟩)
        clear hc
        go_wp2
        refine wp_region_held_drew (S := fun W => Below wr.heap.size wr W) (by kernel_rfl) (Below.drew (Below.refl _ _)) (fun hS => ?_)
        refine wpAnyH_take (i := 0) (v := ?_) rfl (by kernel_rfl) (by kernel_rfl) (by kernel_rfl) (fun _ _ _ h => h) (Or.inl ⟨by kernel_rfl, ?_⟩) hS ?_
        rotate_left
        · intro W hSW
          go_simp
          all_goals with_reducible rfl
        refine wpAnyH_take (i := 1) (v := ?_) rfl (by kernel_rfl) (by kernel_rfl) (by kernel_rfl) (fun _ _ _ h => h) (Or.inl ⟨by kernel_rfl, ?_⟩) hS ?_
        rotate_left
        · intro W hSW
          go_simp
          all_goals with_reducible rfl
        refine wpAnyH_take (i := 2) (v := ?_) rfl (by kernel_rfl) (by kernel_rfl) (by kernel_rfl) (fun _ _ _ h => h) (Or.inl ⟨by kernel_rfl, ?_⟩) hS ?_
        rotate_left
        · intro W hSW
          go_simp
          all_goals with_reducible rfl
        refine wpAnyH_take (i := 3) (v := ?_) rfl (by kernel_rfl) (by kernel_rfl) (by kernel_rfl) (fun _ _ _ h => h) (Or.inl ⟨by kernel_rfl, ?_⟩) hS ?_
        rotate_left
        · intro W hSW
          have y0' := (HT.out.kept hSW).cell
          go_simp
          all_goals with_reducible rfl
        go_simp
        refine wpAnyH_take (i := 4) (v := ?_) rfl (by kernel_rfl) (by kernel_rfl) (by kernel_rfl) (fun _ _ _ h => h) (Or.inl ⟨by kernel_rfl, ?_⟩) hS ?_
        rotate_left
        · intro W hSW
          go_simp
          all_goals with_reducible rfl
        refine wpAnyH_take (i := 5) (v := ?_) rfl (by kernel_rfl) (by kernel_rfl) (by kernel_rfl) (fun _ _ _ h => h) (Or.inl ⟨by kernel_rfl, ?_⟩) hS ?_
        rotate_left
        · intro W hSW
          go_simp
          all_goals with_reducible rfl
        refine wpAnyH_take (i := 6) (v := ?_) rfl (by kernel_rfl) (by kernel_rfl) (by kernel_rfl) (fun _ _ _ h => h) (Or.inl ⟨by kernel_rfl, ?_⟩) hS ?_
        rotate_left
        · intro W hSW
          go_simp
          all_goals with_reducible rfl
        go_simp
        refine wpAnyH_take (i := 7) (v := snV e.1) rfl (by kernel_rfl) (by kernel_rfl) (by kernel_rfl) (fun _ _ _ h => h) (Or.inl ⟨by kernel_rfl, fun W hSW => rw_node rfl rfl (HT.out.kept hSW).rd HK.out⟩) hS ?_
        refine wpAnyH_take (i := 8) (v := ?_) rfl (by kernel_rfl) (by kernel_rfl) (by kernel_rfl) (fun _ _ _ h => h) (Or.inl ⟨by kernel_rfl, ?_⟩) hS ?_
        rotate_left
        · intro W hSW
          obtain ⟨s0', s1'⟩ := two_cells (AgAt.kept HX.out hSW)
          go_simp
          all_goals with_reducible rfl
        go_simp
        refine wpAnyH_ready (rs := [9]) (by kernel_rfl) (by simp) ?_
        refine AllReadyH.cons rfl (fun K hK => ?_) AllReadyH.nil
        go_simp
        go_wp2_with ((go_at_call 46; refine (HC.out _).mono ?_; rintro e wn ⟨rfl, hbn⟩))
        refine hK.out _ _ (hS.trans (hbn.mono hS.size)) (fun hS => ?_)
        clear hK K hbn
        refine wpAnyH_take (i := 10) (v := ?_) rfl (by kernel_rfl) (by kernel_rfl) (by kernel_rfl) (fun _ _ _ h => h) (Or.inl ⟨by kernel_rfl, ?_⟩) hS ?_
        rotate_left
        · intro W hSW
          go_simp
          all_goals with_reducible rfl
        go_simp
        refine wpAnyH_done (by kernel_rfl) ?_ _
        go_simp
        have HN := Lib.hid hS
        have HT := Lib.hid (HT.out.kept hS)
        have HX := Lib.hid (AgAt.kept HX.out hS)
        clear hS HC
        go_upto_region 5 with fail
        generalize wn = w5 at *
        refine wp_region_held_drew (S := fun W => Below w5.heap.size w5 W) (by kernel_rfl) (Below.drew (Below.refl _ _)) (fun hS => ?_)
        refine wpAnyH_take (i := 0) (v := ?_) rfl (by kernel_rfl) (by kernel_rfl) (by kernel_rfl) (fun _ _ _ h => h) (Or.inl ⟨by kernel_rfl, ?_⟩) hS ?_
        rotate_left
        · intro W hSW
          go_simp
          all_goals with_reducible rfl
        refine wpAnyH_take (i := 1) (v := ?_) rfl (by kernel_rfl) (by kernel_rfl) (by kernel_rfl) (fun _ _ _ h => h) (Or.inl ⟨by kernel_rfl, ?_⟩) hS ?_
        rotate_left
        · intro W hSW
          go_simp
          all_goals with_reducible rfl
        refine wpAnyH_take (i := 2) (v := ?_) rfl (by kernel_rfl) (by kernel_rfl) (by kernel_rfl) (fun _ _ _ h => h) (Or.inl ⟨by kernel_rfl, ?_⟩) hS ?_
        rotate_left
        · intro W hSW
          go_simp
          all_goals with_reducible rfl
        refine wpAnyH_take (i := 3) (v := ?_) rfl (by kernel_rfl) (by kernel_rfl) (by kernel_rfl) (fun _ _ _ h => h) (Or.inl ⟨by kernel_rfl, ?_⟩) hS ?_
        rotate_left
        · intro W hSW
          go_simp
          all_goals with_reducible rfl
        go_simp
        refine wpAnyH_take (i := 4) (v := ?_) rfl (by kernel_rfl) (by kernel_rfl) (by kernel_rfl) (fun _ _ _ h => h) (Or.inl ⟨by kernel_rfl, ?_⟩) hS ?_
        rotate_left
        · intro W hSW
          have y0' := (HT.out.kept hSW).cell
          go_simp
          all_goals with_reducible rfl
        refine wpAnyH_take (i := 5) (v := ?_) rfl (by kernel_rfl) (by kernel_rfl) (by kernel_rfl) (fun _ _ _ h => h) (Or.inl ⟨by kernel_rfl, ?_⟩) hS ?_
        rotate_left
        · intro W hSW
          go_simp
          all_goals with_reducible rfl
        refine wpAnyH_take (i := 6) (v := ?_) rfl (by kernel_rfl) (by kernel_rfl) (by kernel_rfl) (fun _ _ _ h => h) (Or.inl ⟨by kernel_rfl, ?_⟩) hS ?_
        rotate_left
        · intro W hSW
          go_simp
          all_goals with_reducible rfl
        refine wpAnyH_take (i := 7) (v := ?_) rfl (by kernel_rfl) (by kernel_rfl) (by kernel_rfl) (fun _ _ _ h => h) (Or.inl ⟨by kernel_rfl, ?_⟩) hS ?_
        rotate_left
        · intro W hSW
          go_simp
          all_goals with_reducible rfl
        go_simp
        refine wpAnyH_take (i := 8) (v := snV e.1) rfl (by kernel_rfl) (by kernel_rfl) (by kernel_rfl) (fun _ _ _ h => h) (Or.inl ⟨by kernel_rfl, fun W hSW => rw_node rfl rfl (HT.out.kept hSW).rd HK.out⟩) hS ?_
        refine wpAnyH_take (i := 9) (v := ?_) rfl (by kernel_rfl) (by kernel_rfl) (by kernel_rfl) (fun _ _ _ h => h) (Or.inl ⟨by kernel_rfl, ?_⟩) hS ?_
        rotate_left
        · intro W hSW
          obtain ⟨s0', s1'⟩ := two_cells (AgAt.kept HX.out hSW)
          go_simp
          all_goals with_reducible rfl
        go_simp
        refine wpAnyH_take (i := 10) (v := .bool false) rfl (by kernel_rfl) (by kernel_rfl) (by kernel_rfl) (fun _ _ _ h => h) (Or.inl ⟨by kernel_rfl, fun W hSW => (exec_eql_st rfl e.1 n rfl rfl).trans (by rw [HEQ.out])⟩) hS ?_
        refine wpAnyH_take (i := 11) (v := ?_) rfl (by kernel_rfl) (by kernel_rfl) (by kernel_rfl) (fun _ _ _ h => h) (Or.inl ⟨by kernel_rfl, ?_⟩) hS ?_
        rotate_left
        · intro W hSW
          go_simp
          all_goals with_reducible rfl
        refine wpAnyH_take (i := 12) (v := ?_) rfl (by kernel_rfl) (by kernel_rfl) (by kernel_rfl) (fun _ _ _ h => h) (Or.inl ⟨by kernel_rfl, ?_⟩) hS ?_
        rotate_left
        · intro W hSW
          go_simp
          all_goals with_reducible rfl
        go_simp
        refine wpAnyH_done (by kernel_rfl) ?_ _
        go_simp
        have HN2 := Lib.hid hS
        clear hS
        go_wp2
        go_ret2
        exact ⟨⟨k, false, HF.out, rfl⟩, HB0.out.trans ((HB.out.trans ((HN.out.trans (HN2.out.mono HN.out.size)).mono HB.out.size)).mono HB0.out.size)⟩
    · have HF := Lib.hid (show Rtm.Found R n R.length false from ⟨Nat.le_refl _, fun j e hj he => HLO.out j e (by omega) he, (fun h => by cases h), fun _ e h => by rw [List.getElem?_eq_none (Nat.le_refl _)] at h; cases h⟩)
      go_wp2
      go_ret2
      exact ⟨⟨R.length, false, HF.out, rfl⟩, HB0.out.trans (HB.out.mono HB0.out.size)⟩

end Go.Proofs.YtilkokhapcgolaaGreat

namespace Go.Proofs.YtilkokhapcgolaaGreat
open Go.RowKit
open Tm (Sp Tr)

set_option maxRecDepth 100000 in
set_option maxHeartbeats 1000000 in
theorem rrightSp_any (s : Sp) (w : World) (hk : s.2.size ≤ 140737488355328) : Calls Tryz.prog 26 #[spV s] w fun e w' => e = .returned (.bool (Tm.rightSp s)) ∧ Below w.heap.size w w' := by
  have HB := Lib.hid ((Below.refl w.heap.size w).alloc (Nat.le_refl _) (.cells (spA s) 34))
  have HT := Lib.hid (AgAt.new w (spA s) 34)
  have HR := Lib.hid (show Tm.rightSp s = (okPlace s.1.1 s.1.2 && Km.rightB s.2.data.toList) from rfl)
  rw [HR.out]
  clear HR
  have HP := Lib.hid (fun W => rplace_any s.1.1 s.1.2 W)
  have HQ := Lib.hid (fun W => refRight_any s.2 W hk)
  clear hk
  generalize Km.rightB s.2.data.toList = nb at *
  generalize okPlace s.1.1 s.1.2 = pb at *
  cases pb with
  | false =>
    go_enter Tryz.func26, Tryz.ntmps26
    go_wp2_with (refine wpList_load_part stT rfl _ rfl _ 0 rfl [.int .i64 s.1.1, .int .i64 s.1.2] rfl HT.out spPar ?_)
    refine (HP.out _).mono ?_
    rintro e w1 ⟨rfl, hb1⟩
    have HB1 := Lib.hid (HB.out.trans (hb1.mono HB.out.size))
    clear hb1
    go_wp2
    go_ret
    exact ⟨rfl, HB1.out⟩
  | true =>
    go_enter Tryz.func26, Tryz.ntmps26
    go_wp2_with (refine wpList_load_part stT rfl _ rfl _ 0 rfl [.int .i64 s.1.1, .int .i64 s.1.2] rfl HT.out spPar ?_)
    refine (HP.out _).mono ?_
    rintro e w1 ⟨rfl, hb1⟩
    have HB1 := Lib.hid (HB.out.trans (hb1.mono HB.out.size))
    have y2 : w1.cell? ⟨w.heap.size, 2, none⟩ = some (.string s.2) := by rw [AgAt.cell (AgAt.kept HT.out hb1) 2]; rfl
    clear hb1
    go_wp2_with fail
    refine (HQ.out _).mono ?_
    rintro e w2 ⟨rfl, rfl⟩
    go_wp2
    go_ret
    exact ⟨rfl, HB1.out⟩

theorem rd_st1 (w : World) (s : Qm.St) : Rd (w.alloc (.cells #[.int .i64 s.1, .int .i64 s.2] 24)) (some ⟨w.heap.size, 0, none⟩) (stCells [s]) := fun _ => ⟨_, 0, rfl, fun i u hu => by
  rw [Nat.zero_add, World.cell?_alloc_at _ _ _ _ rfl]
  rw [← hu]
  simp [stCells]⟩
theorem wpList_buildSt {w : World} {ops : Array Oper} {rest : List Oper} {o : Oper} {a : Act} {Q : Exit → Act → World → Prop} (hgd : o.guard = none) (x : Operand) (ho : o.op = .buildSlice 74 1 #[(0, x)]) (s : Qm.St) (hx : a.eval x = snV s)
    (h : wpList Tryz.prog ops Q rest (a.put o.dst (.slice (some ⟨w.heap.size, 0, none⟩) 1 1)) (w.alloc (.cells #[.int .i64 s.1, .int .i64 s.2] 24))) : wpList Tryz.prog ops Q (o :: rest) a w := by
  have hr : (Instr.buildSlice 74 1 #[(0, .agg #[.int .i64 s.1, .int .i64 s.2])]).run Tryz.prog w = .ok (.slice (some ⟨w.heap.size, 0, none⟩) 1 1) (w.alloc (.cells #[.int .i64 s.1, .int .i64 s.2] 24)) := by kernel_rfl
  refine wpList_value (by simp [Region.wanted, hgd]) ?_ h
  unfold execOp
  rw [show snV s = .agg #[.int .i64 s.1, .int .i64 s.2] from rfl] at hx
  simp only [ho, Sem.run_bind, Sem.run_pure, Result.andThen_ok, List.map_toArray, List.map_cons, List.map_nil, hx, hr]

set_option maxRecDepth 100000 in
set_option maxHeartbeats 4000000 in
theorem rhas_any {q : Nat} {R : Tr} {p : Option Addr} {c : Nat} (n : Qm.St) (w : World) (h : RtR w q R p c) (hr : Rtm.Ris R) :
    Calls Tryz.prog 27 #[.pointer (some ⟨q, 0, none⟩), snV n] w fun e w' => e = .returned (.bool (Tm.has R n)) ∧ Below w.heap.size w w' := by
  have hb0 : Below w.heap.size w (w.alloc (.cells #[.int .i64 n.1, .int .i64 n.2] 24)) := (Below.refl _ _).alloc (Nat.le_refl _) _
  have HX0 := Lib.hid (AgAt.new w #[.int .i64 n.1, .int .i64 n.2] 24)
  have HF := Lib.hid (rfind_any n _ (h.kept hb0))
  have HB0 := Lib.hid hb0
  have HRI := Lib.hid hr
  clear h hb0 hr
  go_enter Tryz.func27, Tryz.ntmps27
  go_wp2_with (refine wpList_load_ag stT rfl _ rfl _ rfl rfl HX0.out ?_)
  generalize w.alloc (.cells #[.int .i64 n.1, .int .i64 n.2] 24) = w0 at *
  refine HF.out.mono ?_
  rintro e w1 ⟨⟨i, b, hf, rfl⟩, hb1⟩
  have HX := Lib.hid (AgAt.kept HX0.out hb1)
  have HB1 := Lib.hid hb1
  have HLK := Lib.hid (hf.look HRI.out).1
  clear hf hb1 HF
  cases b
  · by_cases hz : n = (0, 0)
    · have HZ := Lib.hid (show decide (n = (0, 0)) = true from decide_eq_true hz)
      have HA := Lib.hid (show Tm.has R n = true from by unfold Tm.has; rw [Tm.top_iff.2 (Or.inl hz)]; simp)
      clear hz
      go_upto_region 2 with fail
      refine wp_region_held_drew (S := fun W => Below w1.heap.size w1 W) (by kernel_rfl) (Below.drew (Below.refl _ _)) (fun hS => ?_)
      refine wpAnyH_take (i := 0) (v := ?_) rfl (by kernel_rfl) (by kernel_rfl) (by kernel_rfl) (fun _ _ _ h => h) (Or.inl ⟨by kernel_rfl, ?_⟩) hS ?_
      rotate_left
      · intro W hSW
        go_simp
        all_goals with_reducible rfl
      refine wpAnyH_take (i := 1) (v := ?_) rfl (by kernel_rfl) (by kernel_rfl) (by kernel_rfl) (fun _ _ _ h => h) (Or.inl ⟨by kernel_rfl, ?_⟩) hS ?_
      rotate_left
      · intro W hSW
        go_simp
        all_goals with_reducible rfl
      go_simp
      refine wpAnyH_take (i := 2) (v := snV n) rfl (by kernel_rfl) (by kernel_rfl) (by kernel_rfl) (fun _ _ _ h => h) (Or.inl ⟨by kernel_rfl, fun W hSW => exec_load_ag stT rfl rfl rfl (AgAt.kept HX.out hSW)⟩) hS ?_
      go_simp
      refine wpAnyH_ready (rs := [3]) (by kernel_rfl) (by simp) ?_
      refine AllReadyH.cons rfl (fun K hK => ?_) AllReadyH.nil
      go_simp
      go_wp2_with ((go_at_call 50; refine (rroot_any _).mono ?_; rintro e wn ⟨rfl, hbn⟩))
      refine hK.out _ _ (hS.trans (hbn.mono hS.size)) (fun hS => ?_)
      clear hK K hbn
      refine wpAnyH_take (i := 4) (v := .bool true) rfl (by kernel_rfl) (by kernel_rfl) (by kernel_rfl) (fun _ _ _ h => h) (Or.inl ⟨by kernel_rfl, fun W hSW => (exec_eql_st rfl n (0, 0) rfl rfl).trans (by rw [HZ.out])⟩) hS ?_
      refine wpAnyH_take (i := 5) (v := ?_) rfl (by kernel_rfl) (by kernel_rfl) (by kernel_rfl) (fun _ _ _ h => h) (Or.inl ⟨by kernel_rfl, ?_⟩) hS ?_
      rotate_left
      · intro W hSW
        go_simp
        all_goals with_reducible rfl
      refine wpAnyH_take (i := 6) (v := ?_) rfl (by kernel_rfl) (by kernel_rfl) (by kernel_rfl) (fun _ _ _ h => h) (Or.inl ⟨by kernel_rfl, ?_⟩) hS ?_
      rotate_left
      · intro W hSW
        go_simp
        all_goals with_reducible rfl
      go_simp
      refine wpAnyH_take (i := 7) (v := undef) rfl (by kernel_rfl) (by kernel_rfl) (by kernel_rfl) (fun _ _ _ h => h) (Or.inr ⟨by kernel_rfl, rfl⟩) hS ?_
      go_simp
      refine wpAnyH_take (i := 8) (v := undef) rfl (by kernel_rfl) (by kernel_rfl) (by kernel_rfl) (fun _ _ _ h => h) (Or.inr ⟨by kernel_rfl, rfl⟩) hS ?_
      go_simp
      refine wpAnyH_take (i := 9) (v := undef) rfl (by kernel_rfl) (by kernel_rfl) (by kernel_rfl) (fun _ _ _ h => h) (Or.inr ⟨by kernel_rfl, rfl⟩) hS ?_
      refine wpAnyH_take (i := 10) (v := ?_) rfl (by kernel_rfl) (by kernel_rfl) (by kernel_rfl) (fun _ _ _ h => h) (Or.inl ⟨by kernel_rfl, ?_⟩) hS ?_
      rotate_left
      · intro W hSW
        go_simp
        all_goals with_reducible rfl
      refine wpAnyH_take (i := 11) (v := ?_) rfl (by kernel_rfl) (by kernel_rfl) (by kernel_rfl) (fun _ _ _ h => h) (Or.inl ⟨by kernel_rfl, ?_⟩) hS ?_
      rotate_left
      · intro W hSW
        go_simp
        all_goals with_reducible rfl
      go_simp
      refine wpAnyH_done (by kernel_rfl) ?_ _
      go_simp
      have HN := Lib.hid hS
      clear hS
      go_wp2
      go_ret
      rw [HA.out]
      exact ⟨rfl, HB0.out.trans ((HB1.out.trans (HN.out.mono HB1.out.size)).mono HB0.out.size)⟩
    · have HZ := Lib.hid (show decide (n = (0, 0)) = false from decide_eq_false hz)
      by_cases ht : n = (0, 1)
      · have HTR := Lib.hid (show decide (n = (0, 1)) = true from decide_eq_true ht)
        have HA := Lib.hid (show Tm.has R n = true from by unfold Tm.has; rw [Tm.top_iff.2 (Or.inr ht)]; simp)
        clear hz ht
        go_upto_region 2 with fail
        refine wp_region_held_drew (S := fun W => Below w1.heap.size w1 W) (by kernel_rfl) (Below.drew (Below.refl _ _)) (fun hS => ?_)
        refine wpAnyH_take (i := 0) (v := ?_) rfl (by kernel_rfl) (by kernel_rfl) (by kernel_rfl) (fun _ _ _ h => h) (Or.inl ⟨by kernel_rfl, ?_⟩) hS ?_
        rotate_left
        · intro W hSW
          go_simp
          all_goals with_reducible rfl
        refine wpAnyH_take (i := 1) (v := ?_) rfl (by kernel_rfl) (by kernel_rfl) (by kernel_rfl) (fun _ _ _ h => h) (Or.inl ⟨by kernel_rfl, ?_⟩) hS ?_
        rotate_left
        · intro W hSW
          go_simp
          all_goals with_reducible rfl
        go_simp
        refine wpAnyH_take (i := 2) (v := snV n) rfl (by kernel_rfl) (by kernel_rfl) (by kernel_rfl) (fun _ _ _ h => h) (Or.inl ⟨by kernel_rfl, fun W hSW => exec_load_ag stT rfl rfl rfl (AgAt.kept HX.out hSW)⟩) hS ?_
        go_simp
        refine wpAnyH_ready (rs := [3]) (by kernel_rfl) (by simp) ?_
        refine AllReadyH.cons rfl (fun K hK => ?_) AllReadyH.nil
        go_simp
        go_wp2_with ((go_at_call 50; refine (rroot_any _).mono ?_; rintro e wn ⟨rfl, hbn⟩))
        refine hK.out _ _ (hS.trans (hbn.mono hS.size)) (fun hS => ?_)
        clear hK K hbn
        refine wpAnyH_take (i := 4) (v := .bool false) rfl (by kernel_rfl) (by kernel_rfl) (by kernel_rfl) (fun _ _ _ h => h) (Or.inl ⟨by kernel_rfl, fun W hSW => (exec_eql_st rfl n (0, 0) rfl rfl).trans (by rw [HZ.out])⟩) hS ?_
        refine wpAnyH_take (i := 5) (v := ?_) rfl (by kernel_rfl) (by kernel_rfl) (by kernel_rfl) (fun _ _ _ h => h) (Or.inl ⟨by kernel_rfl, ?_⟩) hS ?_
        rotate_left
        · intro W hSW
          go_simp
          all_goals with_reducible rfl
        refine wpAnyH_take (i := 6) (v := ?_) rfl (by kernel_rfl) (by kernel_rfl) (by kernel_rfl) (fun _ _ _ h => h) (Or.inl ⟨by kernel_rfl, ?_⟩) hS ?_
        rotate_left
        · intro W hSW
          go_simp
          all_goals with_reducible rfl
        go_simp
        refine wpAnyH_take (i := 7) (v := snV n) rfl (by kernel_rfl) (by kernel_rfl) (by kernel_rfl) (fun _ _ _ h => h) (Or.inl ⟨by kernel_rfl, fun W hSW => exec_load_ag stT rfl rfl rfl (AgAt.kept HX.out hSW)⟩) hS ?_
        go_simp
        refine wpAnyH_ready (rs := [8]) (by kernel_rfl) (by simp) ?_
        refine AllReadyH.cons rfl (fun K hK => ?_) AllReadyH.nil
        go_simp
        go_wp2_with ((go_at_call 51; refine (rtrash_any _).mono ?_; rintro e wn ⟨rfl, hbn⟩))
        refine hK.out _ _ (hS.trans (hbn.mono hS.size)) (fun hS => ?_)
        clear hK K hbn
        refine wpAnyH_take (i := 9) (v := .bool true) rfl (by kernel_rfl) (by kernel_rfl) (by kernel_rfl) (fun _ _ _ h => h) (Or.inl ⟨by kernel_rfl, fun W hSW => (exec_eql_st rfl n (0, 1) rfl rfl).trans (by rw [HTR.out])⟩) hS ?_
        refine wpAnyH_take (i := 10) (v := ?_) rfl (by kernel_rfl) (by kernel_rfl) (by kernel_rfl) (fun _ _ _ h => h) (Or.inl ⟨by kernel_rfl, ?_⟩) hS ?_
        rotate_left
        · intro W hSW
          go_simp
          all_goals with_reducible rfl
        refine wpAnyH_take (i := 11) (v := ?_) rfl (by kernel_rfl) (by kernel_rfl) (by kernel_rfl) (fun _ _ _ h => h) (Or.inl ⟨by kernel_rfl, ?_⟩) hS ?_
        rotate_left
        · intro W hSW
          go_simp
          all_goals with_reducible rfl
        go_simp
        refine wpAnyH_done (by kernel_rfl) ?_ _
        go_simp
        have HN := Lib.hid hS
        clear hS
        go_wp2
        go_ret
        rw [HA.out]
        exact ⟨rfl, HB0.out.trans ((HB1.out.trans (HN.out.mono HB1.out.size)).mono HB0.out.size)⟩
      · have HTR := Lib.hid (show decide (n = (0, 1)) = false from decide_eq_false ht)
        have HA := Lib.hid (show Tm.has R n = false from by
          unfold Tm.has
          rw [HLK.out, Bool.false_or]
          cases h : Tm.top n with
          | false => rfl
          | true => exact absurd (Tm.top_iff.1 h) (fun h => h.elim hz ht))
        clear hz ht
        go_upto_region 2 with fail
        refine wp_region_held_drew (S := fun W => Below w1.heap.size w1 W) (by kernel_rfl) (Below.drew (Below.refl _ _)) (fun hS => ?_)
        refine wpAnyH_take (i := 0) (v := ?_) rfl (by kernel_rfl) (by kernel_rfl) (by kernel_rfl) (fun _ _ _ h => h) (Or.inl ⟨by kernel_rfl, ?_⟩) hS ?_
        rotate_left
        · intro W hSW
          go_simp
          all_goals with_reducible rfl
        refine wpAnyH_take (i := 1) (v := ?_) rfl (by kernel_rfl) (by kernel_rfl) (by kernel_rfl) (fun _ _ _ h => h) (Or.inl ⟨by kernel_rfl, ?_⟩) hS ?_
        rotate_left
        · intro W hSW
          go_simp
          all_goals with_reducible rfl
        go_simp
        refine wpAnyH_take (i := 2) (v := snV n) rfl (by kernel_rfl) (by kernel_rfl) (by kernel_rfl) (fun _ _ _ h => h) (Or.inl ⟨by kernel_rfl, fun W hSW => exec_load_ag stT rfl rfl rfl (AgAt.kept HX.out hSW)⟩) hS ?_
        go_simp
        refine wpAnyH_ready (rs := [3]) (by kernel_rfl) (by simp) ?_
        refine AllReadyH.cons rfl (fun K hK => ?_) AllReadyH.nil
        go_simp
        go_wp2_with ((go_at_call 50; refine (rroot_any _).mono ?_; rintro e wn ⟨rfl, hbn⟩))
        refine hK.out _ _ (hS.trans (hbn.mono hS.size)) (fun hS => ?_)
        clear hK K hbn
        refine wpAnyH_take (i := 4) (v := .bool false) rfl (by kernel_rfl) (by kernel_rfl) (by kernel_rfl) (fun _ _ _ h => h) (Or.inl ⟨by kernel_rfl, fun W hSW => (exec_eql_st rfl n (0, 0) rfl rfl).trans (by rw [HZ.out])⟩) hS ?_
        refine wpAnyH_take (i := 5) (v := ?_) rfl (by kernel_rfl) (by kernel_rfl) (by kernel_rfl) (fun _ _ _ h => h) (Or.inl ⟨by kernel_rfl, ?_⟩) hS ?_
        rotate_left
        · intro W hSW
          go_simp
          all_goals with_reducible rfl
        refine wpAnyH_take (i := 6) (v := ?_) rfl (by kernel_rfl) (by kernel_rfl) (by kernel_rfl) (fun _ _ _ h => h) (Or.inl ⟨by kernel_rfl, ?_⟩) hS ?_
        rotate_left
        · intro W hSW
          go_simp
          all_goals with_reducible rfl
        go_simp
        refine wpAnyH_take (i := 7) (v := snV n) rfl (by kernel_rfl) (by kernel_rfl) (by kernel_rfl) (fun _ _ _ h => h) (Or.inl ⟨by kernel_rfl, fun W hSW => exec_load_ag stT rfl rfl rfl (AgAt.kept HX.out hSW)⟩) hS ?_
        go_simp
        refine wpAnyH_ready (rs := [8]) (by kernel_rfl) (by simp) ?_
        refine AllReadyH.cons rfl (fun K hK => ?_) AllReadyH.nil
        go_simp
        go_wp2_with ((go_at_call 51; refine (rtrash_any _).mono ?_; rintro e wn ⟨rfl, hbn⟩))
        refine hK.out _ _ (hS.trans (hbn.mono hS.size)) (fun hS => ?_)
        clear hK K hbn
        refine wpAnyH_take (i := 9) (v := .bool false) rfl (by kernel_rfl) (by kernel_rfl) (by kernel_rfl) (fun _ _ _ h => h) (Or.inl ⟨by kernel_rfl, fun W hSW => (exec_eql_st rfl n (0, 1) rfl rfl).trans (by rw [HTR.out])⟩) hS ?_
        refine wpAnyH_take (i := 10) (v := ?_) rfl (by kernel_rfl) (by kernel_rfl) (by kernel_rfl) (fun _ _ _ h => h) (Or.inl ⟨by kernel_rfl, ?_⟩) hS ?_
        rotate_left
        · intro W hSW
          go_simp
          all_goals with_reducible rfl
        refine wpAnyH_take (i := 11) (v := ?_) rfl (by kernel_rfl) (by kernel_rfl) (by kernel_rfl) (fun _ _ _ h => h) (Or.inl ⟨by kernel_rfl, ?_⟩) hS ?_
        rotate_left
        · intro W hSW
          go_simp
          all_goals with_reducible rfl
        go_simp
        refine wpAnyH_done (by kernel_rfl) ?_ _
        go_simp
        have HN := Lib.hid hS
        clear hS
        go_wp2
        go_ret
        rw [HA.out]
        exact ⟨rfl, HB0.out.trans ((HB1.out.trans (HN.out.mono HB1.out.size)).mono HB0.out.size)⟩
  · have HA := Lib.hid (show Tm.has R n = true from by unfold Tm.has; rw [HLK.out]; rfl)
    go_upto_region 2 with fail
    refine wp_region_held_drew (S := fun W => Below w1.heap.size w1 W) (by kernel_rfl) (Below.drew (Below.refl _ _)) (fun hS => ?_)
    refine wpAnyH_take (i := 0) (v := ?_) rfl (by kernel_rfl) (by kernel_rfl) (by kernel_rfl) (fun _ _ _ h => h) (Or.inl ⟨by kernel_rfl, ?_⟩) hS ?_
    rotate_left
    · intro W hSW
      go_simp
      all_goals with_reducible rfl
    refine wpAnyH_take (i := 1) (v := ?_) rfl (by kernel_rfl) (by kernel_rfl) (by kernel_rfl) (fun _ _ _ h => h) (Or.inl ⟨by kernel_rfl, ?_⟩) hS ?_
    rotate_left
    · intro W hSW
      go_simp
      all_goals with_reducible rfl
    go_simp
    refine wpAnyH_take (i := 2) (v := undef) rfl (by kernel_rfl) (by kernel_rfl) (by kernel_rfl) (fun _ _ _ h => h) (Or.inr ⟨by kernel_rfl, rfl⟩) hS ?_
    go_simp
    refine wpAnyH_take (i := 3) (v := undef) rfl (by kernel_rfl) (by kernel_rfl) (by kernel_rfl) (fun _ _ _ h => h) (Or.inr ⟨by kernel_rfl, rfl⟩) hS ?_
    go_simp
    refine wpAnyH_take (i := 4) (v := undef) rfl (by kernel_rfl) (by kernel_rfl) (by kernel_rfl) (fun _ _ _ h => h) (Or.inr ⟨by kernel_rfl, rfl⟩) hS ?_
    refine wpAnyH_take (i := 5) (v := ?_) rfl (by kernel_rfl) (by kernel_rfl) (by kernel_rfl) (fun _ _ _ h => h) (Or.inl ⟨by kernel_rfl, ?_⟩) hS ?_
    rotate_left
    · intro W hSW
      go_simp
      all_goals with_reducible rfl
    refine wpAnyH_take (i := 6) (v := ?_) rfl (by kernel_rfl) (by kernel_rfl) (by kernel_rfl) (fun _ _ _ h => h) (Or.inl ⟨by kernel_rfl, ?_⟩) hS ?_
    rotate_left
    · intro W hSW
      go_simp
      all_goals with_reducible rfl
    go_simp
    refine wpAnyH_take (i := 7) (v := undef) rfl (by kernel_rfl) (by kernel_rfl) (by kernel_rfl) (fun _ _ _ h => h) (Or.inr ⟨by kernel_rfl, rfl⟩) hS ?_
    go_simp
    refine wpAnyH_take (i := 8) (v := undef) rfl (by kernel_rfl) (by kernel_rfl) (by kernel_rfl) (fun _ _ _ h => h) (Or.inr ⟨by kernel_rfl, rfl⟩) hS ?_
    go_simp
    refine wpAnyH_take (i := 9) (v := undef) rfl (by kernel_rfl) (by kernel_rfl) (by kernel_rfl) (fun _ _ _ h => h) (Or.inr ⟨by kernel_rfl, rfl⟩) hS ?_
    refine wpAnyH_take (i := 10) (v := ?_) rfl (by kernel_rfl) (by kernel_rfl) (by kernel_rfl) (fun _ _ _ h => h) (Or.inl ⟨by kernel_rfl, ?_⟩) hS ?_
    rotate_left
    · intro W hSW
      go_simp
      all_goals with_reducible rfl
    refine wpAnyH_take (i := 11) (v := ?_) rfl (by kernel_rfl) (by kernel_rfl) (by kernel_rfl) (fun _ _ _ h => h) (Or.inl ⟨by kernel_rfl, ?_⟩) hS ?_
    rotate_left
    · intro W hSW
      go_simp
      all_goals with_reducible rfl
    go_simp
    refine wpAnyH_done (by kernel_rfl) ?_ _
    go_simp
    have HN := Lib.hid hS
    clear hS
    go_wp2
    go_ret
    rw [HA.out]
    exact ⟨rfl, HB0.out.trans ((HB1.out.trans (HN.out.mono HB1.out.size)).mono HB0.out.size)⟩

set_option maxRecDepth 100000 in
set_option maxHeartbeats 8000000 in
theorem rabove_any {q : Nat} {R : Tr} {p : Option Addr} {c : Nat} (n : Qm.St) (w : World) (h : RtR w q R p c) (hr : Rtm.Ris R) (l : List Qm.St) (hu : Tm.Up R n l) :
    Calls Tryz.prog 53 #[.pointer (some ⟨q, 0, none⟩), snV n] w fun e w' => (∃ p' c', e = .returned (.slice p' l.length c') ∧ Rd w' p' (stCells l)) ∧ Below w.heap.size w w' := by
  have hb0 : Below w.heap.size w (w.alloc (.cells #[.int .i64 n.1, .int .i64 n.2] 24)) := (Below.refl _ _).alloc (Nat.le_refl _) _
  have HX0 := Lib.hid (AgAt.new w #[.int .i64 n.1, .int .i64 n.2] 24)
  have HT0 := Lib.hid (h.kept hb0)
  have HQ := Lib.hid (show q < w.heap.size from AgAt.lt h.at_)
  have HPB := Lib.hid (show 0 < R.length → ∀ a, p = some a → a.block < w.heap.size from fun h0 a ha => by
    obtain ⟨b, o, e, hb⟩ := h.rd.addr (by rw [rwK.length]; omega)
    rw [ha] at e; cases e; exact hb)
  have HS0 := Lib.hid (show (w.alloc (.cells #[.int .i64 n.1, .int .i64 n.2] 24)).heap.size = w.heap.size + 1 from by simp)
  have HB0 := Lib.hid hb0
  have HRI := Lib.hid hr
  have HUL := Lib.hid (show l.length ≤ R.length from Tm.up_len hu)
  have HU := Lib.hid hu
  have HLEN := Lib.hid h.len
  obtain ⟨i0, hi, hz0, hz1, hz2⟩ := info_parts oinfo_st
  clear h hb0 hr hu
  go_enter Tryz.func53, Tryz.ntmps53
  go_wp2
  generalize w.alloc (.cells #[.int .i64 n.1, .int .i64 n.2] 24) = w0 at *
  go_loopw [5, 6] (fun v i wr => ∃ (a b : List Qm.St) (cur : Qm.St) (p' : Option Addr) (c' : Nat), i = .int .i64 (a.length : Int) ∧ l = a ++ b ∧ Tm.Up R cur b ∧ v = .slice p' a.length c' ∧ AgAt wr w.heap.size #[.int .i64 cur.1, .int .i64 cur.2] ∧ wr.ownsRow (w.heap.size + 1) 24 2 (.slice p' a.length c') a.length (stCells a) ∧ RtR wr q R p c ∧ Below w.heap.size w wr ∧ w.heap.size < wr.heap.size) (fun _ i _ => l.length + 1 - (intOf i).toNat)
  case atStart => exact ⟨[], l, n, none, 0, rfl, rfl, HU.out, rfl, HX0.out, World.ownsRow_nil _ _ _ _, HT0.out, HB0.out, by rw [HS0.out]; omega⟩
  case round =>
    obtain ⟨a, b, cur, p', c', rfl, hl, hup, rfl, hx, ho, ht, hb, hsz⟩ := hrel
    have HL := Lib.hid hl
    have HUP := Lib.hid hup
    have HX := Lib.hid hx
    have HO := Lib.hid ho
    have HT := Lib.hid ht
    have HB := Lib.hid hb
    have HSZ := Lib.hid hsz
    have hal : a.length ≤ R.length := by have h1 := HUL.out; rw [hl, List.length_append] at h1; omega
    have hal5 : a.length ≤ 500 := by have := HLEN.out; omega
    have y0 := ht.cell
    have d1 : decide ((a.length : Int) ≤ (R.length : Int)) = true := decide_eq_true (by omega)
    have HF := Lib.hid (rfind_any cur wr ht)
    clear hl hup hx ho ht hb hsz HU
    go_wp2_with (refine wpList_load_ag stT rfl _ rfl _ rfl rfl HX.out ?_)
    refine HF.out.mono ?_
    rintro e w1 ⟨⟨i, bb, hf, rfl⟩, hb1⟩
    have HLK := Lib.hid (hf.look HRI.out)
    have HB1 := Lib.hid hb1
    clear hf hb1 HF
    obtain hbb : (Tm.look R cur = none ∧ b = []) ∨ ∃ s b', Tm.look R cur = some s ∧ b = s.1 :: b' ∧ Tm.Up R s.1 b' := by
      cases HUP.out with
      | stop h => exact Or.inl ⟨h, rfl⟩
      | step h1 h2 => exact Or.inr ⟨_, _, h1, rfl, h2⟩
    rcases hbb with ⟨hn, rfl⟩ | ⟨s, b', hs, rfl, hu'⟩
    · obtain rfl : bb = false := by have := HLK.out.1; rw [hn] at this; exact this.symm
      have HE := Lib.hid (show (∃ p2 c2, Ending.returned (.slice p' a.length c') = .returned (.slice p2 l.length c2) ∧ Rd w1 p2 (stCells l)) ∧ Below w.heap.size w w1 from by
        have hla : l = a := by rw [HL.out]; simp
        rw [hla]
        obtain ⟨p2, c2, e2, hrd, -⟩ := own_rd HO.out
        cases e2
        exact ⟨⟨_, _, rfl, hrd.below HB1.out⟩, HB.out.trans (HB1.out.mono HB.out.size)⟩)
      clear hn d1
      go_wp2
      go_ret
      exact HE.out
    · obtain rfl : bb = true := by have := HLK.out.1; rw [hs] at this; exact this.symm
      obtain ⟨s2, hi2, hl2⟩ := HLK.out.2 rfl
      obtain rfl : s = s2 := by rw [hs] at hl2; exact Option.some.inj hl2
      have HK := Lib.hid hi2
      have HU2 := Lib.hid hu'
      have hil : i < R.length := (List.getElem?_eq_some_iff.1 hi2).1
      have HRP := Lib.hid (show 0 < R.length by omega)
      have HT1 := Lib.hid (HT.out.kept HB1.out)
      have HX1 := Lib.hid (AgAt.kept HX.out HB1.out)
      have HO1 := Lib.hid ((Turns.of_below (F := fun _ => False) HB1.out).own HO.out (fun _ _ h => h))
      have HB2 := Lib.hid (HB.out.trans (HB1.out.mono HB.out.size))
      have y1 := HT1.out.cell
      obtain ⟨pb, po, rfl⟩ := HT1.out.addr (by omega)
      have hi5 : i < 500 := by have := HLEN.out; omega
      have HLA := Lib.hid (show l = (a ++ [s.1]) ++ b' from by rw [HL.out]; simp)
      have HNEP := Lib.hid (show pb ≠ w.heap.size from fun e => by have := HPB.out (by omega) _ rfl; dsimp only at this; omega)
      clear hs hi2 hl2 hu' HLK d1 y0
      go_wp2_with (first
        | (refine wpList_value (by simp [Region.wanted]) (rw_par rfl rfl HT1.out.rd HK.out) ?_)
        | (refine wpList_store_ag stT rfl _ _ rfl _ rfl _ HX1.out rfl rfl rfl (stA_one _ _) ?_
           intro w2 hv2 hko2 hsz2 hbn2
           have HV2 := Lib.hid hv2
           have HT2 := Lib.hid (show RtR w2 q R (some ⟨pb, po, none⟩) c from ⟨AgAt.block HT1.out.at_ (hko2 _ (by have := HQ.out; omega)), (stored_turns hko2 hsz2 hbn2).rd HT1.out.rd (fun a ha e => by cases ha; exact HNEP.out e), HT1.out.len, HT1.out.cap, HT1.out.nil⟩)
           have HO2 := Lib.hid ((stored_turns hko2 hsz2 hbn2).own HO1.out (fun g hg e => by have h1 := (World.ownsRow.lt HO1.out g hg).1; have e2 : g = w.heap.size := e; omega))
           have HB3 := Lib.hid (hbn2 _ _ HB2.out (Nat.le_refl _))
           have HSZ2 := Lib.hid (show w.heap.size < w2.heap.size from by have h1 := HSZ.out; have h2 := HB1.out.size; omega)
           clear hv2 hko2 hsz2 hbn2 y1)
        | (refine wpList_load_ag stT rfl _ rfl _ rfl rfl HV2.out ?_)
        | (refine wpList_buildSt rfl _ rfl s.1 rfl ?_)
        | (refine wpList_append_k rfl _ _ 74 rfl (w.heap.size + 1) 24 i0 _ 2 16 Tryz.underlying74 hi hz0 hz1 (by decide) hz2 (by decide) rfl _ a.length (stCells a) rfl (World.ownsRow.alloc HO2.out _) _ 1 1 (stCells [s.1]) rfl rfl (rd_st1 w2 s.1) (fun h => by cases h) stCells_one (by omega) (by have := HSZ2.out; simp; omega) ?_
           intro p3 c3 w3 ho3 hg3 _
           have HG3 := Lib.hid hg3
           have HO3 := Lib.hid ho3
           clear ho3 hg3))
      have hlen1 : (a ++ [s.1]).length = a.length + 1 := by simp
      have HB4 := Lib.hid (show Below w2.heap.size w2 (w2.alloc (.cells #[.int .i64 s.1.1, .int .i64 s.1.2] 24)) from (Below.refl _ _).alloc (Nat.le_refl _) _)
      have HTN := Lib.hid (show Turns (fun k => (Value.slice p' a.length c').ownBlock = some k) (w2.alloc (.cells #[.int .i64 s.1.1, .int .i64 s.1.2] 24)) w3 from Turns.of_grown HG3.out)
      have HFR := Lib.hid (show ∀ k, (Value.slice p' a.length c').ownBlock = some k → w.heap.size + 1 ≤ k from fun k hk => (World.ownsRow.lt HO2.out k hk).1)
      go_roundw
      case rel => exact ⟨a ++ [s.1], b', s.1, p3, c3, by rw [hlen1]; go_num, HLA.out, HU2.out, by rw [hlen1], AgAt.block (AgAt.kept HV2.out HB4.out) (HTN.out.block _ (AgAt.kept HV2.out HB4.out).lt (fun e => by have := HFR.out _ e; omega)), by rw [hlen1, stCells_append]; exact HO3.out, ⟨AgAt.block (AgAt.kept HT2.out.at_ HB4.out) (HTN.out.block _ (AgAt.kept HT2.out.at_ HB4.out).lt (fun e => by have h1 := HFR.out _ e; have h2 := HQ.out; omega)), HTN.out.rd (HT2.out.rd.below HB4.out) (fun a ha e => Nat.lt_irrefl _ (Nat.lt_of_lt_of_le (HPB.out HRP.out a ha) (Nat.le_of_succ_le (HFR.out _ e)))), HT2.out.len, HT2.out.cap, HT2.out.nil⟩, HB3.out.trans ((HB4.out.mono HB3.out.size).trans (HTN.out.below (fun k _ hk => by have := HFR.out _ hk; omega) (by have h1 := HB4.out.size; have h2 := HB3.out.size; omega))), by have h1 := HTN.out.size; have h2 := HB4.out.size; have h3 := HSZ2.out; omega⟩
      case measure =>
        have h3 := congrArg List.length HLA.out
        simp only [List.length_append, List.length_cons, List.length_nil] at h3
        simp [intOf]
        omega

end Go.Proofs.YtilkokhapcgolaaGreat

namespace Go.Proofs.YtilkokhapcgolaaGreat
open Go.RowKit
open Tm (Sp Tr)

theorem Rd.strR {w : World} {b o : Nat} {l : List Qm.St} (h : Rd w (some ⟨b, o, none⟩) (stCells l)) (i : Nat) (hi : i < l.length) : w.rangeAt b (o + i * 2) [.int .i64 (Qm.stOf l i).1, .int .i64 (Qm.stOf l i).2] := by
  intro j v hv
  obtain ⟨h0, h1⟩ := stCells_get l i hi
  rw [Nat.add_assoc]
  match j, hv with
  | 0, hv => exact h.cell (by rw [Nat.add_zero, h0]; exact hv)
  | 1, hv => exact h.cell (by rw [h1]; exact hv)
theorem exec_load_str {c : Act} {o : Oper} {x : Operand} {w : World} (ho : o.op = .load 24 x) {b s i : Nat} (hx : c.eval x = .pointer (some ⟨b, s + i * 2, none⟩)) {l : List Qm.St} (hrd : Rd w (some ⟨b, s, none⟩) (stCells l)) (hi : i < l.length) :
    (execOp c.eval o).run Tryz.prog w = .ok (.value (snV (Qm.stOf l i))) w := by
  obtain ⟨d, hu⟩ := stT.und
  unfold execOp
  simp only [ho, hx, Sem.run_bind, run_loadAt_mid w b (s + i * 2) _ [.int .i64 (Qm.stOf l i).1, .int .i64 (Qm.stOf l i).2] _ (hrd.strR i hi) hu rfl stT.size, Result.andThen_ok, Sem.run_pure]

set_option maxRecDepth 100000 in
set_option maxHeartbeats 8000000 in
theorem rwithin_any {q : Nat} {R : Tr} {p : Option Addr} {c : Nat} (a n : Qm.St) (w : World) (h : RtR w q R p c) (hr : Rtm.Ris R) (hu : ∃ l, Tm.Up R n l) :
    Calls Tryz.prog 30 #[.pointer (some ⟨q, 0, none⟩), snV a, snV n] w fun e w' => e = .returned (.bool (Tm.within R a n)) ∧ Below w.heap.size w w' := by
  obtain ⟨l, hu⟩ := hu
  have h1 : ∀ (w : World) (o : Obj), Below w.heap.size w (w.alloc o) := fun w o => (Below.refl _ _).alloc (Nat.le_refl _) _
  have hx := AgAt.kept (AgAt.new w #[.int .i64 a.1, .int .i64 a.2] 24) (h1 _ (.cells #[.int .i64 n.1, .int .i64 n.2] 24))
  have hy := AgAt.new (w.alloc (.cells #[.int .i64 a.1, .int .i64 a.2] 24)) #[.int .i64 n.1, .int .i64 n.2] 24
  rw [show (w.alloc (.cells #[.int .i64 a.1, .int .i64 a.2] 24)).heap.size = w.heap.size + 1 from by simp] at hy
  have hb0 : Below w.heap.size w ((w.alloc (.cells #[.int .i64 a.1, .int .i64 a.2] 24)).alloc (.cells #[.int .i64 n.1, .int .i64 n.2] 24)) := (h1 _ _).trans ((h1 _ _).mono (by simp))
  have HX := Lib.hid hx
  have HY := Lib.hid hy
  have HT := Lib.hid (h.kept hb0)
  have HB0 := Lib.hid hb0
  have HRI := Lib.hid hr
  have HU := Lib.hid hu
  have HLL := Lib.hid (show l.length ≤ 500 from Nat.le_trans (Tm.up_len hu) h.len)
  have HCH := Lib.hid (show Tm.chain R n = l from Tm.up_climb hu (Tm.up_len hu))
  clear h hb0 hr hu hx hy h1
  go_enter Tryz.func30, Tryz.ntmps30
  go_wp2_with (refine wpList_load_ag stT rfl _ rfl _ rfl rfl HY.out ?_)
  generalize (w.alloc (.cells #[.int .i64 a.1, .int .i64 a.2] 24)).alloc (.cells #[.int .i64 n.1, .int .i64 n.2] 24) = w0 at *
  refine (rfind_any n _ HT.out).mono ?_
  rintro e w1 ⟨⟨i, b, hf, rfl⟩, hb1⟩
  have HLK := Lib.hid (hf.look HRI.out).1
  have HX1 := Lib.hid (AgAt.kept HX.out hb1)
  have HY1 := Lib.hid (AgAt.kept HY.out hb1)
  have HT1 := Lib.hid (HT.out.kept hb1)
  have HB1 := Lib.hid hb1
  clear hf hb1 HX HY HT
  cases b
  · have HA := Lib.hid (show Tm.within R a n = false from by
      unfold Tm.within
      rw [HCH.out, HLK.out]
      split
      · rfl
      · have hn : Tm.look R n = none := by
          have := HLK.out
          cases hl : Tm.look R n with
          | none => rfl
          | some s => rw [hl] at this; cases this
        cases HU.out with
        | stop _ => rfl
        | step h1 _ => rw [hn] at h1; cases h1)
    go_wp2
    go_ret
    rw [HA.out]
    exact ⟨rfl, HB0.out.trans (HB1.out.mono HB0.out.size)⟩
  · by_cases han : a = n
    · have HA := Lib.hid (show Tm.within R a n = true from by unfold Tm.within; rw [if_pos han, HLK.out])
      have HEQ := Lib.hid (show decide (a = n) = true from decide_eq_true han)
      clear han
      go_wp2_with (first
        | (refine wpList_load_ag stT rfl _ rfl _ rfl rfl HX1.out ?_)
        | (refine wpList_load_ag stT rfl _ rfl _ rfl rfl HY1.out ?_)
        | (refine wpList_value (v := .bool true) (by simp [Region.wanted]) ((exec_eql_st rfl a n rfl rfl).trans (by rw [HEQ.out])) ?_))
      go_ret
      rw [HA.out]
      exact ⟨rfl, HB0.out.trans (HB1.out.mono HB0.out.size)⟩
    · have HA := Lib.hid (show Tm.within R a n = l.contains a from by unfold Tm.within; rw [if_neg han, HCH.out])
      have HEQ := Lib.hid (show decide (a = n) = false from decide_eq_false han)
      have HAB := Lib.hid (rabove_any n w1 HT1.out HRI.out l HU.out)
      clear han
      go_wp2_with (first
        | (refine wpList_load_ag stT rfl _ rfl _ rfl rfl HX1.out ?_)
        | (refine wpList_load_ag stT rfl _ rfl _ rfl rfl HY1.out ?_)
        | (refine wpList_value (v := .bool false) (by simp [Region.wanted]) ((exec_eql_st rfl a n rfl rfl).trans (by rw [HEQ.out])) ?_))
      refine HAB.out.mono ?_
      rintro e w2 ⟨⟨p2, c2, rfl, hr2⟩, hb2⟩
      have HR2 := Lib.hid hr2
      have HX2 := Lib.hid (AgAt.kept HX1.out hb2)
      have HB2 := Lib.hid (HB1.out.trans (hb2.mono HB1.out.size))
      clear hr2 hb2 HAB HEQ HX1 HY1 HT1
      go_wp2
      go_loopw [10] (fun i wr => ∃ k : Nat, i = .int .i64 (k : Int) ∧ k ≤ l.length ∧ (∀ j, j < k → Qm.stOf l j ≠ a) ∧ Below w2.heap.size w2 wr) (fun i _ => l.length - (intOf i).toNat)
      case atStart => exact ⟨0, rfl, Nat.zero_le _, fun j h => absurd h (Nat.not_lt_zero _), Below.refl _ _⟩
      case round =>
        obtain ⟨k, rfl, hk, hne, hb⟩ := hrel
        have HB3 := Lib.hid hb
        have HNE := Lib.hid hne
        clear hb hne
        by_cases hlt : k < l.length
        · have hk5 : k < 500 := by have := HLL.out; omega
          have HKL := Lib.hid hlt
          obtain ⟨b, o, rfl, -⟩ := HR2.out.addr (by rw [stCells_length]; omega)
          by_cases hs : Qm.stOf l k = a
          · have HEQ := Lib.hid (show decide (Qm.stOf l k = a) = true from decide_eq_true hs)
            have HC := Lib.hid (show l.contains a = true from by
              rw [List.contains_iff_mem, ← hs, Qm.stOf_lt HKL.out]
              exact List.getElem_mem _)
            clear hs
            go_wp2
            refine wp_region_held_drew (S := fun W => Below w2.heap.size w2 W) (by kernel_rfl) (Below.drew HB3.out) (fun hS => ?_)
            refine wpAnyH_take (i := 0) (v := ?_) rfl (by kernel_rfl) (by kernel_rfl) (by kernel_rfl) (fun _ _ _ h => h) (Or.inl ⟨by kernel_rfl, ?_⟩) hS ?_
            rotate_left
            · intro W hSW
              go_simp
              all_goals with_reducible rfl
            refine wpAnyH_take (i := 1) (v := ?_) rfl (by kernel_rfl) (by kernel_rfl) (by kernel_rfl) (fun _ _ _ h => h) (Or.inl ⟨by kernel_rfl, ?_⟩) hS ?_
            rotate_left
            · intro W hSW
              go_simp
              all_goals with_reducible rfl
            refine wpAnyH_take (i := 2) (v := ?_) rfl (by kernel_rfl) (by kernel_rfl) (by kernel_rfl) (fun _ _ _ h => h) (Or.inl ⟨by kernel_rfl, ?_⟩) hS ?_
            rotate_left
            · intro W hSW
              go_simp
              all_goals with_reducible rfl
            go_simp
            refine wpAnyH_take (i := 3) (v := snV (Qm.stOf l k)) rfl (by kernel_rfl) (by kernel_rfl) (by kernel_rfl) (fun _ _ _ h => h) (Or.inl ⟨by kernel_rfl, fun W hSW => exec_load_str rfl rfl (HR2.out.below hSW) HKL.out⟩) hS ?_
            go_simp
            refine wpAnyH_take (i := 4) (v := snV a) rfl (by kernel_rfl) (by kernel_rfl) (by kernel_rfl) (fun _ _ _ h => h) (Or.inl ⟨by kernel_rfl, fun W hSW => exec_load_ag stT rfl rfl rfl (AgAt.kept HX2.out hSW)⟩) hS ?_
            go_simp
            refine wpAnyH_take (i := 5) (v := .bool true) rfl (by kernel_rfl) (by kernel_rfl) (by kernel_rfl) (fun _ _ _ h => h) (Or.inl ⟨by kernel_rfl, fun W hSW => (exec_eql_st rfl (Qm.stOf l k) a rfl rfl).trans (by rw [HEQ.out])⟩) hS ?_
            go_simp
            refine wpAnyH_done (by kernel_rfl) ?_ _
            go_simp
            have HN := Lib.hid hS
            clear hS
            go_wp2
            go_ret
            rw [HA.out, HC.out]
            exact ⟨rfl, HB0.out.trans ((HB2.out.trans (HN.out.mono HB2.out.size)).mono HB0.out.size)⟩
          · have HEQ := Lib.hid (show decide (Qm.stOf l k = a) = false from decide_eq_false hs)
            have HNX := Lib.hid (show ∀ j, j < k + 1 → Qm.stOf l j ≠ a from fun j hj => by
              by_cases h1 : j < k
              · exact HNE.out j h1
              · obtain rfl : j = k := by omega
                exact hs)
            clear hs
            go_wp2
            refine wp_region_held_drew (S := fun W => Below w2.heap.size w2 W) (by kernel_rfl) (Below.drew HB3.out) (fun hS => ?_)
            refine wpAnyH_take (i := 0) (v := ?_) rfl (by kernel_rfl) (by kernel_rfl) (by kernel_rfl) (fun _ _ _ h => h) (Or.inl ⟨by kernel_rfl, ?_⟩) hS ?_
            rotate_left
            · intro W hSW
              go_simp
              all_goals with_reducible rfl
            refine wpAnyH_take (i := 1) (v := ?_) rfl (by kernel_rfl) (by kernel_rfl) (by kernel_rfl) (fun _ _ _ h => h) (Or.inl ⟨by kernel_rfl, ?_⟩) hS ?_
            rotate_left
            · intro W hSW
              go_simp
              all_goals with_reducible rfl
            refine wpAnyH_take (i := 2) (v := ?_) rfl (by kernel_rfl) (by kernel_rfl) (by kernel_rfl) (fun _ _ _ h => h) (Or.inl ⟨by kernel_rfl, ?_⟩) hS ?_
            rotate_left
            · intro W hSW
              go_simp
              all_goals with_reducible rfl
            go_simp
            refine wpAnyH_take (i := 3) (v := snV (Qm.stOf l k)) rfl (by kernel_rfl) (by kernel_rfl) (by kernel_rfl) (fun _ _ _ h => h) (Or.inl ⟨by kernel_rfl, fun W hSW => exec_load_str rfl rfl (HR2.out.below hSW) HKL.out⟩) hS ?_
            go_simp
            refine wpAnyH_take (i := 4) (v := snV a) rfl (by kernel_rfl) (by kernel_rfl) (by kernel_rfl) (fun _ _ _ h => h) (Or.inl ⟨by kernel_rfl, fun W hSW => exec_load_ag stT rfl rfl rfl (AgAt.kept HX2.out hSW)⟩) hS ?_
            go_simp
            refine wpAnyH_take (i := 5) (v := .bool false) rfl (by kernel_rfl) (by kernel_rfl) (by kernel_rfl) (fun _ _ _ h => h) (Or.inl ⟨by kernel_rfl, fun W hSW => (exec_eql_st rfl (Qm.stOf l k) a rfl rfl).trans (by rw [HEQ.out])⟩) hS ?_
            go_simp
            refine wpAnyH_done (by kernel_rfl) ?_ _
            go_simp
            have HN := Lib.hid hS
            clear hS
            go_wp2
            go_roundw
            case rel => exact ⟨k + 1, by go_num, by have := HKL.out; omega, HNX.out, HN.out⟩
            case measure => simp [intOf]; have := HKL.out; omega
        · have HC := Lib.hid (show l.contains a = false from by
            cases hc : l.contains a with
            | false => rfl
            | true =>
              obtain ⟨j, hj, he⟩ := List.getElem_of_mem (List.contains_iff_mem.1 hc)
              exact absurd (by rw [Qm.stOf_lt hj]; exact he) (HNE.out j (by omega)))
          go_wp2
          go_ret
          rw [HA.out, HC.out]
          exact ⟨rfl, HB0.out.trans ((HB2.out.trans (HB3.out.mono HB2.out.size)).mono HB0.out.size)⟩

end Go.Proofs.YtilkokhapcgolaaGreat
