/-
  THE DOCUMENT's Row; the law's Same.
  No conditions but sizes.
  THE PROGRAM's Row: of a tree, of none.
  No conditions but sizes.
-/
import Derived.Test.YtilkokhapcgolaaGreatSrSort
import Derived.Test.YtilkokhapcgolaaGreatTRM
import Derived.Test.YtilkokhapcgolaaGreatSbSort
import Derived.Test.YtilkokhapcgolaaGreatTNodes
import Derived.Test.YtilkokhapcgolaaGreatTMove
namespace Go.Proofs.YtilkokhapcgolaaGreat
open Go.RowKit
open Tm (Sp Tr)

theorem rw_key {w : World} {b s i : Nat} {R : Tr} {e : Qm.St × Sp} (hrd : Rd w (some ⟨b, s, none⟩) (R.flatMap rwL)) (hi : R[i]? = some e) : w.cell? ⟨b, s + i * 5 + 2 + 2, none⟩ = some (.string e.2.2) ∧ w.cell? ⟨b, s + i * 5 + 4, none⟩ = some (.string e.2.2) := by
  have h := rwK.range hrd hi 4 (.string e.2.2) rfl
  exact ⟨h, h⟩
theorem run_build_rsb (W : World) (k : ByteArray) (n : Qm.St) : (Instr.build 73 #[(0, .string k), (1, .agg #[.int .i64 n.1, .int .i64 n.2])]).run Tryz.prog W = .ok (sbV (k, n)) W := by kernel_rfl
theorem exec_build_rsb {a : Act} {w : World} {o : Oper} {x y : Operand} (ho : o.op = .build 73 #[(0, x), (1, y)]) (k : ByteArray) (n : Qm.St) (hx : a.eval x = .string k) (hy : a.eval y = snV n) :
    (execOp a.eval o).run Tryz.prog w = .ok (.value (sbV (k, n))) w := by
  unfold execOp
  rw [show snV n = .agg #[.int .i64 n.1, .int .i64 n.2] from rfl] at hy
  simp only [ho, Sem.run_bind, Sem.run_pure, Result.andThen_ok, List.map_toArray, List.map_cons, List.map_nil, hx, hy, run_build_rsb]
theorem take_row {R : Tr} {k : Nat} {e : Qm.St × Sp} (h : R[k]? = some e) : R.take (k + 1) = R.take k ++ [e] := by
  obtain ⟨hk, he⟩ := List.getElem?_eq_some_iff.1 h
  rw [List.take_succ_eq_append_getElem hk, he]

set_option maxRecDepth 100000 in
set_option maxHeartbeats 8000000 in
theorem rrow_any {q : Nat} {R : Tr} {p : Option Addr} {c : Nat} (P : Qm.St) (w : World) (h : RtR w q R p c) (hks : ∀ e ∈ R, e.2.2.size ≤ 140737488355328) :
    Calls Tryz.prog 14 #[.pointer (some ⟨q, 0, none⟩), snV P] w fun e w' => ∃ p' c' m, m.Perm (Rtm.sibs R P) ∧ Sbm.Srt m ∧ e = .returned (.slice p' m.length c') ∧ Rd w' p' (sbCells m) ∧ Below w.heap.size w w' := by
  have hb0 : Below w.heap.size w (w.alloc (.cells #[.int .i64 P.1, .int .i64 P.2] 24)) := (Below.refl _ _).alloc (Nat.le_refl _) _
  have HX0 := Lib.hid (AgAt.new w #[.int .i64 P.1, .int .i64 P.2] 24)
  have HT0 := Lib.hid h
  have HB0 := Lib.hid hb0
  have HS0 := Lib.hid (show w.heap.size < (w.alloc (.cells #[.int .i64 P.1, .int .i64 P.2] 24)).heap.size from by simp)
  have HKS := Lib.hid hks
  have HLEN := Lib.hid h.len
  clear h hb0 hks
  go_enter Tryz.func14, Tryz.ntmps14
  go_wp2
  generalize w.alloc (.cells #[.int .i64 P.1, .int .i64 P.2] 24) = w0 at *
  go_loopw [5, 6] (fun v i wr => ∃ (k : Nat) (pm : Option Addr) (cm : Nat), i = .int .i64 (k : Int) ∧ k ≤ R.length ∧ v = .slice pm (Rtm.sibs (R.take k) P).length cm ∧ AgAt wr w.heap.size #[.int .i64 P.1, .int .i64 P.2] ∧ wr.ownsRow (w.heap.size + 1) 73 3 (.slice pm (Rtm.sibs (R.take k) P).length cm) (Rtm.sibs (R.take k) P).length ((Rtm.sibs (R.take k) P).flatMap sbC) ∧ Below w.heap.size w wr ∧ w.heap.size < wr.heap.size) (fun _ i _ => R.length - (intOf i).toNat)
  case atStart => exact ⟨0, none, 0, rfl, Nat.zero_le _, rfl, HX0.out, World.ownsRow_nil _ _ _ _, HB0.out, HS0.out⟩
  case round =>
    obtain ⟨k, pm, cm, rfl, hk, rfl, hx, ho, hb, hz⟩ := hrel
    have HB := Lib.hid hb
    have HX := Lib.hid hx
    have HO := Lib.hid ho
    have HSZ := Lib.hid hz
    have HT := Lib.hid (HT0.out.kept hb)
    have y0 := HT.out.cell
    clear hb hx ho hz
    by_cases hlt : k < R.length
    · obtain ⟨e, he⟩ : ∃ e, R[k]? = some e := ⟨_, List.getElem?_eq_getElem hlt⟩
      obtain ⟨b, o, rfl⟩ := HT.out.addr (by omega)
      have HK := Lib.hid he
      have HLT := Lib.hid hlt
      have hk5 : k < 500 := by have := HLEN.out; omega
      have HSL := Lib.hid (show (Rtm.sibs (R.take k) P).length ≤ 500 from Nat.le_trans (Rtm.sibs_len _ _) (by rw [List.length_take]; omega))
      by_cases hp : e.2.1 = P
      · have HEQ := Lib.hid (show decide (e.2.1 = P) = true from decide_eq_true hp)
        have HSB := Lib.hid (show Rtm.sibs (R.take k) P ++ [(e.2.2, e.1)] = Rtm.sibs (R.take (k + 1)) P from by rw [take_row he, Rtm.sibs_append, Rtm.sibs_one, if_pos hp])
        clear hp he
        go_upto_region 5 with fail
        refine wp_region_held_drew (S := fun W => Below wr.heap.size wr W) (by kernel_rfl) (Below.drew (Below.refl _ _)) (fun hS => ?_)
        refine wpAnyH_take (i := 0) (v := ?_) rfl (by kernel_rfl) (by kernel_rfl) (by kernel_rfl) (fun _ _ _ h => h) (Or.inl ⟨by kernel_rfl, ?_⟩) hS ?_
        rotate_left
        · intro W hSW
          go_simp
          all_goals with_reducible rfl
        refine wpAnyH_take (i := 1) (v := ?_) rfl (by kernel_rfl) (by kernel_rfl) (by kernel_rfl) (fun _ _ _ h => h) (Or.inl ⟨by kernel_rfl, ?_⟩) hS ?_
        rotate_left
        · intro W hSW
          go_simp
          all_goals with_reducible rfl
        refine wpAnyH_take (i := 2) (v := ?_) rfl (by kernel_rfl) (by kernel_rfl) (by kernel_rfl) (fun _ _ _ h => h) (Or.inl ⟨by kernel_rfl, ?_⟩) hS ?_
        rotate_left
        · intro W hSW
          go_simp
          all_goals with_reducible rfl
        refine wpAnyH_take (i := 3) (v := ?_) rfl (by kernel_rfl) (by kernel_rfl) (by kernel_rfl) (fun _ _ _ h => h) (Or.inl ⟨by kernel_rfl, ?_⟩) hS ?_
        rotate_left
        · intro W hSW
          have y0' := (HT.out.kept hSW).cell
          go_simp
          all_goals with_reducible rfl
        go_simp
        refine wpAnyH_take (i := 4) (v := ?_) rfl (by kernel_rfl) (by kernel_rfl) (by kernel_rfl) (fun _ _ _ h => h) (Or.inl ⟨by kernel_rfl, ?_⟩) hS ?_
        rotate_left
        · intro W hSW
          go_simp
          all_goals with_reducible rfl
        refine wpAnyH_take (i := 5) (v := ?_) rfl (by kernel_rfl) (by kernel_rfl) (by kernel_rfl) (fun _ _ _ h => h) (Or.inl ⟨by kernel_rfl, ?_⟩) hS ?_
        rotate_left
        · intro W hSW
          go_simp
          all_goals with_reducible rfl
        refine wpAnyH_take (i := 6) (v := ?_) rfl (by kernel_rfl) (by kernel_rfl) (by kernel_rfl) (fun _ _ _ h => h) (Or.inl ⟨by kernel_rfl, ?_⟩) hS ?_
        rotate_left
        · intro W hSW
          go_simp
          all_goals with_reducible rfl
        refine wpAnyH_take (i := 7) (v := ?_) rfl (by kernel_rfl) (by kernel_rfl) (by kernel_rfl) (fun _ _ _ h => h) (Or.inl ⟨by kernel_rfl, ?_⟩) hS ?_
        rotate_left
        · intro W hSW
          go_simp
          all_goals with_reducible rfl
        go_simp
        refine wpAnyH_take (i := 8) (v := snV e.2.1) rfl (by kernel_rfl) (by kernel_rfl) (by kernel_rfl) (fun _ _ _ h => h) (Or.inl ⟨by kernel_rfl, fun W hSW => rw_par rfl rfl (HT.out.kept hSW).rd HK.out⟩) hS ?_
        go_simp
        refine wpAnyH_take (i := 9) (v := snV P) rfl (by kernel_rfl) (by kernel_rfl) (by kernel_rfl) (fun _ _ _ h => h) (Or.inl ⟨by kernel_rfl, fun W hSW => exec_load_ag stT rfl rfl rfl (AgAt.kept HX.out hSW)⟩) hS ?_
        go_simp
        refine wpAnyH_take (i := 10) (v := .bool true) rfl (by kernel_rfl) (by kernel_rfl) (by kernel_rfl) (fun _ _ _ h => h) (Or.inl ⟨by kernel_rfl, fun W hSW => (exec_eql_st rfl e.2.1 P rfl rfl).trans (by rw [HEQ.out])⟩) hS ?_
        go_simp
        refine wpAnyH_done (by kernel_rfl) ?_ _
        go_simp
        have HB5 := Lib.hid (HB.out.trans (hS.mono HB.out.size))
        have HX5 := Lib.hid (AgAt.kept HX.out hS)
        have HO5 := Lib.hid ((Turns.of_below (F := fun _ => False) hS).own HO.out (fun _ _ h => h))
        have HSZ5 := Lib.hid (Nat.lt_of_lt_of_le HSZ.out (Below.size hS))
        clear hS
        generalize wr.drew = wn at *
        go_upto_region 6 with fail
        have hd6 := Below.drew (Below.refl wn.heap.size wn)
        refine wp_region_held_drew (S := fun W => Below w.heap.size w W) (by kernel_rfl) (Below.drew HB5.out) (fun hS => ?_)
        replace HO5 := Lib.hid ((Turns.of_below (F := fun _ => False) hd6).own HO5.out (fun _ _ h => h))
        replace HX5 := Lib.hid (AgAt.kept HX5.out hd6)
        have HZ5 := Lib.hid (show w.heap.size < wn.drew.heap.size from Nat.lt_of_lt_of_le HSZ5.out hd6.size)
        clear hd6
        generalize wn.drew = wd at *
        refine wpAnyH_take (i := 0) (v := ?_) rfl (by kernel_rfl) (by kernel_rfl) (by kernel_rfl) (fun _ _ _ h => h) (Or.inl ⟨by kernel_rfl, ?_⟩) hS ?_
        rotate_left
        · intro W hSW
          go_simp
          all_goals with_reducible rfl
        refine wpAnyH_take (i := 1) (v := ?_) rfl (by kernel_rfl) (by kernel_rfl) (by kernel_rfl) (fun _ _ _ h => h) (Or.inl ⟨by kernel_rfl, ?_⟩) hS ?_
        rotate_left
        · intro W hSW
          go_simp
          all_goals with_reducible rfl
        refine wpAnyH_take (i := 2) (v := ?_) rfl (by kernel_rfl) (by kernel_rfl) (by kernel_rfl) (fun _ _ _ h => h) (Or.inl ⟨by kernel_rfl, ?_⟩) hS ?_
        rotate_left
        · intro W hSW
          go_simp
          all_goals with_reducible rfl
        refine wpAnyH_take (i := 3) (v := ?_) rfl (by kernel_rfl) (by kernel_rfl) (by kernel_rfl) (fun _ _ _ h => h) (Or.inl ⟨by kernel_rfl, ?_⟩) hS ?_
        rotate_left
        · intro W hSW
          go_simp
          all_goals with_reducible rfl
        go_simp
        refine wpAnyH_take (i := 4) (v := ?_) rfl (by kernel_rfl) (by kernel_rfl) (by kernel_rfl) (fun _ _ _ h => h) (Or.inl ⟨by kernel_rfl, ?_⟩) hS ?_
        rotate_left
        · intro W hSW
          have y0' := (HT0.out.kept hSW).cell
          go_simp
          all_goals with_reducible rfl
        refine wpAnyH_take (i := 5) (v := ?_) rfl (by kernel_rfl) (by kernel_rfl) (by kernel_rfl) (fun _ _ _ h => h) (Or.inl ⟨by kernel_rfl, ?_⟩) hS ?_
        rotate_left
        · intro W hSW
          go_simp
          all_goals with_reducible rfl
        refine wpAnyH_take (i := 6) (v := ?_) rfl (by kernel_rfl) (by kernel_rfl) (by kernel_rfl) (fun _ _ _ h => h) (Or.inl ⟨by kernel_rfl, ?_⟩) hS ?_
        rotate_left
        · intro W hSW
          go_simp
          all_goals with_reducible rfl
        refine wpAnyH_take (i := 7) (v := ?_) rfl (by kernel_rfl) (by kernel_rfl) (by kernel_rfl) (fun _ _ _ h => h) (Or.inl ⟨by kernel_rfl, ?_⟩) hS ?_
        rotate_left
        · intro W hSW
          go_simp
          all_goals with_reducible rfl
        go_simp
        refine wpAnyH_take (i := 8) (v := ?_) rfl (by kernel_rfl) (by kernel_rfl) (by kernel_rfl) (fun _ _ _ h => h) (Or.inl ⟨by kernel_rfl, ?_⟩) hS ?_
        rotate_left
        · intro W hSW
          go_simp
          all_goals with_reducible rfl
        refine wpAnyH_take (i := 9) (v := ?_) rfl (by kernel_rfl) (by kernel_rfl) (by kernel_rfl) (fun _ _ _ h => h) (Or.inl ⟨by kernel_rfl, ?_⟩) hS ?_
        rotate_left
        · intro W hSW
          obtain ⟨ya, yb⟩ := rw_key (HT0.out.kept hSW).rd HK.out
          go_simp
          all_goals with_reducible rfl
        refine wpAnyH_take (i := 10) (v := ?_) rfl (by kernel_rfl) (by kernel_rfl) (by kernel_rfl) (fun _ _ _ h => h) (Or.inl ⟨by kernel_rfl, ?_⟩) hS ?_
        rotate_left
        · intro W hSW
          go_simp
          all_goals with_reducible rfl
        refine wpAnyH_take (i := 11) (v := ?_) rfl (by kernel_rfl) (by kernel_rfl) (by kernel_rfl) (fun _ _ _ h => h) (Or.inl ⟨by kernel_rfl, ?_⟩) hS ?_
        rotate_left
        · intro W hSW
          go_simp
          all_goals with_reducible rfl
        go_simp
        refine wpAnyH_take (i := 12) (v := ?_) rfl (by kernel_rfl) (by kernel_rfl) (by kernel_rfl) (fun _ _ _ h => h) (Or.inl ⟨by kernel_rfl, ?_⟩) hS ?_
        rotate_left
        · intro W hSW
          go_simp
          all_goals with_reducible rfl
        refine wpAnyH_take (i := 13) (v := ?_) rfl (by kernel_rfl) (by kernel_rfl) (by kernel_rfl) (fun _ _ _ h => h) (Or.inl ⟨by kernel_rfl, ?_⟩) hS ?_
        rotate_left
        · intro W hSW
          have y0' := (HT0.out.kept hSW).cell
          go_simp
          all_goals with_reducible rfl
        refine wpAnyH_take (i := 14) (v := ?_) rfl (by kernel_rfl) (by kernel_rfl) (by kernel_rfl) (fun _ _ _ h => h) (Or.inl ⟨by kernel_rfl, ?_⟩) hS ?_
        rotate_left
        · intro W hSW
          go_simp
          all_goals with_reducible rfl
        refine wpAnyH_take (i := 15) (v := ?_) rfl (by kernel_rfl) (by kernel_rfl) (by kernel_rfl) (fun _ _ _ h => h) (Or.inl ⟨by kernel_rfl, ?_⟩) hS ?_
        rotate_left
        · intro W hSW
          go_simp
          all_goals with_reducible rfl
        go_simp
        refine wpAnyH_take (i := 16) (v := ?_) rfl (by kernel_rfl) (by kernel_rfl) (by kernel_rfl) (fun _ _ _ h => h) (Or.inl ⟨by kernel_rfl, ?_⟩) hS ?_
        rotate_left
        · intro W hSW
          go_simp
          all_goals with_reducible rfl
        go_simp
        refine wpAnyH_take (i := 17) (v := snV e.1) rfl (by kernel_rfl) (by kernel_rfl) (by kernel_rfl) (fun _ _ _ h => h) (Or.inl ⟨by kernel_rfl, fun W hSW => rw_node rfl rfl (HT0.out.kept hSW).rd HK.out⟩) hS ?_
        go_simp
        refine wpAnyH_take (i := 18) (v := sbV (e.2.2, e.1)) rfl (by kernel_rfl) (by kernel_rfl) (by kernel_rfl) (fun _ _ _ h => h) (Or.inl ⟨by kernel_rfl, fun W hSW => exec_build_rsb rfl e.2.2 e.1 rfl rfl⟩) hS ?_
        go_simp
        refine wpAnyH_ready (rs := [19]) (by kernel_rfl) (by simp) ?_
        refine AllReadyH.cons rfl (fun K hK => ?_) AllReadyH.nil
        refine step_of (by kernel_rfl) ?_
        refine wp_build1 _ rfl _ rfl (fun w => run_buildS_rsb w (e.2.2, e.1)) ?_
        have HR6 := Lib.hid (rd_newsb hS (e.2.2, e.1) 73)
        have HO7 := Lib.hid (World.ownsRow.alloc HO5.out (.cells #[.string e.2.2, .int .i64 e.1.1, .int .i64 e.1.2] 73))
        have HX7 := Lib.hid (AgAt.kept HX5.out ((Below.refl _ _).alloc (Nat.le_refl _) (.cells #[.string e.2.2, .int .i64 e.1.1, .int .i64 e.1.2] 73)))
        have HZ7 := Lib.hid (show w.heap.size < (wd.alloc (.cells #[.string e.2.2, .int .i64 e.1.1, .int .i64 e.1.2] 73)).heap.size from by have := HZ5.out; simp; omega)
        refine hK.out _ _ (Below.alloc hS (Below.size hS) _) (fun hS => ?_)
        clear hK K
        generalize wd.alloc (.cells #[.string e.2.2, .int .i64 e.1.1, .int .i64 e.1.2] 73) = wa at *
        refine wpAnyH_ready (rs := [20]) (by kernel_rfl) (by simp) ?_
        refine AllReadyH.cons rfl (fun K hK => ?_) AllReadyH.nil
        refine sbK.append (by kernel_rfl) _ _ rfl (w.heap.size + 1) (Rtm.sibs (R.take k) P) [(e.2.2, e.1)] (Rtm.sibs (R.take (k + 1)) P) HSB.out rfl HO7.out _ 1 rfl HR6.out (fun e => by cases e) (by have := HSL.out; simp <;> omega) HZ7.out ?_
        intro p20 c20 w20 ho20 hg20
        have HO20 := Lib.hid ho20
        have HFR := Lib.hid (fun j hj => (World.ownsRow.lt HO7.out j hj).1)
        have HX20 := Lib.hid (show AgAt w20 w.heap.size #[.int .i64 P.1, .int .i64 P.2] from AgAt.block HX7.out ((Turns.of_grown hg20).block _ (AgAt.lt HX7.out) (fun e => by have := HFR.out _ e; omega)))
        have HZ20 := Lib.hid (show w.heap.size < w20.heap.size from Nat.lt_of_lt_of_le HZ7.out (Turns.of_grown hg20).size)
        have HB20 := Lib.hid (Below.grown hS hg20 (Below.size hS) (fun j hj => Nat.le_of_succ_le (HFR.out j hj)))
        clear ho20 hg20
        refine hK.out _ _ HB20.out (fun hS => ?_)
        clear hK K
        refine wpAnyH_take (i := 21) (v := ?_) rfl (by kernel_rfl) (by kernel_rfl) (by kernel_rfl) (fun _ _ _ h => h) (Or.inl ⟨by kernel_rfl, ?_⟩) hS ?_
        rotate_left
        · intro W hSW
          go_simp
          all_goals with_reducible rfl
        go_simp
        refine wpAnyH_done (by kernel_rfl) ?_ _
        go_simp
        clear hS
        go_wp2
        go_roundw
        case rel => exact ⟨k + 1, p20, c20, by go_num, by have := HLT.out; omega, rfl, HX20.out, HO20.out, HB20.out, HZ20.out⟩
        case measure => simp [intOf] <;> have := HLT.out <;> omega
      · have HEQ := Lib.hid (show decide (e.2.1 = P) = false from decide_eq_false hp)
        have HSB := Lib.hid (show Rtm.sibs (R.take (k + 1)) P = Rtm.sibs (R.take k) P from by rw [take_row he, Rtm.sibs_append, Rtm.sibs_one, if_neg hp, List.append_nil])
        clear hp he
        go_upto_region 5 with fail
        refine wp_region_held_drew (S := fun W => Below wr.heap.size wr W) (by kernel_rfl) (Below.drew (Below.refl _ _)) (fun hS => ?_)
        refine wpAnyH_take (i := 0) (v := ?_) rfl (by kernel_rfl) (by kernel_rfl) (by kernel_rfl) (fun _ _ _ h => h) (Or.inl ⟨by kernel_rfl, ?_⟩) hS ?_
        rotate_left
        · intro W hSW
          go_simp
          all_goals with_reducible rfl
        refine wpAnyH_take (i := 1) (v := ?_) rfl (by kernel_rfl) (by kernel_rfl) (by kernel_rfl) (fun _ _ _ h => h) (Or.inl ⟨by kernel_rfl, ?_⟩) hS ?_
        rotate_left
        · intro W hSW
          go_simp
          all_goals with_reducible rfl
        refine wpAnyH_take (i := 2) (v := ?_) rfl (by kernel_rfl) (by kernel_rfl) (by kernel_rfl) (fun _ _ _ h => h) (Or.inl ⟨by kernel_rfl, ?_⟩) hS ?_
        rotate_left
        · intro W hSW
          go_simp
          all_goals with_reducible rfl
        refine wpAnyH_take (i := 3) (v := ?_) rfl (by kernel_rfl) (by kernel_rfl) (by kernel_rfl) (fun _ _ _ h => h) (Or.inl ⟨by kernel_rfl, ?_⟩) hS ?_
        rotate_left
        · intro W hSW
          have y0' := (HT.out.kept hSW).cell
          go_simp
          all_goals with_reducible rfl
        go_simp
        refine wpAnyH_take (i := 4) (v := ?_) rfl (by kernel_rfl) (by kernel_rfl) (by kernel_rfl) (fun _ _ _ h => h) (Or.inl ⟨by kernel_rfl, ?_⟩) hS ?_
        rotate_left
        · intro W hSW
          go_simp
          all_goals with_reducible rfl
        refine wpAnyH_take (i := 5) (v := ?_) rfl (by kernel_rfl) (by kernel_rfl) (by kernel_rfl) (fun _ _ _ h => h) (Or.inl ⟨by kernel_rfl, ?_⟩) hS ?_
        rotate_left
        · intro W hSW
          go_simp
          all_goals with_reducible rfl
        refine wpAnyH_take (i := 6) (v := ?_) rfl (by kernel_rfl) (by kernel_rfl) (by kernel_rfl) (fun _ _ _ h => h) (Or.inl ⟨by kernel_rfl, ?_⟩) hS ?_
        rotate_left
        · intro W hSW
          go_simp
          all_goals with_reducible rfl
        refine wpAnyH_take (i := 7) (v := ?_) rfl (by kernel_rfl) (by kernel_rfl) (by kernel_rfl) (fun _ _ _ h => h) (Or.inl ⟨by kernel_rfl, ?_⟩) hS ?_
        rotate_left
        · intro W hSW
          go_simp
          all_goals with_reducible rfl
        go_simp
        refine wpAnyH_take (i := 8) (v := snV e.2.1) rfl (by kernel_rfl) (by kernel_rfl) (by kernel_rfl) (fun _ _ _ h => h) (Or.inl ⟨by kernel_rfl, fun W hSW => rw_par rfl rfl (HT.out.kept hSW).rd HK.out⟩) hS ?_
        go_simp
        refine wpAnyH_take (i := 9) (v := snV P) rfl (by kernel_rfl) (by kernel_rfl) (by kernel_rfl) (fun _ _ _ h => h) (Or.inl ⟨by kernel_rfl, fun W hSW => exec_load_ag stT rfl rfl rfl (AgAt.kept HX.out hSW)⟩) hS ?_
        go_simp
        refine wpAnyH_take (i := 10) (v := .bool false) rfl (by kernel_rfl) (by kernel_rfl) (by kernel_rfl) (fun _ _ _ h => h) (Or.inl ⟨by kernel_rfl, fun W hSW => (exec_eql_st rfl e.2.1 P rfl rfl).trans (by rw [HEQ.out])⟩) hS ?_
        go_simp
        refine wpAnyH_done (by kernel_rfl) ?_ _
        go_simp
        have HB5 := Lib.hid (HB.out.trans (hS.mono HB.out.size))
        have HX5 := Lib.hid (AgAt.kept HX.out hS)
        have HO5 := Lib.hid ((Turns.of_below (F := fun _ => False) hS).own HO.out (fun _ _ h => h))
        have HSZ5 := Lib.hid (Nat.lt_of_lt_of_le HSZ.out (Below.size hS))
        clear hS
        go_wp2
        go_roundw
        case rel => exact ⟨k + 1, pm, cm, by go_num, by have := HLT.out; omega, by rw [HSB.out], HX5.out, by rw [HSB.out]; exact HO5.out, HB5.out, HSZ5.out⟩
        case measure => simp [intOf] <;> have := HLT.out <;> omega
    · obtain rfl : k = R.length := by omega
      rw [List.take_length] at *
      obtain ⟨hrd, hnm, -, -⟩ := own_rdK HO.out
      have HSO := Lib.hid (rsort_any pm cm (Rtm.sibs R P) wr hrd (Nat.le_trans (Rtm.sibs_len _ _) (Nat.le_trans HLEN.out (by decide))) (fun x hx => by
        obtain ⟨e, he, rfl⟩ := List.mem_map.1 hx
        exact HKS.out e (List.mem_filter.1 he).1))
      clear hrd hnm
      go_wp2_with fail
      refine HSO.out.mono ?_
      rintro e w9 ⟨p', c', m, hp, hs, rfl, hr, hb9⟩
      have HE := Lib.hid (show ∃ p2 c2 m2, m2.Perm (Rtm.sibs R P) ∧ Sbm.Srt m2 ∧ Ending.returned (.slice p' m.length c') = .returned (.slice p2 m2.length c2) ∧ Rd w9 p2 (sbCells m2) ∧ Below w.heap.size w w9 from ⟨p', c', m, hp, hs, rfl, hr, HB.out.trans (hb9.mono HB.out.size)⟩)
      clear hp hs hr hb9
      go_wp2
      go_ret
      exact HE.out

theorem obK : RK 54 47 3 32 sbC where
  und := Tryz.underlying47
  elem := by kernel_rfl
  size := fun _ => by kernel_rfl
  info := by
    obtain ⟨i, h0, h1, h2, h3⟩ := info_split info_sib
    exact ⟨i, _, h0, h1, h2, h3, rfl⟩
  row := ⟨_, Tryz.underlying54⟩
  len := sbK.len
  one := sbK.one
  pos := by decide
  small := by decide
theorem sb_off {x : Sbm.Sib} : ∀ j v, [Value.int .i64 x.2.1, .int .i64 x.2.2][j]? = some v → (sbC x)[1 + j]? = some v := fun j v h => by
  match j, h with
  | 0, h => exact h
  | 1, h => exact h
theorem exec_neq_st2 {c : Act} {o : Oper} {x y : Operand} {ty : TypeId} (ho : o.op = .binOp .neq 24 x y ty) {w : World} (p q : Qm.St) (hx : c.eval x = snV p) (hy : c.eval y = snV q) :
    (execOp c.eval o).run Tryz.prog w = .ok (.value (.bool (decide (p ≠ q)))) w := by
  obtain ⟨a, b⟩ := p
  obtain ⟨d, e⟩ := q
  unfold execOp
  simp only [ho, hx, hy]
  go_simp
  by_cases h1 : a = d <;> by_cases h2 : b = e <;> simp [h1, h2]

set_option maxRecDepth 100000 in
set_option maxHeartbeats 4000000 in
theorem same_any (pa pb : Option Addr) (ca cb : Nat) (m : List Sbm.Sib) (w : World) (ha : Rd w pa (sbCells m)) (hb : Rd w pb (sbCells m)) (hl : m.length ≤ 1000) :
    Calls Tryz.prog 12 #[.slice pa m.length ca, .slice pb m.length cb] w fun e w' => e = .returned (.bool true) ∧ Below w.heap.size w w' := by
  have HA := Lib.hid (show Rd w pa (m.flatMap sbC) from ha)
  have HC := Lib.hid (show Rd w pb (m.flatMap sbC) from hb)
  clear ha hb
  go_enter Tryz.func12, Tryz.ntmps12
  go_wp2
  go_loopw [5] (fun i wr => ∃ k : Nat, i = .int .i64 (k : Int) ∧ k ≤ m.length ∧ Below w.heap.size w wr) (fun i _ => m.length - (intOf i).toNat)
  case atStart => exact ⟨0, rfl, Nat.zero_le _, Below.refl _ _⟩
  case round =>
    obtain ⟨k, rfl, hk, hb⟩ := hrel
    have HB := Lib.hid hb
    clear hb
    by_cases hlt : k < m.length
    · have hk5 : k < 1000 := by omega
      have HKL := Lib.hid hlt
      have HK := Lib.hid (show m[k]? = some (Sbm.sbOf m k) from by rw [Sbm.sbOf_lt hlt]; exact List.getElem?_eq_getElem hlt)
      obtain ⟨b1, o1, rfl, -⟩ := HA.out.addr (by rw [sbK.length]; omega)
      obtain ⟨b2, o2, rfl, -⟩ := HC.out.addr (by rw [sbK.length]; omega)
      go_upto_region 6 with fail
      refine wp_region_held_drew (S := fun W => Below wr.heap.size wr W) (by kernel_rfl) (Below.drew (Below.refl _ _)) (fun hS => ?_)
      refine wpAnyH_take (i := 0) (v := ?_) rfl (by kernel_rfl) (by kernel_rfl) (by kernel_rfl) (fun _ _ _ h => h) (Or.inl ⟨by kernel_rfl, ?_⟩) hS ?_
      rotate_left
      · intro W hSW
        go_simp
        all_goals with_reducible rfl
      refine wpAnyH_take (i := 1) (v := ?_) rfl (by kernel_rfl) (by kernel_rfl) (by kernel_rfl) (fun _ _ _ h => h) (Or.inl ⟨by kernel_rfl, ?_⟩) hS ?_
      rotate_left
      · intro W hSW
        go_simp
        all_goals with_reducible rfl
      refine wpAnyH_take (i := 2) (v := ?_) rfl (by kernel_rfl) (by kernel_rfl) (by kernel_rfl) (fun _ _ _ h => h) (Or.inl ⟨by kernel_rfl, ?_⟩) hS ?_
      rotate_left
      · intro W hSW
        go_simp
        all_goals with_reducible rfl
      go_simp
      refine wpAnyH_take (i := 3) (v := ?_) rfl (by kernel_rfl) (by kernel_rfl) (by kernel_rfl) (fun _ _ _ h => h) (Or.inl ⟨by kernel_rfl, ?_⟩) hS ?_
      rotate_left
      · intro W hSW
        go_simp
        all_goals with_reducible rfl
      refine wpAnyH_take (i := 4) (v := ?_) rfl (by kernel_rfl) (by kernel_rfl) (by kernel_rfl) (fun _ _ _ h => h) (Or.inl ⟨by kernel_rfl, ?_⟩) hS ?_
      rotate_left
      · intro W hSW
        obtain ⟨xa, -, -⟩ := Rd.sb (HA.out.below (HB.out.trans (hSW.mono HB.out.size))) k HKL.out
        go_simp
        all_goals with_reducible rfl
      refine wpAnyH_take (i := 5) (v := ?_) rfl (by kernel_rfl) (by kernel_rfl) (by kernel_rfl) (fun _ _ _ h => h) (Or.inl ⟨by kernel_rfl, ?_⟩) hS ?_
      rotate_left
      · intro W hSW
        go_simp
        all_goals with_reducible rfl
      go_simp
      refine wpAnyH_take (i := 6) (v := ?_) rfl (by kernel_rfl) (by kernel_rfl) (by kernel_rfl) (fun _ _ _ h => h) (Or.inl ⟨by kernel_rfl, ?_⟩) hS ?_
      rotate_left
      · intro W hSW
        go_simp
        all_goals with_reducible rfl
      refine wpAnyH_take (i := 7) (v := ?_) rfl (by kernel_rfl) (by kernel_rfl) (by kernel_rfl) (fun _ _ _ h => h) (Or.inl ⟨by kernel_rfl, ?_⟩) hS ?_
      rotate_left
      · intro W hSW
        go_simp
        all_goals with_reducible rfl
      refine wpAnyH_take (i := 8) (v := ?_) rfl (by kernel_rfl) (by kernel_rfl) (by kernel_rfl) (fun _ _ _ h => h) (Or.inl ⟨by kernel_rfl, ?_⟩) hS ?_
      rotate_left
      · intro W hSW
        go_simp
        all_goals with_reducible rfl
      go_simp
      refine wpAnyH_take (i := 9) (v := ?_) rfl (by kernel_rfl) (by kernel_rfl) (by kernel_rfl) (fun _ _ _ h => h) (Or.inl ⟨by kernel_rfl, ?_⟩) hS ?_
      rotate_left
      · intro W hSW
        obtain ⟨xb, -, -⟩ := Rd.sb (HC.out.below (HB.out.trans (hSW.mono HB.out.size))) k HKL.out
        go_simp
        all_goals with_reducible rfl
      refine wpAnyH_take (i := 10) (v := ?_) rfl (by kernel_rfl) (by kernel_rfl) (by kernel_rfl) (fun _ _ _ h => h) (Or.inl ⟨by kernel_rfl, ?_⟩) hS ?_
      rotate_left
      · intro W hSW
        go_simp
        all_goals with_reducible rfl
      refine wpAnyH_take (i := 11) (v := ?_) rfl (by kernel_rfl) (by kernel_rfl) (by kernel_rfl) (fun _ _ _ h => h) (Or.inl ⟨by kernel_rfl, ?_⟩) hS ?_
      rotate_left
      · intro W hSW
        go_simp
        all_goals with_reducible rfl
      go_simp
      refine wpAnyH_take (i := 12) (v := ?_) rfl (by kernel_rfl) (by kernel_rfl) (by kernel_rfl) (fun _ _ _ h => h) (Or.inl ⟨by kernel_rfl, ?_⟩) hS ?_
      rotate_left
      · intro W hSW
        go_simp
        all_goals with_reducible rfl
      refine wpAnyH_take (i := 13) (v := ?_) rfl (by kernel_rfl) (by kernel_rfl) (by kernel_rfl) (fun _ _ _ h => h) (Or.inl ⟨by kernel_rfl, ?_⟩) hS ?_
      rotate_left
      · intro W hSW
        go_simp
        all_goals with_reducible rfl
      refine wpAnyH_take (i := 14) (v := ?_) rfl (by kernel_rfl) (by kernel_rfl) (by kernel_rfl) (fun _ _ _ h => h) (Or.inl ⟨by kernel_rfl, ?_⟩) hS ?_
      rotate_left
      · intro W hSW
        go_simp
        all_goals with_reducible rfl
      go_simp
      refine wpAnyH_take (i := 15) (v := ?_) rfl (by kernel_rfl) (by kernel_rfl) (by kernel_rfl) (fun _ _ _ h => h) (Or.inl ⟨by kernel_rfl, ?_⟩) hS ?_
      rotate_left
      · intro W hSW
        go_simp
        all_goals with_reducible rfl
      go_simp
      refine wpAnyH_take (i := 16) (v := snV (Sbm.sbOf m k).2) rfl (by kernel_rfl) (by kernel_rfl) (by kernel_rfl) (fun _ _ _ h => h) (Or.inl ⟨by kernel_rfl, fun W hSW => obK.loadPart Tryz.underlying24 rfl rfl [.int .i64 (Sbm.sbOf m k).2.1, .int .i64 (Sbm.sbOf m k).2.2] (HA.out.below (HB.out.trans (hSW.mono HB.out.size))) HK.out sb_off (by kernel_rfl)⟩) hS ?_
      refine wpAnyH_take (i := 17) (v := ?_) rfl (by kernel_rfl) (by kernel_rfl) (by kernel_rfl) (fun _ _ _ h => h) (Or.inl ⟨by kernel_rfl, ?_⟩) hS ?_
      rotate_left
      · intro W hSW
        go_simp
        all_goals with_reducible rfl
      refine wpAnyH_take (i := 18) (v := ?_) rfl (by kernel_rfl) (by kernel_rfl) (by kernel_rfl) (fun _ _ _ h => h) (Or.inl ⟨by kernel_rfl, ?_⟩) hS ?_
      rotate_left
      · intro W hSW
        go_simp
        all_goals with_reducible rfl
      go_simp
      refine wpAnyH_take (i := 19) (v := ?_) rfl (by kernel_rfl) (by kernel_rfl) (by kernel_rfl) (fun _ _ _ h => h) (Or.inl ⟨by kernel_rfl, ?_⟩) hS ?_
      rotate_left
      · intro W hSW
        go_simp
        all_goals with_reducible rfl
      refine wpAnyH_take (i := 20) (v := ?_) rfl (by kernel_rfl) (by kernel_rfl) (by kernel_rfl) (fun _ _ _ h => h) (Or.inl ⟨by kernel_rfl, ?_⟩) hS ?_
      rotate_left
      · intro W hSW
        go_simp
        all_goals with_reducible rfl
      go_simp
      refine wpAnyH_take (i := 21) (v := snV (Sbm.sbOf m k).2) rfl (by kernel_rfl) (by kernel_rfl) (by kernel_rfl) (fun _ _ _ h => h) (Or.inl ⟨by kernel_rfl, fun W hSW => sbK.loadPart Tryz.underlying24 rfl rfl [.int .i64 (Sbm.sbOf m k).2.1, .int .i64 (Sbm.sbOf m k).2.2] (HC.out.below (HB.out.trans (hSW.mono HB.out.size))) HK.out sb_off (by kernel_rfl)⟩) hS ?_
      go_simp
      refine wpAnyH_take (i := 22) (v := .bool false) rfl (by kernel_rfl) (by kernel_rfl) (by kernel_rfl) (fun _ _ _ h => h) (Or.inl ⟨by kernel_rfl, fun W hSW => (exec_neq_st2 rfl (Sbm.sbOf m k).2 (Sbm.sbOf m k).2 rfl rfl).trans (by simp)⟩) hS ?_
      refine wpAnyH_take (i := 23) (v := ?_) rfl (by kernel_rfl) (by kernel_rfl) (by kernel_rfl) (fun _ _ _ h => h) (Or.inl ⟨by kernel_rfl, ?_⟩) hS ?_
      rotate_left
      · intro W hSW
        go_simp
        all_goals with_reducible rfl
      go_simp
      refine wpAnyH_done (by kernel_rfl) ?_ _
      go_simp
      have HN := Lib.hid hS
      clear hS
      go_wp2
      go_roundw
      case rel => exact ⟨k + 1, by go_num, by have := HKL.out; omega, HB.out.trans (HN.out.mono HB.out.size)⟩
      case measure => simp [intOf] <;> have := HKL.out <;> omega
    · go_wp2
      go_ret
      exact ⟨rfl, HB.out⟩

end Go.Proofs.YtilkokhapcgolaaGreat

namespace Go.Proofs.YtilkokhapcgolaaGreat
open Go.RowKit
open Tm (Sp Tr kids)

/-- the siblings of a row of nodes -/
def ksOf (T : Tr) (l : List Qm.St) : List Sbm.Sib := l.map fun n => (((Tm.look T n).getD zS).2, n)
theorem ksOf_len (T : Tr) (l : List Qm.St) : (ksOf T l).length = l.length := List.length_map ..
theorem ksOf_get {T : Tr} {l : List Qm.St} {k : Nat} (h : k < l.length) : (ksOf T l).take (k + 1) = (ksOf T l).take k ++ [(((Tm.look T (Qm.stOf l k)).getD zS).2, Qm.stOf l k)] := by
  rw [List.take_succ_eq_append_getElem (by rw [ksOf_len]; exact h)]
  simp [ksOf, Qm.stOf_lt h]
theorem ksOf_perm {T : Tr} (nd : (T.map Prod.fst).Nodup) {p : Qm.St} {l : List Qm.St} (hp : l.Perm (kids T p)) : (ksOf T l).Perm (Rtm.sibs T p) :=
  Rtm.sibs_kids nd p hp (fun n => ((Tm.look T n).getD zS).2) (fun n s h => by rw [h]; rfl)

set_option maxRecDepth 100000 in
set_option maxHeartbeats 8000000 in
theorem orow_any {P M1 M2 : Nat} {T : Tr} {C : List Kid} {F : Nat → Prop} (pt : Qm.St) (w : World) (h : Lay w P M1 M2 T C F) (hp : StWf pt) (hT : T.length ≤ 200) (nd : (T.map Prod.fst).Nodup) :
    Calls Tryz.prog 13 #[.pointer (some ⟨P, 0, none⟩), snV pt] w fun e w' => ∃ p' c' m, m.Perm (Rtm.sibs T pt) ∧ Sbm.Srt m ∧ e = .returned (.slice p' m.length c') ∧ Rd w' p' (sbCells m) ∧ Below w.heap.size w w' := by
  have hb0 : Below w.heap.size w (w.alloc (.cells #[.int .i64 pt.1, .int .i64 pt.2] 24)) := (Below.refl _ _).alloc (Nat.le_refl _) _
  have HX := Lib.hid (AgAt.new w #[.int .i64 pt.1, .int .i64 pt.2] 24)
  have HBL := Lib.hid (below_any pt _ (h.kept hb0) hp (Nat.le_trans hT (by decide)))
  have HL0 := Lib.hid (h.kept hb0)
  have HB0 := Lib.hid hb0
  have HWF := Lib.hid h.wf
  have HT5 := Lib.hid hT
  have HND := Lib.hid nd
  obtain ⟨i0, hi, hz0, hz1, hz2⟩ := info_split info_sib
  clear h hb0 hp hT nd
  go_enter Tryz.func13, Tryz.ntmps13
  go_wp2_with (refine wpList_load_ag stT rfl _ rfl _ rfl rfl HX.out ?_)
  refine HBL.out.mono ?_
  rintro e w1 ⟨p1, c1, l, hpk, rfl, hr1, -, hb1⟩
  have HL1 := Lib.hid (HL0.out.kept hb1)
  have HR1 := Lib.hid hr1
  have HB1 := Lib.hid (HB0.out.trans (hb1.mono HB0.out.size))
  have HPK := Lib.hid hpk
  have hll : l.length ≤ 200 := by
    rw [hpk.length_eq]
    unfold kids
    rw [List.length_map]
    exact Nat.le_trans (List.length_filter_le _ _) HT5.out
  have HLL := Lib.hid hll
  have HWK := Lib.hid (show ∀ n ∈ l, StWf n from fun n hn => by
    obtain ⟨s, hs, -⟩ := Tm.kids_mem.1 (hpk.mem_iff.1 hn)
    exact HWF.out (n, s) hs)
  have HKL := Lib.hid (ksOf_len T l)
  clear hr1 hb1 hpk hll HBL HL0 HX
  go_wp2
  go_loopw [5, 14] (fun v i wr => ∃ (k : Nat) (pr : Option Addr) (cr : Nat), i = .int .i64 (k : Int) ∧ k ≤ l.length ∧ v = .slice pr k cr ∧ wr.ownsRow w1.heap.size 54 3 (.slice pr k cr) k (sbCells ((ksOf T l).take k)) ∧ Below w1.heap.size w1 wr) (fun _ i _ => l.length - (intOf i).toNat)
  case atStart => exact ⟨0, none, 0, rfl, Nat.zero_le _, rfl, World.ownsRow_nil _ _ _ _, Below.refl _ _⟩
  case round =>
    obtain ⟨k, pr, cr, rfl, hk, rfl, ho, hb⟩ := hrel
    have HO := Lib.hid ho
    have HB := Lib.hid hb
    clear ho hb
    by_cases hlt : k < l.length
    · have HLT := Lib.hid hlt
      have hk5 : k < 200 := by have := HLL.out; omega
      obtain ⟨b, o, rfl, -⟩ := HR1.out.addr (by rw [stCells_length]; omega)
      have HWN := Lib.hid (HWK.out (Qm.stOf l k) (by rw [Qm.stOf_lt hlt]; exact List.getElem_mem hlt))
      have HKT := Lib.hid (ksOf_get (T := T) hlt)
      have HRW := Lib.hid (HR1.out.below HB.out)
      have HLW := Lib.hid (HL1.out.kept HB.out)
      obtain ⟨n, hn⟩ : ∃ n, Qm.stOf l k = n := ⟨_, rfl⟩
      rw [hn] at HWN HKT
      have HN := Lib.hid hn
      clear hn
      go_wp2_with (first
        | (refine wpList_value (v := snV n) (by simp [Region.wanted]) (by rw [← HN.out]; exact exec_load_str rfl rfl HRW.out HLT.out) ?_)
        | (refine wpList_store_newag stT rfl _ _ rfl rfl _ (A := #[.int .i64 n.1, .int .i64 n.2]) rfl rfl rfl (stA_one _ _) ?_
           intro wA hvA hbA
           have HVA := Lib.hid hvA
           have HBA := Lib.hid (HB.out.trans (hbA.mono HB.out.size))
           have HOA := Lib.hid ((Turns.of_below (F := fun _ => False) hbA).own HO.out (fun _ _ h => h))
           have HSP := Lib.hid (spot_any n wA (HLW.out.kept hbA) HWN.out)
           clear hvA hbA)
        | (refine wpList_load_ag stT rfl _ rfl _ rfl rfl HVA.out ?_))
      refine HSP.out.mono ?_
      rintro e wB ⟨rfl, hbB⟩
      have HVB := Lib.hid (AgAt.kept HVA.out hbB)
      have HBB := Lib.hid (HBA.out.trans (hbB.mono HBA.out.size))
      have HOB := Lib.hid ((Turns.of_below (F := fun _ => False) hbB).own HOA.out (fun _ _ h => h))
      clear hbB HSP HVA HOA HO HBA HRW HLW
      generalize (Tm.look T n).getD zS = s at *
      generalize (Tm.look T n).isSome = ib at *
      go_wp2_with (first
        | (refine wpList_store_newag spT rfl _ _ rfl rfl _ (A := spA s) rfl rfl rfl (spA_one _) ?_
           intro wC hvC hbC
           have y2 : wC.cell? ⟨wB.heap.size, 2, none⟩ = some (.string s.2) := by rw [AgAt.cell hvC 2]; rfl
           have HVC := Lib.hid (AgAt.kept HVB.out hbC)
           have HBC := Lib.hid (HBB.out.trans (hbC.mono HBB.out.size))
           have HOC := Lib.hid ((Turns.of_below (F := fun _ => False) hbC).own HOB.out (fun _ _ h => h))
           clear hvC hbC)
        | (refine wpList_load_ag stT rfl _ rfl _ rfl rfl HVC.out ?_)
        | (refine wpList_append_k rfl _ _ 47 rfl w1.heap.size 54 i0 _ 3 32 Tryz.underlying47 hi hz0 hz1 (by decide) hz2 (by decide) rfl _ k (sbCells ((ksOf T l).take k)) rfl (World.ownsRow.alloc HOC.out _) _ 1 1 (sbCells [(s.2, n)]) rfl rfl (rd_sb1 wC (s.2, n) 54) (fun e => by cases e) sbCells_one (by omega) (by have := HBC.out.size; simp; omega) ?_
           intro pD cD wD hoD hgD _
           have HOD := Lib.hid hoD
           have HBD := Lib.hid (Below.grown (HBC.out.alloc HBC.out.size _) hgD (by have := HBC.out.size; simp; omega) (fun j hj => (World.ownsRow.lt HOC.out j hj).1))
           clear hoD hgD))
      go_roundw
      case rel => exact ⟨k + 1, pD, cD, by go_num, by have := HLT.out; omega, rfl, by rw [HKT.out, sbCells_append]; exact HOD.out, HBD.out⟩
      case measure => simp [intOf] <;> have := HLT.out <;> omega
    · obtain rfl : k = l.length := by omega
      have htk : (ksOf T l).take l.length = ksOf T l := by rw [← HKL.out, List.take_length]
      rw [htk] at HO
      rw [← HKL.out] at HO
      obtain ⟨hrd, hnm, -, -⟩ := own_rdK (ce := sbC) HO.out
      have HSO := Lib.hid (sort_sib pr cr (ksOf T l) wr hrd hnm (by rw [HKL.out]; have := HLL.out; omega))
      rw [HKL.out] at HSO
      clear hrd hnm htk
      go_wp2_with fail
      refine HSO.out.mono ?_
      rintro e w9 ⟨p', c', m, hp, hs, rfl, hr, -, -, hb9⟩
      have HE := Lib.hid (show ∃ p2 c2 m2, m2.Perm (Rtm.sibs T pt) ∧ Sbm.Srt m2 ∧ Ending.returned (.slice p' m.length c') = .returned (.slice p2 m2.length c2) ∧ Rd w9 p2 (sbCells m2) ∧ Below w.heap.size w w9 from ⟨p', c', m, hp.trans (ksOf_perm HND.out HPK.out), hs, rfl, hr, HB1.out.trans ((HB.out.trans (hb9.mono HB.out.size)).mono HB1.out.size)⟩)
      clear hp hs hr hb9
      go_wp2
      go_ret
      exact HE.out

theorem ours_nil (w : World) : Calls Tryz.prog 19 #[.pointer none] w fun e w' => e = .returned (.bool false) ∧ w = w' := by
  go_enter Tryz.func19, Tryz.ntmps19
  go_wp2
  go_ret
  exact ⟨rfl, rfl⟩
set_option maxRecDepth 100000 in
set_option maxHeartbeats 1000000 in
theorem below_nil (pt : Qm.St) (w : World) : Calls Tryz.prog 31 #[.pointer none, snV pt] w fun e w' => e = .returned (.slice none 0 0) ∧ Below w.heap.size w w' := by
  have HB0 := Lib.hid (show Below w.heap.size w (w.alloc (.cells #[.int .i64 pt.1, .int .i64 pt.2] 24)) from (Below.refl _ _).alloc (Nat.le_refl _) _)
  go_enter Tryz.func31, Tryz.ntmps31
  go_wp2_with fail
  refine (ours_nil _).mono ?_
  rintro e w1 ⟨rfl, rfl⟩
  go_wp2
  go_ret
  exact ⟨rfl, HB0.out⟩
set_option maxRecDepth 100000 in
set_option maxHeartbeats 2000000 in
theorem orow_nil (pt : Qm.St) (w : World) : Calls Tryz.prog 13 #[.pointer none, snV pt] w fun e w' => ∃ p' c', e = .returned (.slice p' 0 c') ∧ Below w.heap.size w w' := by
  have HB0 := Lib.hid (show Below w.heap.size w (w.alloc (.cells #[.int .i64 pt.1, .int .i64 pt.2] 24)) from (Below.refl _ _).alloc (Nat.le_refl _) _)
  have HX := Lib.hid (AgAt.new w #[.int .i64 pt.1, .int .i64 pt.2] 24)
  go_enter Tryz.func13, Tryz.ntmps13
  go_wp2_with (refine wpList_load_ag stT rfl _ rfl _ rfl rfl HX.out ?_)
  refine (below_nil pt _).mono ?_
  rintro e w1 ⟨rfl, hb1⟩
  have HB1 := Lib.hid (HB0.out.trans (hb1.mono HB0.out.size))
  have HSO := Lib.hid (sort_sib none 0 [] w1 (Rd.nil _ _) (fun _ => rfl) (by decide))
  rw [show ([] : List Sbm.Sib).length = 0 from rfl] at HSO
  clear hb1 HX HB0
  go_wp2
  go_loopw [5, 14] (fun v i wr => v = .slice none 0 0 ∧ i = .int .i64 0 ∧ wr = w1) (fun _ _ _ => 0)
  case atStart => exact ⟨rfl, rfl, rfl⟩
  case round =>
    obtain ⟨rfl, rfl, rfl⟩ := hrel
    go_wp2_with fail
    refine HSO.out.mono ?_
    rintro e w9 ⟨p', c', m, hp, -, rfl, -, -, -, hb9⟩
    obtain rfl := List.Perm.eq_nil hp
    have HE := Lib.hid (HB1.out.trans (hb9.mono HB1.out.size))
    clear hp hb9
    go_wp2
    go_ret
    exact ⟨p', c', rfl, HE.out⟩

end Go.Proofs.YtilkokhapcgolaaGreat
