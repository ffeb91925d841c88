/-
  THE DOCUMENT's TREE: Add.
  No conditions but sizes.
  THE DOCUMENT's TREE: Move.
  No conditions but sizes.
-/
import Derived.Test.YtilkokhapcgolaaGreatTRF
import Derived.Test.YtilkokhapcgolaaGreatRkSet
import Derived.Test.YtilkokhapcgolaaGreatRgLast
import Derived.Test.YtilkokhapcgolaaGreatTActs
namespace Go.Proofs.YtilkokhapcgolaaGreat
open Go.RowKit
open Tm (Sp Tr)

/-- the document's tree, to be turned -/
structure RtO (w : World) (q : Nat) (R : Tr) (p : Option Addr) (c : Nat) : Prop where
  at_ : AgAt w q #[.slice p R.length c]
  own : w.ownsRow 0 71 5 (.slice p R.length c) R.length (R.flatMap rwL)
  ne : ∀ g, (Value.slice p R.length c).ownBlock = some g → g ≠ q
  ris : Rtm.Ris R
  len : R.length ≤ 400
theorem RtO.rd {w : World} {q : Nat} {R : Tr} {p : Option Addr} {c : Nat} (h : RtO w q R p c) : RtR w q R p c := by
  obtain ⟨h1, h2, h3, -⟩ := own_rdK h.own
  exact ⟨h.at_, h1, Nat.le_trans h.len (by decide), h3, h2⟩
theorem RtO.turns {F : Nat → Prop} {w w' : World} {q : Nat} {R : Tr} {p : Option Addr} {c : Nat} (h : RtO w q R p c) (ht : Turns F w w') (hq : ¬ F q) (hg : ∀ g, (Value.slice p R.length c).ownBlock = some g → ¬ F g) : RtO w' q R p c :=
  ⟨AgAt.block h.at_ (ht.block _ (AgAt.lt h.at_) hq), ht.own h.own hg, h.ne, h.ris, h.len⟩
theorem RtO.kept {w w' : World} {q : Nat} {R : Tr} {p : Option Addr} {c : Nat} (h : RtO w q R p c) (hb : Below w.heap.size w w') : RtO w' q R p c := h.turns (Turns.of_below (F := fun _ => False) hb) (fun h => h) (fun _ _ h => h)
/-- what an act on it leaves -/
def RtDone (q : Nat) (p : Option Addr) (l c : Nat) (R' : Tr) (w : World) (e : Ending) (w' : World) : Prop :=
  (∃ v, e = .returned v) ∧ ∃ p' c', RtO w' q R' p' c' ∧ Turns (fun k => k = q ∨ (Value.slice p l c).ownBlock = some k) w w' ∧ ∀ g, (Value.slice p' R'.length c').ownBlock = some g → (Value.slice p l c).ownBlock = some g ∨ w.heap.size ≤ g
theorem RtO.same {w w' : World} {q : Nat} {R : Tr} {p : Option Addr} {c : Nat} (h : RtO w q R p c) (hb : Below w.heap.size w w') (v : Value) : RtDone q p R.length c R w (.returned v) w' :=
  ⟨⟨v, rfl⟩, p, c, h.kept hb, Turns.of_below hb, fun _ h => Or.inl h⟩
theorem run_build_rw (W : World) (n : Qm.St) (s : Sp) : (Instr.build 71 #[(0, .agg #[.int .i64 n.1, .int .i64 n.2]), (1, .agg #[.int .i64 s.1.1, .int .i64 s.1.2, .string s.2])]).run Tryz.prog W = .ok (.agg (rwL (n, s)).toArray) W := by kernel_rfl
theorem exec_build_rw {a : Act} {w : World} {o : Oper} {x y : Operand} (ho : o.op = .build 71 #[(0, x), (1, y)]) (n : Qm.St) (s : Sp) (hx : a.eval x = snV n) (hy : a.eval y = .agg (spA s)) :
    (execOp a.eval o).run Tryz.prog w = .ok (.value (.agg (rwL (n, s)).toArray)) w := by
  unfold execOp
  rw [show snV n = .agg #[.int .i64 n.1, .int .i64 n.2] from rfl] at hx
  rw [show spA s = #[.int .i64 s.1.1, .int .i64 s.1.2, .string s.2] from rfl] at hy
  simp only [ho, Sem.run_bind, Sem.run_pure, Result.andThen_ok, List.map_toArray, List.map_cons, List.map_nil, hx, hy, run_build_rw]
theorem run_buildS_rw (W : World) (n : Qm.St) (s : Sp) : (Instr.buildSlice 30 1 #[(0, .agg (rwL (n, s)).toArray)]).run Tryz.prog W = .ok (.slice (some ⟨W.heap.size, 0, none⟩) 1 1) (W.alloc (.cells (rwL (n, s)).toArray 71)) := by kernel_rfl

set_option maxRecDepth 100000 in
set_option maxHeartbeats 16000000 in
theorem radd_any {q : Nat} {R : Tr} {p : Option Addr} {c : Nat} (n : Qm.St) (s : Sp) (w : World) (h : RtO w q R p c) (hl : R.length ≤ 200) (hk : s.2.size ≤ 140737488355328) :
    Calls Tryz.prog 9 #[.pointer (some ⟨q, 0, none⟩), snV n, .agg (spA s)] w fun e w' => ∃ R', (∀ T, Rtm.Twin R T → Rtm.Twin R' (Tm.addT T n s).1) ∧ RtDone q p R.length c R' w e w' := by
  have h1 : ∀ (w : World) (o : Obj), Below w.heap.size w (w.alloc o) := fun w o => (Below.refl _ _).alloc (Nat.le_refl _) _
  have hx := AgAt.kept (AgAt.new w #[.int .i64 n.1, .int .i64 n.2] 24) (h1 _ (.cells (spA s) 34))
  have hy := AgAt.new (w.alloc (.cells #[.int .i64 n.1, .int .i64 n.2] 24)) (spA s) 34
  rw [show (w.alloc (.cells #[.int .i64 n.1, .int .i64 n.2] 24)).heap.size = w.heap.size + 1 from by simp] at hy
  have hb0 : Below w.heap.size w ((w.alloc (.cells #[.int .i64 n.1, .int .i64 n.2] 24)).alloc (.cells (spA s) 34)) := (h1 _ _).trans ((h1 _ _).mono (by simp))
  have HX := Lib.hid hx
  have HY := Lib.hid hy
  have HB0 := Lib.hid hb0
  have HH := Lib.hid h
  have HLEN := Lib.hid hl
  have HKY := Lib.hid hk
  clear h hl hk hx hy hb0 h1
  go_enter Tryz.func9, Tryz.ntmps9
  go_wp2_with (refine wpList_load_ag stT rfl _ rfl _ rfl rfl HX.out ?_)
  generalize (w.alloc (.cells #[.int .i64 n.1, .int .i64 n.2] 24)).alloc (.cells (spA s) 34) = w0 at *
  refine (rfind_any n _ (HH.out.rd.kept HB0.out)).mono ?_
  rintro e w1 ⟨⟨i, b, hf, rfl⟩, hb1⟩
  have HF := Lib.hid hf
  have HLK := Lib.hid (hf.look HH.out.ris).1
  have HB1 := Lib.hid (HB0.out.trans (hb1.mono HB0.out.size))
  have HX1 := Lib.hid (AgAt.kept HX.out hb1)
  have HY1 := Lib.hid (AgAt.kept HY.out hb1)
  have HBAD := Lib.hid (fun (W : World) (hW : Below w.heap.size w W) (v : Value) (hz : (Tm.addT R n s).2 ≠ 0) => show ∃ R', (∀ T, Rtm.Twin R T → Rtm.Twin R' (Tm.addT T n s).1) ∧ RtDone q p R.length c R' w (.returned v) W from
    ⟨Rtm.addR R i n s, fun T hT => hT.add hf s, by unfold Rtm.addR; rw [if_neg hz]; exact HH.out.same hW v⟩)
  clear hf hb1 HX HY HB0
  have HOKB := Lib.hid (show Tm.okN n = okNode n.1 n.2 from rfl)
  cases hnb : okNode n.1 n.2
  · have HZ := Lib.hid (show (Tm.addT R n s).2 = 1 from by unfold Tm.addT; rw [if_pos (by rw [HOKB.out, hnb]; rfl)])
    have HNB := Lib.hid hnb
    clear hnb
    go_wp2_with (refine wpList_load_ag stT (by kernel_rfl) _ rfl _ rfl (A := #[.int .i64 n.1, .int .i64 n.2]) rfl HX1.out ?_)
    refine (rnode_any _ _ _).mono ?_
    rw [HNB.out]
    rintro e w2 ⟨rfl, hb2⟩
    have HE := Lib.hid (HBAD.out w2 (HB1.out.trans (hb2.mono HB1.out.size)) (.int .i64 1) (by rw [HZ.out]; decide))
    clear hb2
    go_wp2
    go_ret
    exact HE.out
  · have HNB := Lib.hid hnb
    clear hnb
    go_wp2_with (refine wpList_load_ag stT (by kernel_rfl) _ rfl _ rfl (A := #[.int .i64 n.1, .int .i64 n.2]) rfl HX1.out ?_)
    refine (rnode_any _ _ _).mono ?_
    rw [HNB.out]
    rintro e w2 ⟨rfl, hb2⟩
    have HB2 := Lib.hid (HB1.out.trans (hb2.mono HB1.out.size))
    have HX2 := Lib.hid (AgAt.kept HX1.out hb2)
    have HY2 := Lib.hid (AgAt.kept HY1.out hb2)
    clear hb2 HX1 HY1
    go_wp2_with (refine wpList_load_ag spR (by kernel_rfl) _ rfl _ rfl (A := spA s) rfl HY2.out ?_)
    refine (rrightSp_any s _ HKY.out).mono ?_
    rintro e w3 ⟨rfl, hb3⟩
    have HB3 := Lib.hid (HB2.out.trans (hb3.mono HB2.out.size))
    have HX3 := Lib.hid (AgAt.kept HX2.out hb3)
    have HY3 := Lib.hid (AgAt.kept HY2.out hb3)
    clear hb3 HX2 HY2
    cases hrb : Tm.rightSp s
    · have HE := Lib.hid (HBAD.out w3 HB3.out (.int .i64 1) (by unfold Tm.addT; rw [if_pos (by rw [hrb]; simp)]; exact (by decide : (1 : Int) ≠ 0)))
      clear hrb
      go_wp2
      go_ret
      exact HE.out
    · have HK1 := Lib.hid (show ¬ (Tm.okN n && Tm.rightSp s) = false from by rw [HOKB.out, HNB.out, hrb]; decide)
      clear hrb
      cases b
      case true =>
        have HE := Lib.hid (HBAD.out w3 HB3.out (.int .i64 4) (by unfold Tm.addT; rw [if_neg HK1.out, if_pos HLK.out]; exact (by decide : (4 : Int) ≠ 0)))
        go_wp2
        go_ret
        exact HE.out
      case false =>
        go_wp2_with (refine wpList_load_part stT rfl _ rfl _ 0 rfl [.int .i64 s.1.1, .int .i64 s.1.2] rfl HY3.out spPar ?_)
        refine (rhas_any s.1 _ (HH.out.kept HB3.out).rd HH.out.ris).mono ?_
        rintro e w4 ⟨rfl, hb4⟩
        have HB4 := Lib.hid (HB3.out.trans (hb4.mono HB3.out.size))
        have HX4 := Lib.hid (AgAt.kept HX3.out hb4)
        have HY4 := Lib.hid (AgAt.kept HY3.out hb4)
        clear hb4 HX3 HY3
        cases hhs : Tm.has R s.1
        · have HE := Lib.hid (HBAD.out w4 HB4.out (.int .i64 3) (by unfold Tm.addT; rw [if_neg HK1.out, if_neg (by rw [HLK.out]; decide), if_pos hhs]; exact (by decide : (3 : Int) ≠ 0)))
          clear hhs
          go_wp2
          go_ret
          exact HE.out
        · have HZ := Lib.hid (show (Tm.addT R n s).2 = 0 from by unfold Tm.addT; rw [if_neg HK1.out, if_neg (by rw [HLK.out]; decide), if_neg (by rw [hhs]; decide), if_neg (by have := HLEN.out; omega)])
          have HT4 := Lib.hid (HH.out.kept HB4.out).rd
          have HILN := Lib.hid (show i ≤ R.length from HF.out.le)
          have HIL := HILN
          have HIC := Lib.hid (show i ≤ c from Nat.le_trans HF.out.le HT4.out.cap)
          have HTL := Lib.hid (show (R.take i).length = i from by rw [List.length_take]; have := HF.out.le; omega)
          have HDL := Lib.hid (show (R.drop i).length = R.length - i from List.length_drop)
          have HQ4 := Lib.hid (show q < w4.heap.size from AgAt.lt HT4.out.at_)
          have HDN := Lib.hid (fun (W : World) (p' : Option Addr) (c' : Nat) (hS : Below w4.heap.size w4 W) (ho : W.ownsRow w4.heap.size 71 5 (.slice p' (Rtm.ins R i n s).length c') (Rtm.ins R i n s).length ((Rtm.ins R i n s).flatMap rwL)) =>
            show ∃ R', (∀ T, Rtm.Twin R T → Rtm.Twin R' (Tm.addT T n s).1) ∧ RtDone q p R.length c R' w (.returned (.int .i64 0)) (W.setCell ⟨q, 0, none⟩ (.slice p' (Rtm.ins R i n s).length c')) from by
              refine ⟨Rtm.addR R i n s, fun T hT => hT.add HF.out s, ?_⟩
              unfold Rtm.addR
              rw [if_pos HZ.out]
              have hne : ∀ g, (Value.slice p' (Rtm.ins R i n s).length c').ownBlock = some g → w4.heap.size ≤ g := fun g hg => (World.ownsRow.lt ho g hg).1
              refine ⟨⟨_, rfl⟩, p', c', ⟨?_, ?_, ?_, ?_, ?_⟩, ?_, ?_⟩
              · exact (AgAt.kept HT4.out.at_ hS).put 0 _
              · exact own_base ((set_turns q W 0 _).own ho (fun g hg e => by have h1 := hne g hg; have h2 := HQ4.out; have h3 : g = q := e; omega)) (fun _ _ => Nat.zero_le _)
              · intro g hg e
                have h1 := hne g hg
                have h2 := HQ4.out
                omega
              · have hb : Rtm.Found R n i false := HF.out
                exact Rtm.ins_ris hb HH.out.ris s
              · rw [(Rtm.ins_perm R i n s).length_eq]
                unfold Tm.put
                rw [List.length_append]
                have := HLEN.out
                simp
                omega
              · refine (Turns.of_below (HB4.out.trans (hS.mono HB4.out.size))).trans ((set_turns q W 0 _).mono fun k _ hk => Or.inl (Or.inl hk))
              · intro g hg
                exact Or.inr (Nat.le_trans HB4.out.size (hne g hg)))
          have d8 : decide (65536 ≤ (R.length : Int)) = false := decide_eq_false (by have := HLEN.out; omega)
          have d9 : ¬ 65536 ≤ R.length := by have := HLEN.out; omega
          have y4 := HT4.out.cell
          clear hhs HBAD HLK HF HH
          go_upto_region 10 with fail
          clear y4 d8 d9
          refine wp_region_last_drew 23 (S := fun W => Below w4.heap.size w4 W) (by kernel_rfl) (Below.drew (Below.refl _ _)) (fun hS => ?_)
          generalize w4.drew = wd at *
          refine wpAnyL_take (i := 0) (v := ?_) rfl (by kernel_rfl) (by kernel_rfl) (by kernel_rfl) (fun _ _ _ h => h) (Or.inl ⟨by kernel_rfl, ?_⟩) hS (by kernel_rfl) ?_
          rotate_left
          · intro W hSW
            go_simp
            all_goals with_reducible rfl
          refine wpAnyL_take (i := 2) (v := ?_) rfl (by kernel_rfl) (by kernel_rfl) (by kernel_rfl) (fun _ _ _ h => h) (Or.inl ⟨by kernel_rfl, ?_⟩) hS (by kernel_rfl) ?_
          rotate_left
          · intro W hSW
            go_simp
            all_goals with_reducible rfl
          refine wpAnyL_take (i := 3) (v := ?_) rfl (by kernel_rfl) (by kernel_rfl) (by kernel_rfl) (fun _ _ _ h => h) (Or.inl ⟨by kernel_rfl, ?_⟩) hS (by kernel_rfl) ?_
          rotate_left
          · intro W hSW
            go_simp
            all_goals with_reducible rfl
          refine wpAnyL_take (i := 4) (v := ?_) rfl (by kernel_rfl) (by kernel_rfl) (by kernel_rfl) (fun _ _ _ h => h) (Or.inl ⟨by kernel_rfl, ?_⟩) hS (by kernel_rfl) ?_
          rotate_left
          · intro W hSW
            go_simp
            all_goals with_reducible rfl
          go_simp
          refine wpAnyL_take (i := 5) (v := ?_) rfl (by kernel_rfl) (by kernel_rfl) (by kernel_rfl) (fun _ _ _ h => h) (Or.inl ⟨by kernel_rfl, ?_⟩) hS (by kernel_rfl) ?_
          rotate_left
          · intro W hSW
            have y0' := (HT4.out.kept hSW).cell
            go_simp
            all_goals with_reducible rfl
          refine wpAnyL_take (i := 6) (v := ?_) rfl (by kernel_rfl) (by kernel_rfl) (by kernel_rfl) (fun _ _ _ h => h) (Or.inl ⟨by kernel_rfl, ?_⟩) hS (by kernel_rfl) ?_
          rotate_left
          · intro W hSW
            go_simp
            all_goals with_reducible rfl
          go_simp
          refine wpAnyL_take (i := 7) (v := .slice p i c) rfl (by kernel_rfl) (by kernel_rfl) (by kernel_rfl) (fun _ _ _ h => h) (Or.inl ⟨by kernel_rfl, fun W hSW => rwK.take rfl rfl rfl HIC.out⟩) hS (by kernel_rfl) ?_
          go_simp
          refine wpAnyL_take (i := 9) (v := snV n) rfl (by kernel_rfl) (by kernel_rfl) (by kernel_rfl) (fun _ _ _ h => h) (Or.inl ⟨by kernel_rfl, fun W hSW => exec_load_ag stT rfl rfl rfl (AgAt.kept HX4.out hSW)⟩) hS (by kernel_rfl) ?_
          go_simp
          refine wpAnyL_take (i := 10) (v := .agg (spA s)) rfl (by kernel_rfl) (by kernel_rfl) (by kernel_rfl) (fun _ _ _ h => h) (Or.inl ⟨by kernel_rfl, fun W hSW => exec_load_ag spR rfl rfl rfl (AgAt.kept HY4.out hSW)⟩) hS (by kernel_rfl) ?_
          go_simp
          refine wpAnyL_take (i := 11) (v := .agg (rwL (n, s)).toArray) rfl (by kernel_rfl) (by kernel_rfl) (by kernel_rfl) (fun _ _ _ h => h) (Or.inl ⟨by kernel_rfl, fun W hSW => exec_build_rw rfl n s rfl rfl⟩) hS (by kernel_rfl) ?_
          refine wpAnyL_take (i := 14) (v := ?_) rfl (by kernel_rfl) (by kernel_rfl) (by kernel_rfl) (fun _ _ _ h => h) (Or.inl ⟨by kernel_rfl, ?_⟩) hS (by kernel_rfl) ?_
          rotate_left
          · intro W hSW
            go_simp
            all_goals with_reducible rfl
          refine wpAnyL_take (i := 15) (v := ?_) rfl (by kernel_rfl) (by kernel_rfl) (by kernel_rfl) (fun _ _ _ h => h) (Or.inl ⟨by kernel_rfl, ?_⟩) hS (by kernel_rfl) ?_
          rotate_left
          · intro W hSW
            go_simp
            all_goals with_reducible rfl
          refine wpAnyL_take (i := 16) (v := ?_) rfl (by kernel_rfl) (by kernel_rfl) (by kernel_rfl) (fun _ _ _ h => h) (Or.inl ⟨by kernel_rfl, ?_⟩) hS (by kernel_rfl) ?_
          rotate_left
          · intro W hSW
            go_simp
            all_goals with_reducible rfl
          go_simp
          refine wpAnyL_take (i := 17) (v := ?_) rfl (by kernel_rfl) (by kernel_rfl) (by kernel_rfl) (fun _ _ _ h => h) (Or.inl ⟨by kernel_rfl, ?_⟩) hS (by kernel_rfl) ?_
          rotate_left
          · intro W hSW
            have y0' := (HT4.out.kept hSW).cell
            go_simp
            all_goals with_reducible rfl
          refine wpAnyL_take (i := 18) (v := ?_) rfl (by kernel_rfl) (by kernel_rfl) (by kernel_rfl) (fun _ _ _ h => h) (Or.inl ⟨by kernel_rfl, ?_⟩) hS (by kernel_rfl) ?_
          rotate_left
          · intro W hSW
            go_simp
            all_goals with_reducible rfl
          go_simp
          refine wpAnyL_take (i := 19) (v := .slice (drA 5 p c i) (R.length - i) (c - i)) rfl (by kernel_rfl) (by kernel_rfl) (by kernel_rfl) (fun _ _ _ h => h) (Or.inl ⟨by kernel_rfl, fun W hSW => rwK.dropE rfl rfl rfl HIL.out⟩) hS (by kernel_rfl) ?_
          go_simp
          refine wpAnyL_ready (rs := [1, 12]) (by kernel_rfl) (by simp) ?_
          refine AllReadyL.cons rfl (fun K hK => ?_) (AllReadyL.cons rfl (fun K hK => ?_) AllReadyL.nil)
          · go_simp
            have HE0 := Lib.hid (rwK.empty hS (Below.size hS))
            refine hK.out _ _ (Below.alloc hS (Below.size hS) _) (fun hS => ?_)
            clear hK K
            generalize wd.alloc (.cells #[] 71) = wa at *
            refine wpAnyL_ready (rs := [8, 12]) (by kernel_rfl) (by simp) ?_
            refine AllReadyL.cons rfl (fun K hK => ?_) (AllReadyL.cons rfl (fun K hK => ?_) AllReadyL.nil)
            · refine rwK.append (by kernel_rfl) _ _ rfl w4.heap.size [] (R.take i) (R.take i) (List.nil_append _) rfl HE0.out p c (by rw [HTL.out]; rfl) (rwK.rdTake (HT4.out.kept hS).rd i) HT4.out.nil (by have := HLEN.out; have := HILN.out; rw [HTL.out]; simp; omega) (Below.size hS) ?_
              intro p8 c8 w8 ho8 hg8
              have HB8 := Lib.hid (Below.grown hS hg8 (Below.size hS) (fun j hj => (World.ownsRow.lt HE0.out j hj).1))
              have HO2 := Lib.hid ho8
              clear ho8 hg8
              refine hK.out _ _ HB8.out (fun hS => ?_)
              clear hK K
              refine wpAnyL_ready (rs := [12]) (by kernel_rfl) (by simp) ?_
              refine AllReadyL.cons rfl (fun K hK => ?_) AllReadyL.nil
              refine step_of (by kernel_rfl) ?_
              refine wp_build1 _ rfl _ rfl (fun w => run_buildS_rw w n s) ?_
              have HR6 := Lib.hid (rd_new1 hS rwL (n, s) 71)
              have HO7 := Lib.hid (World.ownsRow.alloc HO2.out (.cells (rwL (n, s)).toArray 71))
              have SB6 := Lib.hid (show w8.heap.size < (w8.alloc (.cells (rwL (n, s)).toArray 71)).heap.size from by simp)
              refine hK.out _ _ (Below.alloc hS (Below.size hS) _) (fun hS => ?_)
              clear hK K
              generalize w8.alloc (.cells (rwL (n, s)).toArray 71) = wb at *
              refine wpAnyL_ready (rs := [13]) (by kernel_rfl) (by simp) ?_
              refine AllReadyL.cons rfl (fun K hK => ?_) AllReadyL.nil
              refine rwK.append (by kernel_rfl) _ _ rfl w4.heap.size (R.take i) [(n, s)] (R.take i ++ [(n, s)]) rfl rfl HO7.out _ 1 rfl HR6.out (fun e => by cases e) (by have := HLEN.out; have := HILN.out; rw [HTL.out]; simp; omega) (Below.size hS) ?_
              intro p13 c13 w13 ho13 hg13
              have HB13 := Lib.hid (Below.grown hS hg13 (Below.size hS) (fun j hj => (World.ownsRow.lt HO7.out j hj).1))
              have HO13 := Lib.hid ho13
              clear ho13 hg13
              refine hK.out _ _ HB13.out (fun hS => ?_)
              clear hK K
              refine wpAnyL_ready (rs := [20]) (by kernel_rfl) (by simp) ?_
              refine AllReadyL.cons rfl (fun K hK => ?_) AllReadyL.nil
              refine rwK.append (by kernel_rfl) _ _ rfl w4.heap.size (R.take i ++ [(n, s)]) (R.drop i) (Rtm.ins R i n s) rfl rfl HO13.out _ (c - i) (by rw [HDL.out]; rfl) (rwK.rdDrop (HT4.out.kept hS).rd i HT4.out.cap) (drA_none HT4.out.nil) (by have := HLEN.out; have := HILN.out; rw [List.length_append, HTL.out, HDL.out]; simp; omega) (Below.size hS) ?_
              intro p20 c20 w20 ho20 hg20
              have HB20 := Lib.hid (Below.grown hS hg20 (Below.size hS) (fun j hj => (World.ownsRow.lt HO13.out j hj).1))
              have HO20 := Lib.hid ho20
              clear ho20 hg20
              refine hK.out _ _ HB20.out (fun hS => ?_)
              clear hK K
              refine wpAnyL_ready (rs := [21]) (by kernel_rfl) (by simp) ?_
              refine AllReadyL.cons rfl (fun K hK => ?_) AllReadyL.nil
              go_simp
              refine hK.out _ _ hS (fun hS => ?_)
              clear hK K
              refine wpAnyL_take (i := 22) (v := ?_) rfl (by kernel_rfl) (by kernel_rfl) (by kernel_rfl) (fun _ _ _ h => h) (Or.inl ⟨by kernel_rfl, ?_⟩) hS (by kernel_rfl) ?_
              rotate_left
              · intro W hSW
                go_simp
                all_goals with_reducible rfl
              go_simp
              refine wpAnyL_ready (rs := [23]) (by kernel_rfl) (by simp) ?_
              refine AllReadyL.last rfl (fun K hK => ?_)
              have y9 := (HT4.out.kept hS).cell
              have f9 := AgAt.free (AgAt.kept HT4.out.at_ hS) 0
              have HE := Lib.hid (HDN.out w20 p20 c20 hS HO20.out)
              clear hS
              go_simp
              refine hK.out _ _ ?_
              clear hK K
              refine wpAnyL_done (by kernel_rfl) ?_ _
              go_simp
              go_wp2
              go_ret
              exact HE.out
            · refine step_of (by kernel_rfl) ?_
              refine wp_build1 _ rfl _ rfl (fun w => run_buildS_rw w n s) ?_
              have HR6 := Lib.hid (rd_new1 hS rwL (n, s) 71)
              have HE1 := Lib.hid (World.ownsRow.alloc HE0.out (.cells (rwL (n, s)).toArray 71))
              have HNB := Lib.hid (World.ownsRow.lt HE0.out)
              have SB6 := Lib.hid (show wa.heap.size < (wa.alloc (.cells (rwL (n, s)).toArray 71)).heap.size from by simp)
              refine hK.out _ _ (Below.alloc hS (Below.size hS) _) (fun hS => ?_)
              clear hK K
              generalize wa.alloc (.cells (rwL (n, s)).toArray 71) = wb at *
              refine wpAnyL_ready (rs := [8]) (by kernel_rfl) (by simp) ?_
              refine AllReadyL.cons rfl (fun K hK => ?_) AllReadyL.nil
              refine rwK.append (by kernel_rfl) _ _ rfl w4.heap.size [] (R.take i) (R.take i) (List.nil_append _) rfl HE1.out p c (by rw [HTL.out]; rfl) (rwK.rdTake (HT4.out.kept hS).rd i) HT4.out.nil (by have := HLEN.out; have := HILN.out; rw [HTL.out]; simp; omega) (Below.size hS) ?_
              intro p8 c8 w8 ho8 hg8
              have HR7 := Lib.hid (rd_grown hg8 HR6.out (fun a ha e => by obtain rfl := Option.some.inj ha; have h1 := (HNB.out _ e).2; exact Nat.lt_irrefl _ h1))
              have HB8 := Lib.hid (Below.grown hS hg8 (Below.size hS) (fun j hj => (World.ownsRow.lt HE1.out j hj).1))
              have HO2 := Lib.hid ho8
              clear ho8 hg8
              refine hK.out _ _ HB8.out (fun hS => ?_)
              clear hK K
              refine wpAnyL_ready (rs := [13]) (by kernel_rfl) (by simp) ?_
              refine AllReadyL.cons rfl (fun K hK => ?_) AllReadyL.nil
              refine rwK.append (by kernel_rfl) _ _ rfl w4.heap.size (R.take i) [(n, s)] (R.take i ++ [(n, s)]) rfl rfl HO2.out _ 1 rfl HR7.out (fun e => by cases e) (by have := HLEN.out; have := HILN.out; rw [HTL.out]; simp; omega) (Below.size hS) ?_
              intro p13 c13 w13 ho13 hg13
              have HB13 := Lib.hid (Below.grown hS hg13 (Below.size hS) (fun j hj => (World.ownsRow.lt HO2.out j hj).1))
              have HO13 := Lib.hid ho13
              clear ho13 hg13
              refine hK.out _ _ HB13.out (fun hS => ?_)
              clear hK K
              refine wpAnyL_ready (rs := [20]) (by kernel_rfl) (by simp) ?_
              refine AllReadyL.cons rfl (fun K hK => ?_) AllReadyL.nil
              refine rwK.append (by kernel_rfl) _ _ rfl w4.heap.size (R.take i ++ [(n, s)]) (R.drop i) (Rtm.ins R i n s) rfl rfl HO13.out _ (c - i) (by rw [HDL.out]; rfl) (rwK.rdDrop (HT4.out.kept hS).rd i HT4.out.cap) (drA_none HT4.out.nil) (by have := HLEN.out; have := HILN.out; rw [List.length_append, HTL.out, HDL.out]; simp; omega) (Below.size hS) ?_
              intro p20 c20 w20 ho20 hg20
              have HB20 := Lib.hid (Below.grown hS hg20 (Below.size hS) (fun j hj => (World.ownsRow.lt HO13.out j hj).1))
              have HO20 := Lib.hid ho20
              clear ho20 hg20
              refine hK.out _ _ HB20.out (fun hS => ?_)
              clear hK K
              refine wpAnyL_ready (rs := [21]) (by kernel_rfl) (by simp) ?_
              refine AllReadyL.cons rfl (fun K hK => ?_) AllReadyL.nil
              go_simp
              refine hK.out _ _ hS (fun hS => ?_)
              clear hK K
              refine wpAnyL_take (i := 22) (v := ?_) rfl (by kernel_rfl) (by kernel_rfl) (by kernel_rfl) (fun _ _ _ h => h) (Or.inl ⟨by kernel_rfl, ?_⟩) hS (by kernel_rfl) ?_
              rotate_left
              · intro W hSW
                go_simp
                all_goals with_reducible rfl
              go_simp
              refine wpAnyL_ready (rs := [23]) (by kernel_rfl) (by simp) ?_
              refine AllReadyL.last rfl (fun K hK => ?_)
              have y9 := (HT4.out.kept hS).cell
              have f9 := AgAt.free (AgAt.kept HT4.out.at_ hS) 0
              have HE := Lib.hid (HDN.out w20 p20 c20 hS HO20.out)
              clear hS
              go_simp
              refine hK.out _ _ ?_
              clear hK K
              refine wpAnyL_done (by kernel_rfl) ?_ _
              go_simp
              go_wp2
              go_ret
              exact HE.out
          · refine step_of (by kernel_rfl) ?_
            refine wp_build1 _ rfl _ rfl (fun w => run_buildS_rw w n s) ?_
            have HR6 := Lib.hid (rd_new1 hS rwL (n, s) 71)
            have SB6 := Lib.hid (show wd.heap.size < (wd.alloc (.cells (rwL (n, s)).toArray 71)).heap.size from by simp)
            refine hK.out _ _ (Below.alloc hS (Below.size hS) _) (fun hS => ?_)
            clear hK K
            generalize wd.alloc (.cells (rwL (n, s)).toArray 71) = wa at *
            refine wpAnyL_ready (rs := [1]) (by kernel_rfl) (by simp) ?_
            refine AllReadyL.cons rfl (fun K hK => ?_) AllReadyL.nil
            go_simp
            have HE0 := Lib.hid (rwK.empty hS (Below.size hS))
            have HLT := Lib.hid (SB6.out)
            have HR7 := Lib.hid (HR6.out.below ((Below.refl _ _).alloc (Nat.le_refl _) (.cells #[] 71)))
            refine hK.out _ _ (Below.alloc hS (Below.size hS) _) (fun hS => ?_)
            clear hK K
            generalize wa.alloc (.cells #[] 71) = wb at *
            refine wpAnyL_ready (rs := [8]) (by kernel_rfl) (by simp) ?_
            refine AllReadyL.cons rfl (fun K hK => ?_) AllReadyL.nil
            refine rwK.append (by kernel_rfl) _ _ rfl w4.heap.size [] (R.take i) (R.take i) (List.nil_append _) rfl HE0.out p c (by rw [HTL.out]; rfl) (rwK.rdTake (HT4.out.kept hS).rd i) HT4.out.nil (by have := HLEN.out; have := HILN.out; rw [HTL.out]; simp; omega) (Below.size hS) ?_
            intro p8 c8 w8 ho8 hg8
            have HR8 := Lib.hid (rd_grown hg8 HR7.out (fun a ha e => by obtain rfl := Option.some.inj ha; have h1 := Option.some.inj e; have h2 := HLT.out; dsimp only at h1; omega))
            have HB8 := Lib.hid (Below.grown hS hg8 (Below.size hS) (fun j hj => (World.ownsRow.lt HE0.out j hj).1))
            have HO2 := Lib.hid ho8
            clear ho8 hg8
            refine hK.out _ _ HB8.out (fun hS => ?_)
            clear hK K
            refine wpAnyL_ready (rs := [13]) (by kernel_rfl) (by simp) ?_
            refine AllReadyL.cons rfl (fun K hK => ?_) AllReadyL.nil
            refine rwK.append (by kernel_rfl) _ _ rfl w4.heap.size (R.take i) [(n, s)] (R.take i ++ [(n, s)]) rfl rfl HO2.out _ 1 rfl HR8.out (fun e => by cases e) (by have := HLEN.out; have := HILN.out; rw [HTL.out]; simp; omega) (Below.size hS) ?_
            intro p13 c13 w13 ho13 hg13
            have HB13 := Lib.hid (Below.grown hS hg13 (Below.size hS) (fun j hj => (World.ownsRow.lt HO2.out j hj).1))
            have HO13 := Lib.hid ho13
            clear ho13 hg13
            refine hK.out _ _ HB13.out (fun hS => ?_)
            clear hK K
            refine wpAnyL_ready (rs := [20]) (by kernel_rfl) (by simp) ?_
            refine AllReadyL.cons rfl (fun K hK => ?_) AllReadyL.nil
            refine rwK.append (by kernel_rfl) _ _ rfl w4.heap.size (R.take i ++ [(n, s)]) (R.drop i) (Rtm.ins R i n s) rfl rfl HO13.out _ (c - i) (by rw [HDL.out]; rfl) (rwK.rdDrop (HT4.out.kept hS).rd i HT4.out.cap) (drA_none HT4.out.nil) (by have := HLEN.out; have := HILN.out; rw [List.length_append, HTL.out, HDL.out]; simp; omega) (Below.size hS) ?_
            intro p20 c20 w20 ho20 hg20
            have HB20 := Lib.hid (Below.grown hS hg20 (Below.size hS) (fun j hj => (World.ownsRow.lt HO13.out j hj).1))
            have HO20 := Lib.hid ho20
            clear ho20 hg20
            refine hK.out _ _ HB20.out (fun hS => ?_)
            clear hK K
            refine wpAnyL_ready (rs := [21]) (by kernel_rfl) (by simp) ?_
            refine AllReadyL.cons rfl (fun K hK => ?_) AllReadyL.nil
            go_simp
            refine hK.out _ _ hS (fun hS => ?_)
            clear hK K
            refine wpAnyL_take (i := 22) (v := ?_) rfl (by kernel_rfl) (by kernel_rfl) (by kernel_rfl) (fun _ _ _ h => h) (Or.inl ⟨by kernel_rfl, ?_⟩) hS (by kernel_rfl) ?_
            rotate_left
            · intro W hSW
              go_simp
              all_goals with_reducible rfl
            go_simp
            refine wpAnyL_ready (rs := [23]) (by kernel_rfl) (by simp) ?_
            refine AllReadyL.last rfl (fun K hK => ?_)
            have y9 := (HT4.out.kept hS).cell
            have f9 := AgAt.free (AgAt.kept HT4.out.at_ hS) 0
            have HE := Lib.hid (HDN.out w20 p20 c20 hS HO20.out)
            clear hS
            go_simp
            refine hK.out _ _ ?_
            clear hK K
            refine wpAnyL_done (by kernel_rfl) ?_ _
            go_simp
            go_wp2
            go_ret
            exact HE.out

end Go.Proofs.YtilkokhapcgolaaGreat

namespace Go.Proofs.YtilkokhapcgolaaGreat
open Go.RowKit
open Tm (Sp Tr)

theorem rw_spot {c : Act} {o : Oper} {x : Operand} {w : World} (ho : o.op = .load 34 x) {b s i : Nat} (hx : c.eval x = .pointer (some ⟨b, s + i * 5 + 2, none⟩)) {R : Tr} {e : Qm.St × Sp} (hrd : Rd w (some ⟨b, s, none⟩) (R.flatMap rwL)) (hi : R[i]? = some e) :
    (execOp c.eval o).run Tryz.prog w = .ok (.value (.agg (spA e.2))) w :=
  rwK.loadPart Tryz.underlying34 ho hx [.int .i64 e.2.1.1, .int .i64 e.2.1.2, .string e.2.2] hrd hi (fun j v h => by match j, h with | 0, h => exact h | 1, h => exact h | 2, h => exact h) (by kernel_rfl)
theorem RtO.moved {w : World} {q : Nat} {R : Tr} {g c i : Nat} {n : Qm.St} {was : Sp} (h : RtO w q R (some ⟨g, 0, none⟩) c) (hi : R[i]? = some (n, was)) (s : Sp) :
    RtO (w.setCells g (i * 5 + 2) (spA s).toList) q (R.set i (n, s)) (some ⟨g, 0, none⟩) c ∧ Turns (fun k => k = g) w (w.setCells g (i * 5 + 2) (spA s).toList) ∧ (R.set i (n, s)).length = R.length := by
  have hst := own_setCells (spA s).toList w (i * 5 + 2) h.own
  have hT : Turns (fun k => k = g) w (w.setCells g (i * 5 + 2) (spA s).toList) := (Turns.of_grown hst.2).mono fun k _ hk => (Option.some.inj hk).symm
  have hL : setL (R.flatMap rwL) (i * 5 + 2) (spA s).toList = (R.set i (n, s)).flatMap rwL := rwK.setL R i 2 (n, was) (n, s) (spA s).toList hi (show 2 + 3 ≤ 5 by decide) (fun j hj => by
    match j, hj with
    | 0, _ => rfl
    | 1, _ => rfl
    | 2, _ => rfl
    | 3, _ => rfl
    | 4, _ => rfl)
  have hlen : (R.set i (n, s)).length = R.length := List.length_set
  refine ⟨⟨?_, ?_, ?_, Rtm.set_ris hi h.ris, by rw [hlen]; exact h.len⟩, hT, hlen⟩
  · rw [hlen]
    exact AgAt.block h.at_ (hT.block _ (AgAt.lt h.at_) (fun e => h.ne g rfl e.symm))
  · have h1 := hst.1
    rw [hL] at h1
    rw [hlen]
    exact h1
  · rw [hlen]; exact h.ne

set_option maxRecDepth 100000 in
set_option maxHeartbeats 16000000 in
theorem rmove_any {q : Nat} {R : Tr} {p : Option Addr} {c : Nat} (n : Qm.St) (s : Sp) (w : World) (h : RtO w q R p c) (hl : R.length ≤ 200) (hk : s.2.size ≤ 140737488355328) (hup : ∀ n, ∃ l, Tm.Up R n l) :
    Calls Tryz.prog 11 #[.pointer (some ⟨q, 0, none⟩), snV n, .agg (spA s)] w fun e w' => ∃ R', (∀ T, Rtm.Twin R T → Rtm.Twin R' (Tm.moveT T n s).1) ∧ RtDone q p R.length c R' w e w' := by
  have h1 : ∀ (w : World) (o : Obj), Below w.heap.size w (w.alloc o) := fun w o => (Below.refl _ _).alloc (Nat.le_refl _) _
  have hz : ∀ (w : World) (o : Obj), (w.alloc o).heap.size = w.heap.size + 1 := fun w o => by simp
  obtain ⟨W1, hW1⟩ : ∃ W, W = ((w.alloc (.cells #[.int .i64 n.1, .int .i64 n.2] 24)).alloc (.cells (spA s) 34)).alloc (.cells #[.int .i64 0, .int .i64 0, .string ⟨#[]⟩] 34) := ⟨_, rfl⟩
  have HB0 := Lib.hid (show Below w.heap.size w W1 from by rw [hW1]; exact (h1 _ _).trans (((h1 _ _).mono (by simp)).trans ((h1 _ _).mono (by simp; omega))))
  have HZ0 := Lib.hid (show AgAt W1 (w.heap.size + 1 + 1) #[.int .i64 0, .int .i64 0, .string ⟨#[]⟩] from by
    have := AgAt.new ((w.alloc (.cells #[.int .i64 n.1, .int .i64 n.2] 24)).alloc (.cells (spA s) 34)) #[.int .i64 0, .int .i64 0, .string ⟨#[]⟩] 34
    rw [hz, hz, ← hW1] at this
    exact this)
  have HY0 := Lib.hid (show AgAt W1 (w.heap.size + 1) (spA s) from by
    have := (AgAt.new (w.alloc (.cells #[.int .i64 n.1, .int .i64 n.2] 24)) (spA s) 34).kept (h1 _ (.cells #[.int .i64 0, .int .i64 0, .string ⟨#[]⟩] 34))
    rw [hz, ← hW1] at this
    exact this)
  have HX0 := Lib.hid (show AgAt W1 w.heap.size #[.int .i64 n.1, .int .i64 n.2] from by
    have := ((AgAt.new w #[.int .i64 n.1, .int .i64 n.2] 24).kept (h1 _ (.cells (spA s) 34))).kept (h1 _ (.cells #[.int .i64 0, .int .i64 0, .string ⟨#[]⟩] 34))
    rw [← hW1] at this
    exact this)
  have HH := Lib.hid h
  have HLEN := Lib.hid hl
  have HKY := Lib.hid hk
  have HUP := Lib.hid hup
  have HQB := Lib.hid (show q < w.heap.size from AgAt.lt h.at_)
  clear h hl hk hup h1 hz
  go_enter Tryz.func11, Tryz.ntmps11
  go_wp2_with fail
  rw [← hW1]
  clear hW1
  go_wp2_with (refine wpList_load_ag stT rfl _ rfl _ rfl rfl HX0.out ?_)
  refine (rfind_any n _ (HH.out.rd.kept HB0.out)).mono ?_
  rintro e w1 ⟨⟨i, b, hf, rfl⟩, hb1⟩
  have HF := Lib.hid hf
  have HLK := Lib.hid (hf.look HH.out.ris)
  have HB1 := Lib.hid (HB0.out.trans (hb1.mono HB0.out.size))
  have HX1 := Lib.hid (AgAt.kept HX0.out hb1)
  have HY1 := Lib.hid (AgAt.kept HY0.out hb1)
  have HZ1 := Lib.hid (AgAt.kept HZ0.out hb1)
  have HBAD := Lib.hid (fun (r : Value) (hz : (Tm.moveT R n s).2.2 ≠ 0) (W : World) (v : Value) (hW : Below w.heap.size w W) => show ∃ R', (∀ T, Rtm.Twin R T → Rtm.Twin R' (Tm.moveT T n s).1) ∧ RtDone q p R.length c R' w (.returned (.tuple #[v, r])) W from
    ⟨Rtm.movR R i n s, fun T hT => hT.move hf s, by unfold Rtm.movR; rw [if_neg hz]; exact HH.out.same hW _⟩)
  clear hf hb1 HX0 HY0 HZ0 HB0
  have HOKB := Lib.hid (show Tm.okN n = okNode n.1 n.2 from rfl)
  cases hnb : okNode n.1 n.2
  · have HNB := Lib.hid hnb
    have HZZ := Lib.hid (show (Tm.moveT R n s).2.2 = 1 from by unfold Tm.moveT; rw [if_pos (by rw [HOKB.out, hnb]; rfl)])
    clear hnb
    go_wp2_with (refine wpList_load_ag stT (by kernel_rfl) _ rfl _ rfl (A := #[.int .i64 n.1, .int .i64 n.2]) rfl HX1.out ?_)
    refine (rnode_any _ _ _).mono ?_
    rw [HNB.out]
    rintro e w2 ⟨rfl, hb2⟩
    have HB2 := Lib.hid (HB1.out.trans (hb2.mono HB1.out.size))
    have HZ2 := Lib.hid (AgAt.kept HZ1.out hb2)
    clear hb2
    have HE := Lib.hid (HBAD.out (.int .i64 1) (by rw [HZZ.out]; decide))

    go_wp2_with (refine wpList_store_ag spR rfl _ _ rfl _ rfl _ HZ2.out (A := spA zS) rfl rfl rfl (spA_one _) ?_; intro w6 hv6 hko6 hsz6 hbn6)
    refine bodyPost_ret (results_two spR _ rfl rfl hv6 rfl rfl) rfl ?_
    exact HE.out _ _ (hbn6 _ _ HB2.out (by omega))
  · have HNB := Lib.hid hnb
    clear hnb
    go_wp2_with (refine wpList_load_ag stT (by kernel_rfl) _ rfl _ rfl (A := #[.int .i64 n.1, .int .i64 n.2]) rfl HX1.out ?_)
    refine (rnode_any _ _ _).mono ?_
    rw [HNB.out]
    rintro e w2 ⟨rfl, hb2⟩
    have HB2 := Lib.hid (HB1.out.trans (hb2.mono HB1.out.size))
    have HX2 := Lib.hid (AgAt.kept HX1.out hb2)
    have HY2 := Lib.hid (AgAt.kept HY1.out hb2)
    have HZ2 := Lib.hid (AgAt.kept HZ1.out hb2)
    clear hb2 HX1 HY1 HZ1
    go_wp2_with (refine wpList_load_ag spR (by kernel_rfl) _ rfl _ rfl (A := spA s) rfl HY2.out ?_)
    refine (rrightSp_any s _ HKY.out).mono ?_
    rintro e w3 ⟨rfl, hb3⟩
    have HB3 := Lib.hid (HB2.out.trans (hb3.mono HB2.out.size))
    have HX3 := Lib.hid (AgAt.kept HX2.out hb3)
    have HY3 := Lib.hid (AgAt.kept HY2.out hb3)
    have HZ3 := Lib.hid (AgAt.kept HZ2.out hb3)
    clear hb3 HX2 HY2 HZ2
    cases hrb : Tm.rightSp s
    · have HZZ := Lib.hid (show (Tm.moveT R n s).2.2 = 1 from by unfold Tm.moveT; rw [if_pos (by rw [hrb]; simp)])
      clear hrb
      have HE := Lib.hid (HBAD.out (.int .i64 1) (by rw [HZZ.out]; decide))

      go_wp2_with (refine wpList_store_ag spR rfl _ _ rfl _ rfl _ HZ3.out (A := spA zS) rfl rfl rfl (spA_one _) ?_; intro w6 hv6 hko6 hsz6 hbn6)
      refine bodyPost_ret (results_two spR _ rfl rfl hv6 rfl rfl) rfl ?_
      exact HE.out _ _ (hbn6 _ _ HB3.out (by omega))
    · have HK1 := Lib.hid (show ¬ (Tm.okN n && Tm.rightSp s) = false from by rw [HOKB.out, HNB.out, hrb]; decide)
      clear hrb
      cases b
      case false =>
        have HZZ := Lib.hid (show (Tm.moveT R n s).2.2 = 3 from by
          unfold Tm.moveT
          have h0 := HLK.out.1
          rw [if_neg HK1.out]
          cases hl : Tm.look R n with
          | none => rfl
          | some x => rw [hl] at h0; cases h0)
        have HE := Lib.hid (HBAD.out (.int .i64 3) (by rw [HZZ.out]; decide))

        go_wp2_with (refine wpList_store_ag spR rfl _ _ rfl _ rfl _ HZ3.out (A := spA zS) rfl rfl rfl (spA_one _) ?_; intro w6 hv6 hko6 hsz6 hbn6)
        refine bodyPost_ret (results_two spR _ rfl rfl hv6 rfl rfl) rfl ?_
        exact HE.out _ _ (hbn6 _ _ HB3.out (by omega))
      case true =>
        obtain ⟨was, hwas, hlk⟩ := HLK.out.2 rfl
        have HK := Lib.hid hwas
        have HLW := Lib.hid hlk
        clear hwas hlk HLK
        go_wp2_with (refine wpList_value (by kernel_rfl) (exec_load_part stT rfl rfl [.int .i64 s.1.1, .int .i64 s.1.2] rfl HY3.out spPar) ?_)
        refine (rhas_any s.1 _ (HH.out.kept HB3.out).rd HH.out.ris).mono ?_
        rintro e w4 ⟨rfl, hb4⟩
        have HB4 := Lib.hid (HB3.out.trans (hb4.mono HB3.out.size))
        have HX4 := Lib.hid (AgAt.kept HX3.out hb4)
        have HY4 := Lib.hid (AgAt.kept HY3.out hb4)
        have HZ4 := Lib.hid (AgAt.kept HZ3.out hb4)
        clear hb4 HX3 HY3 HZ3
        cases hhs : Tm.has R s.1
        · have HZZ := Lib.hid (show (Tm.moveT R n s).2.2 = 3 from by unfold Tm.moveT; rw [if_neg HK1.out, HLW.out]; dsimp only; rw [if_pos hhs])
          clear hhs
          have HE := Lib.hid (HBAD.out (.int .i64 3) (by rw [HZZ.out]; decide))

          go_wp2_with (refine wpList_store_ag spR rfl _ _ rfl _ rfl _ HZ4.out (A := spA zS) rfl rfl rfl (spA_one _) ?_; intro w6 hv6 hko6 hsz6 hbn6)
          refine bodyPost_ret (results_two spR _ rfl rfl hv6 rfl rfl) rfl ?_
          exact HE.out _ _ (hbn6 _ _ HB4.out (by omega))
        · have HHS := Lib.hid hhs
          clear hhs
          go_wp2_with (first | (refine wpList_load_ag stT (by kernel_rfl) _ rfl _ rfl (A := #[.int .i64 n.1, .int .i64 n.2]) rfl HX4.out ?_) | (refine wpList_value (by kernel_rfl) (exec_load_part stT rfl rfl [.int .i64 s.1.1, .int .i64 s.1.2] rfl HY4.out spPar) ?_))
          refine (rwithin_any n s.1 _ (HH.out.kept HB4.out).rd HH.out.ris (HUP.out s.1)).mono ?_
          rintro e w5 ⟨rfl, hb5⟩
          have HB5 := Lib.hid (HB4.out.trans (hb5.mono HB4.out.size))
          have HX5 := Lib.hid (AgAt.kept HX4.out hb5)
          have HY5 := Lib.hid (AgAt.kept HY4.out hb5)
          have HZ5 := Lib.hid (AgAt.kept HZ4.out hb5)
          clear hb5 HX4 HY4 HZ4
          cases hwi : Tm.within R n s.1
          case true =>
            have HZZ := Lib.hid (show (Tm.moveT R n s).2.2 = 41 from by unfold Tm.moveT; rw [if_neg HK1.out, HLW.out]; dsimp only; rw [if_neg (by rw [HHS.out]; decide), if_pos hwi])
            clear hwi
            have HE := Lib.hid (HBAD.out (.int .i64 41) (by rw [HZZ.out]; decide))

            go_wp2_with (refine wpList_store_ag spR rfl _ _ rfl _ rfl _ HZ5.out (A := spA zS) rfl rfl rfl (spA_one _) ?_; intro w6 hv6 hko6 hsz6 hbn6)
            refine bodyPost_ret (results_two spR _ rfl rfl hv6 rfl rfl) rfl ?_
            exact HE.out _ _ (hbn6 _ _ HB5.out (by omega))
          case false =>
            have HZZ := Lib.hid (show (Tm.moveT R n s).2.2 = 0 from by unfold Tm.moveT; rw [if_neg HK1.out, HLW.out]; dsimp only; rw [if_neg (by rw [HHS.out]; decide), if_neg (by rw [hwi]; decide)])
            have HIL := Lib.hid (show i < R.length from (List.getElem?_eq_some_iff.1 HK.out).1)
            have hil : i < R.length := HIL.out
            have HO5 := Lib.hid (HH.out.kept HB5.out)
            obtain ⟨g, hpg⟩ : ∃ g, p = some ⟨g, 0, none⟩ := by
              rcases HO5.out.own.2 with ⟨hv, h0⟩ | ⟨g, cap, cu, hv, -⟩
              · omega
              · cases hv; exact ⟨g, rfl⟩
            subst hpg
            have HGW := Lib.hid (show g < w.heap.size from (World.ownsRow.lt HH.out.own g rfl).2)
            have y5 := HO5.out.rd.cell
            clear hwi HBAD
            go_wp2_with (first
              | (refine wpList_value (by simp [Region.wanted]) (rw_spot (b := g) (s := 0) (i := i) rfl (by simp only [Nat.zero_add]; rfl) HO5.out.rd.rd HK.out) ?_)
              | (refine wpList_store_newag spR rfl _ _ rfl rfl _ (A := spA was) rfl rfl rfl (spA_one _) ?_
                 intro w8 hv8 hb8
                 have HV8 := Lib.hid hv8
                 have HB8 := Lib.hid (HB5.out.trans (hb8.mono HB5.out.size))
                 have HO8 := Lib.hid (HO5.out.kept hb8)
                 have HT8 := Lib.hid HO8.out.rd
                 have HY8 := Lib.hid (AgAt.kept HY5.out hb8)
                 have HZ8 := Lib.hid (AgAt.kept HZ5.out hb8)
                 have HGV := Lib.hid (show g ≠ w5.heap.size from fun e => by have h1 := HGW.out; have h2 := HB5.out.size; omega)
                 have HGZ := Lib.hid (show g ≠ w.heap.size + 1 + 1 from fun e => by have h1 := HGW.out; omega)
                 have HDN := Lib.hid (fun (W : World) (hW : Below w8.heap.size w8 W) (W' : World) (hm : RtO W' q (R.set i (n, s)) (some ⟨g, 0, none⟩) c) (ht : Turns (fun k => k = g) W W') (W2 : World) (ht2 : Turns (fun k => k = w.heap.size + 1 + 1) W' W2) (v : Value) => show ∃ R', (∀ T, Rtm.Twin R T → Rtm.Twin R' (Tm.moveT T n s).1) ∧ RtDone q (some ⟨g, 0, none⟩) R.length c R' w (.returned v) W2 from by
                   refine ⟨Rtm.movR R i n s, fun T hT => hT.move HF.out s, ?_⟩
                   unfold Rtm.movR
                   rw [if_pos HZZ.out]
                   have hgq : g ≠ w.heap.size + 1 + 1 := HGZ.out
                   refine ⟨⟨v, rfl⟩, _, c, hm.turns ht2 (fun e => by have := HQB.out; omega) (fun g' hg' e => by have h1 := Option.some.inj hg'; dsimp only at h1; omega), ?_, fun g' hg' => Or.inl hg'⟩
                   refine (Turns.of_below (HB8.out.trans (hW.mono HB8.out.size))).trans ((ht.mono fun k _ hk => Or.inl (Or.inr (by rw [hk]; rfl))).trans (ht2.mono fun k _ hk => Or.inl (Or.inr (by rw [hk]; omega)))))
                 clear hv8 hb8 y5))
            refine wp_region_last_drew 8 (S := fun W => Below w8.heap.size w8 W) (by kernel_rfl) (Below.drew (Below.refl _ _)) (fun hS => ?_)
            generalize w8.drew = wd at *
            refine wpAnyL_take (i := 0) (v := ?_) rfl (by kernel_rfl) (by kernel_rfl) (by kernel_rfl) (fun _ _ _ h => h) (Or.inl ⟨by kernel_rfl, ?_⟩) hS (by kernel_rfl) ?_
            rotate_left
            · intro W hSW
              go_simp
              all_goals with_reducible rfl
            refine wpAnyL_take (i := 1) (v := ?_) rfl (by kernel_rfl) (by kernel_rfl) (by kernel_rfl) (fun _ _ _ h => h) (Or.inl ⟨by kernel_rfl, ?_⟩) hS (by kernel_rfl) ?_
            rotate_left
            · intro W hSW
              go_simp
              all_goals with_reducible rfl
            refine wpAnyL_take (i := 2) (v := ?_) rfl (by kernel_rfl) (by kernel_rfl) (by kernel_rfl) (fun _ _ _ h => h) (Or.inl ⟨by kernel_rfl, ?_⟩) hS (by kernel_rfl) ?_
            rotate_left
            · intro W hSW
              go_simp
              all_goals with_reducible rfl
            refine wpAnyL_take (i := 3) (v := ?_) rfl (by kernel_rfl) (by kernel_rfl) (by kernel_rfl) (fun _ _ _ h => h) (Or.inl ⟨by kernel_rfl, ?_⟩) hS (by kernel_rfl) ?_
            rotate_left
            · intro W hSW
              have y0' := (HT8.out.kept hSW).cell
              go_simp
              all_goals with_reducible rfl
            go_simp
            refine wpAnyL_take (i := 4) (v := ?_) rfl (by kernel_rfl) (by kernel_rfl) (by kernel_rfl) (fun _ _ _ h => h) (Or.inl ⟨by kernel_rfl, ?_⟩) hS (by kernel_rfl) ?_
            rotate_left
            · intro W hSW
              go_simp
              all_goals with_reducible rfl
            go_simp
            refine wpAnyL_take (i := 5) (v := .agg (spA s)) rfl (by kernel_rfl) (by kernel_rfl) (by kernel_rfl) (fun _ _ _ h => h) (Or.inl ⟨by kernel_rfl, fun W hSW => exec_load_ag spR rfl rfl rfl (AgAt.kept HY8.out hSW)⟩) hS (by kernel_rfl) ?_
            go_simp
            refine wpAnyL_ready (rs := [6]) (by kernel_rfl) (by simp) ?_
            refine AllReadyL.cons rfl (fun K hK => ?_) AllReadyL.nil
            have hil := HIL.out
            go_simp
            refine hK.out _ _ hS (fun hS => ?_)
            clear hK K
            refine wpAnyL_take (i := 7) (v := ?_) rfl (by kernel_rfl) (by kernel_rfl) (by kernel_rfl) (fun _ _ _ h => h) (Or.inl ⟨by kernel_rfl, ?_⟩) hS (by kernel_rfl) ?_
            rotate_left
            · intro W hSW
              go_simp
              all_goals with_reducible rfl
            go_simp
            refine wpAnyL_ready (rs := [8]) (by kernel_rfl) (by simp) ?_
            refine AllReadyL.last rfl (fun K hK => ?_)
            refine step_of (by kernel_rfl) ?_
            refine wp_store_mid _ _ _ rfl g (i * 5 + 2) (spA s) rfl rfl (own_there (HO8.out.kept hS).own _ _ (by rw [rwK.length]; have := HIL.out; rw [show (spA s).size = 3 from rfl]; omega)) spR.size (spA_one s) ?_
            have HM := Lib.hid ((HO8.out.kept hS).moved HK.out s)
            have HV9 := Lib.hid (AgAt.kept HV8.out hS)
            have HZ9 := Lib.hid (AgAt.kept HZ8.out hS)
            have HBS := Lib.hid hS
            clear hS
            refine hK.out _ _ ?_
            clear hK K
            refine wpAnyL_done (by kernel_rfl) ?_ _
            go_simp
            have HV10 := Lib.hid (AgAt.block HV9.out (HM.out.2.1.block _ (AgAt.lt HV9.out) (fun e => HGV.out e.symm)))
            have HZ10 := Lib.hid (AgAt.block HZ9.out (HM.out.2.1.block _ (AgAt.lt HZ9.out) (fun e => HGZ.out e.symm)))
            have HDN := Lib.hid (fun W2 (ht : Turns (fun k => k = w.heap.size + 1 + 1) _ W2) v => HDN.out _ HBS.out _ HM.out.1 HM.out.2.1 W2 ht v)
            clear HM HV9 HZ9 HBS
            generalize wd.setCells g (i * 5 + 2) (spA s).toList = w10 at *
            go_wp2_with (first | (refine wpList_load_ag spR (by kernel_rfl) _ rfl _ rfl (A := spA was) rfl HV10.out ?_) | (refine wpList_store_ag spR rfl _ _ rfl _ rfl _ HZ10.out (A := spA was) rfl rfl rfl (spA_one _) ?_; intro w11 hv11 hko11 hsz11 hbn11))
            refine bodyPost_ret (results_two spR _ rfl rfl hv11 rfl rfl) rfl ?_
            exact HDN.out _ (stored_turns hko11 hsz11 hbn11) _

end Go.Proofs.YtilkokhapcgolaaGreat
