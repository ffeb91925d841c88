/-
  ORDERTREES: the walk: the row below any place of any tree that acts made is the document's.
  Conditions: numbers of 64 bits.
-/
import Derived.Test.YtilkokhapcgolaaGreatTSR
import Derived.Test.YtilkokhapcgolaaGreatSbLong
import Derived.Test.YtilkokhapcgolaaGreatTKnow
namespace Go.Proofs.YtilkokhapcgolaaGreat
open Go.RowKit
open Tm (Sp Tr)

theorem acK : RK 36 22 6 56 acL where
  und := Tryz.underlying22
  elem := by kernel_rfl
  size := fun _ => by kernel_rfl
  info := by
    have h : (Tryz.prog.info? 36).map (fun i => (i.zero, i.size, i.bytes)) = some (some (.agg #[.int .i64 0, .int .i64 0, .int .i64 0, .int .i64 0, .int .i64 0, .string ⟨#[]⟩]), 6, 56) := by kernel_rfl
    obtain ⟨i, h0, h1, h2, h3⟩ := info_split h
    exact ⟨i, _, h0, h1, h2, h3, rfl⟩
  row := ⟨_, Tryz.underlying36⟩
  len := fun _ => rfl
  one := fun x u hu => by
    simp [acL] at hu
    rcases hu with rfl | rfl | rfl | rfl | rfl | rfl <;> rfl
  pos := by decide
  small := by decide
theorem ac_node {c : Act} {o : Oper} {x : Operand} {w : World} (ho : o.op = .load 24 x) {b s i : Nat} (hx : c.eval x = .pointer (some ⟨b, s + i * 6 + 1, none⟩)) {l : List TAct} {a : TAct} (hrd : Rd w (some ⟨b, s, none⟩) (acCells l)) (hi : l[i]? = some a) :
    (execOp c.eval o).run Tryz.prog w = .ok (.value (snV a.n)) w :=
  acK.loadPart Tryz.underlying24 ho hx [.int .i64 a.n.1, .int .i64 a.n.2] hrd hi (fun j v h => by match j, h with | 0, h => exact h | 1, h => exact h) (by kernel_rfl)
theorem ac_spot {c : Act} {o : Oper} {x : Operand} {w : World} (ho : o.op = .load 34 x) {b s i : Nat} (hx : c.eval x = .pointer (some ⟨b, s + i * 6 + 3, none⟩)) {l : List TAct} {a : TAct} (hrd : Rd w (some ⟨b, s, none⟩) (acCells l)) (hi : l[i]? = some a) :
    (execOp c.eval o).run Tryz.prog w = .ok (.value (.agg (spA a.s))) w :=
  acK.loadPart Tryz.underlying34 ho hx [.int .i64 a.s.1.1, .int .i64 a.s.1.2, .string a.s.2] hrd hi (fun j v h => by match j, h with | 0, h => exact h | 1, h => exact h | 2, h => exact h) (by kernel_rfl)
theorem ac_kind {w : World} {b s i : Nat} {l : List TAct} {a : TAct} (hrd : Rd w (some ⟨b, s, none⟩) (acCells l)) (hi : l[i]? = some a) : w.cell? ⟨b, s + i * 6, none⟩ = some (.int .i64 a.k) :=
  acK.range hrd hi 0 (.int .i64 a.k) rfl

/-- both trees: B: all of them lies from there on -/
structure Ts (B q P M1 M2 : Nat) (T : Tr) (C : List Kid) (F : Nat → Prop) (R : Tr) (p : Option Addr) (c : Nat) (w : World) : Prop where
  lay : Lay w P M1 M2 T C F
  rt : RtO w q R p c
  fB : ∀ k, F k → B ≤ k
  fq : ¬ F q
  fg : ∀ g, (Value.slice p R.length c).ownBlock = some g → ¬ F g
  qB : B ≤ q
  gB : ∀ g, (Value.slice p R.length c).ownBlock = some g → B ≤ g
section
variable {B q P M1 M2 : Nat} {T : Tr} {C : List Kid} {F : Nat → Prop} {R : Tr} {p : Option Addr} {c : Nat} {w w' : World}
theorem Ts.kept (h : Ts B q P M1 M2 T C F R p c w) (hb : Below w.heap.size w w') : Ts B q P M1 M2 T C F R p c w' := ⟨h.lay.kept hb, h.rt.kept hb, h.fB, h.fq, h.fg, h.qB, h.gB⟩
theorem Ts.acted {T' : Tr} (h : Ts B q P M1 M2 T C F R p c w) (ha : ∃ C', Lay w' P M1 M2 T' C' (fun k => F k ∨ (w.heap.size ≤ k ∧ k < w'.heap.size)) ∧ Turns F w w') (hB : B ≤ w.heap.size) : ∃ C' F', Ts B q P M1 M2 T' C' F' R p c w' ∧ Below B w w' := by
  obtain ⟨C', hl, ht⟩ := ha
  have hq := AgAt.lt h.rt.at_
  have hg := fun g hg => (World.ownsRow.lt h.rt.own g hg).2
  exact ⟨C', _, ⟨hl, h.rt.turns ht h.fq h.fg, fun k hk => hk.elim (h.fB k) (fun h1 => Nat.le_trans hB h1.1), fun hk => hk.elim h.fq (fun h1 => by omega), fun g h1 hk => hk.elim (h.fg g h1) (fun h2 => by have := hg g h1; omega), h.qB, h.gB⟩, ht.below (fun k _ hk => h.fB k hk) hB⟩
theorem Ts.done {R' : Tr} (h : Ts B q P M1 M2 T C F R p c w) (hd : ∃ p' c', RtO w' q R' p' c' ∧ Turns (fun k => k = q ∨ (Value.slice p R.length c).ownBlock = some k) w w' ∧ ∀ g, (Value.slice p' R'.length c').ownBlock = some g → (Value.slice p R.length c).ownBlock = some g ∨ w.heap.size ≤ g) (hB : B ≤ w.heap.size) : ∃ p' c', Ts B q P M1 M2 T C F R' p' c' w' ∧ Below B w w' := by
  obtain ⟨p', c', hr, ht, hn⟩ := hd
  refine ⟨p', c', ⟨h.lay.turns ht (fun k hk e => e.elim (fun e => h.fq (e ▸ hk)) (fun e => h.fg k e hk)), hr, h.fB, h.fq, fun g hg hk => ?_, h.qB, fun g hg => ?_⟩, ht.below (fun k _ hk => hk.elim (fun e => e ▸ h.qB) (h.gB k)) hB⟩
  · rcases hn g hg with h1 | h1
    · exact h.fg g h1 hk
    · have := h.lay.lt g hk; omega
  · rcases hn g hg with h1 | h1
    · exact h.gB g h1
    · omega
end
theorem Ok.keys {T : Tr} (h : Tm.Ok T) : ∀ e ∈ T, e.2.2.size ≤ 140737488355328 := fun e he => by
  have h1 := h.sp e he
  unfold Tm.rightSp at h1
  rw [Bool.and_eq_true] at h1
  have := (right_size.1 h1.2).2.1
  omega

set_option maxRecDepth 100000 in
set_option maxHeartbeats 16000000 in
theorem orderTrees_walk {p : Option Addr} {c : Nat} (l : List TAct) (pt : Qm.St) (w : World) (h : Rd w p (acCells l)) (ha : ∀ a ∈ l, AcWf a) (hp : StWf pt) :
    Calls Tryz.prog 3 #[.slice p l.length c, snV pt] w fun e w' => e = .returned (.bool true) ∧ Below w.heap.size w w' := by
  have hb0 : Below w.heap.size w (w.alloc (.cells #[.int .i64 pt.1, .int .i64 pt.2] 24)) := (Below.refl _ _).alloc (Nat.le_refl _) _
  have HR := Lib.hid (h.below hb0)
  have HX0 := Lib.hid (AgAt.new w #[.int .i64 pt.1, .int .i64 pt.2] 24)
  have HLO := Lib.hid (long_any (c := c) l _ (h.below hb0))
  have HB0 := Lib.hid hb0
  have HWA := Lib.hid ha
  have HPT := Lib.hid hp
  clear h ha hp hb0
  go_enter Tryz.func3, Tryz.ntmps3
  go_wp2_with fail
  generalize w.alloc (.cells #[.int .i64 pt.1, .int .i64 pt.2] 24) = w0 at *
  refine HLO.out.mono ?_
  rintro e w1 ⟨b, rfl, hb, rfl⟩
  clear HLO
  cases b with
  | true =>
    go_wp2_with fail
    refine (knows11_any w0).mono ?_
    rintro e w1 ⟨rfl, hb1⟩
    have HE := Lib.hid (HB0.out.trans (hb1.mono HB0.out.size))
    clear hb1 hb
    go_wp2
    go_ret
    exact ⟨rfl, HE.out⟩
  | false =>
    have HLL := Lib.hid (hb rfl).1
    have HAC := Lib.hid (fun a hm => (HWA.out a hm).ok ((hb rfl).2 a hm))
    clear HWA hb
    go_wp2_with fail
    refine (new_any w0).mono ?_
    rintro e w1 ⟨P, M1, M2, rfl, hl1, hb1⟩
    have HTS := Lib.hid (show Ts w0.heap.size w1.heap.size P M1 M2 [] [] (fun k => w0.heap.size ≤ k ∧ k < w1.heap.size) [] none 0 (w1.alloc (.cells #[.slice none 0 0] 32)) from
      ⟨hl1.kept ((Below.refl _ _).alloc (Nat.le_refl _) _), ⟨AgAt.new w1 #[.slice none 0 0] 32, World.ownsRow_nil _ _ _ _, (fun g hg => by cases hg), List.Pairwise.nil, by decide⟩, fun k hk => hk.1, fun hk => Nat.lt_irrefl _ hk.2, (fun g hg => by cases hg), hb1.size, fun g hg => by cases hg⟩)
    have HB1 := Lib.hid (show Below w0.heap.size w0 (w1.alloc (.cells #[.slice none 0 0] 32)) from hb1.alloc hb1.size _)
    clear hl1 hb1
    go_wp2_with fail
    generalize hqq : w1.heap.size = q at *
    generalize w1.alloc (.cells #[.slice none 0 0] 32) = w2 at *
    refine (knows11_any w2).mono ?_
    rintro e w3 ⟨rfl, hb3⟩
    have TS0 := Lib.hid (HTS.out.kept hb3)
    have HB3 := Lib.hid (HB1.out.trans (hb3.mono HB1.out.size))
    clear hb3 HTS HB1 hqq
    go_wp2
    go_loopw [7] (fun i wr => ∃ (k : Nat) (T : Tr) (C : List Kid) (F : Nat → Prop) (R : Tr) (pq : Option Addr) (cq : Nat), i = .int .i64 (k : Int) ∧ k ≤ l.length ∧ Ts w0.heap.size q P M1 M2 T C F R pq cq wr ∧ Rtm.Twin R T ∧ GoodT T ∧ T.length ≤ k ∧ Below w0.heap.size w0 wr) (fun i _ => l.length - (intOf i).toNat)
    case atStart => exact ⟨0, [], [], _, [], none, 0, rfl, Nat.zero_le _, TS0.out, Rtm.Twin.nil, GoodT.nil, Nat.le_refl _, HB3.out⟩
    case round =>
      clear TS0 HB3
      obtain ⟨k, T, C, F, R, pq, cq, rfl, hk, hts, htw, hg, htl, hb⟩ := hrel
      have TS := Lib.hid hts
      have HW := Lib.hid htw
      have HG := Lib.hid hg
      have HTL := Lib.hid (show T.length ≤ 150 from by have := HLL.out; omega)
      have HTK := Lib.hid htl
      have HB := Lib.hid hb
      clear hts htw hg htl hb
      by_cases hlt : k < l.length
      · obtain ⟨a, hka⟩ : ∃ a, l[k]? = some a := ⟨_, List.getElem?_eq_getElem hlt⟩
        obtain ⟨b, o, rfl, -⟩ := HR.out.addr (by rw [acCells_length]; omega)
        have HK := Lib.hid hka
        have HLT := Lib.hid hlt
        have HAO := Lib.hid (HAC.out a (List.mem_of_getElem? hka))
        have y0 := ac_kind (HR.out.below HB.out) hka
        have hk5 : k < 150 := by have := HLL.out; omega
        have d1 : decide ((k : Int) < (l.length : Int)) = true := decide_eq_true (by omega)
        clear hka
        by_cases h0 : a.k = 0
        · have e0 : (a.k == 0) = true := by rw [h0]; rfl
          have e1 : (a.k == 1) = false := by rw [h0]; rfl
          have HD0 := Lib.hid (show doT T a = (Tm.addT T a.n a.s).1 from if_pos h0)
          have HNG := Lib.hid (show GoodT (Tm.addT T a.n a.s).1 from by rw [← HD0.out]; exact HG.out.doT HAO.out.2.1)
          have HNL := Lib.hid (show (Tm.addT T a.n a.s).1.length ≤ k + 1 from by have := Tm.addT_len T a.n a.s; have := HTK.out; omega)
          clear h0 HD0
          go_upto_region 11 with fail
          clear y0
          have hdr := Below.drew (Below.refl wr.heap.size wr)
          refine wp_region_held_drew (S := fun W => Below w0.heap.size w0 W) (by kernel_rfl) (Below.drew HB.out) (fun hS => ?_)
          replace TS := Lib.hid (TS.out.kept hdr)
          clear hdr
          generalize wr.drew = wd at *
          refine wpAnyH_take (i := 0) (v := ?_) rfl (by kernel_rfl) (by kernel_rfl) (by kernel_rfl) (fun _ _ _ h => h) (Or.inl ⟨by kernel_rfl, ?_⟩) hS ?_
          rotate_left
          · intro W hSW
            go_simp
            all_goals with_reducible rfl
          refine wpAnyH_take (i := 1) (v := ?_) rfl (by kernel_rfl) (by kernel_rfl) (by kernel_rfl) (fun _ _ _ h => h) (Or.inl ⟨by kernel_rfl, ?_⟩) hS ?_
          rotate_left
          · intro W hSW
            go_simp
            all_goals with_reducible rfl
          refine wpAnyH_take (i := 2) (v := ?_) rfl (by kernel_rfl) (by kernel_rfl) (by kernel_rfl) (fun _ _ _ h => h) (Or.inl ⟨by kernel_rfl, ?_⟩) hS ?_
          rotate_left
          · intro W hSW
            go_simp
            all_goals with_reducible rfl
          refine wpAnyH_take (i := 3) (v := ?_) rfl (by kernel_rfl) (by kernel_rfl) (by kernel_rfl) (fun _ _ _ h => h) (Or.inl ⟨by kernel_rfl, ?_⟩) hS ?_
          rotate_left
          · intro W hSW
            go_simp
            all_goals with_reducible rfl
          go_simp
          refine wpAnyH_take (i := 4) (v := ?_) rfl (by kernel_rfl) (by kernel_rfl) (by kernel_rfl) (fun _ _ _ h => h) (Or.inl ⟨by kernel_rfl, ?_⟩) hS ?_
          rotate_left
          · intro W hSW
            go_simp
            all_goals with_reducible rfl
          go_simp
          refine wpAnyH_take (i := 5) (v := snV a.n) rfl (by kernel_rfl) (by kernel_rfl) (by kernel_rfl) (fun _ _ _ h => h) (Or.inl ⟨by kernel_rfl, fun W hSW => ac_node rfl rfl (HR.out.below hSW) HK.out⟩) hS ?_
          refine wpAnyH_take (i := 6) (v := ?_) rfl (by kernel_rfl) (by kernel_rfl) (by kernel_rfl) (fun _ _ _ h => h) (Or.inl ⟨by kernel_rfl, ?_⟩) hS ?_
          rotate_left
          · intro W hSW
            go_simp
            all_goals with_reducible rfl
          refine wpAnyH_take (i := 7) (v := ?_) rfl (by kernel_rfl) (by kernel_rfl) (by kernel_rfl) (fun _ _ _ h => h) (Or.inl ⟨by kernel_rfl, ?_⟩) hS ?_
          rotate_left
          · intro W hSW
            go_simp
            all_goals with_reducible rfl
          refine wpAnyH_take (i := 8) (v := ?_) rfl (by kernel_rfl) (by kernel_rfl) (by kernel_rfl) (fun _ _ _ h => h) (Or.inl ⟨by kernel_rfl, ?_⟩) hS ?_
          rotate_left
          · intro W hSW
            go_simp
            all_goals with_reducible rfl
          go_simp
          refine wpAnyH_take (i := 9) (v := ?_) rfl (by kernel_rfl) (by kernel_rfl) (by kernel_rfl) (fun _ _ _ h => h) (Or.inl ⟨by kernel_rfl, ?_⟩) hS ?_
          rotate_left
          · intro W hSW
            go_simp
            all_goals with_reducible rfl
          go_simp
          refine wpAnyH_take (i := 10) (v := .agg (spA a.s)) rfl (by kernel_rfl) (by kernel_rfl) (by kernel_rfl) (fun _ _ _ h => h) (Or.inl ⟨by kernel_rfl, fun W hSW => ac_spot rfl rfl (HR.out.below hSW) HK.out⟩) hS ?_
          go_simp
          refine wpAnyH_ready (rs := [11]) (by kernel_rfl) (by simp) ?_
          refine AllReadyH.cons rfl (fun K hK => ?_) AllReadyH.nil
          go_simp
          go_wp2_with ((go_at_call 8; refine (own_any a.s _).mono ?_; rintro e wn ⟨rfl, hbn⟩))
          replace TS := Lib.hid (TS.out.kept hbn)
          refine hK.out _ _ (hS.trans (hbn.mono hS.size)) (fun hS => ?_)
          clear hK K hbn
          refine wpAnyH_ready (rs := [12]) (by kernel_rfl) (by simp) ?_
          refine AllReadyH.cons rfl (fun K hK => ?_) AllReadyH.nil
          have HCA := Lib.hid (add_any a.n a.s wn TS.out.lay HAO.out.1 HAO.out.2.1 HAO.out.2.2)
          go_simp
          go_wp2_with ((go_at_call 7; refine HCA.out.mono ?_; rintro e wm ⟨rfl, hact⟩))
          obtain ⟨C1, F1, hts, hbm⟩ := TS.out.acted hact (Below.size hS)
          have TS1 := Lib.hid hts
          clear hact hts HCA TS
          refine hK.out _ _ (hS.trans (hbm.mono (Nat.le_refl _))) (fun hS => ?_)
          clear hK K hbm
          refine wpAnyH_done (by kernel_rfl) ?_ _
          go_simp
          have HB1 := Lib.hid hS
          clear hS
          go_upto_region 12 with fail
          have TS := Lib.hid TS1.out
          clear TS1
          have hdr := Below.drew (Below.refl wm.heap.size wm)
          refine wp_region_held_drew (S := fun W => Below w0.heap.size w0 W) (by kernel_rfl) (Below.drew HB1.out) (fun hS => ?_)
          replace TS := Lib.hid (TS.out.kept hdr)
          clear hdr
          generalize wm.drew = wd at *
          refine wpAnyH_take (i := 0) (v := ?_) rfl (by kernel_rfl) (by kernel_rfl) (by kernel_rfl) (fun _ _ _ h => h) (Or.inl ⟨by kernel_rfl, ?_⟩) hS ?_
          rotate_left
          · intro W hSW
            go_simp
            all_goals with_reducible rfl
          refine wpAnyH_take (i := 1) (v := ?_) rfl (by kernel_rfl) (by kernel_rfl) (by kernel_rfl) (fun _ _ _ h => h) (Or.inl ⟨by kernel_rfl, ?_⟩) hS ?_
          rotate_left
          · intro W hSW
            go_simp
            all_goals with_reducible rfl
          refine wpAnyH_take (i := 2) (v := ?_) rfl (by kernel_rfl) (by kernel_rfl) (by kernel_rfl) (fun _ _ _ h => h) (Or.inl ⟨by kernel_rfl, ?_⟩) hS ?_
          rotate_left
          · intro W hSW
            go_simp
            all_goals with_reducible rfl
          refine wpAnyH_take (i := 3) (v := ?_) rfl (by kernel_rfl) (by kernel_rfl) (by kernel_rfl) (fun _ _ _ h => h) (Or.inl ⟨by kernel_rfl, ?_⟩) hS ?_
          rotate_left
          · intro W hSW
            go_simp
            all_goals with_reducible rfl
          go_simp
          refine wpAnyH_take (i := 4) (v := ?_) rfl (by kernel_rfl) (by kernel_rfl) (by kernel_rfl) (fun _ _ _ h => h) (Or.inl ⟨by kernel_rfl, ?_⟩) hS ?_
          rotate_left
          · intro W hSW
            go_simp
            all_goals with_reducible rfl
          go_simp
          refine wpAnyH_take (i := 5) (v := snV a.n) rfl (by kernel_rfl) (by kernel_rfl) (by kernel_rfl) (fun _ _ _ h => h) (Or.inl ⟨by kernel_rfl, fun W hSW => ac_node rfl rfl (HR.out.below hSW) HK.out⟩) hS ?_
          refine wpAnyH_take (i := 6) (v := ?_) rfl (by kernel_rfl) (by kernel_rfl) (by kernel_rfl) (fun _ _ _ h => h) (Or.inl ⟨by kernel_rfl, ?_⟩) hS ?_
          rotate_left
          · intro W hSW
            go_simp
            all_goals with_reducible rfl
          refine wpAnyH_take (i := 7) (v := ?_) rfl (by kernel_rfl) (by kernel_rfl) (by kernel_rfl) (fun _ _ _ h => h) (Or.inl ⟨by kernel_rfl, ?_⟩) hS ?_
          rotate_left
          · intro W hSW
            go_simp
            all_goals with_reducible rfl
          refine wpAnyH_take (i := 8) (v := ?_) rfl (by kernel_rfl) (by kernel_rfl) (by kernel_rfl) (fun _ _ _ h => h) (Or.inl ⟨by kernel_rfl, ?_⟩) hS ?_
          rotate_left
          · intro W hSW
            go_simp
            all_goals with_reducible rfl
          go_simp
          refine wpAnyH_take (i := 9) (v := ?_) rfl (by kernel_rfl) (by kernel_rfl) (by kernel_rfl) (fun _ _ _ h => h) (Or.inl ⟨by kernel_rfl, ?_⟩) hS ?_
          rotate_left
          · intro W hSW
            go_simp
            all_goals with_reducible rfl
          go_simp
          refine wpAnyH_take (i := 10) (v := .agg (spA a.s)) rfl (by kernel_rfl) (by kernel_rfl) (by kernel_rfl) (fun _ _ _ h => h) (Or.inl ⟨by kernel_rfl, fun W hSW => ac_spot rfl rfl (HR.out.below hSW) HK.out⟩) hS ?_
          go_simp
          refine wpAnyH_ready (rs := [11]) (by kernel_rfl) (by simp) ?_
          refine AllReadyH.cons rfl (fun K hK => ?_) AllReadyH.nil
          have HCD := Lib.hid (radd_any a.n a.s wd TS.out.rt (by rw [HW.out.len]; have := HTL.out; omega) HAO.out.2.2)
          go_simp
          go_wp2_with ((go_at_call 9; refine HCD.out.mono ?_; rintro e wm ⟨R1, htw, ⟨v, rfl⟩, hd⟩))
          obtain ⟨p2, c2, hts, hbm⟩ := TS.out.done hd (Below.size hS)
          have TS2 := Lib.hid hts
          have HTW := Lib.hid (htw T HW.out)
          clear hts HCD TS htw hd
          refine hK.out _ _ (hS.trans (hbm.mono (Nat.le_refl _))) (fun hS => ?_)
          clear hK K hbm
          refine wpAnyH_done (by kernel_rfl) ?_ _
          go_simp
          have HB2 := Lib.hid hS
          clear hS
          have y1 := ac_kind (HR.out.below HB2.out) HK.out
          go_wp2
          go_roundw
          case rel => exact ⟨k + 1, (Tm.addT T a.n a.s).1, C1, F1, R1, p2, c2, by go_num, by have := HLT.out; omega, TS2.out, HTW.out, HNG.out, HNL.out, HB2.out⟩
          case measure => simp [intOf] <;> have := HLT.out <;> omega
        · have e0 : (a.k == 0) = false := beq_eq_false_iff_ne.2 h0
          by_cases h1 : a.k = 1
          · have e1 : (a.k == 1) = true := by rw [h1]; rfl
            have HD0 := Lib.hid (show doT T a = (Tm.moveT T a.n a.s).1 from by unfold doT; rw [if_neg h0, if_pos h1])
            have HNG := Lib.hid (show GoodT (Tm.moveT T a.n a.s).1 from by rw [← HD0.out]; exact HG.out.doT HAO.out.2.1)
            have HNL := Lib.hid (show (Tm.moveT T a.n a.s).1.length ≤ k + 1 from by have := Tm.moveT_len T a.n a.s; have := HTK.out; omega)
            clear h0 h1 HD0
            go_upto_region 14 with fail
            clear y0
            have hdr := Below.drew (Below.refl wr.heap.size wr)
            refine wp_region_held_drew (S := fun W => Below w0.heap.size w0 W) (by kernel_rfl) (Below.drew HB.out) (fun hS => ?_)
            replace TS := Lib.hid (TS.out.kept hdr)
            clear hdr
            generalize wr.drew = wd at *
            refine wpAnyH_take (i := 0) (v := ?_) rfl (by kernel_rfl) (by kernel_rfl) (by kernel_rfl) (fun _ _ _ h => h) (Or.inl ⟨by kernel_rfl, ?_⟩) hS ?_
            rotate_left
            · intro W hSW
              go_simp
              all_goals with_reducible rfl
            refine wpAnyH_take (i := 1) (v := ?_) rfl (by kernel_rfl) (by kernel_rfl) (by kernel_rfl) (fun _ _ _ h => h) (Or.inl ⟨by kernel_rfl, ?_⟩) hS ?_
            rotate_left
            · intro W hSW
              go_simp
              all_goals with_reducible rfl
            refine wpAnyH_take (i := 2) (v := ?_) rfl (by kernel_rfl) (by kernel_rfl) (by kernel_rfl) (fun _ _ _ h => h) (Or.inl ⟨by kernel_rfl, ?_⟩) hS ?_
            rotate_left
            · intro W hSW
              go_simp
              all_goals with_reducible rfl
            refine wpAnyH_take (i := 3) (v := ?_) rfl (by kernel_rfl) (by kernel_rfl) (by kernel_rfl) (fun _ _ _ h => h) (Or.inl ⟨by kernel_rfl, ?_⟩) hS ?_
            rotate_left
            · intro W hSW
              go_simp
              all_goals with_reducible rfl
            go_simp
            refine wpAnyH_take (i := 4) (v := ?_) rfl (by kernel_rfl) (by kernel_rfl) (by kernel_rfl) (fun _ _ _ h => h) (Or.inl ⟨by kernel_rfl, ?_⟩) hS ?_
            rotate_left
            · intro W hSW
              go_simp
              all_goals with_reducible rfl
            go_simp
            refine wpAnyH_take (i := 5) (v := snV a.n) rfl (by kernel_rfl) (by kernel_rfl) (by kernel_rfl) (fun _ _ _ h => h) (Or.inl ⟨by kernel_rfl, fun W hSW => ac_node rfl rfl (HR.out.below hSW) HK.out⟩) hS ?_
            refine wpAnyH_take (i := 6) (v := ?_) rfl (by kernel_rfl) (by kernel_rfl) (by kernel_rfl) (fun _ _ _ h => h) (Or.inl ⟨by kernel_rfl, ?_⟩) hS ?_
            rotate_left
            · intro W hSW
              go_simp
              all_goals with_reducible rfl
            refine wpAnyH_take (i := 7) (v := ?_) rfl (by kernel_rfl) (by kernel_rfl) (by kernel_rfl) (fun _ _ _ h => h) (Or.inl ⟨by kernel_rfl, ?_⟩) hS ?_
            rotate_left
            · intro W hSW
              go_simp
              all_goals with_reducible rfl
            refine wpAnyH_take (i := 8) (v := ?_) rfl (by kernel_rfl) (by kernel_rfl) (by kernel_rfl) (fun _ _ _ h => h) (Or.inl ⟨by kernel_rfl, ?_⟩) hS ?_
            rotate_left
            · intro W hSW
              go_simp
              all_goals with_reducible rfl
            go_simp
            refine wpAnyH_take (i := 9) (v := ?_) rfl (by kernel_rfl) (by kernel_rfl) (by kernel_rfl) (fun _ _ _ h => h) (Or.inl ⟨by kernel_rfl, ?_⟩) hS ?_
            rotate_left
            · intro W hSW
              go_simp
              all_goals with_reducible rfl
            go_simp
            refine wpAnyH_take (i := 10) (v := .agg (spA a.s)) rfl (by kernel_rfl) (by kernel_rfl) (by kernel_rfl) (fun _ _ _ h => h) (Or.inl ⟨by kernel_rfl, fun W hSW => ac_spot rfl rfl (HR.out.below hSW) HK.out⟩) hS ?_
            go_simp
            refine wpAnyH_ready (rs := [11]) (by kernel_rfl) (by simp) ?_
            refine AllReadyH.cons rfl (fun K hK => ?_) AllReadyH.nil
            go_simp
            go_wp2_with ((go_at_call 8; refine (own_any a.s _).mono ?_; rintro e wn ⟨rfl, hbn⟩))
            replace TS := Lib.hid (TS.out.kept hbn)
            refine hK.out _ _ (hS.trans (hbn.mono hS.size)) (fun hS => ?_)
            clear hK K hbn
            refine wpAnyH_ready (rs := [12]) (by kernel_rfl) (by simp) ?_
            refine AllReadyH.cons rfl (fun K hK => ?_) AllReadyH.nil
            have HCA := Lib.hid (move_any a.n a.s wn TS.out.lay HAO.out.1 HAO.out.2.1 HAO.out.2.2 HG.out.1 HG.out.2)
            go_simp
            go_wp2_with ((go_at_call 10; refine HCA.out.mono ?_; rintro e wm ⟨rfl, hact⟩))
            obtain ⟨C1, F1, hts, hbm⟩ := TS.out.acted hact (Below.size hS)
            have TS1 := Lib.hid hts
            clear hact hts HCA TS
            refine hK.out _ _ (hS.trans (hbm.mono (Nat.le_refl _))) (fun hS => ?_)
            clear hK K hbm
            refine wpAnyH_done (by kernel_rfl) ?_ _
            go_simp
            have HB1 := Lib.hid hS
            clear hS
            go_upto_region 15 with fail
            have TS := Lib.hid TS1.out
            clear TS1
            have hdr := Below.drew (Below.refl wm.heap.size wm)
            refine wp_region_held_drew (S := fun W => Below w0.heap.size w0 W) (by kernel_rfl) (Below.drew HB1.out) (fun hS => ?_)
            replace TS := Lib.hid (TS.out.kept hdr)
            clear hdr
            generalize wm.drew = wd at *
            refine wpAnyH_take (i := 0) (v := ?_) rfl (by kernel_rfl) (by kernel_rfl) (by kernel_rfl) (fun _ _ _ h => h) (Or.inl ⟨by kernel_rfl, ?_⟩) hS ?_
            rotate_left
            · intro W hSW
              go_simp
              all_goals with_reducible rfl
            refine wpAnyH_take (i := 1) (v := ?_) rfl (by kernel_rfl) (by kernel_rfl) (by kernel_rfl) (fun _ _ _ h => h) (Or.inl ⟨by kernel_rfl, ?_⟩) hS ?_
            rotate_left
            · intro W hSW
              go_simp
              all_goals with_reducible rfl
            refine wpAnyH_take (i := 2) (v := ?_) rfl (by kernel_rfl) (by kernel_rfl) (by kernel_rfl) (fun _ _ _ h => h) (Or.inl ⟨by kernel_rfl, ?_⟩) hS ?_
            rotate_left
            · intro W hSW
              go_simp
              all_goals with_reducible rfl
            refine wpAnyH_take (i := 3) (v := ?_) rfl (by kernel_rfl) (by kernel_rfl) (by kernel_rfl) (fun _ _ _ h => h) (Or.inl ⟨by kernel_rfl, ?_⟩) hS ?_
            rotate_left
            · intro W hSW
              go_simp
              all_goals with_reducible rfl
            go_simp
            refine wpAnyH_take (i := 4) (v := ?_) rfl (by kernel_rfl) (by kernel_rfl) (by kernel_rfl) (fun _ _ _ h => h) (Or.inl ⟨by kernel_rfl, ?_⟩) hS ?_
            rotate_left
            · intro W hSW
              go_simp
              all_goals with_reducible rfl
            go_simp
            refine wpAnyH_take (i := 5) (v := snV a.n) rfl (by kernel_rfl) (by kernel_rfl) (by kernel_rfl) (fun _ _ _ h => h) (Or.inl ⟨by kernel_rfl, fun W hSW => ac_node rfl rfl (HR.out.below hSW) HK.out⟩) hS ?_
            refine wpAnyH_take (i := 6) (v := ?_) rfl (by kernel_rfl) (by kernel_rfl) (by kernel_rfl) (fun _ _ _ h => h) (Or.inl ⟨by kernel_rfl, ?_⟩) hS ?_
            rotate_left
            · intro W hSW
              go_simp
              all_goals with_reducible rfl
            refine wpAnyH_take (i := 7) (v := ?_) rfl (by kernel_rfl) (by kernel_rfl) (by kernel_rfl) (fun _ _ _ h => h) (Or.inl ⟨by kernel_rfl, ?_⟩) hS ?_
            rotate_left
            · intro W hSW
              go_simp
              all_goals with_reducible rfl
            refine wpAnyH_take (i := 8) (v := ?_) rfl (by kernel_rfl) (by kernel_rfl) (by kernel_rfl) (fun _ _ _ h => h) (Or.inl ⟨by kernel_rfl, ?_⟩) hS ?_
            rotate_left
            · intro W hSW
              go_simp
              all_goals with_reducible rfl
            go_simp
            refine wpAnyH_take (i := 9) (v := ?_) rfl (by kernel_rfl) (by kernel_rfl) (by kernel_rfl) (fun _ _ _ h => h) (Or.inl ⟨by kernel_rfl, ?_⟩) hS ?_
            rotate_left
            · intro W hSW
              go_simp
              all_goals with_reducible rfl
            go_simp
            refine wpAnyH_take (i := 10) (v := .agg (spA a.s)) rfl (by kernel_rfl) (by kernel_rfl) (by kernel_rfl) (fun _ _ _ h => h) (Or.inl ⟨by kernel_rfl, fun W hSW => ac_spot rfl rfl (HR.out.below hSW) HK.out⟩) hS ?_
            go_simp
            refine wpAnyH_ready (rs := [11]) (by kernel_rfl) (by simp) ?_
            refine AllReadyH.cons rfl (fun K hK => ?_) AllReadyH.nil
            have HCD := Lib.hid (rmove_any a.n a.s wd TS.out.rt (by rw [HW.out.len]; have := HTL.out; omega) HAO.out.2.2 (fun n => (HG.out.1.up n).imp fun l hl => HW.out.up hl))
            go_simp
            go_wp2_with ((go_at_call 11; refine HCD.out.mono ?_; rintro e wm ⟨R1, htw, ⟨v, rfl⟩, hd⟩))
            obtain ⟨p2, c2, hts, hbm⟩ := TS.out.done hd (Below.size hS)
            have TS2 := Lib.hid hts
            have HTW := Lib.hid (htw T HW.out)
            clear hts HCD TS htw hd
            refine hK.out _ _ (hS.trans (hbm.mono (Nat.le_refl _))) (fun hS => ?_)
            clear hK K hbm
            refine wpAnyH_done (by kernel_rfl) ?_ _
            go_simp
            have HB2 := Lib.hid hS
            clear hS
            go_wp2
            go_roundw
            case rel => exact ⟨k + 1, (Tm.moveT T a.n a.s).1, C1, F1, R1, p2, c2, by go_num, by have := HLT.out; omega, TS2.out, HTW.out, HNG.out, HNL.out, HB2.out⟩
            case measure => simp [intOf] <;> have := HLT.out <;> omega
          · have e1 : (a.k == 1) = false := beq_eq_false_iff_ne.2 h1
            clear h0 h1
            go_wp2
            go_roundw
            case rel => exact ⟨k + 1, T, C, F, R, pq, cq, by go_num, by have := HLT.out; omega, TS.out, HW.out, HG.out, by have := HTK.out; omega, HB.out⟩
            case measure => simp [intOf] <;> have := HLT.out <;> omega
      · have d1 : decide ((k : Int) < (l.length : Int)) = false := decide_eq_false (by omega)
        have HKS := Lib.hid (show ∀ e ∈ R, e.2.2.size ≤ 140737488355328 from fun e he => Ok.keys HG.out.1 e (HW.out.perm.mem_iff.1 he))
        go_upto_region 17 with fail
        have hdr := Below.drew (Below.refl wr.heap.size wr)
        refine wp_region_held_drew (S := fun W => Below w0.heap.size w0 W) (by kernel_rfl) (Below.drew HB.out) (fun hS => ?_)
        replace TS := Lib.hid (TS.out.kept hdr)
        clear hdr
        generalize wr.drew = wd at *
        refine wpAnyH_take (i := 0) (v := ?_) rfl (by kernel_rfl) (by kernel_rfl) (by kernel_rfl) (fun _ _ _ h => h) (Or.inl ⟨by kernel_rfl, ?_⟩) hS ?_
        rotate_left
        · intro W hSW
          go_simp
          all_goals with_reducible rfl
        go_simp
        refine wpAnyH_take (i := 1) (v := snV pt) rfl (by kernel_rfl) (by kernel_rfl) (by kernel_rfl) (fun _ _ _ h => h) (Or.inl ⟨by kernel_rfl, fun W hSW => exec_load_ag stT rfl rfl rfl (AgAt.kept HX0.out hSW)⟩) hS ?_
        refine wpAnyH_take (i := 3) (v := ?_) rfl (by kernel_rfl) (by kernel_rfl) (by kernel_rfl) (fun _ _ _ h => h) (Or.inl ⟨by kernel_rfl, ?_⟩) hS ?_
        rotate_left
        · intro W hSW
          go_simp
          all_goals with_reducible rfl
        go_simp
        refine wpAnyH_take (i := 4) (v := snV pt) rfl (by kernel_rfl) (by kernel_rfl) (by kernel_rfl) (fun _ _ _ h => h) (Or.inl ⟨by kernel_rfl, fun W hSW => exec_load_ag stT rfl rfl rfl (AgAt.kept HX0.out hSW)⟩) hS ?_
        go_simp
        refine wpAnyH_ready (rs := [2]) (by kernel_rfl) (by simp) ?_
        refine AllReadyH.cons rfl (fun K hK => ?_) AllReadyH.nil
        have HCC := Lib.hid (orow_any pt wd TS.out.lay HPT.out (by have := HTL.out; omega) HG.out.1.nd)
        go_simp
        go_wp2_with ((go_at_call 13; refine HCC.out.mono ?_; rintro e wA ⟨pA, cA, mA, hpA, hsA, rfl, hrA, hbn⟩))
        have HA := Lib.hid (And.intro hpA (And.intro hsA hrA))
        clear hpA hsA hrA
        replace TS := Lib.hid (TS.out.kept hbn)
        refine hK.out _ _ (hS.trans (hbn.mono (Below.size hS))) (fun hS => ?_)
        clear hK K hbn HCC
        refine wpAnyH_ready (rs := [5]) (by kernel_rfl) (by simp) ?_
        refine AllReadyH.cons rfl (fun K hK => ?_) AllReadyH.nil
        have HCC := Lib.hid (rrow_any pt wA TS.out.rt.rd HKS.out)
        go_simp
        go_wp2_with ((go_at_call 14; refine HCC.out.mono ?_; rintro e wB ⟨pB, cB, mB, hpB, hsB, rfl, hrB, hbn⟩))
        obtain rfl : mB = mA := Sbm.srt_uniq _ _ (hpB.trans ((Rtm.sibs_perm HW.out.perm pt).trans HA.out.1.symm)) hsB HA.out.2.1
        have HRA := Lib.hid (HA.out.2.2.below hbn)
        have HRB := Lib.hid hrB
        have HML := Lib.hid (show mB.length ≤ 1000 from by rw [hpB.length_eq]; exact Nat.le_trans (Rtm.sibs_len _ _) (by rw [HW.out.len]; have := HTL.out; omega))
        clear hpB hsB hrB HA
        replace TS := Lib.hid (TS.out.kept hbn)
        refine hK.out _ _ (hS.trans (hbn.mono (Below.size hS))) (fun hS => ?_)
        clear hK K hbn HCC
        refine wpAnyH_ready (rs := [6]) (by kernel_rfl) (by simp) ?_
        refine AllReadyH.cons rfl (fun K hK => ?_) AllReadyH.nil
        have HCC := Lib.hid (same_any pA pB cA cB mB wB HRA.out HRB.out HML.out)
        go_simp
        go_wp2_with ((go_at_call 12; refine HCC.out.mono ?_; rintro e wC ⟨rfl, hbn⟩))
        replace TS := Lib.hid (TS.out.kept hbn)
        refine hK.out _ _ (hS.trans (hbn.mono (Below.size hS))) (fun hS => ?_)
        clear hK K hbn HCC
        refine wpAnyH_take (i := 7) (v := ?_) rfl (by kernel_rfl) (by kernel_rfl) (by kernel_rfl) (fun _ _ _ h => h) (Or.inl ⟨by kernel_rfl, ?_⟩) hS ?_
        rotate_left
        · intro W hSW
          go_simp
          all_goals with_reducible rfl
        refine wpAnyH_take (i := 8) (v := ?_) rfl (by kernel_rfl) (by kernel_rfl) (by kernel_rfl) (fun _ _ _ h => h) (Or.inl ⟨by kernel_rfl, ?_⟩) hS ?_
        rotate_left
        · intro W hSW
          go_simp
          all_goals with_reducible rfl
        refine wpAnyH_take (i := 9) (v := ?_) rfl (by kernel_rfl) (by kernel_rfl) (by kernel_rfl) (fun _ _ _ h => h) (Or.inl ⟨by kernel_rfl, ?_⟩) hS ?_
        rotate_left
        · intro W hSW
          go_simp
          all_goals with_reducible rfl
        go_simp
        refine wpAnyH_take (i := 11) (v := ?_) rfl (by kernel_rfl) (by kernel_rfl) (by kernel_rfl) (fun _ _ _ h => h) (Or.inl ⟨by kernel_rfl, ?_⟩) hS ?_
        rotate_left
        · intro W hSW
          go_simp
          all_goals with_reducible rfl
        refine wpAnyH_take (i := 12) (v := ?_) rfl (by kernel_rfl) (by kernel_rfl) (by kernel_rfl) (fun _ _ _ h => h) (Or.inl ⟨by kernel_rfl, ?_⟩) hS ?_
        rotate_left
        · intro W hSW
          go_simp
          all_goals with_reducible rfl
        go_simp
        refine wpAnyH_ready (rs := [10]) (by kernel_rfl) (by simp) ?_
        refine AllReadyH.cons rfl (fun K hK => ?_) AllReadyH.nil
        have HCC := Lib.hid (orow_any (0, 0) wC TS.out.lay ⟨i64wf (by decide) (by decide), i64wf (by decide) (by decide)⟩ (by have := HTL.out; omega) HG.out.1.nd)
        go_simp
        go_wp2_with ((go_at_call 13; refine HCC.out.mono ?_; rintro e wD ⟨pD, cD, mD, hpA, hsA, rfl, hrA, hbn⟩))
        have HA := Lib.hid (And.intro hpA (And.intro hsA hrA))
        clear hpA hsA hrA HRA HRB HML
        replace TS := Lib.hid (TS.out.kept hbn)
        refine hK.out _ _ (hS.trans (hbn.mono (Below.size hS))) (fun hS => ?_)
        clear hK K hbn HCC
        refine wpAnyH_ready (rs := [13]) (by kernel_rfl) (by simp) ?_
        refine AllReadyH.cons rfl (fun K hK => ?_) AllReadyH.nil
        have HCC := Lib.hid (rrow_any (0, 0) wD TS.out.rt.rd HKS.out)
        go_simp
        go_wp2_with ((go_at_call 14; refine HCC.out.mono ?_; rintro e wE ⟨pE, cE, mE, hpB, hsB, rfl, hrB, hbn⟩))
        obtain rfl : mE = mD := Sbm.srt_uniq _ _ (hpB.trans ((Rtm.sibs_perm HW.out.perm (0, 0)).trans HA.out.1.symm)) hsB HA.out.2.1
        have HRA := Lib.hid (HA.out.2.2.below hbn)
        have HRB := Lib.hid hrB
        have HML := Lib.hid (show mE.length ≤ 1000 from by rw [hpB.length_eq]; exact Nat.le_trans (Rtm.sibs_len _ _) (by rw [HW.out.len]; have := HTL.out; omega))
        clear hpB hsB hrB HA
        replace TS := Lib.hid (TS.out.kept hbn)
        refine hK.out _ _ (hS.trans (hbn.mono (Below.size hS))) (fun hS => ?_)
        clear hK K hbn HCC
        refine wpAnyH_ready (rs := [14]) (by kernel_rfl) (by simp) ?_
        refine AllReadyH.cons rfl (fun K hK => ?_) AllReadyH.nil
        have HCC := Lib.hid (same_any pD pE cD cE mE wE HRA.out HRB.out HML.out)
        go_simp
        go_wp2_with ((go_at_call 12; refine HCC.out.mono ?_; rintro e wF ⟨rfl, hbn⟩))
        replace TS := Lib.hid (TS.out.kept hbn)
        refine hK.out _ _ (hS.trans (hbn.mono (Below.size hS))) (fun hS => ?_)
        clear hK K hbn HCC
        refine wpAnyH_take (i := 15) (v := ?_) rfl (by kernel_rfl) (by kernel_rfl) (by kernel_rfl) (fun _ _ _ h => h) (Or.inl ⟨by kernel_rfl, ?_⟩) hS ?_
        rotate_left
        · intro W hSW
          go_simp
          all_goals with_reducible rfl
        refine wpAnyH_take (i := 16) (v := ?_) rfl (by kernel_rfl) (by kernel_rfl) (by kernel_rfl) (fun _ _ _ h => h) (Or.inl ⟨by kernel_rfl, ?_⟩) hS ?_
        rotate_left
        · intro W hSW
          go_simp
          all_goals with_reducible rfl
        refine wpAnyH_take (i := 17) (v := ?_) rfl (by kernel_rfl) (by kernel_rfl) (by kernel_rfl) (fun _ _ _ h => h) (Or.inl ⟨by kernel_rfl, ?_⟩) hS ?_
        rotate_left
        · intro W hSW
          go_simp
          all_goals with_reducible rfl
        go_simp
        refine wpAnyH_take (i := 18) (v := snV pt) rfl (by kernel_rfl) (by kernel_rfl) (by kernel_rfl) (fun _ _ _ h => h) (Or.inl ⟨by kernel_rfl, fun W hSW => exec_load_ag stT rfl rfl rfl (AgAt.kept HX0.out hSW)⟩) hS ?_
        go_simp
        refine wpAnyH_ready (rs := [19]) (by kernel_rfl) (by simp) ?_
        refine AllReadyH.cons rfl (fun K hK => ?_) AllReadyH.nil
        have HCC := Lib.hid (orow_nil pt wF)
        go_simp
        go_wp2_with ((go_at_call 13; refine HCC.out.mono ?_; rintro e wG ⟨pG, cG, rfl, hbn⟩))
        replace TS := Lib.hid (TS.out.kept hbn)
        refine hK.out _ _ (hS.trans (hbn.mono (Below.size hS))) (fun hS => ?_)
        clear hK K hbn HCC
        refine wpAnyH_take (i := 20) (v := ?_) rfl (by kernel_rfl) (by kernel_rfl) (by kernel_rfl) (fun _ _ _ h => h) (Or.inl ⟨by kernel_rfl, ?_⟩) hS ?_
        rotate_left
        · intro W hSW
          go_simp
          all_goals with_reducible rfl
        refine wpAnyH_take (i := 21) (v := ?_) rfl (by kernel_rfl) (by kernel_rfl) (by kernel_rfl) (fun _ _ _ h => h) (Or.inl ⟨by kernel_rfl, ?_⟩) hS ?_
        rotate_left
        · intro W hSW
          go_simp
          all_goals with_reducible rfl
        refine wpAnyH_take (i := 22) (v := ?_) rfl (by kernel_rfl) (by kernel_rfl) (by kernel_rfl) (fun _ _ _ h => h) (Or.inl ⟨by kernel_rfl, ?_⟩) hS ?_
        rotate_left
        · intro W hSW
          go_simp
          all_goals with_reducible rfl
        go_simp
        refine wpAnyH_take (i := 23) (v := ?_) rfl (by kernel_rfl) (by kernel_rfl) (by kernel_rfl) (fun _ _ _ h => h) (Or.inl ⟨by kernel_rfl, ?_⟩) hS ?_
        rotate_left
        · intro W hSW
          go_simp
          all_goals with_reducible rfl
        go_simp
        refine wpAnyH_done (by kernel_rfl) ?_ _
        go_simp
        have HN := Lib.hid hS
        clear hS
        go_wp2
        go_ret
        exact ⟨rfl, HB0.out.trans (HN.out.mono HB0.out.size)⟩

end Go.Proofs.YtilkokhapcgolaaGreat
