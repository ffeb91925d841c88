/-
  PROPSPLAYS: the walk: the registers answer as the document's list of writes does.
  No conditions.
-/
import Derived.Test.YtcenmkcencdlcaaPrSim
import Derived.Test.YtcenmkcencdlcaaOwnG
import Derived.Test.YtcenmkcencdlcaaGQ
import Derived.Test.YtcenmkcencdlcaaGP
import Derived.Test.YtcenmkcencdlcaaPrLiftKit
import Derived.Deep.DeepCutAuto
namespace Go.Proofs.Ytcenmkcencdlcaa
open Go.RowKit

theorem exec_neq_e {c : Act} {o : Oper} {x y : Operand} {ty : TypeId} (ho : o.op = .binOp .neq 3 x y ty) {w : World} (p : Int) (hx : c.eval x = .int .i64 p) (hy : c.eval y = .int .i64 p) :
    (execOp c.eval o).run Try.prog w = .ok (.value (.bool false)) w := by
  unfold execOp
  simp only [ho, hx, hy]
  go_simp
theorem wpList_value {P : Program} {ops : Array Oper} {rest : List Oper} {o : Oper} {a : Act} {w w' : World} {Q : Exit → Act → World → Prop} {v : Value} (hw : Region.wanted o (yielded ops a.tmps) = true) (hr : (execOp a.eval o).run P w = .ok (.value v) w') (h : wpList P ops Q rest (a.put o.dst v) w') : wpList P ops Q (o :: rest) a w := by
  rw [wpList, if_pos hw]
  refine Or.inl ?_
  unfold Oper.wp
  rw [hr]
  exact h
theorem wpList_slot {P : Program} {ops : Array Oper} {rest : List Oper} {o : Oper} {a : Act} {w : World} {Q : Exit → Act → World → Prop} (h : wpList P ops Q (o :: rest) a w) (d : Nat) (_ : o.dst = some d) : wpList P ops Q (o :: rest) a w := h
theorem wpList_value_at {P : Program} {ops : Array Oper} {rest : List Oper} {o : Oper} {a : Act} {w w' : World} {Q : Exit → Act → World → Prop} {v : Value} (d : Nat) (_ : o.dst = some d) (hw : Region.wanted o (yielded ops a.tmps) = true) (hr : (execOp a.eval o).run P w = .ok (.value v) w') (h : wpList P ops Q rest (a.put o.dst v) w') : wpList P ops Q (o :: rest) a w := wpList_value hw hr h
theorem exec_neq_vv {c : Act} {o : Oper} {x y : Operand} {ty : TypeId} (ho : o.op = .binOp .neq 34 x y ty) {w : World} (p : Pm.Vl) (hx : c.eval x = .agg (vlA p)) (hy : c.eval y = .agg (vlA p)) :
    (execOp c.eval o).run Try.prog w = .ok (.value (.bool false)) w := (exec_neq_vl ho p p hx hy).trans (by rw [decide_eq_true rfl]; rfl)
theorem exec_neq_bp {c : Act} {o : Oper} {x y : Operand} {ty : TypeId} (ho : o.op = .binOp .neq 4 x y ty) {w : World} (p : Bool) (hx : c.eval x = .bool p) (hy : c.eval y = .bool p) :
    (execOp c.eval o).run Try.prog w = .ok (.value (.bool false)) w := by
  unfold execOp
  simp only [ho, hx, hy]
  go_simp
theorem take_over {l : List WrE} {k : Nat} (h : l.length ≤ k) : (pl l).take (k + 1) = (pl l).take k := by
  have h1 : (pl l).length = l.length := by unfold pl; exact List.length_map ..
  rw [List.take_of_length_le (by omega), List.take_of_length_le (by omega)]
theorem take_all {l : List WrE} {k : Nat} (h : l.length ≤ k) : (pl l).take k = pl l := List.take_of_length_le (by unfold pl; rw [List.length_map]; exact h)
theorem own_is {w : World} {B : Nat} {E : TypeId} {k : Nat} {q : Option Addr} {n c : Nat} {xs : List Value} (h : w.ownsRow B E k (.slice q n c) n xs) {a : Addr} (ha : q = some a) : (Value.slice q n c).ownBlock = some a.block := by
  obtain ⟨p, c', hv, -, -, -, -, h6⟩ := own_rd h
  cases hv
  exact (h6 a ha).2.2.1
theorem own_some {w : World} {B : Nat} {E : TypeId} {k : Nat} {q : Option Addr} {n c : Nat} {xs : List Value} (h : w.ownsRow B E k (.slice q n c) n xs) (hn : 0 < n) : ∃ g, q = some ⟨g, 0, none⟩ := by
  rcases h.2 with ⟨h1, -⟩ | ⟨g, cap, cur, h1, -⟩
  · cases h1; omega
  · cases h1; exact ⟨g, rfl⟩
theorem Small.t {l : List WrE} (h : Small l) : SmT (pl l) := by
  refine ⟨by unfold pl; rw [List.length_map]; have := h.1; omega, fun y hy => ?_⟩
  obtain ⟨e, he, rfl⟩ := List.mem_map.1 hy
  have := (h.2 e he).1
  omega
theorem opTP : AgT 36 12 := ⟨⟨_, Try.underlying36⟩, by kernel_rfl⟩
theorem run_build_rr (w : World) : (Instr.build 30 #[]).run Try.prog w = .ok (.agg #[.slice none 0 0]) w := by kernel_rfl

set_option maxRecDepth 100000 in
set_option maxHeartbeats 32000000 in
theorem propsPlays_walk (p1 : Option Addr) (c1 : Nat) (l1 : List WrE) (p2 : Option Addr) (c2 : Nat) (l2 : List WrE) (pp : Option Addr) (cp : Nat) (lp : List Qm.St) (w : World) (h1 : Ws w p1 l1) (_ : p1 = none → c1 = 0) (hw1 : ∀ e ∈ l1, OpWf e.w.x) (h2 : Ws w p2 l2) (_ : p2 = none → c2 = 0) (_ : ∀ e ∈ l2, OpWf e.w.x)
    (hp : Rd w pp (stCells lp)) (hpn : pp = none → cp = 0) (hpw : ∀ s ∈ lp, StWf s) (hpc : lp.length ≤ cp) :
    Calls Try.prog 3 #[.slice p1 l1.length c1, .slice p2 l2.length c2, .slice pp lp.length cp] w fun e w' => e = .returned (.bool true) ∧ Below w.heap.size w w' := by
  have HR1 := Lib.hid h1
  have HR2 := Lib.hid h2
  have HW1 := Lib.hid hw1
  have HP := Lib.hid hp
  have HPN := Lib.hid hpn
  have HPW := Lib.hid hpw
  have HPC := Lib.hid hpc
  have HLI1 := Lib.hid (light12_any p1 c1 l1 w h1)
  have HLI2 := Lib.hid (fun (W : World) (hb : Below w.heap.size w W) => light12_any p2 c2 l2 W (h2.kept hb))
  clear h1 h2 hw1 hp hpn hpw hpc
  go_enter Try.func3, Try.ntmps3
  go_wp2_with fail
  refine HLI1.out.mono ?_
  rintro e1 w1 ⟨b1, rfl, hsm, hb1⟩
  have HSMA := Lib.hid hsm
  have HB := Lib.hid hb1
  clear hsm hb1 HLI1
  cases b1 with
  | false =>
    go_wp2_with fail
    refine (knows12_any _).mono ?_
    rintro e wk ⟨rfl, hbk⟩
    replace HB := Lib.hid (HB.out.trans (hbk.mono HB.out.size))
    clear hbk
    go_wp2
    go_ret
    exact ⟨rfl, HB.out⟩
  | true =>
    have HSM1 := Lib.hid (HSMA.out rfl)
    clear HSMA
    go_wp2_with fail
    refine (HLI2.out w1 HB.out).mono ?_
    rintro e1 w2 ⟨b2, rfl, hsm, hb2⟩
    have HSMB := Lib.hid hsm
    replace HB := Lib.hid (HB.out.trans (hb2.mono HB.out.size))
    clear hsm hb2 HLI2
    cases b2 with
    | false =>
      go_wp2_with fail
      refine (knows12_any _).mono ?_
      rintro e wk ⟨rfl, hbk⟩
      replace HB := Lib.hid (HB.out.trans (hbk.mono HB.out.size))
      clear hbk
      go_wp2
      go_ret
      exact ⟨rfl, HB.out⟩
    | true =>
      have HSM2 := Lib.hid (HSMB.out rfl)
      clear HSMB
      by_cases h31 : 30 < lp.length
      · have d30 : decide (30 < (lp.length : Int)) = true := decide_eq_true (by omega)
        go_wp2_with fail
        refine (knows12_any _).mono ?_
        rintro e wk ⟨rfl, hbk⟩
        replace HB := Lib.hid (HB.out.trans (hbk.mono HB.out.size))
        clear hbk
        go_wp2
        go_ret
        exact ⟨rfl, HB.out⟩
      have h30 : lp.length ≤ 30 := by omega
      have d30 : decide (30 < (lp.length : Int)) = false := decide_eq_false (by omega)
      clear h31
      have HZ1 := Lib.hid HSM1.out.t
      have HZ2 := Lib.hid HSM2.out.t
      have hl1 : l1.length ≤ 60 := HSM1.out.1
      have hl2 : l2.length ≤ 60 := HSM2.out.1
      go_wp2_with fail
      refine (new_any w2).mono ?_
      rintro e w3 ⟨P, M1, M2, M3, rfl, hl3, hb3, g0, g1, g2, g3⟩
      have HG := Lib.hid (show w.heap.size ≤ P ∧ w.heap.size ≤ M1 ∧ w.heap.size ≤ M2 ∧ w.heap.size ≤ M3 from by have := HB.out.size; omega)
      have HL := Lib.hid hl3
      replace HB := Lib.hid (HB.out.trans (hb3.mono HB.out.size))
      clear hl3 hb3 g0 g1 g2 g3
      go_wp2_with fail
      refine (new_any w3).mono ?_
      rintro e w4 ⟨Q, N1, N2, N3, rfl, hl4, hb4, g0, g1, g2, g3⟩
      have HGN := Lib.hid (show w3.heap.size ≤ Q ∧ w3.heap.size ≤ N1 ∧ w3.heap.size ≤ N2 ∧ w3.heap.size ≤ N3 from ⟨g0, g1, g2, g3⟩)
      have HBW := Lib.hid (show w.heap.size ≤ w3.heap.size from HB.out.size)
      have HLT := Lib.hid (show P < w3.heap.size ∧ M1 < w3.heap.size ∧ M2 < w3.heap.size ∧ M3 < w3.heap.size from ⟨HL.out.box.lt, HL.out.v.lt, HL.out.m.lt, HL.out.o.lt⟩)
      replace HL := Lib.hid (HL.out.kept hb4)
      have HQ := Lib.hid hl4
      have HGL := Lib.hid (show Q < w4.heap.size ∧ N1 < w4.heap.size ∧ N2 < w4.heap.size ∧ N3 < w4.heap.size from ⟨HQ.out.box.lt, HQ.out.v.lt, HQ.out.m.lt, HQ.out.o.lt⟩)
      have HW34 := Lib.hid (show w3.heap.size ≤ w4.heap.size from hb4.size)
      replace HB := Lib.hid (HB.out.trans (hb4.mono HB.out.size))
      clear hl4 hb4 g0 g1 g2 g3
      have hrr := run_build_rr
      have HB1 := Lib.hid ((Below.refl w4.heap.size w4).alloc (Nat.le_refl _) (.cells #[.slice none 0 0] 30))
      have HB2 := Lib.hid ((Below.refl (w4.alloc (.cells #[.slice none 0 0] 30)).heap.size _).alloc (Nat.le_refl _) (.cells #[.slice none 0 0] 30))
      have HBB := Lib.hid (HB1.out.trans (HB2.out.mono HB1.out.size))
      have HSIM0 := Lib.hid (show Sim w ((w4.alloc (.cells #[.slice none 0 0] 30)).alloc (.cells #[.slice none 0 0] 30)) ⟨P, M1, M2, M3⟩ ⟨Q, N1, N2, N3⟩ w4.heap.size (w4.heap.size + 1) 0 0 (fun _ => False) [] [] [] [] from by
        have a1 := HG.out
        have a2 := HGN.out
        have a3 := HLT.out
        have a4 := HGL.out
        have a5 := HBW.out
        have a6 := HW34.out
        refine Sim.start (wa := w3) (HL.out.kept HBB.out) (HQ.out.kept HBB.out) ((AgAt.new w4 _ _).kept HB2.out) (by have := AgAt.new (w4.alloc (.cells #[.slice none 0 0] 30)) #[.slice none 0 0] 30; rwa [World.size_alloc] at this) (HB.out.trans (HBB.out.mono HB.out.size)) a1 a3 a2 a5 ⟨by omega, ?_, ?_⟩ ⟨by omega, ?_, ?_⟩ (by omega)
        · exact ⟨by show _ ≠ P; omega, by show _ ≠ M1; omega, by show _ ≠ M2; omega, by show _ ≠ M3; omega⟩
        · exact ⟨by show _ ≠ Q; omega, by show _ ≠ N1; omega, by show _ ≠ N2; omega, by show _ ≠ N3; omega⟩
        · exact ⟨by show _ ≠ P; omega, by show _ ≠ M1; omega, by show _ ≠ M2; omega, by show _ ≠ M3; omega⟩
        · exact ⟨by show _ ≠ Q; omega, by show _ ≠ N1; omega, by show _ ≠ N2; omega, by show _ ≠ N3; omega⟩)
      clear HB1 HB2 HBB HL HQ HG HGN HLT HGL HBW HW34 HB
      go_upto_region 7 with fail
      obtain ⟨m, hm⟩ : ∃ m : Blk, m = ⟨P, M1, M2, M3⟩ := ⟨_, rfl⟩
      obtain ⟨n, hn⟩ : ∃ n : Blk, n = ⟨Q, N1, N2, N3⟩ := ⟨_, rfl⟩
      have eP : P = m.P := by rw [hm]
      have eQ : Q = n.P := by rw [hn]
      rw [← hm, ← hn] at HSIM0
      subst eP eQ
      clear hm hn
      generalize hw5 : ((w4.alloc (.cells #[.slice none 0 0] 30)).alloc (.cells #[.slice none 0 0] 30)) = w5 at *
      generalize hR2 : w4.heap.size + 1 = R2 at *
      generalize hR1 : w4.heap.size = R1 at *
      clear hw5 hR2 hR1 hrr
      have HB := Lib.hid HSIM0.out.bel
      go_wp2_with fail
      refine (knows12_any _).mono ?_
      rintro e wk ⟨rfl, hbk⟩
      have HSIM := Lib.hid (HSIM0.out.kept hbk)
      clear hbk HB HSIM0
      go_wp2
      go_loopw [11] (fun i wr => ∃ k : Nat, (k ≤ l1.length ∨ k ≤ l2.length) ∧ i = .int .i64 (k : Int) ∧ Sim w wr m n R1 R2 0 0 (fun _ => False) ((pl l1).take k) ((pl l2).take k) ((pl l1).take k) ((pl l2).take k)) (fun i _ => l1.length + l2.length - (intOf i).toNat)
      case atStart => exact ⟨0, Or.inl (Nat.zero_le _), rfl, HSIM.out⟩
      case round =>
        clear HSIM
        obtain ⟨k, hk, rfl, hsim⟩ := hrel
        have HSIM := Lib.hid hsim
        clear hsim
        by_cases hlt1 : k < l1.length
        · have d1 : decide ((k : Int) < (l1.length : Int)) = true := decide_eq_true (by omega)
          obtain ⟨b1, o1, rfl, -⟩ := HR1.out.rd.addr (by rw [wrK.length]; omega)
          obtain ⟨e, he⟩ : ∃ e, l1[k]? = some e := ⟨_, List.getElem?_eq_getElem hlt1⟩
          obtain ⟨⟨⟨s1, s2⟩, x⟩, q, c⟩ := e
          have HE := Lib.hid he
          have HPE := Lib.hid (HR1.out.pa _ (List.mem_of_getElem? he))
          have HS1 := Lib.hid (HSM1.out.2 _ (List.mem_of_getElem? he))
          have HTK := Lib.hid (pl_take he)
          clear he
          have hpx : x.path.length ≤ 20 := HS1.out.1
          go_wp2_with (first | (refine wpList_exec rfl (exec_wr_op rfl rfl (HR1.out.rd.below HSIM.out.bel) HE.out) ?_) | (go_at_call 10; refine (ownG_any x q c wr (HPE.out.kept HSIM.out.bel) (by have := HS1.out.1; omega)).mono ?_; rintro e w3 ⟨q2, c2, rfl, hpa, hb3, hnw, BO, hBO, hown⟩) | (refine wpList_store_newag opTP rfl _ _ rfl rfl _ rfl rfl rfl (opA_one x q2 c2) ?_; intro w4 hv4 hb4))
          have HX := Lib.hid hv4
          have HOW4 := Lib.hid (show ∃ B xs, w4.ownsRow B 32 2 (.slice q2 x.path.length c2) x.path.length xs from ⟨BO, _, (Turns.of_below (F := fun _ => False) hb4).own hown (fun _ _ h => h)⟩)
          have HLT3 := Lib.hid (fun g (hg : (Value.slice q2 x.path.length c2).ownBlock = some g) => show wr.heap.size ≤ g ∧ g < w3.heap.size from ⟨Nat.le_trans hBO (World.ownsRow.lt hown g hg).1, (World.ownsRow.lt hown g hg).2⟩)
          have HPA := Lib.hid (hpa.kept hb4)
          have HNW := Lib.hid (fun a (ha : q2 = some a) => own_is hown ha)
          obtain ⟨O, hO⟩ : ∃ O : Nat → Prop, O = fun k => k = w3.heap.size ∨ (Value.slice q2 x.path.length c2).ownBlock = some k := ⟨_, rfl⟩
          have HO1 := Lib.hid (show O w3.heap.size from by rw [hO]; exact Or.inl rfl)
          have HO2 := Lib.hid (show ∀ g, (Value.slice q2 x.path.length c2).ownBlock = some g → O g from fun g hg => by rw [hO]; exact Or.inr hg)
          have HSIM3 := Lib.hid (HSIM.out.fresh (hb3.trans (hb4.mono hb3.size)) (O' := O) (fun k hk => by
            have h1 := hb3.size
            have h2 := HX.out.lt
            have h3 := hb4.size
            rw [hO] at hk
            rcases hk with hk | hk
            · omega
            · have h5 := HLT3.out k hk
              omega))
          clear hv4 hb3 hb4 hpa hnw hown hBO HSIM hO
          have HBS := Lib.hid (fun W (h : Turns (fun k => w.heap.size ≤ k ∧ ¬ O k) w4 W) => show Below w.heap.size w W from HSIM3.out.bel.trans (h.below (fun k _ hk => hk.1) HSIM3.out.bel.size))
          have HXS := Lib.hid (fun W (h : Turns (fun k => w.heap.size ≤ k ∧ ¬ O k) w4 W) => show AgAt W w3.heap.size (opA x q2 c2) from HX.out.turn h (fun hh => hh.2 HO1.out))
          have HPS := Lib.hid (fun W (h : Turns (fun k => w.heap.size ≤ k ∧ ¬ O k) w4 W) => show Pa W x q2 c2 from HPA.out.turn h (fun h0 a ha hh => hh.2 (HO2.out _ (HNW.out a ha))))
          have HOS := Lib.hid (fun W (h : Turns (fun k => w.heap.size ≤ k ∧ ¬ O k) w4 W) => show ∃ B xs, W.ownsRow B 32 2 (.slice q2 x.path.length c2) x.path.length xs from by
            obtain ⟨B, xs, h1⟩ := HOW4.out
            exact ⟨B, xs, h.own h1 (fun g hg hh => hh.2 (HO2.out g hg))⟩)
          go_upto_region 14 with fail
          have HSIM := Lib.hid (HSIM3.out.kept (Below.drew (Below.refl _ _)))
          refine wp_region_held_drew (S := fun W => Turns (fun k => w.heap.size ≤ k ∧ ¬ O k) w4 W) (by kernel_rfl) (Turns.of_below (Below.drew (Below.refl _ _))) (fun hS => ?_)
          refine wpAnyH_take (i := 0) (v := ?_) rfl (by kernel_rfl) (by kernel_rfl) (by kernel_rfl) (fun _ _ _ h => h) (Or.inl ⟨by kernel_rfl, ?_⟩) hS ?_
          rotate_left
          · intro W hSW
            go_simp
            all_goals with_reducible rfl
          refine wpAnyH_take (i := 1) (v := ?_) rfl (by kernel_rfl) (by kernel_rfl) (by kernel_rfl) (fun _ _ _ h => h) (Or.inl ⟨by kernel_rfl, ?_⟩) hS ?_
          rotate_left
          · intro W hSW
            go_simp
            all_goals with_reducible rfl
          refine wpAnyH_take (i := 2) (v := ?_) rfl (by kernel_rfl) (by kernel_rfl) (by kernel_rfl) (fun _ _ _ h => h) (Or.inl ⟨by kernel_rfl, ?_⟩) hS ?_
          rotate_left
          · intro W hSW
            go_simp
            all_goals with_reducible rfl
          refine wpAnyH_take (i := 3) (v := ?_) rfl (by kernel_rfl) (by kernel_rfl) (by kernel_rfl) (fun _ _ _ h => h) (Or.inl ⟨by kernel_rfl, ?_⟩) hS ?_
          rotate_left
          · intro W hSW
            go_simp
            all_goals with_reducible rfl
          go_simp
          refine wpAnyH_take (i := 4) (v := ?_) rfl (by kernel_rfl) (by kernel_rfl) (by kernel_rfl) (fun _ _ _ h => h) (Or.inl ⟨by kernel_rfl, ?_⟩) hS ?_
          rotate_left
          · intro W hSW
            go_simp
            all_goals with_reducible rfl
          go_simp
          refine wpAnyH_take (i := 5) (v := .agg #[.int .i64 s1, .int .i64 s2]) rfl (by kernel_rfl) (by kernel_rfl) (by kernel_rfl) (fun _ _ _ h => h) (Or.inl ⟨by kernel_rfl, fun W hSW => exec_wr_st rfl rfl (HR1.out.rd.below (HBS.out W hSW)) HE.out⟩) hS ?_
          go_simp
          refine wpAnyH_take (i := 6) (v := .agg (opA x q2 c2)) rfl (by kernel_rfl) (by kernel_rfl) (by kernel_rfl) (fun _ _ _ h => h) (Or.inl ⟨by kernel_rfl, fun W hSW => exec_load_ag opTP rfl rfl rfl (HXS.out W hSW)⟩) hS ?_
          refine wpAnyH_take (i := 9) (v := ?_) rfl (by kernel_rfl) (by kernel_rfl) (by kernel_rfl) (fun _ _ _ h => h) (Or.inl ⟨by kernel_rfl, ?_⟩) hS ?_
          rotate_left
          · intro W hSW
            go_simp
            all_goals with_reducible rfl
          refine wpAnyH_take (i := 10) (v := ?_) rfl (by kernel_rfl) (by kernel_rfl) (by kernel_rfl) (fun _ _ _ h => h) (Or.inl ⟨by kernel_rfl, ?_⟩) hS ?_
          rotate_left
          · intro W hSW
            go_simp
            all_goals with_reducible rfl
          refine wpAnyH_take (i := 11) (v := ?_) rfl (by kernel_rfl) (by kernel_rfl) (by kernel_rfl) (fun _ _ _ h => h) (Or.inl ⟨by kernel_rfl, ?_⟩) hS ?_
          rotate_left
          · intro W hSW
            go_simp
            all_goals with_reducible rfl
          go_simp
          refine wpAnyH_take (i := 12) (v := ?_) rfl (by kernel_rfl) (by kernel_rfl) (by kernel_rfl) (fun _ _ _ h => h) (Or.inl ⟨by kernel_rfl, ?_⟩) hS ?_
          rotate_left
          · intro W hSW
            go_simp
            all_goals with_reducible rfl
          refine wpAnyH_take (i := 13) (v := ?_) rfl (by kernel_rfl) (by kernel_rfl) (by kernel_rfl) (fun _ _ _ h => h) (Or.inl ⟨by kernel_rfl, ?_⟩) hS ?_
          rotate_left
          · intro W hSW
            go_simp
            all_goals with_reducible rfl
          go_simp
          refine wpAnyH_take (i := 14) (v := .agg #[.int .i64 s1, .int .i64 s2]) rfl (by kernel_rfl) (by kernel_rfl) (by kernel_rfl) (fun _ _ _ h => h) (Or.inl ⟨by kernel_rfl, fun W hSW => exec_wr_st rfl rfl (HR1.out.rd.below (HBS.out W hSW)) HE.out⟩) hS ?_
          refine wpAnyH_take (i := 15) (v := ?_) rfl (by kernel_rfl) (by kernel_rfl) (by kernel_rfl) (fun _ _ _ h => h) (Or.inl ⟨by kernel_rfl, ?_⟩) hS ?_
          rotate_left
          · intro W hSW
            go_simp
            all_goals with_reducible rfl
          refine wpAnyH_take (i := 16) (v := ?_) rfl (by kernel_rfl) (by kernel_rfl) (by kernel_rfl) (fun _ _ _ h => h) (Or.inl ⟨by kernel_rfl, ?_⟩) hS ?_
          rotate_left
          · intro W hSW
            go_simp
            all_goals with_reducible rfl
          refine wpAnyH_take (i := 17) (v := ?_) rfl (by kernel_rfl) (by kernel_rfl) (by kernel_rfl) (fun _ _ _ h => h) (Or.inl ⟨by kernel_rfl, ?_⟩) hS ?_
          rotate_left
          · intro W hSW
            go_simp
            all_goals with_reducible rfl
          go_simp
          refine wpAnyH_take (i := 18) (v := ?_) rfl (by kernel_rfl) (by kernel_rfl) (by kernel_rfl) (fun _ _ _ h => h) (Or.inl ⟨by kernel_rfl, ?_⟩) hS ?_
          rotate_left
          · intro W hSW
            go_simp
            all_goals with_reducible rfl
          go_simp
          refine wpAnyH_take (i := 19) (v := .agg (opA x q c)) rfl (by kernel_rfl) (by kernel_rfl) (by kernel_rfl) (fun _ _ _ h => h) (Or.inl ⟨by kernel_rfl, fun W hSW => exec_wr_op rfl rfl (HR1.out.rd.below (HBS.out W hSW)) HE.out⟩) hS ?_
          go_simp
          refine wpAnyH_ready (rs := [7]) (by kernel_rfl) (by simp) ?_
          refine AllReadyH.cons rfl (fun K hK => ?_) AllReadyH.nil
          go_simp
          go_wp2_with ((go_at_call 12; refine (HSIM.out.doA (s1, s2) x q2 c2 HS1.out.sz (HPS.out _ hS)).mono ?_; rintro e wm ⟨rfl, hsm, htm⟩))
          have HSM7 := Lib.hid hsm
          have HTM := Lib.hid (hS.trans (htm.mono fun _ _ h => Or.inl h))
          refine hK.out _ _ HTM.out (fun hS => ?_)
          clear hK K hsm htm HTM
          refine wpAnyH_ready (rs := [8]) (by kernel_rfl) (by simp) ?_
          refine AllReadyH.cons rfl (fun K hK => ?_) AllReadyH.nil
          go_simp
          go_wp2_with ((go_at_call 11; refine (num12_any _ _).mono ?_; rintro e wn ⟨rfl, rfl⟩))
          refine hK.out _ _ hS (fun hS => ?_)
          clear hK K
          refine wpAnyH_ready (rs := [20]) (by kernel_rfl) (by simp) ?_
          refine AllReadyH.cons rfl (fun K hK => ?_) AllReadyH.nil
          go_simp
          go_wp2_with ((go_at_call 13; refine (HSM7.out.rdoA (HZ1.out.take k) (s1, s2) x q c HS1.out.sz (by have := HS1.out.1; omega) (HPE.out.kept (HBS.out _ hS))).mono ?_; rintro e wd ⟨rfl, hsm, htm⟩))
          have HSM8 := Lib.hid hsm
          have HTM := Lib.hid (hS.trans (htm.mono fun _ _ h => Or.inl h))
          refine hK.out _ _ HTM.out (fun hS => ?_)
          clear hK K hsm htm HTM
          refine wpAnyH_take (i := 21) (v := .bool false) rfl (by kernel_rfl) (by kernel_rfl) (by kernel_rfl) (fun _ _ _ h => h) (Or.inl ⟨by kernel_rfl, fun W hSW => exec_neq_e rfl _ rfl rfl⟩) hS ?_
          go_simp
          refine wpAnyH_done (by kernel_rfl) ?_ _
          go_simp
          have HBX := Lib.hid (HXS.out _ hS)
          have HOW := Lib.hid (HOS.out _ hS)
          rw [← HTK.out] at HSM8
          clear hS HSIM HSM7 HSIM3 HBS HXS HPS HOS HX HOW4 HPA HPE HE HS1 HTK
          go_wp2
          go_loopw [13] (fun j wv => ∃ i : Nat, i ≤ x.path.length ∧ j = .int .i64 (i : Int) ∧ AgAt wv w3.heap.size (opA x q2 c2) ∧ (∃ B xs, wv.ownsRow B 32 2 (.slice q2 x.path.length c2) x.path.length xs) ∧ Sim w wv m n R1 R2 0 0 O ((pl l1).take (k + 1)) ((pl l2).take k) ((pl l1).take (k + 1)) ((pl l2).take k)) (fun j _ => x.path.length - (intOf j).toNat)
          case atStart => exact ⟨0, Nat.zero_le _, rfl, HBX.out, HOW.out, HSM8.out⟩
          case round =>
            clear HBX HOW HSM8
            obtain ⟨i, hi, rfl, hbx, ⟨B, xs, hown⟩, hsim⟩ := hrel
            have HBX := Lib.hid hbx
            have HSIM := Lib.hid hsim
            have y6 := hbx.cell 6
            replace y6 : wr.cell? ⟨w3.heap.size, 6, none⟩ = some (.slice q2 x.path.length c2) := y6
            clear hbx hsim
            by_cases hlt : i < x.path.length
            · have e0 : decide ((i : Int) < (x.path.length : Int)) = true := decide_eq_true (by omega)
              obtain ⟨g, rfl⟩ : ∃ g, q2 = some ⟨g, 0, none⟩ := own_some hown (by omega)
              have HXL := hown.1
              obtain ⟨u, hu⟩ : ∃ u, xs[i * 2]? = some u := ⟨_, List.getElem?_eq_getElem (by omega)⟩
              have yc : wr.cell? ⟨g, i * 2, none⟩ = some u := by rw [hown.cellAt (i * 2) (by omega)]; exact hu
              have yf : wr.frozen? ⟨g, i * 2, none⟩ = false := hown.frozenAt _
              obtain ⟨ho2, hg2⟩ := hown.stored (i * 2) (.int .i64 77)
              have hgo := HNW.out _ rfl
              have HT := Lib.hid (show Turns O wr (wr.setCell ⟨g, i * 2, none⟩ (.int .i64 77)) from (Turns.of_grown hg2).mono (fun k' _ hk' => HO2.out k' (by rw [hgo]; exact hk')))
              have HBX9 := Lib.hid (show AgAt (wr.setCell ⟨g, i * 2, none⟩ (.int .i64 77)) w3.heap.size (opA x (some ⟨g, 0, none⟩) c2) from HBX.out.turn (Turns.of_grown hg2) (fun hh => by have h1 := (HLT3.out g hgo).2; have h2 : g = w3.heap.size := Option.some.inj hh; omega))
              have HOW9 := Lib.hid (show ∃ B xs, (wr.setCell ⟨g, i * 2, none⟩ (.int .i64 77)).ownsRow B 32 2 (.slice (some ⟨g, 0, none⟩) x.path.length c2) x.path.length xs from ⟨_, _, ho2⟩)
              have HSIM9 := Lib.hid (HSIM.out.turns HT.out)
              clear hown ho2 hg2 hu HT HXL hgo
              go_wp2
              go_roundw
              case rel => exact ⟨i + 1, by omega, by go_num, HBX9.out, HOW9.out, HSIM9.out⟩
              case measure => simp [intOf]; omega
            · obtain rfl : i = x.path.length := by omega
              have e0 : decide ((x.path.length : Int) < (x.path.length : Int)) = false := decide_eq_false (by omega)
              replace HSIM := Lib.hid HSIM.out.drop
              clear HBX hown HLT3 HNW HO1 HO2
              by_cases hlt2 : k < l2.length
              · have d2 : decide ((k : Int) < (l2.length : Int)) = true := decide_eq_true (by omega)
                obtain ⟨b2, o2, rfl, -⟩ := HR2.out.rd.addr (by rw [wrK.length]; omega)
                obtain ⟨e, he⟩ : ∃ e, l2[k]? = some e := ⟨_, List.getElem?_eq_getElem hlt2⟩
                obtain ⟨⟨⟨s1, s2⟩, x⟩, q, c⟩ := e
                have HE := Lib.hid he
                have HPE := Lib.hid (HR2.out.pa _ (List.mem_of_getElem? he))
                have HS1 := Lib.hid (HSM2.out.2 _ (List.mem_of_getElem? he))
                have HTK := Lib.hid (pl_take he)
                clear he
                go_upto_region 20 with fail
                have HSIMD := Lib.hid (HSIM.out.kept (Below.drew (Below.refl _ _)))
                refine wp_region_held_drew (S := fun W => Below w.heap.size w W) (by kernel_rfl) (Below.drew HSIM.out.bel) (fun hS => ?_)
                refine wpAnyH_take (i := 0) (v := ?_) rfl (by kernel_rfl) (by kernel_rfl) (by kernel_rfl) (fun _ _ _ h => h) (Or.inl ⟨by kernel_rfl, ?_⟩) hS ?_
                rotate_left
                · intro W hSW
                  go_simp
                  all_goals with_reducible rfl
                refine wpAnyH_take (i := 1) (v := ?_) rfl (by kernel_rfl) (by kernel_rfl) (by kernel_rfl) (fun _ _ _ h => h) (Or.inl ⟨by kernel_rfl, ?_⟩) hS ?_
                rotate_left
                · intro W hSW
                  go_simp
                  all_goals with_reducible rfl
                refine wpAnyH_take (i := 2) (v := ?_) rfl (by kernel_rfl) (by kernel_rfl) (by kernel_rfl) (fun _ _ _ h => h) (Or.inl ⟨by kernel_rfl, ?_⟩) hS ?_
                rotate_left
                · intro W hSW
                  go_simp
                  all_goals with_reducible rfl
                refine wpAnyH_take (i := 3) (v := ?_) rfl (by kernel_rfl) (by kernel_rfl) (by kernel_rfl) (fun _ _ _ h => h) (Or.inl ⟨by kernel_rfl, ?_⟩) hS ?_
                rotate_left
                · intro W hSW
                  go_simp
                  all_goals with_reducible rfl
                go_simp
                refine wpAnyH_take (i := 4) (v := ?_) rfl (by kernel_rfl) (by kernel_rfl) (by kernel_rfl) (fun _ _ _ h => h) (Or.inl ⟨by kernel_rfl, ?_⟩) hS ?_
                rotate_left
                · intro W hSW
                  go_simp
                  all_goals with_reducible rfl
                refine wpAnyH_take (i := 5) (v := ?_) rfl (by kernel_rfl) (by kernel_rfl) (by kernel_rfl) (fun _ _ _ h => h) (Or.inl ⟨by kernel_rfl, ?_⟩) hS ?_
                rotate_left
                · intro W hSW
                  go_simp
                  all_goals with_reducible rfl
                refine wpAnyH_take (i := 6) (v := ?_) rfl (by kernel_rfl) (by kernel_rfl) (by kernel_rfl) (fun _ _ _ h => h) (Or.inl ⟨by kernel_rfl, ?_⟩) hS ?_
                rotate_left
                · intro W hSW
                  go_simp
                  all_goals with_reducible rfl
                refine wpAnyH_take (i := 7) (v := ?_) rfl (by kernel_rfl) (by kernel_rfl) (by kernel_rfl) (fun _ _ _ h => h) (Or.inl ⟨by kernel_rfl, ?_⟩) hS ?_
                rotate_left
                · intro W hSW
                  go_simp
                  all_goals with_reducible rfl
                go_simp
                refine wpAnyH_take (i := 8) (v := ?_) rfl (by kernel_rfl) (by kernel_rfl) (by kernel_rfl) (fun _ _ _ h => h) (Or.inl ⟨by kernel_rfl, ?_⟩) hS ?_
                rotate_left
                · intro W hSW
                  go_simp
                  all_goals with_reducible rfl
                refine wpAnyH_take (i := 9) (v := ?_) rfl (by kernel_rfl) (by kernel_rfl) (by kernel_rfl) (fun _ _ _ h => h) (Or.inl ⟨by kernel_rfl, ?_⟩) hS ?_
                rotate_left
                · intro W hSW
                  go_simp
                  all_goals with_reducible rfl
                go_simp
                refine wpAnyH_take (i := 10) (v := .agg #[.int .i64 s1, .int .i64 s2]) rfl (by kernel_rfl) (by kernel_rfl) (by kernel_rfl) (fun _ _ _ h => h) (Or.inl ⟨by kernel_rfl, fun W hSW => exec_wr_st rfl rfl (HR2.out.rd.below hSW) HE.out⟩) hS ?_
                refine wpAnyH_take (i := 11) (v := ?_) rfl (by kernel_rfl) (by kernel_rfl) (by kernel_rfl) (fun _ _ _ h => h) (Or.inl ⟨by kernel_rfl, ?_⟩) hS ?_
                rotate_left
                · intro W hSW
                  go_simp
                  all_goals with_reducible rfl
                refine wpAnyH_take (i := 12) (v := ?_) rfl (by kernel_rfl) (by kernel_rfl) (by kernel_rfl) (fun _ _ _ h => h) (Or.inl ⟨by kernel_rfl, ?_⟩) hS ?_
                rotate_left
                · intro W hSW
                  go_simp
                  all_goals with_reducible rfl
                refine wpAnyH_take (i := 13) (v := ?_) rfl (by kernel_rfl) (by kernel_rfl) (by kernel_rfl) (fun _ _ _ h => h) (Or.inl ⟨by kernel_rfl, ?_⟩) hS ?_
                rotate_left
                · intro W hSW
                  go_simp
                  all_goals with_reducible rfl
                go_simp
                refine wpAnyH_take (i := 14) (v := ?_) rfl (by kernel_rfl) (by kernel_rfl) (by kernel_rfl) (fun _ _ _ h => h) (Or.inl ⟨by kernel_rfl, ?_⟩) hS ?_
                rotate_left
                · intro W hSW
                  go_simp
                  all_goals with_reducible rfl
                go_simp
                refine wpAnyH_take (i := 15) (v := .agg (opA x q c)) rfl (by kernel_rfl) (by kernel_rfl) (by kernel_rfl) (fun _ _ _ h => h) (Or.inl ⟨by kernel_rfl, fun W hSW => exec_wr_op rfl rfl (HR2.out.rd.below hSW) HE.out⟩) hS ?_
                refine wpAnyH_take (i := 19) (v := ?_) rfl (by kernel_rfl) (by kernel_rfl) (by kernel_rfl) (fun _ _ _ h => h) (Or.inl ⟨by kernel_rfl, ?_⟩) hS ?_
                rotate_left
                · intro W hSW
                  go_simp
                  all_goals with_reducible rfl
                refine wpAnyH_take (i := 20) (v := ?_) rfl (by kernel_rfl) (by kernel_rfl) (by kernel_rfl) (fun _ _ _ h => h) (Or.inl ⟨by kernel_rfl, ?_⟩) hS ?_
                rotate_left
                · intro W hSW
                  go_simp
                  all_goals with_reducible rfl
                refine wpAnyH_take (i := 21) (v := ?_) rfl (by kernel_rfl) (by kernel_rfl) (by kernel_rfl) (fun _ _ _ h => h) (Or.inl ⟨by kernel_rfl, ?_⟩) hS ?_
                rotate_left
                · intro W hSW
                  go_simp
                  all_goals with_reducible rfl
                go_simp
                refine wpAnyH_take (i := 22) (v := ?_) rfl (by kernel_rfl) (by kernel_rfl) (by kernel_rfl) (fun _ _ _ h => h) (Or.inl ⟨by kernel_rfl, ?_⟩) hS ?_
                rotate_left
                · intro W hSW
                  go_simp
                  all_goals with_reducible rfl
                refine wpAnyH_take (i := 23) (v := ?_) rfl (by kernel_rfl) (by kernel_rfl) (by kernel_rfl) (fun _ _ _ h => h) (Or.inl ⟨by kernel_rfl, ?_⟩) hS ?_
                rotate_left
                · intro W hSW
                  go_simp
                  all_goals with_reducible rfl
                go_simp
                refine wpAnyH_take (i := 24) (v := .agg #[.int .i64 s1, .int .i64 s2]) rfl (by kernel_rfl) (by kernel_rfl) (by kernel_rfl) (fun _ _ _ h => h) (Or.inl ⟨by kernel_rfl, fun W hSW => exec_wr_st rfl rfl (HR2.out.rd.below hSW) HE.out⟩) hS ?_
                refine wpAnyH_take (i := 25) (v := ?_) rfl (by kernel_rfl) (by kernel_rfl) (by kernel_rfl) (fun _ _ _ h => h) (Or.inl ⟨by kernel_rfl, ?_⟩) hS ?_
                rotate_left
                · intro W hSW
                  go_simp
                  all_goals with_reducible rfl
                refine wpAnyH_take (i := 26) (v := ?_) rfl (by kernel_rfl) (by kernel_rfl) (by kernel_rfl) (fun _ _ _ h => h) (Or.inl ⟨by kernel_rfl, ?_⟩) hS ?_
                rotate_left
                · intro W hSW
                  go_simp
                  all_goals with_reducible rfl
                refine wpAnyH_take (i := 27) (v := ?_) rfl (by kernel_rfl) (by kernel_rfl) (by kernel_rfl) (fun _ _ _ h => h) (Or.inl ⟨by kernel_rfl, ?_⟩) hS ?_
                rotate_left
                · intro W hSW
                  go_simp
                  all_goals with_reducible rfl
                go_simp
                refine wpAnyH_take (i := 28) (v := ?_) rfl (by kernel_rfl) (by kernel_rfl) (by kernel_rfl) (fun _ _ _ h => h) (Or.inl ⟨by kernel_rfl, ?_⟩) hS ?_
                rotate_left
                · intro W hSW
                  go_simp
                  all_goals with_reducible rfl
                go_simp
                refine wpAnyH_take (i := 29) (v := .agg (opA x q c)) rfl (by kernel_rfl) (by kernel_rfl) (by kernel_rfl) (fun _ _ _ h => h) (Or.inl ⟨by kernel_rfl, fun W hSW => exec_wr_op rfl rfl (HR2.out.rd.below hSW) HE.out⟩) hS ?_
                go_simp
                refine wpAnyH_ready (rs := [16]) (by kernel_rfl) (by simp) ?_
                refine AllReadyH.cons rfl (fun K hK => ?_) AllReadyH.nil
                go_simp
                go_wp2_with ((go_at_call 10; refine (ownN_any x q c _ (HPE.out.kept hS) (by have := HS1.out.1; omega)).mono ?_; rintro e wn ⟨q2, c2, rfl, hpa, hbn, -⟩))
                have HSM6 := Lib.hid (HSIMD.out.kept hbn)
                have HPO := Lib.hid hpa
                refine hK.out _ _ (hS.trans (hbn.mono hS.size)) (fun hS => ?_)
                clear hK K hpa hbn
                refine wpAnyH_ready (rs := [17]) (by kernel_rfl) (by simp) ?_
                refine AllReadyH.cons rfl (fun K hK => ?_) AllReadyH.nil
                go_simp
                go_wp2_with ((go_at_call 12; refine (HSM6.out.doB (s1, s2) x q2 c2 HS1.out.sz HPO.out).mono ?_; rintro e wm ⟨rfl, hsm, htm⟩))
                have HSM7 := Lib.hid hsm
                refine hK.out _ _ hsm.bel (fun hS => ?_)
                clear hK K hsm htm
                refine wpAnyH_ready (rs := [18]) (by kernel_rfl) (by simp) ?_
                refine AllReadyH.cons rfl (fun K hK => ?_) AllReadyH.nil
                go_simp
                go_wp2_with ((go_at_call 11; refine (num12_any _ _).mono ?_; rintro e wn ⟨rfl, rfl⟩))
                refine hK.out _ _ hS (fun hS => ?_)
                clear hK K
                refine wpAnyH_ready (rs := [30]) (by kernel_rfl) (by simp) ?_
                refine AllReadyH.cons rfl (fun K hK => ?_) AllReadyH.nil
                go_simp
                go_wp2_with ((go_at_call 13; refine (HSM7.out.rdoB (HZ2.out.take k) (s1, s2) x q c HS1.out.sz (by have := HS1.out.1; omega) (HPE.out.kept hS)).mono ?_; rintro e wd ⟨rfl, hsm, htm⟩))
                have HSM8 := Lib.hid hsm
                refine hK.out _ _ hsm.bel (fun hS => ?_)
                clear hK K hsm htm
                refine wpAnyH_take (i := 31) (v := .bool false) rfl (by kernel_rfl) (by kernel_rfl) (by kernel_rfl) (fun _ _ _ h => h) (Or.inl ⟨by kernel_rfl, fun W hSW => exec_neq_e rfl _ rfl rfl⟩) hS ?_
                refine wpAnyH_take (i := 32) (v := ?_) rfl (by kernel_rfl) (by kernel_rfl) (by kernel_rfl) (fun _ _ _ h => h) (Or.inl ⟨by kernel_rfl, ?_⟩) hS ?_
                rotate_left
                · intro W hSW
                  go_simp
                  all_goals with_reducible rfl
                go_simp
                refine wpAnyH_done (by kernel_rfl) ?_ _
                go_simp
                clear hS HSIM HSIMD HSM6 HSM7
                rw [← HTK.out] at HSM8
                have HEND := Lib.hid HSM8.out.drop
                clear HSM8
                go_wp2
                go_roundw
                case rel => exact ⟨k + 1, by omega, by go_num, HEND.out⟩
                case measure => simp [intOf]; omega
              · have d2 : decide ((k : Int) < (l2.length : Int)) = false := decide_eq_false (by omega)
                have HTK2 := Lib.hid (show (pl l2).take (k + 1) = (pl l2).take k from take_over (by omega))
                go_upto_region 20 with fail
                have HSIMD := Lib.hid (HSIM.out.kept (Below.drew (Below.refl _ _)))
                refine wp_region_held_drew (S := fun W => Below w.heap.size w W) (by kernel_rfl) (Below.drew HSIM.out.bel) (fun hS => ?_)
                refine wpAnyH_take (i := 0) (v := ?_) rfl (by kernel_rfl) (by kernel_rfl) (by kernel_rfl) (fun _ _ _ h => h) (Or.inl ⟨by kernel_rfl, ?_⟩) hS ?_
                rotate_left
                · intro W hSW
                  go_simp
                  all_goals with_reducible rfl
                refine wpAnyH_take (i := 1) (v := ?_) rfl (by kernel_rfl) (by kernel_rfl) (by kernel_rfl) (fun _ _ _ h => h) (Or.inl ⟨by kernel_rfl, ?_⟩) hS ?_
                rotate_left
                · intro W hSW
                  go_simp
                  all_goals with_reducible rfl
                refine wpAnyH_take (i := 2) (v := ?_) rfl (by kernel_rfl) (by kernel_rfl) (by kernel_rfl) (fun _ _ _ h => h) (Or.inl ⟨by kernel_rfl, ?_⟩) hS ?_
                rotate_left
                · intro W hSW
                  go_simp
                  all_goals with_reducible rfl
                refine wpAnyH_take (i := 3) (v := ?_) rfl (by kernel_rfl) (by kernel_rfl) (by kernel_rfl) (fun _ _ _ h => h) (Or.inl ⟨by kernel_rfl, ?_⟩) hS ?_
                rotate_left
                · intro W hSW
                  go_simp
                  all_goals with_reducible rfl
                go_simp
                refine wpAnyH_take (i := 4) (v := ?_) rfl (by kernel_rfl) (by kernel_rfl) (by kernel_rfl) (fun _ _ _ h => h) (Or.inl ⟨by kernel_rfl, ?_⟩) hS ?_
                rotate_left
                · intro W hSW
                  go_simp
                  all_goals with_reducible rfl
                go_simp
                refine wpAnyH_take (i := 5) (v := undef) rfl (by kernel_rfl) (by kernel_rfl) (by kernel_rfl) (fun _ _ _ h => h) (Or.inr ⟨by kernel_rfl, rfl⟩) hS ?_
                go_simp
                refine wpAnyH_take (i := 6) (v := undef) rfl (by kernel_rfl) (by kernel_rfl) (by kernel_rfl) (fun _ _ _ h => h) (Or.inr ⟨by kernel_rfl, rfl⟩) hS ?_
                go_simp
                refine wpAnyH_take (i := 7) (v := undef) rfl (by kernel_rfl) (by kernel_rfl) (by kernel_rfl) (fun _ _ _ h => h) (Or.inr ⟨by kernel_rfl, rfl⟩) hS ?_
                go_simp
                refine wpAnyH_take (i := 8) (v := undef) rfl (by kernel_rfl) (by kernel_rfl) (by kernel_rfl) (fun _ _ _ h => h) (Or.inr ⟨by kernel_rfl, rfl⟩) hS ?_
                go_simp
                refine wpAnyH_take (i := 9) (v := undef) rfl (by kernel_rfl) (by kernel_rfl) (by kernel_rfl) (fun _ _ _ h => h) (Or.inr ⟨by kernel_rfl, rfl⟩) hS ?_
                go_simp
                refine wpAnyH_take (i := 10) (v := undef) rfl (by kernel_rfl) (by kernel_rfl) (by kernel_rfl) (fun _ _ _ h => h) (Or.inr ⟨by kernel_rfl, rfl⟩) hS ?_
                go_simp
                refine wpAnyH_take (i := 11) (v := undef) rfl (by kernel_rfl) (by kernel_rfl) (by kernel_rfl) (fun _ _ _ h => h) (Or.inr ⟨by kernel_rfl, rfl⟩) hS ?_
                go_simp
                refine wpAnyH_take (i := 12) (v := undef) rfl (by kernel_rfl) (by kernel_rfl) (by kernel_rfl) (fun _ _ _ h => h) (Or.inr ⟨by kernel_rfl, rfl⟩) hS ?_
                go_simp
                refine wpAnyH_take (i := 13) (v := undef) rfl (by kernel_rfl) (by kernel_rfl) (by kernel_rfl) (fun _ _ _ h => h) (Or.inr ⟨by kernel_rfl, rfl⟩) hS ?_
                go_simp
                refine wpAnyH_take (i := 14) (v := undef) rfl (by kernel_rfl) (by kernel_rfl) (by kernel_rfl) (fun _ _ _ h => h) (Or.inr ⟨by kernel_rfl, rfl⟩) hS ?_
                go_simp
                refine wpAnyH_take (i := 15) (v := undef) rfl (by kernel_rfl) (by kernel_rfl) (by kernel_rfl) (fun _ _ _ h => h) (Or.inr ⟨by kernel_rfl, rfl⟩) hS ?_
                go_simp
                refine wpAnyH_take (i := 16) (v := undef) rfl (by kernel_rfl) (by kernel_rfl) (by kernel_rfl) (fun _ _ _ h => h) (Or.inr ⟨by kernel_rfl, rfl⟩) hS ?_
                go_simp
                refine wpAnyH_take (i := 17) (v := undef) rfl (by kernel_rfl) (by kernel_rfl) (by kernel_rfl) (fun _ _ _ h => h) (Or.inr ⟨by kernel_rfl, rfl⟩) hS ?_
                go_simp
                refine wpAnyH_take (i := 18) (v := undef) rfl (by kernel_rfl) (by kernel_rfl) (by kernel_rfl) (fun _ _ _ h => h) (Or.inr ⟨by kernel_rfl, rfl⟩) hS ?_
                go_simp
                refine wpAnyH_take (i := 19) (v := undef) rfl (by kernel_rfl) (by kernel_rfl) (by kernel_rfl) (fun _ _ _ h => h) (Or.inr ⟨by kernel_rfl, rfl⟩) hS ?_
                go_simp
                refine wpAnyH_take (i := 20) (v := undef) rfl (by kernel_rfl) (by kernel_rfl) (by kernel_rfl) (fun _ _ _ h => h) (Or.inr ⟨by kernel_rfl, rfl⟩) hS ?_
                go_simp
                refine wpAnyH_take (i := 21) (v := undef) rfl (by kernel_rfl) (by kernel_rfl) (by kernel_rfl) (fun _ _ _ h => h) (Or.inr ⟨by kernel_rfl, rfl⟩) hS ?_
                go_simp
                refine wpAnyH_take (i := 22) (v := undef) rfl (by kernel_rfl) (by kernel_rfl) (by kernel_rfl) (fun _ _ _ h => h) (Or.inr ⟨by kernel_rfl, rfl⟩) hS ?_
                go_simp
                refine wpAnyH_take (i := 23) (v := undef) rfl (by kernel_rfl) (by kernel_rfl) (by kernel_rfl) (fun _ _ _ h => h) (Or.inr ⟨by kernel_rfl, rfl⟩) hS ?_
                go_simp
                refine wpAnyH_take (i := 24) (v := undef) rfl (by kernel_rfl) (by kernel_rfl) (by kernel_rfl) (fun _ _ _ h => h) (Or.inr ⟨by kernel_rfl, rfl⟩) hS ?_
                go_simp
                refine wpAnyH_take (i := 25) (v := undef) rfl (by kernel_rfl) (by kernel_rfl) (by kernel_rfl) (fun _ _ _ h => h) (Or.inr ⟨by kernel_rfl, rfl⟩) hS ?_
                go_simp
                refine wpAnyH_take (i := 26) (v := undef) rfl (by kernel_rfl) (by kernel_rfl) (by kernel_rfl) (fun _ _ _ h => h) (Or.inr ⟨by kernel_rfl, rfl⟩) hS ?_
                go_simp
                refine wpAnyH_take (i := 27) (v := undef) rfl (by kernel_rfl) (by kernel_rfl) (by kernel_rfl) (fun _ _ _ h => h) (Or.inr ⟨by kernel_rfl, rfl⟩) hS ?_
                go_simp
                refine wpAnyH_take (i := 28) (v := undef) rfl (by kernel_rfl) (by kernel_rfl) (by kernel_rfl) (fun _ _ _ h => h) (Or.inr ⟨by kernel_rfl, rfl⟩) hS ?_
                go_simp
                refine wpAnyH_take (i := 29) (v := undef) rfl (by kernel_rfl) (by kernel_rfl) (by kernel_rfl) (fun _ _ _ h => h) (Or.inr ⟨by kernel_rfl, rfl⟩) hS ?_
                go_simp
                refine wpAnyH_take (i := 30) (v := undef) rfl (by kernel_rfl) (by kernel_rfl) (by kernel_rfl) (fun _ _ _ h => h) (Or.inr ⟨by kernel_rfl, rfl⟩) hS ?_
                go_simp
                refine wpAnyH_take (i := 31) (v := undef) rfl (by kernel_rfl) (by kernel_rfl) (by kernel_rfl) (fun _ _ _ h => h) (Or.inr ⟨by kernel_rfl, rfl⟩) hS ?_
                refine wpAnyH_take (i := 32) (v := ?_) rfl (by kernel_rfl) (by kernel_rfl) (by kernel_rfl) (fun _ _ _ h => h) (Or.inl ⟨by kernel_rfl, ?_⟩) hS ?_
                rotate_left
                · intro W hSW
                  go_simp
                  all_goals with_reducible rfl
                go_simp
                refine wpAnyH_done (by kernel_rfl) ?_ _
                go_simp
                clear hS
                rw [← HTK2.out] at HSIMD
                have HEND := Lib.hid HSIMD.out.drop
                clear HSIMD
                go_wp2
                go_roundw
                case rel => exact ⟨k + 1, by omega, by go_num, HEND.out⟩
                case measure => simp [intOf]; omega
        · have d1 : decide ((k : Int) < (l1.length : Int)) = false := decide_eq_false (by omega)
          by_cases hlt2 : k < l2.length
          · have d2 : decide ((k : Int) < (l2.length : Int)) = true := decide_eq_true (by omega)
            have HTK1 := Lib.hid (show (pl l1).take (k + 1) = (pl l1).take k from take_over (by omega))
            rw [← HTK1.out] at HSIM
            obtain ⟨b2, o2, rfl, -⟩ := HR2.out.rd.addr (by rw [wrK.length]; omega)
            obtain ⟨e, he⟩ : ∃ e, l2[k]? = some e := ⟨_, List.getElem?_eq_getElem hlt2⟩
            obtain ⟨⟨⟨s1, s2⟩, x⟩, q, c⟩ := e
            have HE := Lib.hid he
            have HPE := Lib.hid (HR2.out.pa _ (List.mem_of_getElem? he))
            have HS1 := Lib.hid (HSM2.out.2 _ (List.mem_of_getElem? he))
            have HTK := Lib.hid (pl_take he)
            clear he
            go_upto_region 20 with fail
            have HSIMD := Lib.hid (HSIM.out.kept (Below.drew (Below.refl _ _)))
            refine wp_region_held_drew (S := fun W => Below w.heap.size w W) (by kernel_rfl) (Below.drew HSIM.out.bel) (fun hS => ?_)
            refine wpAnyH_take (i := 0) (v := ?_) rfl (by kernel_rfl) (by kernel_rfl) (by kernel_rfl) (fun _ _ _ h => h) (Or.inl ⟨by kernel_rfl, ?_⟩) hS ?_
            rotate_left
            · intro W hSW
              go_simp
              all_goals with_reducible rfl
            refine wpAnyH_take (i := 1) (v := ?_) rfl (by kernel_rfl) (by kernel_rfl) (by kernel_rfl) (fun _ _ _ h => h) (Or.inl ⟨by kernel_rfl, ?_⟩) hS ?_
            rotate_left
            · intro W hSW
              go_simp
              all_goals with_reducible rfl
            refine wpAnyH_take (i := 2) (v := ?_) rfl (by kernel_rfl) (by kernel_rfl) (by kernel_rfl) (fun _ _ _ h => h) (Or.inl ⟨by kernel_rfl, ?_⟩) hS ?_
            rotate_left
            · intro W hSW
              go_simp
              all_goals with_reducible rfl
            refine wpAnyH_take (i := 3) (v := ?_) rfl (by kernel_rfl) (by kernel_rfl) (by kernel_rfl) (fun _ _ _ h => h) (Or.inl ⟨by kernel_rfl, ?_⟩) hS ?_
            rotate_left
            · intro W hSW
              go_simp
              all_goals with_reducible rfl
            go_simp
            refine wpAnyH_take (i := 4) (v := ?_) rfl (by kernel_rfl) (by kernel_rfl) (by kernel_rfl) (fun _ _ _ h => h) (Or.inl ⟨by kernel_rfl, ?_⟩) hS ?_
            rotate_left
            · intro W hSW
              go_simp
              all_goals with_reducible rfl
            refine wpAnyH_take (i := 5) (v := ?_) rfl (by kernel_rfl) (by kernel_rfl) (by kernel_rfl) (fun _ _ _ h => h) (Or.inl ⟨by kernel_rfl, ?_⟩) hS ?_
            rotate_left
            · intro W hSW
              go_simp
              all_goals with_reducible rfl
            refine wpAnyH_take (i := 6) (v := ?_) rfl (by kernel_rfl) (by kernel_rfl) (by kernel_rfl) (fun _ _ _ h => h) (Or.inl ⟨by kernel_rfl, ?_⟩) hS ?_
            rotate_left
            · intro W hSW
              go_simp
              all_goals with_reducible rfl
            refine wpAnyH_take (i := 7) (v := ?_) rfl (by kernel_rfl) (by kernel_rfl) (by kernel_rfl) (fun _ _ _ h => h) (Or.inl ⟨by kernel_rfl, ?_⟩) hS ?_
            rotate_left
            · intro W hSW
              go_simp
              all_goals with_reducible rfl
            go_simp
            refine wpAnyH_take (i := 8) (v := ?_) rfl (by kernel_rfl) (by kernel_rfl) (by kernel_rfl) (fun _ _ _ h => h) (Or.inl ⟨by kernel_rfl, ?_⟩) hS ?_
            rotate_left
            · intro W hSW
              go_simp
              all_goals with_reducible rfl
            refine wpAnyH_take (i := 9) (v := ?_) rfl (by kernel_rfl) (by kernel_rfl) (by kernel_rfl) (fun _ _ _ h => h) (Or.inl ⟨by kernel_rfl, ?_⟩) hS ?_
            rotate_left
            · intro W hSW
              go_simp
              all_goals with_reducible rfl
            go_simp
            refine wpAnyH_take (i := 10) (v := .agg #[.int .i64 s1, .int .i64 s2]) rfl (by kernel_rfl) (by kernel_rfl) (by kernel_rfl) (fun _ _ _ h => h) (Or.inl ⟨by kernel_rfl, fun W hSW => exec_wr_st rfl rfl (HR2.out.rd.below hSW) HE.out⟩) hS ?_
            refine wpAnyH_take (i := 11) (v := ?_) rfl (by kernel_rfl) (by kernel_rfl) (by kernel_rfl) (fun _ _ _ h => h) (Or.inl ⟨by kernel_rfl, ?_⟩) hS ?_
            rotate_left
            · intro W hSW
              go_simp
              all_goals with_reducible rfl
            refine wpAnyH_take (i := 12) (v := ?_) rfl (by kernel_rfl) (by kernel_rfl) (by kernel_rfl) (fun _ _ _ h => h) (Or.inl ⟨by kernel_rfl, ?_⟩) hS ?_
            rotate_left
            · intro W hSW
              go_simp
              all_goals with_reducible rfl
            refine wpAnyH_take (i := 13) (v := ?_) rfl (by kernel_rfl) (by kernel_rfl) (by kernel_rfl) (fun _ _ _ h => h) (Or.inl ⟨by kernel_rfl, ?_⟩) hS ?_
            rotate_left
            · intro W hSW
              go_simp
              all_goals with_reducible rfl
            go_simp
            refine wpAnyH_take (i := 14) (v := ?_) rfl (by kernel_rfl) (by kernel_rfl) (by kernel_rfl) (fun _ _ _ h => h) (Or.inl ⟨by kernel_rfl, ?_⟩) hS ?_
            rotate_left
            · intro W hSW
              go_simp
              all_goals with_reducible rfl
            go_simp
            refine wpAnyH_take (i := 15) (v := .agg (opA x q c)) rfl (by kernel_rfl) (by kernel_rfl) (by kernel_rfl) (fun _ _ _ h => h) (Or.inl ⟨by kernel_rfl, fun W hSW => exec_wr_op rfl rfl (HR2.out.rd.below hSW) HE.out⟩) hS ?_
            refine wpAnyH_take (i := 19) (v := ?_) rfl (by kernel_rfl) (by kernel_rfl) (by kernel_rfl) (fun _ _ _ h => h) (Or.inl ⟨by kernel_rfl, ?_⟩) hS ?_
            rotate_left
            · intro W hSW
              go_simp
              all_goals with_reducible rfl
            refine wpAnyH_take (i := 20) (v := ?_) rfl (by kernel_rfl) (by kernel_rfl) (by kernel_rfl) (fun _ _ _ h => h) (Or.inl ⟨by kernel_rfl, ?_⟩) hS ?_
            rotate_left
            · intro W hSW
              go_simp
              all_goals with_reducible rfl
            refine wpAnyH_take (i := 21) (v := ?_) rfl (by kernel_rfl) (by kernel_rfl) (by kernel_rfl) (fun _ _ _ h => h) (Or.inl ⟨by kernel_rfl, ?_⟩) hS ?_
            rotate_left
            · intro W hSW
              go_simp
              all_goals with_reducible rfl
            go_simp
            refine wpAnyH_take (i := 22) (v := ?_) rfl (by kernel_rfl) (by kernel_rfl) (by kernel_rfl) (fun _ _ _ h => h) (Or.inl ⟨by kernel_rfl, ?_⟩) hS ?_
            rotate_left
            · intro W hSW
              go_simp
              all_goals with_reducible rfl
            refine wpAnyH_take (i := 23) (v := ?_) rfl (by kernel_rfl) (by kernel_rfl) (by kernel_rfl) (fun _ _ _ h => h) (Or.inl ⟨by kernel_rfl, ?_⟩) hS ?_
            rotate_left
            · intro W hSW
              go_simp
              all_goals with_reducible rfl
            go_simp
            refine wpAnyH_take (i := 24) (v := .agg #[.int .i64 s1, .int .i64 s2]) rfl (by kernel_rfl) (by kernel_rfl) (by kernel_rfl) (fun _ _ _ h => h) (Or.inl ⟨by kernel_rfl, fun W hSW => exec_wr_st rfl rfl (HR2.out.rd.below hSW) HE.out⟩) hS ?_
            refine wpAnyH_take (i := 25) (v := ?_) rfl (by kernel_rfl) (by kernel_rfl) (by kernel_rfl) (fun _ _ _ h => h) (Or.inl ⟨by kernel_rfl, ?_⟩) hS ?_
            rotate_left
            · intro W hSW
              go_simp
              all_goals with_reducible rfl
            refine wpAnyH_take (i := 26) (v := ?_) rfl (by kernel_rfl) (by kernel_rfl) (by kernel_rfl) (fun _ _ _ h => h) (Or.inl ⟨by kernel_rfl, ?_⟩) hS ?_
            rotate_left
            · intro W hSW
              go_simp
              all_goals with_reducible rfl
            refine wpAnyH_take (i := 27) (v := ?_) rfl (by kernel_rfl) (by kernel_rfl) (by kernel_rfl) (fun _ _ _ h => h) (Or.inl ⟨by kernel_rfl, ?_⟩) hS ?_
            rotate_left
            · intro W hSW
              go_simp
              all_goals with_reducible rfl
            go_simp
            refine wpAnyH_take (i := 28) (v := ?_) rfl (by kernel_rfl) (by kernel_rfl) (by kernel_rfl) (fun _ _ _ h => h) (Or.inl ⟨by kernel_rfl, ?_⟩) hS ?_
            rotate_left
            · intro W hSW
              go_simp
              all_goals with_reducible rfl
            go_simp
            refine wpAnyH_take (i := 29) (v := .agg (opA x q c)) rfl (by kernel_rfl) (by kernel_rfl) (by kernel_rfl) (fun _ _ _ h => h) (Or.inl ⟨by kernel_rfl, fun W hSW => exec_wr_op rfl rfl (HR2.out.rd.below hSW) HE.out⟩) hS ?_
            go_simp
            refine wpAnyH_ready (rs := [16]) (by kernel_rfl) (by simp) ?_
            refine AllReadyH.cons rfl (fun K hK => ?_) AllReadyH.nil
            go_simp
            go_wp2_with ((go_at_call 10; refine (ownN_any x q c _ (HPE.out.kept hS) (by have := HS1.out.1; omega)).mono ?_; rintro e wn ⟨q2, c2, rfl, hpa, hbn, -⟩))
            have HSM6 := Lib.hid (HSIMD.out.kept hbn)
            have HPO := Lib.hid hpa
            refine hK.out _ _ (hS.trans (hbn.mono hS.size)) (fun hS => ?_)
            clear hK K hpa hbn
            refine wpAnyH_ready (rs := [17]) (by kernel_rfl) (by simp) ?_
            refine AllReadyH.cons rfl (fun K hK => ?_) AllReadyH.nil
            go_simp
            go_wp2_with ((go_at_call 12; refine (HSM6.out.doB (s1, s2) x q2 c2 HS1.out.sz HPO.out).mono ?_; rintro e wm ⟨rfl, hsm, htm⟩))
            have HSM7 := Lib.hid hsm
            refine hK.out _ _ hsm.bel (fun hS => ?_)
            clear hK K hsm htm
            refine wpAnyH_ready (rs := [18]) (by kernel_rfl) (by simp) ?_
            refine AllReadyH.cons rfl (fun K hK => ?_) AllReadyH.nil
            go_simp
            go_wp2_with ((go_at_call 11; refine (num12_any _ _).mono ?_; rintro e wn ⟨rfl, rfl⟩))
            refine hK.out _ _ hS (fun hS => ?_)
            clear hK K
            refine wpAnyH_ready (rs := [30]) (by kernel_rfl) (by simp) ?_
            refine AllReadyH.cons rfl (fun K hK => ?_) AllReadyH.nil
            go_simp
            go_wp2_with ((go_at_call 13; refine (HSM7.out.rdoB (HZ2.out.take k) (s1, s2) x q c HS1.out.sz (by have := HS1.out.1; omega) (HPE.out.kept hS)).mono ?_; rintro e wd ⟨rfl, hsm, htm⟩))
            have HSM8 := Lib.hid hsm
            refine hK.out _ _ hsm.bel (fun hS => ?_)
            clear hK K hsm htm
            refine wpAnyH_take (i := 31) (v := .bool false) rfl (by kernel_rfl) (by kernel_rfl) (by kernel_rfl) (fun _ _ _ h => h) (Or.inl ⟨by kernel_rfl, fun W hSW => exec_neq_e rfl _ rfl rfl⟩) hS ?_
            refine wpAnyH_take (i := 32) (v := ?_) rfl (by kernel_rfl) (by kernel_rfl) (by kernel_rfl) (fun _ _ _ h => h) (Or.inl ⟨by kernel_rfl, ?_⟩) hS ?_
            rotate_left
            · intro W hSW
              go_simp
              all_goals with_reducible rfl
            go_simp
            refine wpAnyH_done (by kernel_rfl) ?_ _
            go_simp
            clear hS HSIM HSIMD HSM6 HSM7
            rw [← HTK.out] at HSM8
            have HEND := Lib.hid HSM8.out.drop
            clear HSM8
            go_wp2
            go_roundw
            case rel => exact ⟨k + 1, by omega, by go_num, HEND.out⟩
            case measure => simp [intOf]; omega
          · have d2 : decide ((k : Int) < (l2.length : Int)) = false := decide_eq_false (by omega)
            have e1 : (pl l1).take k = pl l1 := take_all (by omega)
            have e2 : (pl l2).take k = pl l2 := take_all (by omega)
            rw [e1, e2] at HSIM
            clear e1 e2 d1 d2
            go_wp2
            go_loopw [14] (fun i wr => ∃ k : Nat, k ≤ l1.length ∧ i = .int .i64 (k : Int) ∧ Sim w wr m n R1 R2 0 0 (fun _ => False) (pl l1) (pl l2) (pl l1) (pl l2)) (fun i _ => l1.length - (intOf i).toNat)
            case atStart => exact ⟨0, Nat.zero_le _, rfl, HSIM.out⟩
            case round =>
              clear HSIM
              obtain ⟨k, hk, rfl, hsim⟩ := hrel
              have HSIM := Lib.hid hsim
              clear hsim
              by_cases hlt1 : k < l1.length
              · have d1 : decide ((k : Int) < (l1.length : Int)) = true := decide_eq_true (by omega)
                obtain ⟨b1, o1, rfl, -⟩ := HR1.out.rd.addr (by rw [wrK.length]; omega)
                obtain ⟨e, he⟩ : ∃ e, l1[k]? = some e := ⟨_, List.getElem?_eq_getElem hlt1⟩
                obtain ⟨⟨⟨s1, s2⟩, x⟩, q, c⟩ := e
                have HE := Lib.hid he
                have HPE := Lib.hid (HR1.out.pa _ (List.mem_of_getElem? he))
                have HS1 := Lib.hid (HSM1.out.2 _ (List.mem_of_getElem? he))
                have HWX := Lib.hid (HW1.out _ (List.mem_of_getElem? he))
                clear he
                go_upto_region 26 with (first | (refine wpList_exec rfl (exec_wr_op rfl rfl (HR1.out.rd.below HSIM.out.bel) HE.out) ?_) | (refine wpList_store_newag opT12 rfl _ _ rfl rfl _ rfl rfl rfl (opA_one x q c) ?_; intro w4 hv4 hb4))
                have hpx : x.path.length ≤ 20 := HS1.out.1
                obtain ⟨wo, hwo⟩ : ∃ wo, wo = w4 := ⟨_, rfl⟩
                subst hwo
                have HX := Lib.hid (show AgAt wo wr.heap.size (opA x q c) from hv4)
                have HSO := Lib.hid (HSIM.out.kept hb4)
                have HPXD := Lib.hid ((HPE.out.kept HSIM.out.bel).kept hb4)
                have HPLD := Lib.hid (HP.out.below HSO.out.bel)
                have HKX := Lib.hid (wfO (n := (x.nt, x.nr)) (l := x.path) (p := x.p) HWX.out.1.1 HWX.out.1.2 HWX.out.2.1 HWX.out.2.2 (by omega))
                have HKL := Lib.hid (wfO (n := (x.nt, x.nr)) (l := lp) (p := x.p) HWX.out.1.1 HWX.out.1.2 HWX.out.2.1 HPW.out (by omega))
                have HKV := Lib.hid (wfV (n := (x.nt, x.nr)) (p := x.p) HWX.out.1.1 HWX.out.1.2 HWX.out.2.1)
                have HKM := Lib.hid (wfM (n := (x.nt, x.nr)) HWX.out.1.1 HWX.out.1.2)
                obtain ⟨⟨v1, v2, v3⟩, hV⟩ : ∃ V : Pm.Vl, V = ((Pm.allR (pl l1)).o (Pm.nameO (x.nt, x.nr) x.path x.p)).2 := ⟨_, rfl⟩
                obtain ⟨⟨u1, u2, u3⟩, hU⟩ : ∃ V : Pm.Vl, V = ((Pm.allR (pl l1)).o (Pm.nameO (x.nt, x.nr) lp x.p)).2 := ⟨_, rfl⟩
                obtain ⟨⟨t1, t2, t3⟩, hT⟩ : ∃ V : Pm.Vl, V = ((Pm.allR (pl l1)).v (Pm.nameV (x.nt, x.nr) x.p)).2 := ⟨_, rfl⟩
                obtain ⟨f1, hf1⟩ : ∃ f, f = (v1 != 0) := ⟨_, rfl⟩
                obtain ⟨f2, hf2⟩ : ∃ f, f = (u1 != 0) := ⟨_, rfl⟩
                obtain ⟨mk, hmk⟩ : ∃ f, f = ((Pm.allR (pl l1)).m (Pm.nameM (x.nt, x.nr))).2 := ⟨_, rfl⟩
                obtain ⟨fl, hfl⟩ : ∃ f, f = decide ((t1, t2, t3) = ((4, 1, ⟨#[]⟩) : Pm.Vl)) := ⟨_, rfl⟩
                have HA1 := Lib.hid (fun (W : World) (hb : Below wo.heap.size wo W) (q1 : Option Addr) (k1 : Nat) (hr : Rd W q1 (stCells x.path)) => show Calls Try.prog 14 #[.pointer (some ⟨m.P, 0, none⟩), .agg #[.int .i64 x.nt, .int .i64 x.nr], .slice q1 x.path.length k1, .int .i64 x.p] W (fun e w' => e = .returned (.tuple #[.agg #[.int .i64 v1, .int .i64 v2, .string v3], .bool f1]) ∧ Below W.heap.size W w') from by
                  have h1 := over_any (x.nt, x.nr) q1 x.path k1 x.p W (HSO.out.kept hb).lr hr HKX.out
                  rw [← hV] at h1
                  rw [hf1]
                  exact h1)
                have HA2 := Lib.hid (fun (W : World) (hb : Below wo.heap.size wo W) => show Calls Try.prog 15 #[.pointer (some ⟨R1, 0, none⟩), .agg #[.int .i64 x.nt, .int .i64 x.nr], .slice q x.path.length c, .int .i64 x.p] W (fun e w' => e = .returned (.tuple #[.agg #[.int .i64 v1, .int .i64 v2, .string v3], .bool f1]) ∧ Below W.heap.size W w') from by
                  have h1 := (HSO.out.kept hb).rover HZ1.out (x.nt, x.nr) q x.path c x.p (HPXD.out.kept hb).rd HPXD.out.nil HPXD.out.cap
                  rw [← hV] at h1
                  rw [hf1]
                  exact h1)
                have HA3 := Lib.hid (fun (W : World) (hb : Below wo.heap.size wo W) (q1 : Option Addr) (k1 : Nat) (hr : Rd W q1 (stCells lp)) => show Calls Try.prog 14 #[.pointer (some ⟨m.P, 0, none⟩), .agg #[.int .i64 x.nt, .int .i64 x.nr], .slice q1 lp.length k1, .int .i64 x.p] W (fun e w' => e = .returned (.tuple #[.agg #[.int .i64 u1, .int .i64 u2, .string u3], .bool f2]) ∧ Below W.heap.size W w') from by
                  have h1 := over_any (x.nt, x.nr) q1 lp k1 x.p W (HSO.out.kept hb).lr hr HKL.out
                  rw [← hU] at h1
                  rw [hf2]
                  exact h1)
                have HA4 := Lib.hid (fun (W : World) (hb : Below wo.heap.size wo W) => show Calls Try.prog 15 #[.pointer (some ⟨R1, 0, none⟩), .agg #[.int .i64 x.nt, .int .i64 x.nr], .slice pp lp.length cp, .int .i64 x.p] W (fun e w' => e = .returned (.tuple #[.agg #[.int .i64 u1, .int .i64 u2, .string u3], .bool f2]) ∧ Below W.heap.size W w') from by
                  have h1 := (HSO.out.kept hb).rover HZ1.out (x.nt, x.nr) pp lp cp x.p (HPLD.out.below hb) HPN.out HPC.out
                  rw [← hU] at h1
                  rw [hf2]
                  exact h1)
                have HA5 := Lib.hid (fun (W : World) (hb : Below wo.heap.size wo W) => show Calls Try.prog 16 #[.pointer (some ⟨m.P, 0, none⟩), .agg #[.int .i64 x.nt, .int .i64 x.nr], .int .i64 x.p] W (fun e w' => e = .returned (.agg #[.int .i64 t1, .int .i64 t2, .string t3]) ∧ Below W.heap.size W w') from by
                  have h1 := value_any (x.nt, x.nr) x.p W (HSO.out.kept hb).lr HKV.out
                  rw [← hT] at h1
                  skip
                  exact h1)
                have HA6 := Lib.hid (fun (W : World) (hb : Below wo.heap.size wo W) => show Calls Try.prog 17 #[.pointer (some ⟨R1, 0, none⟩), .agg #[.int .i64 x.nt, .int .i64 x.nr], .int .i64 x.p] W (fun e w' => e = .returned (.agg #[.int .i64 t1, .int .i64 t2, .string t3]) ∧ Below W.heap.size W w') from by
                  have h1 := (HSO.out.kept hb).rvalue HZ1.out (x.nt, x.nr) x.p
                  rw [← hT] at h1
                  skip
                  exact h1)
                have HA7 := Lib.hid (fun (W : World) (hb : Below wo.heap.size wo W) => show Calls Try.prog 18 #[.pointer (some ⟨m.P, 0, none⟩), .agg #[.int .i64 x.nt, .int .i64 x.nr]] W (fun e w' => e = .returned (.bool mk) ∧ Below W.heap.size W w') from by
                  have h1 := marked_any (x.nt, x.nr) W (HSO.out.kept hb).lr HKM.out
                  rw [← hmk] at h1
                  skip
                  exact h1)
                have HA8 := Lib.hid (fun (W : World) (hb : Below wo.heap.size wo W) => show Calls Try.prog 19 #[.pointer (some ⟨R1, 0, none⟩), .agg #[.int .i64 x.nt, .int .i64 x.nr]] W (fun e w' => e = .returned (.bool mk) ∧ Below W.heap.size W w') from by
                  have h1 := (HSO.out.kept hb).rmarked HZ1.out (x.nt, x.nr)
                  rw [← hmk] at h1
                  skip
                  exact h1)
                have HA9 := Lib.hid (fun (W : World) (hb : Below wo.heap.size wo W) => show Calls Try.prog 20 #[.pointer (some ⟨m.P, 0, none⟩), .agg #[.int .i64 x.nt, .int .i64 x.nr], .int .i64 x.p] W (fun e w' => e = .returned (.bool fl) ∧ Below W.heap.size W w') from by
                  have h1 := flag_any (x.nt, x.nr) x.p W (HSO.out.kept hb).lr HKV.out
                  rw [← hT] at h1
                  rw [hfl]
                  exact h1)
                have HA10 := Lib.hid (fun (W : World) (hb : Below wo.heap.size wo W) => show Calls Try.prog 21 #[.pointer (some ⟨R1, 0, none⟩), .agg #[.int .i64 x.nt, .int .i64 x.nr], .int .i64 x.p] W (fun e w' => e = .returned (.bool fl) ∧ Below W.heap.size W w') from by
                  have h1 := (HSO.out.kept hb).rflag HZ1.out (x.nt, x.nr) x.p
                  rw [← hT] at h1
                  rw [hfl]
                  exact h1)
                clear hV hU hT hf1 hf2 hmk hfl hv4 hb4 HSIM HKX HKL HKV HKM HWX HPE
                go_simp
                go_cut [16, 17] (fun s16 s17 wx => ∃ g : Nat, s16 = .pointer (some ⟨g, 0, none⟩) ∧ s17 = .bool f1 ∧ AgAt wx g #[.int .i64 v1, .int .i64 v2, .string v3] ∧ Below wo.heap.size wo wx)
                case first =>
                  as_aux_lemma =>
                    refine wp_region_held_drew (S := fun W => Below wo.heap.size wo W) (by kernel_rfl) (Below.drew (Below.refl _ _)) (fun hS => ?_)
                    generalize wo.drew = wd at *
                    refine wpAnyH_take (i := 0) (v := ?_) rfl (by kernel_rfl) (by kernel_rfl) (by kernel_rfl) (fun _ _ _ h => h) (Or.inl ⟨by kernel_rfl, ?_⟩) hS ?_
                    rotate_left
                    · intro W hSW
                      go_simp
                      all_goals with_reducible rfl
                    refine wpAnyH_take (i := 1) (v := ?_) rfl (by kernel_rfl) (by kernel_rfl) (by kernel_rfl) (fun _ _ _ h => h) (Or.inl ⟨by kernel_rfl, ?_⟩) hS ?_
                    rotate_left
                    · intro W hSW
                      go_simp
                      all_goals with_reducible rfl
                    go_simp
                    refine wpAnyH_take (i := 2) (v := .agg #[.int .i64 x.nt, .int .i64 x.nr]) rfl (by kernel_rfl) (by kernel_rfl) (by kernel_rfl) (fun _ _ _ h => h) (Or.inl ⟨by kernel_rfl, fun W hSW => exec_load_part stT rfl rfl (HX.out.kept hSW) [.int .i64 x.nt, .int .i64 x.nr] (by intro j v hv; match j, hv with | 0, hv => exact hv | 1, hv => exact hv) rfl⟩) hS ?_
                    refine wpAnyH_take (i := 4) (v := ?_) rfl (by kernel_rfl) (by kernel_rfl) (by kernel_rfl) (fun _ _ _ h => h) (Or.inl ⟨by kernel_rfl, ?_⟩) hS ?_
                    rotate_left
                    · intro W hSW
                      go_simp
                      all_goals with_reducible rfl
                    refine wpAnyH_take (i := 5) (v := ?_) rfl (by kernel_rfl) (by kernel_rfl) (by kernel_rfl) (fun _ _ _ h => h) (Or.inl ⟨by kernel_rfl, ?_⟩) hS ?_
                    rotate_left
                    · intro W hSW
                      have yp : W.cell? ⟨wr.heap.size, 6, none⟩ = some (.slice q x.path.length c) := (HX.out.kept hSW).cell 6
                      go_simp
                      all_goals with_reducible rfl
                    refine wpAnyH_take (i := 7) (v := ?_) rfl (by kernel_rfl) (by kernel_rfl) (by kernel_rfl) (fun _ _ _ h => h) (Or.inl ⟨by kernel_rfl, ?_⟩) hS ?_
                    rotate_left
                    · intro W hSW
                      go_simp
                      all_goals with_reducible rfl
                    go_simp
                    refine wpAnyH_take (i := 8) (v := ?_) rfl (by kernel_rfl) (by kernel_rfl) (by kernel_rfl) (fun _ _ _ h => h) (Or.inl ⟨by kernel_rfl, ?_⟩) hS ?_
                    rotate_left
                    · intro W hSW
                      have yp : W.cell? ⟨wr.heap.size, 7, none⟩ = some (.int .i64 x.p) := (HX.out.kept hSW).cell 7
                      go_simp
                      all_goals with_reducible rfl
                    go_simp
                    refine wpAnyH_ready (rs := [3, 13]) (by kernel_rfl) (by simp) ?_
                    refine AllReadyH.cons rfl (fun K hK => ?_) (AllReadyH.cons rfl (fun K hK => ?_) AllReadyH.nil)
                    · go_simp
                      have HE3 := Lib.hid (stK.empty (Below.refl wd.heap.size wd) (Nat.le_refl _))
                      have hb := (Below.refl wd.heap.size wd).alloc (Nat.le_refl _) (.cells #[] 32)
                      have HG3 := Lib.hid (show wo.heap.size ≤ wd.heap.size from hS.size)
                      refine hK.out _ _ (hS.alloc hS.size _) (fun hS => ?_)
                      clear hK K hb
                      generalize wd.alloc (.cells #[] 32) = wb at *
                      refine wpAnyH_ready (rs := [6, 13]) (by kernel_rfl) (by simp) ?_
                      refine AllReadyH.cons rfl (fun K hK => ?_) (AllReadyH.cons rfl (fun K hK => ?_) AllReadyH.nil)
                      · refine stK.appendG (by kernel_rfl) _ _ rfl (wd.heap.size) [] x.path x.path rfl rfl HE3.out q c rfl (HPXD.out.rd.below hS) HPXD.out.nil (by have := HS1.out.1; simp only [List.length_nil]; omega) (by have := (World.ownsRow.lt HE3.out (wd.heap.size) rfl).2; omega) ?_
                        intro pa qa wa hoa hga h3a
                        have HRD := Lib.hid (show Rd wa pa (stCells x.path) from (own_rdK hoa).1)
                        have hba := (Turns.of_grown hga).below (B := wo.heap.size) (fun k _ hk => by cases hk; exact HG3.out) hS.size
                        refine hK.out _ _ (hS.trans hba) (fun hS => ?_)
                        clear hK K hoa hga h3a hba HE3 HG3
                        refine wpAnyH_ready (rs := [9, 13]) (by kernel_rfl) (by simp) ?_
                        refine AllReadyH.cons rfl (fun K hK => ?_) (AllReadyH.cons rfl (fun K hK => ?_) AllReadyH.nil)
                        · go_simp
                          go_wp2_with ((go_at_call 14; refine (HA1.out _ hS pa qa HRD.out).mono ?_; rintro e wn ⟨rfl, hbn⟩))
                          refine hK.out _ _ (hS.trans (hbn.mono hS.size)) (fun hS => ?_)
                          clear hK K hbn HRD
                          refine wpAnyH_take (i := 10) (v := ?_) rfl (by kernel_rfl) (by kernel_rfl) (by kernel_rfl) (fun _ _ _ h => h) (Or.inl ⟨by kernel_rfl, ?_⟩) hS ?_
                          rotate_left
                          · intro W hSW
                            go_simp
                            all_goals with_reducible rfl
                          refine wpAnyH_take (i := 11) (v := ?_) rfl (by kernel_rfl) (by kernel_rfl) (by kernel_rfl) (fun _ _ _ h => h) (Or.inl ⟨by kernel_rfl, ?_⟩) hS ?_
                          rotate_left
                          · intro W hSW
                            go_simp
                            all_goals with_reducible rfl
                          refine wpAnyH_take (i := 12) (v := ?_) rfl (by kernel_rfl) (by kernel_rfl) (by kernel_rfl) (fun _ _ _ h => h) (Or.inl ⟨by kernel_rfl, ?_⟩) hS ?_
                          rotate_left
                          · intro W hSW
                            go_simp
                            all_goals with_reducible rfl
                          go_simp
                          refine wpAnyH_ready (rs := [13]) (by kernel_rfl) (by simp) ?_
                          refine AllReadyH.cons rfl (fun K hK => ?_) AllReadyH.nil
                          go_simp
                          have HZ := Lib.hid (AgAt.new wn #[.int .i64 0, .int .i64 0, .string ⟨#[]⟩] 34)
                          have hb := (Below.refl wn.heap.size wn).alloc (Nat.le_refl _) (.cells #[.int .i64 0, .int .i64 0, .string ⟨#[]⟩] 34)
                          have HGZ := Lib.hid (show wo.heap.size ≤ wn.heap.size from hS.size)
                          refine hK.out _ _ (hS.alloc hS.size _) (fun hS => ?_)
                          clear hK K hb
                          generalize wn.alloc (.cells #[.int .i64 0, .int .i64 0, .string ⟨#[]⟩] 34) = wz at *
                          refine wpAnyH_ready (rs := [14]) (by kernel_rfl) (by simp) ?_
                          refine AllReadyH.cons rfl (fun K hK => ?_) AllReadyH.nil
                          refine step_of (by kernel_rfl) ?_
                          refine wp_store_ag vA _ _ rfl (wn.heap.size) rfl _ HZ.out rfl rfl rfl (vl_one (v1, v2, v3)) ?_
                          intro w9 hv9 hko9 hsz9 hbn9
                          have HZ9 := Lib.hid hv9
                          refine hK.out _ _ (hbn9 _ _ hS HGZ.out) (fun hS => ?_)
                          clear hK K hv9 hko9 hsz9 hbn9 HZ HGZ
                          refine wpAnyH_take (i := 15) (v := ?_) rfl (by kernel_rfl) (by kernel_rfl) (by kernel_rfl) (fun _ _ _ h => h) (Or.inl ⟨by kernel_rfl, ?_⟩) hS ?_
                          rotate_left
                          · intro W hSW
                            go_simp
                            all_goals with_reducible rfl
                          go_simp
                          refine wpAnyH_done (by kernel_rfl) ?_ _
                          go_simp
                          have HS9 := Lib.hid hS
                          clear hS
                          go_wp2_with fail
                          go_meet
                          exact ⟨_, rfl, rfl, HZ9.out, HS9.out⟩
                        · go_simp
                          have HZ := Lib.hid (AgAt.new wa #[.int .i64 0, .int .i64 0, .string ⟨#[]⟩] 34)
                          have hb := (Below.refl wa.heap.size wa).alloc (Nat.le_refl _) (.cells #[.int .i64 0, .int .i64 0, .string ⟨#[]⟩] 34)
                          have HGZ := Lib.hid (show wo.heap.size ≤ wa.heap.size from hS.size)
                          replace HRD := Lib.hid (HRD.out.below hb)
                          refine hK.out _ _ (hS.alloc hS.size _) (fun hS => ?_)
                          clear hK K hb
                          generalize wa.alloc (.cells #[.int .i64 0, .int .i64 0, .string ⟨#[]⟩] 34) = wz at *
                          refine wpAnyH_ready (rs := [9]) (by kernel_rfl) (by simp) ?_
                          refine AllReadyH.cons rfl (fun K hK => ?_) AllReadyH.nil
                          go_simp
                          go_wp2_with ((go_at_call 14; refine (HA1.out _ hS pa qa HRD.out).mono ?_; rintro e wn ⟨rfl, hbn⟩))
                          replace HZ := Lib.hid (HZ.out.kept hbn)
                          refine hK.out _ _ (hS.trans (hbn.mono hS.size)) (fun hS => ?_)
                          clear hK K hbn HRD
                          refine wpAnyH_take (i := 10) (v := ?_) rfl (by kernel_rfl) (by kernel_rfl) (by kernel_rfl) (fun _ _ _ h => h) (Or.inl ⟨by kernel_rfl, ?_⟩) hS ?_
                          rotate_left
                          · intro W hSW
                            go_simp
                            all_goals with_reducible rfl
                          refine wpAnyH_take (i := 11) (v := ?_) rfl (by kernel_rfl) (by kernel_rfl) (by kernel_rfl) (fun _ _ _ h => h) (Or.inl ⟨by kernel_rfl, ?_⟩) hS ?_
                          rotate_left
                          · intro W hSW
                            go_simp
                            all_goals with_reducible rfl
                          refine wpAnyH_take (i := 12) (v := ?_) rfl (by kernel_rfl) (by kernel_rfl) (by kernel_rfl) (fun _ _ _ h => h) (Or.inl ⟨by kernel_rfl, ?_⟩) hS ?_
                          rotate_left
                          · intro W hSW
                            go_simp
                            all_goals with_reducible rfl
                          go_simp
                          refine wpAnyH_ready (rs := [14]) (by kernel_rfl) (by simp) ?_
                          refine AllReadyH.cons rfl (fun K hK => ?_) AllReadyH.nil
                          refine step_of (by kernel_rfl) ?_
                          refine wp_store_ag vA _ _ rfl (wa.heap.size) rfl _ HZ.out rfl rfl rfl (vl_one (v1, v2, v3)) ?_
                          intro w9 hv9 hko9 hsz9 hbn9
                          have HZ9 := Lib.hid hv9
                          refine hK.out _ _ (hbn9 _ _ hS HGZ.out) (fun hS => ?_)
                          clear hK K hv9 hko9 hsz9 hbn9 HZ HGZ
                          refine wpAnyH_take (i := 15) (v := ?_) rfl (by kernel_rfl) (by kernel_rfl) (by kernel_rfl) (fun _ _ _ h => h) (Or.inl ⟨by kernel_rfl, ?_⟩) hS ?_
                          rotate_left
                          · intro W hSW
                            go_simp
                            all_goals with_reducible rfl
                          go_simp
                          refine wpAnyH_done (by kernel_rfl) ?_ _
                          go_simp
                          have HS9 := Lib.hid hS
                          clear hS
                          go_wp2_with fail
                          go_meet
                          exact ⟨_, rfl, rfl, HZ9.out, HS9.out⟩
                      · go_simp
                        have HZ := Lib.hid (AgAt.new wb #[.int .i64 0, .int .i64 0, .string ⟨#[]⟩] 34)
                        have hb := (Below.refl wb.heap.size wb).alloc (Nat.le_refl _) (.cells #[.int .i64 0, .int .i64 0, .string ⟨#[]⟩] 34)
                        have HGZ := Lib.hid (show wo.heap.size ≤ wb.heap.size from hS.size)
                        have HNE := Lib.hid (show wb.heap.size ≠ wd.heap.size from fun h => by have := (World.ownsRow.lt HE3.out (wd.heap.size) rfl).2; omega)
                        replace HE3 := Lib.hid ((Turns.of_below (F := fun _ => False) hb).own HE3.out (fun _ _ h => h))
                        refine hK.out _ _ (hS.alloc hS.size _) (fun hS => ?_)
                        clear hK K hb
                        generalize wb.alloc (.cells #[.int .i64 0, .int .i64 0, .string ⟨#[]⟩] 34) = wz at *
                        refine wpAnyH_ready (rs := [6]) (by kernel_rfl) (by simp) ?_
                        refine AllReadyH.cons rfl (fun K hK => ?_) AllReadyH.nil
                        refine stK.appendG (by kernel_rfl) _ _ rfl (wd.heap.size) [] x.path x.path rfl rfl HE3.out q c rfl (HPXD.out.rd.below hS) HPXD.out.nil (by have := HS1.out.1; simp only [List.length_nil]; omega) (by have := (World.ownsRow.lt HE3.out (wd.heap.size) rfl).2; omega) ?_
                        intro pa qa wa hoa hga h3a
                        have HRD := Lib.hid (show Rd wa pa (stCells x.path) from (own_rdK hoa).1)
                        have hba := (Turns.of_grown hga).below (B := wo.heap.size) (fun k _ hk => by cases hk; exact HG3.out) hS.size
                        replace HZ := Lib.hid (HZ.out.turn (Turns.of_grown hga) (fun hh => HNE.out (Option.some.inj hh).symm))
                        clear HNE
                        refine hK.out _ _ (hS.trans hba) (fun hS => ?_)
                        clear hK K hoa hga h3a hba HE3 HG3
                        refine wpAnyH_ready (rs := [9]) (by kernel_rfl) (by simp) ?_
                        refine AllReadyH.cons rfl (fun K hK => ?_) AllReadyH.nil
                        go_simp
                        go_wp2_with ((go_at_call 14; refine (HA1.out _ hS pa qa HRD.out).mono ?_; rintro e wn ⟨rfl, hbn⟩))
                        replace HZ := Lib.hid (HZ.out.kept hbn)
                        refine hK.out _ _ (hS.trans (hbn.mono hS.size)) (fun hS => ?_)
                        clear hK K hbn HRD
                        refine wpAnyH_take (i := 10) (v := ?_) rfl (by kernel_rfl) (by kernel_rfl) (by kernel_rfl) (fun _ _ _ h => h) (Or.inl ⟨by kernel_rfl, ?_⟩) hS ?_
                        rotate_left
                        · intro W hSW
                          go_simp
                          all_goals with_reducible rfl
                        refine wpAnyH_take (i := 11) (v := ?_) rfl (by kernel_rfl) (by kernel_rfl) (by kernel_rfl) (fun _ _ _ h => h) (Or.inl ⟨by kernel_rfl, ?_⟩) hS ?_
                        rotate_left
                        · intro W hSW
                          go_simp
                          all_goals with_reducible rfl
                        refine wpAnyH_take (i := 12) (v := ?_) rfl (by kernel_rfl) (by kernel_rfl) (by kernel_rfl) (fun _ _ _ h => h) (Or.inl ⟨by kernel_rfl, ?_⟩) hS ?_
                        rotate_left
                        · intro W hSW
                          go_simp
                          all_goals with_reducible rfl
                        go_simp
                        refine wpAnyH_ready (rs := [14]) (by kernel_rfl) (by simp) ?_
                        refine AllReadyH.cons rfl (fun K hK => ?_) AllReadyH.nil
                        refine step_of (by kernel_rfl) ?_
                        refine wp_store_ag vA _ _ rfl (wb.heap.size) rfl _ HZ.out rfl rfl rfl (vl_one (v1, v2, v3)) ?_
                        intro w9 hv9 hko9 hsz9 hbn9
                        have HZ9 := Lib.hid hv9
                        refine hK.out _ _ (hbn9 _ _ hS HGZ.out) (fun hS => ?_)
                        clear hK K hv9 hko9 hsz9 hbn9 HZ HGZ
                        refine wpAnyH_take (i := 15) (v := ?_) rfl (by kernel_rfl) (by kernel_rfl) (by kernel_rfl) (fun _ _ _ h => h) (Or.inl ⟨by kernel_rfl, ?_⟩) hS ?_
                        rotate_left
                        · intro W hSW
                          go_simp
                          all_goals with_reducible rfl
                        go_simp
                        refine wpAnyH_done (by kernel_rfl) ?_ _
                        go_simp
                        have HS9 := Lib.hid hS
                        clear hS
                        go_wp2_with fail
                        go_meet
                        exact ⟨_, rfl, rfl, HZ9.out, HS9.out⟩
                    · go_simp
                      have HZ := Lib.hid (AgAt.new wd #[.int .i64 0, .int .i64 0, .string ⟨#[]⟩] 34)
                      have hb := (Below.refl wd.heap.size wd).alloc (Nat.le_refl _) (.cells #[.int .i64 0, .int .i64 0, .string ⟨#[]⟩] 34)
                      have HGZ := Lib.hid (show wo.heap.size ≤ wd.heap.size from hS.size)
                      refine hK.out _ _ (hS.alloc hS.size _) (fun hS => ?_)
                      clear hK K hb
                      generalize wd.alloc (.cells #[.int .i64 0, .int .i64 0, .string ⟨#[]⟩] 34) = wz at *
                      refine wpAnyH_ready (rs := [3]) (by kernel_rfl) (by simp) ?_
                      refine AllReadyH.cons rfl (fun K hK => ?_) AllReadyH.nil
                      go_simp
                      have HE3 := Lib.hid (stK.empty (Below.refl wz.heap.size wz) (Nat.le_refl _))
                      have hb := (Below.refl wz.heap.size wz).alloc (Nat.le_refl _) (.cells #[] 32)
                      have HG3 := Lib.hid (show wo.heap.size ≤ wz.heap.size from hS.size)
                      have HNE := Lib.hid (show wd.heap.size ≠ wz.heap.size from fun h => by have := HZ.out.lt; omega)
                      replace HZ := Lib.hid (HZ.out.kept hb)
                      refine hK.out _ _ (hS.alloc hS.size _) (fun hS => ?_)
                      clear hK K hb
                      generalize wz.alloc (.cells #[] 32) = wb at *
                      refine wpAnyH_ready (rs := [6]) (by kernel_rfl) (by simp) ?_
                      refine AllReadyH.cons rfl (fun K hK => ?_) AllReadyH.nil
                      refine stK.appendG (by kernel_rfl) _ _ rfl (wz.heap.size) [] x.path x.path rfl rfl HE3.out q c rfl (HPXD.out.rd.below hS) HPXD.out.nil (by have := HS1.out.1; simp only [List.length_nil]; omega) (by have := (World.ownsRow.lt HE3.out (wz.heap.size) rfl).2; omega) ?_
                      intro pa qa wa hoa hga h3a
                      have HRD := Lib.hid (show Rd wa pa (stCells x.path) from (own_rdK hoa).1)
                      have hba := (Turns.of_grown hga).below (B := wo.heap.size) (fun k _ hk => by cases hk; exact HG3.out) hS.size
                      replace HZ := Lib.hid (HZ.out.turn (Turns.of_grown hga) (fun hh => HNE.out (Option.some.inj hh).symm))
                      clear HNE
                      refine hK.out _ _ (hS.trans hba) (fun hS => ?_)
                      clear hK K hoa hga h3a hba HE3 HG3
                      refine wpAnyH_ready (rs := [9]) (by kernel_rfl) (by simp) ?_
                      refine AllReadyH.cons rfl (fun K hK => ?_) AllReadyH.nil
                      go_simp
                      go_wp2_with ((go_at_call 14; refine (HA1.out _ hS pa qa HRD.out).mono ?_; rintro e wn ⟨rfl, hbn⟩))
                      replace HZ := Lib.hid (HZ.out.kept hbn)
                      refine hK.out _ _ (hS.trans (hbn.mono hS.size)) (fun hS => ?_)
                      clear hK K hbn HRD
                      refine wpAnyH_take (i := 10) (v := ?_) rfl (by kernel_rfl) (by kernel_rfl) (by kernel_rfl) (fun _ _ _ h => h) (Or.inl ⟨by kernel_rfl, ?_⟩) hS ?_
                      rotate_left
                      · intro W hSW
                        go_simp
                        all_goals with_reducible rfl
                      refine wpAnyH_take (i := 11) (v := ?_) rfl (by kernel_rfl) (by kernel_rfl) (by kernel_rfl) (fun _ _ _ h => h) (Or.inl ⟨by kernel_rfl, ?_⟩) hS ?_
                      rotate_left
                      · intro W hSW
                        go_simp
                        all_goals with_reducible rfl
                      refine wpAnyH_take (i := 12) (v := ?_) rfl (by kernel_rfl) (by kernel_rfl) (by kernel_rfl) (fun _ _ _ h => h) (Or.inl ⟨by kernel_rfl, ?_⟩) hS ?_
                      rotate_left
                      · intro W hSW
                        go_simp
                        all_goals with_reducible rfl
                      go_simp
                      refine wpAnyH_ready (rs := [14]) (by kernel_rfl) (by simp) ?_
                      refine AllReadyH.cons rfl (fun K hK => ?_) AllReadyH.nil
                      refine step_of (by kernel_rfl) ?_
                      refine wp_store_ag vA _ _ rfl (wd.heap.size) rfl _ HZ.out rfl rfl rfl (vl_one (v1, v2, v3)) ?_
                      intro w9 hv9 hko9 hsz9 hbn9
                      have HZ9 := Lib.hid hv9
                      refine hK.out _ _ (hbn9 _ _ hS HGZ.out) (fun hS => ?_)
                      clear hK K hv9 hko9 hsz9 hbn9 HZ HGZ
                      refine wpAnyH_take (i := 15) (v := ?_) rfl (by kernel_rfl) (by kernel_rfl) (by kernel_rfl) (fun _ _ _ h => h) (Or.inl ⟨by kernel_rfl, ?_⟩) hS ?_
                      rotate_left
                      · intro W hSW
                        go_simp
                        all_goals with_reducible rfl
                      go_simp
                      refine wpAnyH_done (by kernel_rfl) ?_ _
                      go_simp
                      have HS9 := Lib.hid hS
                      clear hS
                      go_wp2_with fail
                      go_meet
                      exact ⟨_, rfl, rfl, HZ9.out, HS9.out⟩
                case rest =>
                  obtain ⟨g16, rfl, rfl, hag, hbc⟩ := hcut
                  obtain ⟨w6, hw6⟩ : ∃ w6, w6 = wc := ⟨_, rfl⟩
                  subst hw6
                  have HV1 := Lib.hid hag
                  have HBW := Lib.hid hbc
                  have HX6 := Lib.hid (HX.out.kept hbc)
                  have y6 : w6.cell? ⟨wr.heap.size, 6, none⟩ = some (.slice q x.path.length c) := HX6.out.cell 6
                  have y7 : w6.cell? ⟨wr.heap.size, 7, none⟩ = some (.int .i64 x.p) := HX6.out.cell 7
                  clear hag hbc
                  go_wp2_with (refine wpList_load_in stT rfl _ rfl _ 1 rfl HX6.out [.int .i64 x.nt, .int .i64 x.nr] (by intro j v hv; match j, hv with | 0, hv => exact hv | 1, hv => exact hv) rfl ?_)
                  refine (HA2.out _ HBW.out).mono ?_
                  rintro e w7 ⟨rfl, hb7⟩
                  replace HV1 := Lib.hid (HV1.out.kept hb7)
                  replace HBW := Lib.hid (HBW.out.trans (hb7.mono HBW.out.size))
                  clear hb7 y6 y7 HX6
                  go_upto_region 28 with (refine wpList_store_newag vA rfl _ _ rfl rfl _ rfl rfl rfl (vl_one (v1, v2, v3)) ?_; intro w8 hv8 hb8)
                  have HV2 := Lib.hid (show AgAt w8 w7.heap.size #[.int .i64 v1, .int .i64 v2, .string v3] from hv8)
                  replace HV1 := Lib.hid (HV1.out.kept hb8)
                  replace HBW := Lib.hid (HBW.out.trans (hb8.mono HBW.out.size))
                  clear hv8 hb8
                  have HX1 := Lib.hid (HX.out.kept HBW.out)
                  have HPL1 := Lib.hid (HPLD.out.below HBW.out)
                  have HA3W := Lib.hid (fun (W : World) (hb : Below w8.heap.size w8 W) => HA3.out W (HBW.out.trans (hb.mono HBW.out.size)))
                  go_simp
                  go_cut [20, 21] (fun s20 s21 wx => ∃ g : Nat, s20 = .pointer (some ⟨g, 0, none⟩) ∧ s21 = .bool f2 ∧ AgAt wx g #[.int .i64 u1, .int .i64 u2, .string u3] ∧ Below w8.heap.size w8 wx)
                  case first =>
                    as_aux_lemma =>
                      refine wp_region_held_drew (S := fun W => Below w8.heap.size w8 W) (by kernel_rfl) (Below.drew (Below.refl _ _)) (fun hS => ?_)
                      generalize w8.drew = wd at *
                      refine wpAnyH_take (i := 0) (v := ?_) rfl (by kernel_rfl) (by kernel_rfl) (by kernel_rfl) (fun _ _ _ h => h) (Or.inl ⟨by kernel_rfl, ?_⟩) hS ?_
                      rotate_left
                      · intro W hSW
                        go_simp
                        all_goals with_reducible rfl
                      refine wpAnyH_take (i := 1) (v := ?_) rfl (by kernel_rfl) (by kernel_rfl) (by kernel_rfl) (fun _ _ _ h => h) (Or.inl ⟨by kernel_rfl, ?_⟩) hS ?_
                      rotate_left
                      · intro W hSW
                        go_simp
                        all_goals with_reducible rfl
                      go_simp
                      refine wpAnyH_take (i := 2) (v := .agg #[.int .i64 x.nt, .int .i64 x.nr]) rfl (by kernel_rfl) (by kernel_rfl) (by kernel_rfl) (fun _ _ _ h => h) (Or.inl ⟨by kernel_rfl, fun W hSW => exec_load_part stT rfl rfl (HX1.out.kept hSW) [.int .i64 x.nt, .int .i64 x.nr] (by intro j v hv; match j, hv with | 0, hv => exact hv | 1, hv => exact hv) rfl⟩) hS ?_
                      refine wpAnyH_take (i := 4) (v := ?_) rfl (by kernel_rfl) (by kernel_rfl) (by kernel_rfl) (fun _ _ _ h => h) (Or.inl ⟨by kernel_rfl, ?_⟩) hS ?_
                      rotate_left
                      · intro W hSW
                        go_simp
                        all_goals with_reducible rfl
                      refine wpAnyH_take (i := 6) (v := ?_) rfl (by kernel_rfl) (by kernel_rfl) (by kernel_rfl) (fun _ _ _ h => h) (Or.inl ⟨by kernel_rfl, ?_⟩) hS ?_
                      rotate_left
                      · intro W hSW
                        go_simp
                        all_goals with_reducible rfl
                      refine wpAnyH_take (i := 7) (v := ?_) rfl (by kernel_rfl) (by kernel_rfl) (by kernel_rfl) (fun _ _ _ h => h) (Or.inl ⟨by kernel_rfl, ?_⟩) hS ?_
                      rotate_left
                      · intro W hSW
                        have yp : W.cell? ⟨wr.heap.size, 7, none⟩ = some (.int .i64 x.p) := (HX1.out.kept hSW).cell 7
                        go_simp
                        all_goals with_reducible rfl
                      go_simp
                      refine wpAnyH_ready (rs := [3, 12]) (by kernel_rfl) (by simp) ?_
                      refine AllReadyH.cons rfl (fun K hK => ?_) (AllReadyH.cons rfl (fun K hK => ?_) AllReadyH.nil)
                      · go_simp
                        have HE3 := Lib.hid (stK.empty (Below.refl wd.heap.size wd) (Nat.le_refl _))
                        have hb := (Below.refl wd.heap.size wd).alloc (Nat.le_refl _) (.cells #[] 32)
                        have HG3 := Lib.hid (show w8.heap.size ≤ wd.heap.size from hS.size)
                        refine hK.out _ _ (hS.alloc hS.size _) (fun hS => ?_)
                        clear hK K hb
                        generalize wd.alloc (.cells #[] 32) = wb at *
                        refine wpAnyH_ready (rs := [5, 12]) (by kernel_rfl) (by simp) ?_
                        refine AllReadyH.cons rfl (fun K hK => ?_) (AllReadyH.cons rfl (fun K hK => ?_) AllReadyH.nil)
                        · refine stK.appendG (by kernel_rfl) _ _ rfl (wd.heap.size) [] lp lp rfl rfl HE3.out pp cp rfl (HPL1.out.below hS) HPN.out (by have := h30; simp only [List.length_nil]; omega) (by have := (World.ownsRow.lt HE3.out (wd.heap.size) rfl).2; omega) ?_
                          intro pa qa wa hoa hga h3a
                          have HRD := Lib.hid (show Rd wa pa (stCells lp) from (own_rdK hoa).1)
                          have hba := (Turns.of_grown hga).below (B := w8.heap.size) (fun k _ hk => by cases hk; exact HG3.out) hS.size
                          refine hK.out _ _ (hS.trans hba) (fun hS => ?_)
                          clear hK K hoa hga h3a hba HE3 HG3
                          refine wpAnyH_ready (rs := [8, 12]) (by kernel_rfl) (by simp) ?_
                          refine AllReadyH.cons rfl (fun K hK => ?_) (AllReadyH.cons rfl (fun K hK => ?_) AllReadyH.nil)
                          · go_simp
                            go_wp2_with ((go_at_call 14; refine (HA3W.out _ hS pa qa HRD.out).mono ?_; rintro e wn ⟨rfl, hbn⟩))
                            refine hK.out _ _ (hS.trans (hbn.mono hS.size)) (fun hS => ?_)
                            clear hK K hbn HRD
                            refine wpAnyH_take (i := 9) (v := ?_) rfl (by kernel_rfl) (by kernel_rfl) (by kernel_rfl) (fun _ _ _ h => h) (Or.inl ⟨by kernel_rfl, ?_⟩) hS ?_
                            rotate_left
                            · intro W hSW
                              go_simp
                              all_goals with_reducible rfl
                            refine wpAnyH_take (i := 10) (v := ?_) rfl (by kernel_rfl) (by kernel_rfl) (by kernel_rfl) (fun _ _ _ h => h) (Or.inl ⟨by kernel_rfl, ?_⟩) hS ?_
                            rotate_left
                            · intro W hSW
                              go_simp
                              all_goals with_reducible rfl
                            refine wpAnyH_take (i := 11) (v := ?_) rfl (by kernel_rfl) (by kernel_rfl) (by kernel_rfl) (fun _ _ _ h => h) (Or.inl ⟨by kernel_rfl, ?_⟩) hS ?_
                            rotate_left
                            · intro W hSW
                              go_simp
                              all_goals with_reducible rfl
                            go_simp
                            refine wpAnyH_ready (rs := [12]) (by kernel_rfl) (by simp) ?_
                            refine AllReadyH.cons rfl (fun K hK => ?_) AllReadyH.nil
                            go_simp
                            have HZ := Lib.hid (AgAt.new wn #[.int .i64 0, .int .i64 0, .string ⟨#[]⟩] 34)
                            have hb := (Below.refl wn.heap.size wn).alloc (Nat.le_refl _) (.cells #[.int .i64 0, .int .i64 0, .string ⟨#[]⟩] 34)
                            have HGZ := Lib.hid (show w8.heap.size ≤ wn.heap.size from hS.size)
                            refine hK.out _ _ (hS.alloc hS.size _) (fun hS => ?_)
                            clear hK K hb
                            generalize wn.alloc (.cells #[.int .i64 0, .int .i64 0, .string ⟨#[]⟩] 34) = wz at *
                            refine wpAnyH_ready (rs := [13]) (by kernel_rfl) (by simp) ?_
                            refine AllReadyH.cons rfl (fun K hK => ?_) AllReadyH.nil
                            refine step_of (by kernel_rfl) ?_
                            refine wp_store_ag vA _ _ rfl (wn.heap.size) rfl _ HZ.out rfl rfl rfl (vl_one (u1, u2, u3)) ?_
                            intro w9 hv9 hko9 hsz9 hbn9
                            have HZ9 := Lib.hid hv9
                            refine hK.out _ _ (hbn9 _ _ hS HGZ.out) (fun hS => ?_)
                            clear hK K hv9 hko9 hsz9 hbn9 HZ HGZ
                            refine wpAnyH_take (i := 14) (v := ?_) rfl (by kernel_rfl) (by kernel_rfl) (by kernel_rfl) (fun _ _ _ h => h) (Or.inl ⟨by kernel_rfl, ?_⟩) hS ?_
                            rotate_left
                            · intro W hSW
                              go_simp
                              all_goals with_reducible rfl
                            go_simp
                            refine wpAnyH_done (by kernel_rfl) ?_ _
                            go_simp
                            have HS9 := Lib.hid hS
                            clear hS
                            go_wp2_with fail
                            go_meet
                            exact ⟨_, rfl, rfl, HZ9.out, HS9.out⟩
                          · go_simp
                            have HZ := Lib.hid (AgAt.new wa #[.int .i64 0, .int .i64 0, .string ⟨#[]⟩] 34)
                            have hb := (Below.refl wa.heap.size wa).alloc (Nat.le_refl _) (.cells #[.int .i64 0, .int .i64 0, .string ⟨#[]⟩] 34)
                            have HGZ := Lib.hid (show w8.heap.size ≤ wa.heap.size from hS.size)
                            replace HRD := Lib.hid (HRD.out.below hb)
                            refine hK.out _ _ (hS.alloc hS.size _) (fun hS => ?_)
                            clear hK K hb
                            generalize wa.alloc (.cells #[.int .i64 0, .int .i64 0, .string ⟨#[]⟩] 34) = wz at *
                            refine wpAnyH_ready (rs := [8]) (by kernel_rfl) (by simp) ?_
                            refine AllReadyH.cons rfl (fun K hK => ?_) AllReadyH.nil
                            go_simp
                            go_wp2_with ((go_at_call 14; refine (HA3W.out _ hS pa qa HRD.out).mono ?_; rintro e wn ⟨rfl, hbn⟩))
                            replace HZ := Lib.hid (HZ.out.kept hbn)
                            refine hK.out _ _ (hS.trans (hbn.mono hS.size)) (fun hS => ?_)
                            clear hK K hbn HRD
                            refine wpAnyH_take (i := 9) (v := ?_) rfl (by kernel_rfl) (by kernel_rfl) (by kernel_rfl) (fun _ _ _ h => h) (Or.inl ⟨by kernel_rfl, ?_⟩) hS ?_
                            rotate_left
                            · intro W hSW
                              go_simp
                              all_goals with_reducible rfl
                            refine wpAnyH_take (i := 10) (v := ?_) rfl (by kernel_rfl) (by kernel_rfl) (by kernel_rfl) (fun _ _ _ h => h) (Or.inl ⟨by kernel_rfl, ?_⟩) hS ?_
                            rotate_left
                            · intro W hSW
                              go_simp
                              all_goals with_reducible rfl
                            refine wpAnyH_take (i := 11) (v := ?_) rfl (by kernel_rfl) (by kernel_rfl) (by kernel_rfl) (fun _ _ _ h => h) (Or.inl ⟨by kernel_rfl, ?_⟩) hS ?_
                            rotate_left
                            · intro W hSW
                              go_simp
                              all_goals with_reducible rfl
                            go_simp
                            refine wpAnyH_ready (rs := [13]) (by kernel_rfl) (by simp) ?_
                            refine AllReadyH.cons rfl (fun K hK => ?_) AllReadyH.nil
                            refine step_of (by kernel_rfl) ?_
                            refine wp_store_ag vA _ _ rfl (wa.heap.size) rfl _ HZ.out rfl rfl rfl (vl_one (u1, u2, u3)) ?_
                            intro w9 hv9 hko9 hsz9 hbn9
                            have HZ9 := Lib.hid hv9
                            refine hK.out _ _ (hbn9 _ _ hS HGZ.out) (fun hS => ?_)
                            clear hK K hv9 hko9 hsz9 hbn9 HZ HGZ
                            refine wpAnyH_take (i := 14) (v := ?_) rfl (by kernel_rfl) (by kernel_rfl) (by kernel_rfl) (fun _ _ _ h => h) (Or.inl ⟨by kernel_rfl, ?_⟩) hS ?_
                            rotate_left
                            · intro W hSW
                              go_simp
                              all_goals with_reducible rfl
                            go_simp
                            refine wpAnyH_done (by kernel_rfl) ?_ _
                            go_simp
                            have HS9 := Lib.hid hS
                            clear hS
                            go_wp2_with fail
                            go_meet
                            exact ⟨_, rfl, rfl, HZ9.out, HS9.out⟩
                        · go_simp
                          have HZ := Lib.hid (AgAt.new wb #[.int .i64 0, .int .i64 0, .string ⟨#[]⟩] 34)
                          have hb := (Below.refl wb.heap.size wb).alloc (Nat.le_refl _) (.cells #[.int .i64 0, .int .i64 0, .string ⟨#[]⟩] 34)
                          have HGZ := Lib.hid (show w8.heap.size ≤ wb.heap.size from hS.size)
                          have HNE := Lib.hid (show wb.heap.size ≠ wd.heap.size from fun h => by have := (World.ownsRow.lt HE3.out (wd.heap.size) rfl).2; omega)
                          replace HE3 := Lib.hid ((Turns.of_below (F := fun _ => False) hb).own HE3.out (fun _ _ h => h))
                          refine hK.out _ _ (hS.alloc hS.size _) (fun hS => ?_)
                          clear hK K hb
                          generalize wb.alloc (.cells #[.int .i64 0, .int .i64 0, .string ⟨#[]⟩] 34) = wz at *
                          refine wpAnyH_ready (rs := [5]) (by kernel_rfl) (by simp) ?_
                          refine AllReadyH.cons rfl (fun K hK => ?_) AllReadyH.nil
                          refine stK.appendG (by kernel_rfl) _ _ rfl (wd.heap.size) [] lp lp rfl rfl HE3.out pp cp rfl (HPL1.out.below hS) HPN.out (by have := h30; simp only [List.length_nil]; omega) (by have := (World.ownsRow.lt HE3.out (wd.heap.size) rfl).2; omega) ?_
                          intro pa qa wa hoa hga h3a
                          have HRD := Lib.hid (show Rd wa pa (stCells lp) from (own_rdK hoa).1)
                          have hba := (Turns.of_grown hga).below (B := w8.heap.size) (fun k _ hk => by cases hk; exact HG3.out) hS.size
                          replace HZ := Lib.hid (HZ.out.turn (Turns.of_grown hga) (fun hh => HNE.out (Option.some.inj hh).symm))
                          clear HNE
                          refine hK.out _ _ (hS.trans hba) (fun hS => ?_)
                          clear hK K hoa hga h3a hba HE3 HG3
                          refine wpAnyH_ready (rs := [8]) (by kernel_rfl) (by simp) ?_
                          refine AllReadyH.cons rfl (fun K hK => ?_) AllReadyH.nil
                          go_simp
                          go_wp2_with ((go_at_call 14; refine (HA3W.out _ hS pa qa HRD.out).mono ?_; rintro e wn ⟨rfl, hbn⟩))
                          replace HZ := Lib.hid (HZ.out.kept hbn)
                          refine hK.out _ _ (hS.trans (hbn.mono hS.size)) (fun hS => ?_)
                          clear hK K hbn HRD
                          refine wpAnyH_take (i := 9) (v := ?_) rfl (by kernel_rfl) (by kernel_rfl) (by kernel_rfl) (fun _ _ _ h => h) (Or.inl ⟨by kernel_rfl, ?_⟩) hS ?_
                          rotate_left
                          · intro W hSW
                            go_simp
                            all_goals with_reducible rfl
                          refine wpAnyH_take (i := 10) (v := ?_) rfl (by kernel_rfl) (by kernel_rfl) (by kernel_rfl) (fun _ _ _ h => h) (Or.inl ⟨by kernel_rfl, ?_⟩) hS ?_
                          rotate_left
                          · intro W hSW
                            go_simp
                            all_goals with_reducible rfl
                          refine wpAnyH_take (i := 11) (v := ?_) rfl (by kernel_rfl) (by kernel_rfl) (by kernel_rfl) (fun _ _ _ h => h) (Or.inl ⟨by kernel_rfl, ?_⟩) hS ?_
                          rotate_left
                          · intro W hSW
                            go_simp
                            all_goals with_reducible rfl
                          go_simp
                          refine wpAnyH_ready (rs := [13]) (by kernel_rfl) (by simp) ?_
                          refine AllReadyH.cons rfl (fun K hK => ?_) AllReadyH.nil
                          refine step_of (by kernel_rfl) ?_
                          refine wp_store_ag vA _ _ rfl (wb.heap.size) rfl _ HZ.out rfl rfl rfl (vl_one (u1, u2, u3)) ?_
                          intro w9 hv9 hko9 hsz9 hbn9
                          have HZ9 := Lib.hid hv9
                          refine hK.out _ _ (hbn9 _ _ hS HGZ.out) (fun hS => ?_)
                          clear hK K hv9 hko9 hsz9 hbn9 HZ HGZ
                          refine wpAnyH_take (i := 14) (v := ?_) rfl (by kernel_rfl) (by kernel_rfl) (by kernel_rfl) (fun _ _ _ h => h) (Or.inl ⟨by kernel_rfl, ?_⟩) hS ?_
                          rotate_left
                          · intro W hSW
                            go_simp
                            all_goals with_reducible rfl
                          go_simp
                          refine wpAnyH_done (by kernel_rfl) ?_ _
                          go_simp
                          have HS9 := Lib.hid hS
                          clear hS
                          go_wp2_with fail
                          go_meet
                          exact ⟨_, rfl, rfl, HZ9.out, HS9.out⟩
                      · go_simp
                        have HZ := Lib.hid (AgAt.new wd #[.int .i64 0, .int .i64 0, .string ⟨#[]⟩] 34)
                        have hb := (Below.refl wd.heap.size wd).alloc (Nat.le_refl _) (.cells #[.int .i64 0, .int .i64 0, .string ⟨#[]⟩] 34)
                        have HGZ := Lib.hid (show w8.heap.size ≤ wd.heap.size from hS.size)
                        refine hK.out _ _ (hS.alloc hS.size _) (fun hS => ?_)
                        clear hK K hb
                        generalize wd.alloc (.cells #[.int .i64 0, .int .i64 0, .string ⟨#[]⟩] 34) = wz at *
                        refine wpAnyH_ready (rs := [3]) (by kernel_rfl) (by simp) ?_
                        refine AllReadyH.cons rfl (fun K hK => ?_) AllReadyH.nil
                        go_simp
                        have HE3 := Lib.hid (stK.empty (Below.refl wz.heap.size wz) (Nat.le_refl _))
                        have hb := (Below.refl wz.heap.size wz).alloc (Nat.le_refl _) (.cells #[] 32)
                        have HG3 := Lib.hid (show w8.heap.size ≤ wz.heap.size from hS.size)
                        have HNE := Lib.hid (show wd.heap.size ≠ wz.heap.size from fun h => by have := HZ.out.lt; omega)
                        replace HZ := Lib.hid (HZ.out.kept hb)
                        refine hK.out _ _ (hS.alloc hS.size _) (fun hS => ?_)
                        clear hK K hb
                        generalize wz.alloc (.cells #[] 32) = wb at *
                        refine wpAnyH_ready (rs := [5]) (by kernel_rfl) (by simp) ?_
                        refine AllReadyH.cons rfl (fun K hK => ?_) AllReadyH.nil
                        refine stK.appendG (by kernel_rfl) _ _ rfl (wz.heap.size) [] lp lp rfl rfl HE3.out pp cp rfl (HPL1.out.below hS) HPN.out (by have := h30; simp only [List.length_nil]; omega) (by have := (World.ownsRow.lt HE3.out (wz.heap.size) rfl).2; omega) ?_
                        intro pa qa wa hoa hga h3a
                        have HRD := Lib.hid (show Rd wa pa (stCells lp) from (own_rdK hoa).1)
                        have hba := (Turns.of_grown hga).below (B := w8.heap.size) (fun k _ hk => by cases hk; exact HG3.out) hS.size
                        replace HZ := Lib.hid (HZ.out.turn (Turns.of_grown hga) (fun hh => HNE.out (Option.some.inj hh).symm))
                        clear HNE
                        refine hK.out _ _ (hS.trans hba) (fun hS => ?_)
                        clear hK K hoa hga h3a hba HE3 HG3
                        refine wpAnyH_ready (rs := [8]) (by kernel_rfl) (by simp) ?_
                        refine AllReadyH.cons rfl (fun K hK => ?_) AllReadyH.nil
                        go_simp
                        go_wp2_with ((go_at_call 14; refine (HA3W.out _ hS pa qa HRD.out).mono ?_; rintro e wn ⟨rfl, hbn⟩))
                        replace HZ := Lib.hid (HZ.out.kept hbn)
                        refine hK.out _ _ (hS.trans (hbn.mono hS.size)) (fun hS => ?_)
                        clear hK K hbn HRD
                        refine wpAnyH_take (i := 9) (v := ?_) rfl (by kernel_rfl) (by kernel_rfl) (by kernel_rfl) (fun _ _ _ h => h) (Or.inl ⟨by kernel_rfl, ?_⟩) hS ?_
                        rotate_left
                        · intro W hSW
                          go_simp
                          all_goals with_reducible rfl
                        refine wpAnyH_take (i := 10) (v := ?_) rfl (by kernel_rfl) (by kernel_rfl) (by kernel_rfl) (fun _ _ _ h => h) (Or.inl ⟨by kernel_rfl, ?_⟩) hS ?_
                        rotate_left
                        · intro W hSW
                          go_simp
                          all_goals with_reducible rfl
                        refine wpAnyH_take (i := 11) (v := ?_) rfl (by kernel_rfl) (by kernel_rfl) (by kernel_rfl) (fun _ _ _ h => h) (Or.inl ⟨by kernel_rfl, ?_⟩) hS ?_
                        rotate_left
                        · intro W hSW
                          go_simp
                          all_goals with_reducible rfl
                        go_simp
                        refine wpAnyH_ready (rs := [13]) (by kernel_rfl) (by simp) ?_
                        refine AllReadyH.cons rfl (fun K hK => ?_) AllReadyH.nil
                        refine step_of (by kernel_rfl) ?_
                        refine wp_store_ag vA _ _ rfl (wd.heap.size) rfl _ HZ.out rfl rfl rfl (vl_one (u1, u2, u3)) ?_
                        intro w9 hv9 hko9 hsz9 hbn9
                        have HZ9 := Lib.hid hv9
                        refine hK.out _ _ (hbn9 _ _ hS HGZ.out) (fun hS => ?_)
                        clear hK K hv9 hko9 hsz9 hbn9 HZ HGZ
                        refine wpAnyH_take (i := 14) (v := ?_) rfl (by kernel_rfl) (by kernel_rfl) (by kernel_rfl) (fun _ _ _ h => h) (Or.inl ⟨by kernel_rfl, ?_⟩) hS ?_
                        rotate_left
                        · intro W hSW
                          go_simp
                          all_goals with_reducible rfl
                        go_simp
                        refine wpAnyH_done (by kernel_rfl) ?_ _
                        go_simp
                        have HS9 := Lib.hid hS
                        clear hS
                        go_wp2_with fail
                        go_meet
                        exact ⟨_, rfl, rfl, HZ9.out, HS9.out⟩
                  case rest =>
                    obtain ⟨g20, rfl, rfl, hag, hbc⟩ := hcut
                    obtain ⟨w10, hw10⟩ : ∃ w10, w10 = wc := ⟨_, rfl⟩
                    subst hw10
                    have HV3 := Lib.hid hag
                    replace HV1 := Lib.hid (HV1.out.kept hbc)
                    replace HV2 := Lib.hid (HV2.out.kept hbc)
                    replace HBW := Lib.hid (HBW.out.trans (hbc.mono HBW.out.size))
                    clear HA3W HPL1 HX1 hag hbc
                    have HX6 := Lib.hid (HX.out.kept HBW.out)
                    have y7 : w10.cell? ⟨wr.heap.size, 7, none⟩ = some (.int .i64 x.p) := HX6.out.cell 7
                    go_wp2_with (refine wpList_load_in stT rfl _ rfl _ 1 rfl HX6.out [.int .i64 x.nt, .int .i64 x.nr] (by intro j v hv; match j, hv with | 0, hv => exact hv | 1, hv => exact hv) rfl ?_)
                    refine (HA4.out _ HBW.out).mono ?_
                    rintro e w11 ⟨rfl, hb7⟩
                    replace HV1 := Lib.hid (HV1.out.kept hb7)
                    replace HV2 := Lib.hid (HV2.out.kept hb7)
                    replace HV3 := Lib.hid (HV3.out.kept hb7)
                    replace HBW := Lib.hid (HBW.out.trans (hb7.mono HBW.out.size))
                    clear hb7 y7 HX6
                    go_upto_region 30 with (refine wpList_store_newag vA rfl _ _ rfl rfl _ rfl rfl rfl (vl_one (u1, u2, u3)) ?_; intro w12 hv12 hb12)
                    have HV4 := Lib.hid (show AgAt w12 w11.heap.size #[.int .i64 u1, .int .i64 u2, .string u3] from hv12)
                    replace HV1 := Lib.hid (HV1.out.kept hb12)
                    replace HV2 := Lib.hid (HV2.out.kept hb12)
                    replace HV3 := Lib.hid (HV3.out.kept hb12)
                    replace HBW := Lib.hid (HBW.out.trans (hb12.mono HBW.out.size))
                    clear hv12 hb12
                    have y6 : w12.cell? ⟨wr.heap.size, 6, none⟩ = some (.slice q x.path.length c) := (HX.out.kept HBW.out).cell 6
                    go_simp
                    go_cut [228] (fun s228 wx => s228 = .bool false ∧ wx = w12)
                    case first =>
                      as_aux_lemma =>
                        by_cases px : 0 < x.path.length
                        · have dx : decide (0 < (x.path.length : Int)) = true := decide_eq_true (by omega)
                          by_cases pl0 : 0 < lp.length
                          · have dl : decide (0 < (lp.length : Int)) = true := decide_eq_true (by omega)
                            go_wp2_with (first | (refine wpList_load_ag vA (by kernel_rfl) _ rfl _ rfl rfl HV1.out ?_) | (refine wpList_load_ag vA (by kernel_rfl) _ rfl _ rfl rfl HV2.out ?_) | (refine wpList_value_at 207 rfl (by kernel_rfl) (exec_neq_vv rfl (v1, v2, v3) rfl rfl) ?_) | (refine wpList_load_ag vA (by kernel_rfl) _ rfl _ rfl rfl HV3.out ?_) | (refine wpList_load_ag vA (by kernel_rfl) _ rfl _ rfl rfl HV4.out ?_) | (refine wpList_value_at 221 rfl (by kernel_rfl) (exec_neq_vv rfl (u1, u2, u3) rfl rfl) ?_))
                            go_meet
                            exact ⟨rfl, rfl⟩
                          · have dl : decide (0 < (lp.length : Int)) = false := decide_eq_false (by omega)
                            go_wp2_with (first | ((with_reducible refine wpList_slot ?h205 205 ?e205); (case e205 => exact rfl); refine wpList_load_ag vA (by kernel_rfl) _ rfl _ rfl rfl HV1.out ?_) | ((with_reducible refine wpList_slot ?h206 206 ?e206); (case e206 => exact rfl); refine wpList_load_ag vA (by kernel_rfl) _ rfl _ rfl rfl HV2.out ?_) | ((with_reducible refine wpList_slot ?h207 207 ?e207); (case e207 => exact rfl); refine wpList_value_at 207 rfl (by kernel_rfl) (exec_neq_vv rfl (v1, v2, v3) rfl rfl) ?_; go_wp2_with fail))
                            go_meet
                            exact ⟨rfl, rfl⟩
                        · have dx : decide (0 < (x.path.length : Int)) = false := decide_eq_false (by omega)
                          by_cases pl0 : 0 < lp.length
                          · have dl : decide (0 < (lp.length : Int)) = true := decide_eq_true (by omega)
                            go_wp2_with (first | ((with_reducible refine wpList_slot ?h219 219 ?e219); (case e219 => exact rfl); refine wpList_load_ag vA (by kernel_rfl) _ rfl _ rfl rfl HV3.out ?_) | ((with_reducible refine wpList_slot ?h220 220 ?e220); (case e220 => exact rfl); refine wpList_load_ag vA (by kernel_rfl) _ rfl _ rfl rfl HV4.out ?_) | ((with_reducible refine wpList_slot ?h221 221 ?e221); (case e221 => exact rfl); refine wpList_value_at 221 rfl (by kernel_rfl) (exec_neq_vv rfl (u1, u2, u3) rfl rfl) ?_; go_wp2_with fail))
                            go_meet
                            exact ⟨rfl, rfl⟩
                          · have dl : decide (0 < (lp.length : Int)) = false := decide_eq_false (by omega)
                            go_wp2_with fail
                            go_meet
                            exact ⟨rfl, rfl⟩
                    case rest =>
                      obtain ⟨rfl, rfl⟩ := hcut
                      clear y6 HV1 HV2 HV3 HV4
                      go_upto_region 32 with fail
                      refine wp_region_held_drew (S := fun W => Below wo.heap.size wo W) (by kernel_rfl) (Below.drew HBW.out) (fun hS => ?_)
                      refine wpAnyH_take (i := 0) (v := ?_) rfl (by kernel_rfl) (by kernel_rfl) (by kernel_rfl) (fun _ _ _ h => h) (Or.inl ⟨by kernel_rfl, ?_⟩) hS ?_
                      rotate_left
                      · intro W hSW
                        go_simp
                        all_goals with_reducible rfl
                      refine wpAnyH_take (i := 1) (v := ?_) rfl (by kernel_rfl) (by kernel_rfl) (by kernel_rfl) (fun _ _ _ h => h) (Or.inl ⟨by kernel_rfl, ?_⟩) hS ?_
                      rotate_left
                      · intro W hSW
                        go_simp
                        all_goals with_reducible rfl
                      go_simp
                      refine wpAnyH_take (i := 2) (v := .agg #[.int .i64 x.nt, .int .i64 x.nr]) rfl (by kernel_rfl) (by kernel_rfl) (by kernel_rfl) (fun _ _ _ h => h) (Or.inl ⟨by kernel_rfl, fun W hSW => exec_load_part stT rfl rfl (HX.out.kept hSW) [.int .i64 x.nt, .int .i64 x.nr] (by intro j v hv; match j, hv with | 0, hv => exact hv | 1, hv => exact hv) rfl⟩) hS ?_
                      refine wpAnyH_take (i := 3) (v := ?_) rfl (by kernel_rfl) (by kernel_rfl) (by kernel_rfl) (fun _ _ _ h => h) (Or.inl ⟨by kernel_rfl, ?_⟩) hS ?_
                      rotate_left
                      · intro W hSW
                        go_simp
                        all_goals with_reducible rfl
                      refine wpAnyH_take (i := 4) (v := ?_) rfl (by kernel_rfl) (by kernel_rfl) (by kernel_rfl) (fun _ _ _ h => h) (Or.inl ⟨by kernel_rfl, ?_⟩) hS ?_
                      rotate_left
                      · intro W hSW
                        have yp : W.cell? ⟨wr.heap.size, 7, none⟩ = some (.int .i64 x.p) := (HX.out.kept hSW).cell 7
                        go_simp
                        all_goals with_reducible rfl
                      refine wpAnyH_take (i := 6) (v := ?_) rfl (by kernel_rfl) (by kernel_rfl) (by kernel_rfl) (fun _ _ _ h => h) (Or.inl ⟨by kernel_rfl, ?_⟩) hS ?_
                      rotate_left
                      · intro W hSW
                        go_simp
                        all_goals with_reducible rfl
                      go_simp
                      refine wpAnyH_take (i := 7) (v := ?_) rfl (by kernel_rfl) (by kernel_rfl) (by kernel_rfl) (fun _ _ _ h => h) (Or.inl ⟨by kernel_rfl, ?_⟩) hS ?_
                      rotate_left
                      · intro W hSW
                        go_simp
                        all_goals with_reducible rfl
                      go_simp
                      refine wpAnyH_take (i := 8) (v := .agg #[.int .i64 x.nt, .int .i64 x.nr]) rfl (by kernel_rfl) (by kernel_rfl) (by kernel_rfl) (fun _ _ _ h => h) (Or.inl ⟨by kernel_rfl, fun W hSW => exec_load_part stT rfl rfl (HX.out.kept hSW) [.int .i64 x.nt, .int .i64 x.nr] (by intro j v hv; match j, hv with | 0, hv => exact hv | 1, hv => exact hv) rfl⟩) hS ?_
                      refine wpAnyH_take (i := 9) (v := ?_) rfl (by kernel_rfl) (by kernel_rfl) (by kernel_rfl) (fun _ _ _ h => h) (Or.inl ⟨by kernel_rfl, ?_⟩) hS ?_
                      rotate_left
                      · intro W hSW
                        go_simp
                        all_goals with_reducible rfl
                      refine wpAnyH_take (i := 10) (v := ?_) rfl (by kernel_rfl) (by kernel_rfl) (by kernel_rfl) (fun _ _ _ h => h) (Or.inl ⟨by kernel_rfl, ?_⟩) hS ?_
                      rotate_left
                      · intro W hSW
                        have yp : W.cell? ⟨wr.heap.size, 7, none⟩ = some (.int .i64 x.p) := (HX.out.kept hSW).cell 7
                        go_simp
                        all_goals with_reducible rfl
                      go_simp
                      refine wpAnyH_ready (rs := [5]) (by kernel_rfl) (by simp) ?_
                      refine AllReadyH.cons rfl (fun K hK => ?_) AllReadyH.nil
                      go_simp
                      go_wp2_with ((go_at_call 16; refine (HA5.out _ hS).mono ?_; rintro e wn ⟨rfl, hbn⟩))
                      refine hK.out _ _ (hS.trans (hbn.mono hS.size)) (fun hS => ?_)
                      clear hK K hbn
                      refine wpAnyH_ready (rs := [11]) (by kernel_rfl) (by simp) ?_
                      refine AllReadyH.cons rfl (fun K hK => ?_) AllReadyH.nil
                      go_simp
                      go_wp2_with ((go_at_call 17; refine (HA6.out _ hS).mono ?_; rintro e wn ⟨rfl, hbn⟩))
                      refine hK.out _ _ (hS.trans (hbn.mono hS.size)) (fun hS => ?_)
                      clear hK K hbn
                      refine wpAnyH_take (i := 12) (v := .bool false) rfl (by kernel_rfl) (by kernel_rfl) (by kernel_rfl) (fun _ _ _ h => h) (Or.inl ⟨by kernel_rfl, fun W hSW => (exec_neq_vl rfl (t1, t2, t3) (t1, t2, t3) rfl rfl).trans (by rw [decide_eq_true rfl]; rfl)⟩) hS ?_
                      refine wpAnyH_take (i := 13) (v := ?_) rfl (by kernel_rfl) (by kernel_rfl) (by kernel_rfl) (fun _ _ _ h => h) (Or.inl ⟨by kernel_rfl, ?_⟩) hS ?_
                      rotate_left
                      · intro W hSW
                        go_simp
                        all_goals with_reducible rfl
                      refine wpAnyH_take (i := 14) (v := ?_) rfl (by kernel_rfl) (by kernel_rfl) (by kernel_rfl) (fun _ _ _ h => h) (Or.inl ⟨by kernel_rfl, ?_⟩) hS ?_
                      rotate_left
                      · intro W hSW
                        go_simp
                        all_goals with_reducible rfl
                      refine wpAnyH_take (i := 15) (v := ?_) rfl (by kernel_rfl) (by kernel_rfl) (by kernel_rfl) (fun _ _ _ h => h) (Or.inl ⟨by kernel_rfl, ?_⟩) hS ?_
                      rotate_left
                      · intro W hSW
                        go_simp
                        all_goals with_reducible rfl
                      go_simp
                      refine wpAnyH_take (i := 16) (v := .agg #[.int .i64 x.nt, .int .i64 x.nr]) rfl (by kernel_rfl) (by kernel_rfl) (by kernel_rfl) (fun _ _ _ h => h) (Or.inl ⟨by kernel_rfl, fun W hSW => exec_load_part stT rfl rfl (HX.out.kept hSW) [.int .i64 x.nt, .int .i64 x.nr] (by intro j v hv; match j, hv with | 0, hv => exact hv | 1, hv => exact hv) rfl⟩) hS ?_
                      refine wpAnyH_take (i := 18) (v := ?_) rfl (by kernel_rfl) (by kernel_rfl) (by kernel_rfl) (fun _ _ _ h => h) (Or.inl ⟨by kernel_rfl, ?_⟩) hS ?_
                      rotate_left
                      · intro W hSW
                        go_simp
                        all_goals with_reducible rfl
                      refine wpAnyH_take (i := 19) (v := ?_) rfl (by kernel_rfl) (by kernel_rfl) (by kernel_rfl) (fun _ _ _ h => h) (Or.inl ⟨by kernel_rfl, ?_⟩) hS ?_
                      rotate_left
                      · intro W hSW
                        go_simp
                        all_goals with_reducible rfl
                      go_simp
                      refine wpAnyH_take (i := 20) (v := .agg #[.int .i64 x.nt, .int .i64 x.nr]) rfl (by kernel_rfl) (by kernel_rfl) (by kernel_rfl) (fun _ _ _ h => h) (Or.inl ⟨by kernel_rfl, fun W hSW => exec_load_part stT rfl rfl (HX.out.kept hSW) [.int .i64 x.nt, .int .i64 x.nr] (by intro j v hv; match j, hv with | 0, hv => exact hv | 1, hv => exact hv) rfl⟩) hS ?_
                      go_simp
                      refine wpAnyH_ready (rs := [17]) (by kernel_rfl) (by simp) ?_
                      refine AllReadyH.cons rfl (fun K hK => ?_) AllReadyH.nil
                      go_simp
                      go_wp2_with ((go_at_call 18; refine (HA7.out _ hS).mono ?_; rintro e wn ⟨rfl, hbn⟩))
                      refine hK.out _ _ (hS.trans (hbn.mono hS.size)) (fun hS => ?_)
                      clear hK K hbn
                      refine wpAnyH_ready (rs := [21]) (by kernel_rfl) (by simp) ?_
                      refine AllReadyH.cons rfl (fun K hK => ?_) AllReadyH.nil
                      go_simp
                      go_wp2_with ((go_at_call 19; refine (HA8.out _ hS).mono ?_; rintro e wn ⟨rfl, hbn⟩))
                      refine hK.out _ _ (hS.trans (hbn.mono hS.size)) (fun hS => ?_)
                      clear hK K hbn
                      refine wpAnyH_take (i := 22) (v := .bool false) rfl (by kernel_rfl) (by kernel_rfl) (by kernel_rfl) (fun _ _ _ h => h) (Or.inl ⟨by kernel_rfl, fun W hSW => exec_neq_bp rfl mk rfl rfl⟩) hS ?_
                      refine wpAnyH_take (i := 23) (v := ?_) rfl (by kernel_rfl) (by kernel_rfl) (by kernel_rfl) (fun _ _ _ h => h) (Or.inl ⟨by kernel_rfl, ?_⟩) hS ?_
                      rotate_left
                      · intro W hSW
                        go_simp
                        all_goals with_reducible rfl
                      refine wpAnyH_take (i := 24) (v := ?_) rfl (by kernel_rfl) (by kernel_rfl) (by kernel_rfl) (fun _ _ _ h => h) (Or.inl ⟨by kernel_rfl, ?_⟩) hS ?_
                      rotate_left
                      · intro W hSW
                        go_simp
                        all_goals with_reducible rfl
                      refine wpAnyH_take (i := 25) (v := ?_) rfl (by kernel_rfl) (by kernel_rfl) (by kernel_rfl) (fun _ _ _ h => h) (Or.inl ⟨by kernel_rfl, ?_⟩) hS ?_
                      rotate_left
                      · intro W hSW
                        go_simp
                        all_goals with_reducible rfl
                      go_simp
                      refine wpAnyH_take (i := 26) (v := ?_) rfl (by kernel_rfl) (by kernel_rfl) (by kernel_rfl) (fun _ _ _ h => h) (Or.inl ⟨by kernel_rfl, ?_⟩) hS ?_
                      rotate_left
                      · intro W hSW
                        go_simp
                        all_goals with_reducible rfl
                      go_simp
                      refine wpAnyH_take (i := 27) (v := .agg #[.int .i64 x.nt, .int .i64 x.nr]) rfl (by kernel_rfl) (by kernel_rfl) (by kernel_rfl) (fun _ _ _ h => h) (Or.inl ⟨by kernel_rfl, fun W hSW => exec_load_part stT rfl rfl (HX.out.kept hSW) [.int .i64 x.nt, .int .i64 x.nr] (by intro j v hv; match j, hv with | 0, hv => exact hv | 1, hv => exact hv) rfl⟩) hS ?_
                      refine wpAnyH_take (i := 28) (v := ?_) rfl (by kernel_rfl) (by kernel_rfl) (by kernel_rfl) (fun _ _ _ h => h) (Or.inl ⟨by kernel_rfl, ?_⟩) hS ?_
                      rotate_left
                      · intro W hSW
                        go_simp
                        all_goals with_reducible rfl
                      refine wpAnyH_take (i := 29) (v := ?_) rfl (by kernel_rfl) (by kernel_rfl) (by kernel_rfl) (fun _ _ _ h => h) (Or.inl ⟨by kernel_rfl, ?_⟩) hS ?_
                      rotate_left
                      · intro W hSW
                        have yp : W.cell? ⟨wr.heap.size, 7, none⟩ = some (.int .i64 x.p) := (HX.out.kept hSW).cell 7
                        go_simp
                        all_goals with_reducible rfl
                      refine wpAnyH_take (i := 31) (v := ?_) rfl (by kernel_rfl) (by kernel_rfl) (by kernel_rfl) (fun _ _ _ h => h) (Or.inl ⟨by kernel_rfl, ?_⟩) hS ?_
                      rotate_left
                      · intro W hSW
                        go_simp
                        all_goals with_reducible rfl
                      go_simp
                      refine wpAnyH_take (i := 32) (v := ?_) rfl (by kernel_rfl) (by kernel_rfl) (by kernel_rfl) (fun _ _ _ h => h) (Or.inl ⟨by kernel_rfl, ?_⟩) hS ?_
                      rotate_left
                      · intro W hSW
                        go_simp
                        all_goals with_reducible rfl
                      go_simp
                      refine wpAnyH_take (i := 33) (v := .agg #[.int .i64 x.nt, .int .i64 x.nr]) rfl (by kernel_rfl) (by kernel_rfl) (by kernel_rfl) (fun _ _ _ h => h) (Or.inl ⟨by kernel_rfl, fun W hSW => exec_load_part stT rfl rfl (HX.out.kept hSW) [.int .i64 x.nt, .int .i64 x.nr] (by intro j v hv; match j, hv with | 0, hv => exact hv | 1, hv => exact hv) rfl⟩) hS ?_
                      refine wpAnyH_take (i := 34) (v := ?_) rfl (by kernel_rfl) (by kernel_rfl) (by kernel_rfl) (fun _ _ _ h => h) (Or.inl ⟨by kernel_rfl, ?_⟩) hS ?_
                      rotate_left
                      · intro W hSW
                        go_simp
                        all_goals with_reducible rfl
                      refine wpAnyH_take (i := 35) (v := ?_) rfl (by kernel_rfl) (by kernel_rfl) (by kernel_rfl) (fun _ _ _ h => h) (Or.inl ⟨by kernel_rfl, ?_⟩) hS ?_
                      rotate_left
                      · intro W hSW
                        have yp : W.cell? ⟨wr.heap.size, 7, none⟩ = some (.int .i64 x.p) := (HX.out.kept hSW).cell 7
                        go_simp
                        all_goals with_reducible rfl
                      go_simp
                      refine wpAnyH_ready (rs := [30]) (by kernel_rfl) (by simp) ?_
                      refine AllReadyH.cons rfl (fun K hK => ?_) AllReadyH.nil
                      go_simp
                      go_wp2_with ((go_at_call 20; refine (HA9.out _ hS).mono ?_; rintro e wn ⟨rfl, hbn⟩))
                      refine hK.out _ _ (hS.trans (hbn.mono hS.size)) (fun hS => ?_)
                      clear hK K hbn
                      refine wpAnyH_ready (rs := [36]) (by kernel_rfl) (by simp) ?_
                      refine AllReadyH.cons rfl (fun K hK => ?_) AllReadyH.nil
                      go_simp
                      go_wp2_with ((go_at_call 21; refine (HA10.out _ hS).mono ?_; rintro e wn ⟨rfl, hbn⟩))
                      refine hK.out _ _ (hS.trans (hbn.mono hS.size)) (fun hS => ?_)
                      clear hK K hbn
                      refine wpAnyH_take (i := 37) (v := .bool false) rfl (by kernel_rfl) (by kernel_rfl) (by kernel_rfl) (fun _ _ _ h => h) (Or.inl ⟨by kernel_rfl, fun W hSW => exec_neq_bp rfl fl rfl rfl⟩) hS ?_
                      refine wpAnyH_take (i := 38) (v := ?_) rfl (by kernel_rfl) (by kernel_rfl) (by kernel_rfl) (fun _ _ _ h => h) (Or.inl ⟨by kernel_rfl, ?_⟩) hS ?_
                      rotate_left
                      · intro W hSW
                        go_simp
                        all_goals with_reducible rfl
                      go_simp
                      refine wpAnyH_done (by kernel_rfl) ?_ _
                      go_simp
                      have HSE := Lib.hid (HSO.out.kept hS)
                      clear hS
                      go_wp2
                      go_roundw
                      case rel => exact ⟨k + 1, by omega, by go_num, HSE.out⟩
                      case measure => simp [intOf]; omega
              · obtain rfl : k = l1.length := by omega
                have d1 : decide ((l1.length : Int) < (l1.length : Int)) = false := decide_eq_false (by omega)
                go_wp2_with fail
                refine (same_any _ HSIM.out.lr HSIM.out.ls).mono ?_
                rintro e wx ⟨b1, rfl, hb1, hbx⟩
                replace HSIM := Lib.hid (HSIM.out.kept hbx)
                have HB1 := Lib.hid hb1
                clear hb1 hbx
                go_wp2_with fail
                refine (HSIM.out.rsame HZ1.out HZ2.out).mono ?_
                rintro e wy ⟨b2, rfl, hb2, hby⟩
                replace HSIM := Lib.hid (HSIM.out.kept hby)
                obtain rfl : b1 = b2 := by
                  have h1 := HB1.out
                  cases b1 <;> cases b2 <;> simp_all
                clear hb2 hby HB1
                go_wp2_with fail
                refine (clone_any _ HSIM.out.lr).mono ?_
                rintro e wz ⟨Q, N1, N2, N3, rfl, hlc, hbz, -, -, -, -⟩
                replace HSIM := Lib.hid (HSIM.out.kept hbz)
                have HQ := Lib.hid hlc
                clear hlc hbz
                go_wp2_with fail
                refine (same_any _ HSIM.out.lr HQ.out).mono ?_
                rintro e wf ⟨b3, rfl, hb3, hbf⟩
                obtain rfl : b3 = true := hb3.2 (Pm.Same.refl _)
                replace HSIM := Lib.hid (HSIM.out.kept hbf)
                clear hb3 hbf
                go_wp2
                go_ret
                exact ⟨rfl, HSIM.out.bel⟩
end Go.Proofs.Ytcenmkcencdlcaa
