/-
  TreeReaches, walked: whatever was added, moved and dropped: from each node the way up ends in the root or the trash, and tells none twice.
  No conditions but sizes.
-/
import Derived.Test.YtljojdabmjkkcaaTKnow
namespace Go.Proofs.Ytljojdabmjkkcaa
open Go.RowKit
open Tm (Sp Tr has put cut kids)

theorem exec_neq_st {c : Act} {o : Oper} {x y : Operand} {ty : TypeId} (ho : o.op = .binOp .neq 29 x y ty) {w : World} (p q : Qm.St) (hx : c.eval x = snV p) (hy : c.eval y = snV q) :
    (execOp c.eval o).run Try.prog w = .ok (.value (.bool (decide (p ≠ q)))) w := by
  obtain ⟨a, b⟩ := p
  obtain ⟨d, e⟩ := q
  unfold execOp
  simp only [ho, hx, hy]
  go_simp
  by_cases h1 : a = d <;> by_cases h2 : b = e <;> simp [h1, h2]
theorem wpList_upd {P : Program} {ops : Array Oper} {rest : List Oper} {o : Oper} {a : Act} {w w' : World} {Q : Exit → Act → World → Prop} (hgd : o.guard = none) (t : TypeId) (x y z : Operand) (ho : o.op = .mapUpdate t x y z ∨ o.op = .insert t x y z) {u v n : Value} (hx : a.eval x = u) (hy : a.eval y = v) (hz : a.eval z = n)
    (hr : (Instr.mapUpdate t u v n).run P w = .ok () w') (h : wpList P ops Q rest (a.put o.dst undef) w') : wpList P ops Q (o :: rest) a w := by
  refine wpList_plain hgd fun K hK => ?_
  unfold Oper.wp execOp
  rcases ho with ho | ho <;> (simp only [ho, hx, hy, hz, Sem.run_bind, Sem.run_pure, hr, Result.andThen_ok]; exact hK _ _ h)
theorem Rd.stR {w : World} {b o : Nat} {l : List Qm.St} (h : Rd w (some ⟨b, o, none⟩) (stCells l)) (i : Nat) (hi : i < l.length) : w.rangeAt b (o + i * 2) [.int .i64 (Qm.stOf l i).1, .int .i64 (Qm.stOf l i).2] := by
  intro j v hv
  obtain ⟨h0, h1⟩ := stCells_get l i hi
  rw [Nat.add_assoc]
  match j, hv with
  | 0, hv => exact h.cell (by rw [Nat.add_zero, h0]; exact hv)
  | 1, hv => exact h.cell (by rw [h1]; exact hv)
theorem wpList_load_st {w : World} {ops : Array Oper} {rest : List Oper} {o : Oper} {a : Act} {Q : Exit → Act → World → Prop} (hgd : o.guard = none) (y : Operand) (ho : o.op = .load 29 y)
    (b s i : Nat) (hx : a.eval y = .pointer (some ⟨b, s + i * 2, none⟩)) (l : List Qm.St) (hrd : Rd w (some ⟨b, s, none⟩) (stCells l)) (hi : i < l.length)
    (h : wpList Try.prog ops Q rest (a.put o.dst (snV (Qm.stOf l i))) w) : wpList Try.prog ops Q (o :: rest) a w := by
  obtain ⟨d, hu⟩ := stT.und
  exact wpList_load_mid hgd _ y ho b (s + i * 2) hx [.int .i64 (Qm.stOf l i).1, .int .i64 (Qm.stOf l i).2] _ (hrd.stR i hi) hu rfl stT.size h
theorem stOf_mem {l : List Qm.St} {i : Nat} (h : i < l.length) : Qm.stOf l i ∈ l := by
  have : Qm.stOf l i = l[i] := by simp [Qm.stOf, List.getD, h]
  rw [this]; exact List.getElem_mem h
theorem stOf_eq {l : List Qm.St} {i : Nat} (h : i < l.length) : Qm.stOf l i = l[i] := by simp [Qm.stOf, List.getD, h]
theorem mtMet : MapT 37 4 (.bool false) := ⟨Try.underlying37, fun _ => by kernel_rfl⟩
/-- those that were met: n, and the first k above it -/
def metL (n : Qm.St) (l : List Qm.St) (k : Nat) : List (Qm.St × Value) := (n :: l.take k).map fun x => (x, Value.bool true)
theorem metL_zero (n : Qm.St) (l : List Qm.St) : metL n l 0 = [] ++ [(n, Value.bool true)] := rfl
theorem metL_succ {n : Qm.St} {l : List Qm.St} {k : Nat} (h : k < l.length) : metL n l (k + 1) = metL n l k ++ [(Qm.stOf l k, Value.bool true)] := by
  unfold metL
  rw [stOf_eq h, List.take_succ_eq_append_getElem h]
  simp only [List.map_cons, List.map_append, List.map_nil, List.cons_append]
theorem metL_none {n : Qm.St} {l : List Qm.St} (nd : (n :: l).Nodup) {k : Nat} (h : k < l.length) : lk (metL n l k) (Qm.stOf l k) = none := by
  rw [lk_none]
  intro e he hh
  obtain ⟨x, hx, rfl⟩ := List.mem_map.1 he
  dsimp only at hh
  subst hh
  obtain ⟨h1, h2⟩ := List.nodup_cons.1 nd
  rcases List.mem_cons.1 hx with hx | hx
  · exact h1 (by rw [← hx]; exact stOf_mem h)
  · rw [stOf_eq h] at hx
    obtain ⟨j, hj, hje⟩ := List.getElem_of_mem hx
    rw [List.getElem_take] at hje
    have hj2 : j < k := by simp at hj; omega
    exact absurd ((List.getElem_inj h2).1 hje) (by omega)
theorem Rd.keep {w w' : World} {p : Option Addr} {us : List Value} {B : Nat} (h : Rd w p us) (hb : Below B w w') (hp : ∀ a, p = some a → a.block < B) : Rd w' p us := h.base hb hp
theorem Rd.in {w : World} {p : Option Addr} {us : List Value} (h : Rd w p us) : Rd w p us ∧ (0 < us.length → ∀ a, p = some a → a.block < w.heap.size) := ⟨h, fun h0 a ha => by
  obtain ⟨b, o, e, hb⟩ := h.addr h0
  rw [ha] at e; cases e; exact hb⟩
theorem up_wf {T : Tr} {n : Qm.St} {l : List Qm.St} (h : Tm.Up T n l) (hp : ∀ e ∈ T, StWf e.2.1) : ∀ x ∈ l, StWf x := by
  induction h with
  | stop _ => intro x hx; cases hx
  | step h1 _ ih =>
    intro x hx
    rcases List.mem_cons.1 hx with rfl | hx
    · exact hp _ (Tm.look_mem h1)
    · exact ih x hx
theorem GoodT.wf {w : World} {B P : Nat} {T : Tr} (h : TreeAt w B P T) : ∀ e ∈ T, StWf e.1 := by
  obtain ⟨M1, M2, C, hL⟩ := h
  exact hL.wf

set_option maxRecDepth 100000 in
set_option maxHeartbeats 16000000 in
theorem treeReaches_walk {p : Option Addr} {c : Nat} (l : List TAct) (w : World) (h : Rd w p (acCells l)) (ha : ∀ a ∈ l, AcWf a) :
    Calls Try.prog 3 #[.slice p l.length c] w fun e w' => e = .returned (.bool true) ∧ Below w.heap.size w w' := by
  have HR := Lib.hid h
  have HWA := Lib.hid ha
  have HLO := Lib.hid (long_any (c := c) l w h)
  clear h ha
  go_enter Try.func3, Try.ntmps3
  go_wp2_with fail
  refine HLO.out.mono ?_
  rintro e w1 ⟨b, rfl, hb, rfl⟩
  clear HLO
  cases b with
  | true =>
    go_wp2_with fail
    refine (knows_any w).mono ?_
    rintro e w1 ⟨rfl, hb1⟩
    have HB := Lib.hid hb1
    clear hb1 hb
    go_wp2
    go_ret
    exact ⟨rfl, HB.out⟩
  | false =>
    have HLL := Lib.hid (hb rfl).1
    have HAC := Lib.hid (fun a hm => (HWA.out a hm).ok ((hb rfl).2 a hm))
    clear HWA
    clear hb
    go_wp2_with fail
    refine (new_any w).mono ?_
    rintro e w1 ⟨P, M1, M2, rfl, hl1, hb1⟩
    have HT1 := Lib.hid (show TreeAt w1 w.heap.size P [] from ⟨M1, M2, [], hl1⟩)
    have HB1 := Lib.hid hb1
    clear hl1 hb1
    go_wp2_with fail
    refine (knows_any w1).mono ?_
    rintro e w2 ⟨rfl, hb2⟩
    have HT2 := Lib.hid (HT1.out.kept hb2)
    have HB2 := Lib.hid (HB1.out.trans (hb2.mono HB1.out.size))
    clear hb2 HT1 HB1
    go_wp2_with fail
    go_loopg [4] (l.length + 1) (fun g v wr => ∃ (i : Nat) (T : Tr), v = .int .i64 (i : Int) ∧ i + g = l.length + 1 ∧ i ≤ l.length ∧ TreeAt wr w.heap.size P T ∧ GoodT T ∧ T.length ≤ i ∧ Below w.heap.size w wr)
    case atStart => exact ⟨0, [], rfl, by omega, Nat.zero_le _, HT2.out, GoodT.nil, Nat.le_refl _, HB2.out⟩
    case round =>
      clear HT2 HB2
      obtain ⟨i, T, rfl, hi, hil, hT, hg, hTl, hB⟩ := hrel
      have HT := Lib.hid hT
      have HG := Lib.hid hg
      have HTL := Lib.hid hTl
      have HB := Lib.hid hB
      clear hT hg hTl hB
      by_cases h0 : i < l.length
      · have d0 : decide ((i : Int) < (l.length : Int)) = true := decide_eq_true (by omega)
        obtain ⟨g1, rfl⟩ : ∃ g1, gk = g1 + 1 := ⟨gk - 1, by omega⟩
        obtain ⟨b, o, rfl, hbl⟩ := HR.out.addr (by rw [acCells_length]; omega)
        have HRR := Lib.hid (show Rd wr (some ⟨b, o, none⟩) (acCells l) from HR.out.base HB.out fun a ha => by cases ha; exact hbl)
        have HH0 := Lib.hid h0
        have HAI := Lib.hid (HAC.out _ (acOf_mem h0))
        have hq : i < 1000 := by have := HLL.out; omega
        clear hbl
        go_wp2_with (refine wpList_load_ac rfl _ rfl b o i rfl l HRR.out HH0.out ?_)
        refine (do_any (acOf l i) wr HT.out HB.out.size HG.out HAI.out).mono ?_
        rintro e w3 ⟨rfl, h1, h2⟩
        have HN := Lib.hid (show TreeAt w3 w.heap.size P (doT T (acOf l i)) ∧ GoodT (doT T (acOf l i)) ∧ (doT T (acOf l i)).length ≤ i + 1 ∧ Below w.heap.size w w3 from ⟨h1, HG.out.doT HAI.out.2.1, Nat.le_trans (doT_len _ _) (by have := HTL.out; omega), HB.out.trans h2⟩)
        clear h1 h2 HT HG HTL HB HRR HAI
        go_wp2
        go_roundg g1
        case rel => exact ⟨i + 1, _, by rw [Int.natCast_add]; rfl, by omega, by omega, HN.out⟩
        case measure => omega
      · have d0 : decide ((i : Int) < (l.length : Int)) = false := decide_eq_false (by omega)
        have HT5 := Lib.hid (show T.length ≤ 150 from by have := HTL.out; have := HLL.out; omega)
        clear hi hil HTL HR HAC HLL
        obtain ⟨M1, M2, C, hL⟩ := HT.out
        have HL := Lib.hid hL
        have HWF := Lib.hid hL.wf
        clear hL HT
        go_wp2_with fail
        refine (nodes_any wr HL.out (by have := HT5.out; omega)).mono ?_
        rintro e w3 ⟨p1, c1, m, hp, rfl, hrd, hpb, hb3⟩
        have HL3 := Lib.hid (HL.out.kept hb3)
        have HB3 := Lib.hid (HB.out.trans (hb3.mono HB.out.size))
        have HM := Lib.hid hp
        have HRM := Lib.hid hrd
        clear hp hrd hpb hb3 HL HB
        go_wp2_with fail
        go_loopg [6] (m.length + 1) (fun g v w4 => ∃ i : Nat, v = .int .i64 (i : Int) ∧ i + g = m.length + 1 ∧ Below w3.heap.size w3 w4)
        case atStart => exact ⟨0, rfl, by omega, Below.refl _ _⟩
        case round =>
          obtain ⟨i2, rfl, hi2, hB4⟩ := hrel
          rename_i wr2
          have HB4 := Lib.hid hB4
          clear hB4
          by_cases h1 : i2 < m.length
          · have d1 : decide ((i2 : Int) < (m.length : Int)) = true := decide_eq_true (by omega)
            obtain ⟨g2, rfl⟩ : ∃ g2, gk = g2 + 1 := ⟨gk - 1, by omega⟩
            obtain ⟨b, o, rfl, hbl⟩ := HRM.out.addr (by rw [stCells_length]; omega)
            have HRN := Lib.hid (fun W (hW : Below w3.heap.size w3 W) => show Rd W (some ⟨b, o, none⟩) (stCells m) from HRM.out.base hW fun a ha => by cases ha; exact hbl)
            have HH1 := Lib.hid h1
            obtain ⟨en, hen, heq⟩ := List.mem_map.1 (HM.out.mem_iff.1 (stOf_mem h1))
            have HWN := Lib.hid (show StWf (Qm.stOf m i2) from by rw [← heq]; exact HWF.out en hen)
            have HUP := Lib.hid (show Tm.Up T (Qm.stOf m i2) (Tm.chain T (Qm.stOf m i2)) from HG.out.1.chain _)
            have hne : Tm.chain T (Qm.stOf m i2) ≠ [] := fun hh => by
              have hu := HUP.out
              rw [hh] at hu
              cases hu with
              | stop hn => exact Tm.look_none.1 hn en hen heq
            have HTOP := Lib.hid (fun hl => Tm.up_last HUP.out hl HG.out.1.par)
            have HNDP := Lib.hid (Tm.up_nodup HUP.out)
            have hcl : (Tm.chain T (Qm.stOf m i2)).length ≤ m.length := by
              have h2 := Tm.up_len HUP.out
              have h3 := HM.out.length_eq
              rw [List.length_map] at h3
              omega
            have HCL := Lib.hid hcl
            have HWX := Lib.hid (show ∀ x ∈ Tm.chain T (Qm.stOf m i2), StWf x from up_wf HUP.out HG.out.2)
            have HAB := Lib.hid (above_any (Qm.stOf m i2) _ (HL3.out.kept HB4.out) HWN.out HG.out.1 HG.out.2 (by have := HT5.out; omega))
            have HNE := Lib.hid hne
            clear hbl hen heq hne hcl HUP
            generalize Tm.chain T (Qm.stOf m i2) = up at *
            go_wp2_with (refine wpList_load_st rfl _ rfl b o i2 rfl m (HRN.out _ HB4.out) HH1.out ?_)
            refine HAB.out.mono ?_
            rintro e w5 ⟨v5, xs5, hx5, rfl, ho5, hb5⟩
            have hx5' : xs5 = up := hx5
            subst hx5'
            obtain ⟨p2, c2, rfl, hrd5, -⟩ := own_rd ho5
            obtain ⟨b2, o2, rfl, hbl2⟩ := hrd5.addr (by rw [stCells_length]; have := List.length_pos_iff.2 HNE.out; omega)
            have HR5 := Lib.hid (fun W (hW : Below w5.heap.size w5 W) => show Rd W (some ⟨b2, o2, none⟩) (stCells xs5) from hrd5.base hW fun a ha => by cases ha; exact hbl2)
            have HB5 := Lib.hid (HB4.out.trans (hb5.mono HB4.out.size))
            obtain ⟨k, hk⟩ : ∃ k, xs5.length = k + 1 := ⟨xs5.length - 1, by have := List.length_pos_iff.2 HNE.out; omega⟩
            have HK := Lib.hid hk
            have HKM := Lib.hid (show k + 1 ≤ m.length from by rw [← hk]; exact HCL.out)
            have t0 : (((k : Int) + 1) == 0) = false := by rw [beq_eq_false_iff_ne]; omega
            have t1 : decide ((m.length : Int) < (k : Int) + 1) = false := decide_eq_false (by have := HKM.out; omega)
            have HTK := Lib.hid (show Tm.top (Qm.stOf xs5 k) = true from by
              have h2 := HTOP.out HNE.out
              rw [List.getLast_eq_getElem] at h2
              rw [stOf_eq (by omega)]
              have h3 : xs5.length - 1 = k := by omega
              simp only [h3] at h2
              exact h2)
            rw [hk]
            clear ho5 hb5 hrd5 hbl2 hk HAB HB4 HTOP hx5
            have hmm := @run_makeMap Try.prog
            obtain ⟨w7, hrun7, hm7, ht7, hz7⟩ := (SMap.made w5).upd mtMet (Qm.stOf m i2) (.bool true) HWN.out rfl
            have hb6 : Below w5.heap.size w5 (w5.alloc (.map #[] 0)) := (Below.refl _ _).alloc (Nat.le_refl _) _
            have HM7 := Lib.hid (show SMap w7 w5.heap.size (metL (Qm.stOf m i2) xs5 0) from hm7)
            have HB7 := Lib.hid (show Below w5.heap.size w5 w7 from hb6.trans (ht7.below (B := w5.heap.size) (fun k _ hk => by rw [hk]; exact Nat.le_refl _) (by simp)))
            have HR6 := Lib.hid (HRN.out _ (HB5.out.trans (hb6.mono HB5.out.size)))
            clear hm7 ht7 hz7 hb6
            go_wp2_with (first | (refine wpList_load_st rfl _ rfl b o i2 rfl m HR6.out HH1.out ?_) | (refine wpList_upd rfl _ _ _ _ (Or.inr rfl) rfl rfl rfl hrun7 ?_))
            clear hrun7 hmm
            go_loopg [9] (k + 2) (fun g v w8 => ∃ j : Nat, v = .int .i64 (j : Int) ∧ j + g = k + 2 ∧ SMap w8 w5.heap.size (metL (Qm.stOf m i2) xs5 j) ∧ Below w5.heap.size w5 w8)
            case atStart => exact ⟨0, rfl, by omega, HM7.out, HB7.out⟩
            case round =>
              clear HM7 HB7
              obtain ⟨j, rfl, hj, hm8, hb8⟩ := hrel
              have HM8 := Lib.hid hm8
              have HB8 := Lib.hid hb8
              have HR8 := Lib.hid (HR5.out _ hb8)
              clear hm8 hb8
              by_cases h2 : j < k + 1
              · have d2 : decide ((j : Int) < (k : Int) + 1) = true := decide_eq_true (by omega)
                obtain ⟨g3, rfl⟩ : ∃ g3, gk = g3 + 1 := ⟨gk - 1, by omega⟩
                have hq2 : j < 1000 := by have := HKM.out; have := HT5.out; have := HM.out.length_eq; rw [List.length_map] at this; omega
                have HH2 := Lib.hid (show j < xs5.length from by rw [HK.out]; exact h2)
                have HWX := Lib.hid (show StWf (Qm.stOf xs5 j) from HWX.out _ (stOf_mem HH2.out))
                have hlk := HM8.out.look mtMet (Qm.stOf xs5 j) HWX.out
                rw [metL_none HNDP.out HH2.out] at hlk
                obtain ⟨w9, hrun9, hm9, ht9, hz9⟩ := HM8.out.upd mtMet (Qm.stOf xs5 j) (.bool true) HWX.out (metL_none HNDP.out HH2.out)
                have HN9 := Lib.hid (show SMap w9 w5.heap.size (metL (Qm.stOf m i2) xs5 (j + 1)) ∧ Below w5.heap.size w5 w9 from ⟨by rw [metL_succ HH2.out]; exact hm9, HB8.out.trans (ht9.below (B := w5.heap.size) (fun k _ hk => by rw [hk]; exact Nat.le_refl _) HB8.out.size)⟩)
                clear hm9 ht9 hz9
                go_wp2_with (first | (refine wpList_load_st rfl _ rfl b2 o2 j rfl xs5 HR8.out HH2.out ?_) | (refine wpList_value rfl (exec_lookup rfl rfl rfl hlk) ?_) | (refine wpList_upd rfl _ _ _ _ (Or.inl rfl) rfl rfl rfl hrun9 ?_))
                go_roundg g3
                case rel => exact ⟨j + 1, by rw [Int.natCast_add]; rfl, by omega, HN9.out⟩
                case measure => omega
              · have d2 : decide ((j : Int) < (k : Int) + 1) = false := decide_eq_false (by omega)
                have HKL := Lib.hid (show k < xs5.length from by rw [HK.out]; exact Nat.lt_succ_self _)
                have hq3 : i2 < 1000 := by have := HT5.out; have := HM.out.length_eq; rw [List.length_map] at this; omega
                have hq4 : k < 1000 := by have := HT5.out; have := HKM.out; have := HM.out.length_eq; rw [List.length_map] at this; omega
                have HEND := Lib.hid (HB5.out.trans (HB8.out.mono HB5.out.size))
                have ht := Tm.top_iff.1 HTK.out
                clear HM8 HNDP
                by_cases hE : Qm.stOf xs5 k = (0, 0)
                · have e1 : decide (Qm.stOf xs5 k ≠ (0, 0)) = false := by simp [hE]
                  clear ht hE
                  go_upto_region 25 with (first | (refine wpList_load_st rfl _ rfl b2 o2 k rfl xs5 HR8.out HKL.out ?_) | (refine wpList_store_newag stT rfl _ _ rfl rfl _ (A := #[.int .i64 (Qm.stOf xs5 k).1, .int .i64 (Qm.stOf xs5 k).2]) rfl rfl rfl (stA_one _ _) ?_; intro w10 hv10 hb10))
                  have HX := Lib.hid hv10
                  have HN := Lib.hid (show Below w3.heap.size w3 w10 from HEND.out.trans (hb10.mono HEND.out.size))
                  clear hv10 hb10
                  go_wp2_with (first | (refine wpList_load_ag stT rfl _ rfl _ rfl (A := #[.int .i64 (Qm.stOf xs5 k).1, .int .i64 (Qm.stOf xs5 k).2]) rfl HX.out ?_) | (refine wpList_value rfl (exec_neq_st rfl (Qm.stOf xs5 k) (0, 0) rfl rfl) ?_; rw [e1]))
                  go_roundg g2
                  case rel => exact ⟨i2 + 1, by rw [Int.natCast_add]; rfl, by omega, HN.out⟩
                  case measure => omega
                · have hE2 : Qm.stOf xs5 k = (0, 1) := ht.resolve_left hE
                  have e1 : decide (Qm.stOf xs5 k ≠ (0, 0)) = true := by simp [hE]
                  have e2 : decide (Qm.stOf xs5 k ≠ (0, 1)) = false := by simp [hE2]
                  clear ht hE hE2
                  go_upto_region 25 with (first | (refine wpList_load_st rfl _ rfl b2 o2 k rfl xs5 HR8.out HKL.out ?_) | (refine wpList_store_newag stT rfl _ _ rfl rfl _ (A := #[.int .i64 (Qm.stOf xs5 k).1, .int .i64 (Qm.stOf xs5 k).2]) rfl rfl rfl (stA_one _ _) ?_; intro w10 hv10 hb10))
                  have HX := Lib.hid hv10
                  have HN := Lib.hid (show Below w3.heap.size w3 w10 from HEND.out.trans (hb10.mono HEND.out.size))
                  clear hv10 hb10
                  go_wp2_with (first | (refine wpList_load_ag stT (by kernel_rfl) _ rfl _ rfl (A := #[.int .i64 (Qm.stOf xs5 k).1, .int .i64 (Qm.stOf xs5 k).2]) rfl HX.out ?_) | (refine wpList_value (by kernel_rfl) (exec_neq_st rfl (Qm.stOf xs5 k) (0, 0) rfl rfl) ?_; rw [e1]) | (refine wpList_value (by kernel_rfl) (exec_neq_st rfl (Qm.stOf xs5 k) (0, 1) rfl rfl) ?_; rw [e2]))
                  go_roundg g2
                  case rel => exact ⟨i2 + 1, by rw [Int.natCast_add]; rfl, by omega, HN.out⟩
                  case measure => omega
          · have d1 : decide ((i2 : Int) < (m.length : Int)) = false := decide_eq_false (by omega)
            have HE := Lib.hid (HB3.out.trans (HB4.out.mono HB3.out.size))
            go_wp2
            go_ret
            exact ⟨rfl, HE.out⟩
end Go.Proofs.Ytljojdabmjkkcaa
