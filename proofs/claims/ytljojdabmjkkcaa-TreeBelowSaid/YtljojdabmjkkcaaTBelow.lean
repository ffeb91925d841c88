/-
  TreeBelow, walked: each node is below just one place, the one that its spot tells.
  No conditions but sizes.
-/
import Derived.Test.YtljojdabmjkkcaaTReach
namespace Go.Proofs.Ytljojdabmjkkcaa
open Go.RowKit
open Tm (Sp Tr has put cut kids)

theorem exec_load_row {c : Act} {o : Oper} {x : Operand} {w : World} (ho : o.op = .load 29 x) {b s i : Nat} (hx : c.eval x = .pointer (some ⟨b, s + i * 2, none⟩)) {l : List Qm.St} (hrd : Rd w (some ⟨b, s, none⟩) (stCells l)) (hi : i < l.length) :
    (execOp c.eval o).run Try.prog w = .ok (.value (snV (Qm.stOf l i))) w := by
  obtain ⟨d, hu⟩ := stT.und
  unfold execOp
  simp only [ho, hx, Sem.run_bind, run_loadAt_mid w b (s + i * 2) _ [.int .i64 (Qm.stOf l i).1, .int .i64 (Qm.stOf l i).2] _ (hrd.stR i hi) hu rfl stT.size, Result.andThen_ok, Sem.run_pure]
theorem wpList_build0 {w : World} {ops : Array Oper} {rest : List Oper} {o : Oper} {a : Act} {Q : Exit → Act → World → Prop} (hgd : o.guard = none) (ho : o.op = .buildSlice 34 0 #[])
    (h : wpList Try.prog ops Q rest (a.put o.dst (.slice (some ⟨w.heap.size, 0, none⟩) 0 0)) (w.alloc (.cells #[] 29))) : wpList Try.prog ops Q (o :: rest) a w := by
  have hr : (Instr.buildSlice 34 0 #[]).run Try.prog w = .ok (.slice (some ⟨w.heap.size, 0, none⟩) 0 0) (w.alloc (.cells #[] 29)) := by kernel_rfl
  refine wpList_value (by simp [Region.wanted, hgd]) ?_ h
  unfold execOp
  simp only [ho, Sem.run_bind, Sem.run_pure, Result.andThen_ok, List.map_toArray, List.map_nil, hr]
theorem wpList_build2 {w : World} {ops : Array Oper} {rest : List Oper} {o : Oper} {a : Act} {Q : Exit → Act → World → Prop} (hgd : o.guard = none) (x y : Operand) (ho : o.op = .buildSlice 34 2 #[(0, x), (1, y)]) (t r t' r' : Int) (hx : a.eval x = .agg #[.int .i64 t, .int .i64 r]) (hy : a.eval y = .agg #[.int .i64 t', .int .i64 r'])
    (h : wpList Try.prog ops Q rest (a.put o.dst (.slice (some ⟨w.heap.size, 0, none⟩) 2 2)) (w.alloc (.cells #[.int .i64 t, .int .i64 r, .int .i64 t', .int .i64 r'] 29))) : wpList Try.prog ops Q (o :: rest) a w := by
  have hr : (Instr.buildSlice 34 2 #[(0, .agg #[.int .i64 t, .int .i64 r]), (1, .agg #[.int .i64 t', .int .i64 r'])]).run Try.prog w = .ok (.slice (some ⟨w.heap.size, 0, none⟩) 2 2) (w.alloc (.cells #[.int .i64 t, .int .i64 r, .int .i64 t', .int .i64 r'] 29)) := by kernel_rfl
  refine wpList_value (by simp [Region.wanted, hgd]) ?_ h
  unfold execOp
  simp only [ho, Sem.run_bind, Sem.run_pure, Result.andThen_ok, List.map_toArray, List.map_cons, List.map_nil, hx, hy, hr]
theorem st4_one (a b c d : Int) : ∀ u ∈ [Value.int .i64 a, .int .i64 b, .int .i64 c, .int .i64 d], u.oneCell' = true := by
  intro v hv
  simp only [List.mem_cons, List.not_mem_nil, or_false] at hv
  rcases hv with rfl | rfl | rfl | rfl <;> rfl
theorem Rd_new4 (w : World) (a b c d : Int) : Rd (w.alloc (.cells #[.int .i64 a, .int .i64 b, .int .i64 c, .int .i64 d] 29)) (some ⟨w.heap.size, 0, none⟩) [.int .i64 a, .int .i64 b, .int .i64 c, .int .i64 d] := fun _ =>
  ⟨w.heap.size, 0, rfl, fun i u hu => by
    have h := AgAt.cell (AgAt.new w #[.int .i64 a, .int .i64 b, .int .i64 c, .int .i64 d] 29) i
    rw [Nat.zero_add, h]
    rw [List.getElem?_toArray]
    exact hu⟩

set_option maxRecDepth 100000 in
set_option maxHeartbeats 16000000 in
theorem treeBelow_walk {p : Option Addr} {c : Nat} (l : List TAct) (w : World) (h : Rd w p (acCells l)) (ha : ∀ a ∈ l, AcWf a) :
    Calls Try.prog 5 #[.slice p l.length c] w fun e w' => e = .returned (.bool true) ∧ Below w.heap.size w w' := by
  have HR := Lib.hid h
  have HWA := Lib.hid ha
  have HLO := Lib.hid (long_any (c := c) l w h)
  clear h ha
  go_enter Try.func5, Try.ntmps5
  go_wp2_with fail
  refine HLO.out.mono ?_
  rintro e w1 ⟨b, rfl, hb, rfl⟩
  clear HLO
  cases b with
  | true =>
    go_wp2_with fail
    refine (knows_any w).mono ?_
    rintro e w1 ⟨rfl, hb1⟩
    have HB := Lib.hid hb1
    clear hb1 hb
    go_wp2
    go_ret
    exact ⟨rfl, HB.out⟩
  | false =>
    have HLL := Lib.hid (hb rfl).1
    have HAC := Lib.hid (fun a hm => (HWA.out a hm).ok ((hb rfl).2 a hm))
    clear HWA
    clear hb
    go_wp2_with fail
    refine (new_any w).mono ?_
    rintro e w1 ⟨P, M1, M2, rfl, hl1, hb1⟩
    have HT1 := Lib.hid (show TreeAt w1 w.heap.size P [] from ⟨M1, M2, [], hl1⟩)
    have HB1 := Lib.hid hb1
    clear hl1 hb1
    go_wp2_with fail
    refine (knows_any w1).mono ?_
    rintro e w2 ⟨rfl, hb2⟩
    have HT2 := Lib.hid (HT1.out.kept hb2)
    have HB2 := Lib.hid (HB1.out.trans (hb2.mono HB1.out.size))
    clear hb2 HT1 HB1
    go_wp2_with fail
    go_loopg [4] (l.length + 1) (fun g v wr => ∃ (i : Nat) (T : Tr), v = .int .i64 (i : Int) ∧ i + g = l.length + 1 ∧ i ≤ l.length ∧ TreeAt wr w.heap.size P T ∧ GoodT T ∧ T.length ≤ i ∧ Below w.heap.size w wr)
    case atStart => exact ⟨0, [], rfl, by omega, Nat.zero_le _, HT2.out, GoodT.nil, Nat.le_refl _, HB2.out⟩
    case round =>
      clear HT2 HB2
      obtain ⟨i, T, rfl, hi, hil, hT, hg, hTl, hB⟩ := hrel
      have HT := Lib.hid hT
      have HG := Lib.hid hg
      have HTL := Lib.hid hTl
      have HB := Lib.hid hB
      clear hT hg hTl hB
      by_cases h0 : i < l.length
      · have d0 : decide ((i : Int) < (l.length : Int)) = true := decide_eq_true (by omega)
        obtain ⟨g1, rfl⟩ : ∃ g1, gk = g1 + 1 := ⟨gk - 1, by omega⟩
        obtain ⟨b, o, rfl, hbl⟩ := HR.out.addr (by rw [acCells_length]; omega)
        have HRR := Lib.hid (show Rd wr (some ⟨b, o, none⟩) (acCells l) from HR.out.base HB.out fun a ha => by cases ha; exact hbl)
        have HH0 := Lib.hid h0
        have HAI := Lib.hid (HAC.out _ (acOf_mem h0))
        have hq : i < 1000 := by have := HLL.out; omega
        clear hbl
        go_wp2_with (refine wpList_load_ac rfl _ rfl b o i rfl l HRR.out HH0.out ?_)
        refine (do_any (acOf l i) wr HT.out HB.out.size HG.out HAI.out).mono ?_
        rintro e w3 ⟨rfl, h1, h2⟩
        have HN := Lib.hid (show TreeAt w3 w.heap.size P (doT T (acOf l i)) ∧ GoodT (doT T (acOf l i)) ∧ (doT T (acOf l i)).length ≤ i + 1 ∧ Below w.heap.size w w3 from ⟨h1, HG.out.doT HAI.out.2.1, Nat.le_trans (doT_len _ _) (by have := HTL.out; omega), HB.out.trans h2⟩)
        clear h1 h2 HT HG HTL HB HRR HAI
        go_wp2
        go_roundg g1
        case rel => exact ⟨i + 1, _, by rw [Int.natCast_add]; rfl, by omega, by omega, HN.out⟩
        case measure => omega
      · have d0 : decide ((i : Int) < (l.length : Int)) = false := decide_eq_false (by omega)
        have HT5 := Lib.hid (show T.length ≤ 150 from by have := HTL.out; have := HLL.out; omega)
        clear hi hil HTL HR HAC HLL
        obtain ⟨M1, M2, C, hL⟩ := HT.out
        have HL := Lib.hid hL
        have HWF := Lib.hid hL.wf
        clear hL HT
        go_wp2_with fail
        refine (nodes_any wr HL.out (by have := HT5.out; omega)).mono ?_
        rintro e w3 ⟨p1, c1, m, hp, rfl, hrd, hpb, hb3⟩
        have HL3 := Lib.hid (HL.out.kept hb3)
        have HB3 := Lib.hid (HB.out.trans (hb3.mono HB.out.size))
        have HM := Lib.hid hp
        have HRM := Lib.hid hrd
        have HPB := Lib.hid hpb
        clear hp hrd hpb hb3 HL HB
        have hlit := World.ownsRow_lit (base := w3.heap.size) (e := 29) (size := 2) w3 #[] 0 (by simp) (by simp [maxLen]) (by simp)
        obtain ⟨i0, hi0, hz00, hz1, hz22⟩ := info_parts oinfo_st
        have hRM1 := HRM.out.below ((Below.refl w3.heap.size w3).alloc (Nat.le_refl _) (.cells #[] 29))
        have hml : m.length ≤ 150 := by have := HT5.out; have := HM.out.length_eq; rw [List.length_map] at this; omega
        go_upto_region 12 with (first
          | (refine wpList_build0 rfl rfl ?_)
          | (refine wpList_append_k rfl _ _ 34 rfl w3.heap.size 29 i0 _ 2 16 Try.underlying34 hi0 hz00 hz1 (by decide) hz22 (by decide) rfl (.slice (some ⟨w3.heap.size, 0, none⟩) 0 0) 0 [] rfl hlit p1 m.length c1 (stCells m) rfl (stCells_length m) hRM1 HPB.out.2 stCells_one (by omega) (by simp) ?_
             intro p4 c4 w4 ho4 hg4 hw4
             have ho4' : w4.ownsRow w3.heap.size 29 2 (.slice p4 m.length c4) m.length (stCells m) := by rw [Nat.zero_add] at ho4; exact ho4
             have hb4 : Below w3.heap.size w3 w4 := ((Below.refl w3.heap.size w3).alloc (Nat.le_refl _) (.cells #[] 29)).grown hg4 (by simp) (fun k e => by cases e; exact Nat.le_refl _))
          | (refine wpList_build2 rfl _ _ rfl 0 0 0 1 rfl rfl ?_)
          | (refine wpList_append_k rfl _ _ 34 rfl w3.heap.size 29 i0 _ 2 16 Try.underlying34 hi0 hz00 hz1 (by decide) hz22 (by decide) rfl (.slice p4 m.length c4) m.length (stCells m) rfl (World.ownsRow.alloc ho4' _) _ 2 2 [.int .i64 0, .int .i64 0, .int .i64 0, .int .i64 1] rfl rfl (Rd_new4 w4 0 0 0 1) (fun h => by cases h) (st4_one _ _ _ _) (by omega) (by have := hb4.size; simp; omega) ?_
             intro p6 c6 w6 ho6 hg6 hw6))
        have HL6 := Lib.hid (show ∃ L : List Qm.St, L = m ++ [(0, 0), (0, 1)] from ⟨_, rfl⟩)
        obtain ⟨L, hL⟩ := HL6.out
        have hLl : L.length = m.length + 2 := by rw [hL]; simp
        have ho7 : w6.ownsRow w3.heap.size 29 2 (.slice p6 (m.length + 2) c6) (m.length + 2) (stCells L) := by
          have : stCells L = stCells m ++ [.int .i64 0, .int .i64 0, .int .i64 0, .int .i64 1] := by rw [hL, stCells_append]; rfl
          rw [this]; exact ho6
        obtain ⟨p7, c7, he7, hrd7, -⟩ := own_rd ho7
        obtain ⟨rfl, rfl⟩ : p6 = p7 ∧ c6 = c7 := by cases he7; exact ⟨rfl, rfl⟩
        have hb6 : Below w3.heap.size w3 w6 := by
          refine (hb4.trans (((Below.refl w4.heap.size w4).alloc (Nat.le_refl _) (.cells #[.int .i64 0, .int .i64 0, .int .i64 0, .int .i64 1] 29)).mono hb4.size)).trans ?_
          exact (Turns.of_grown hg6).below (B := w3.heap.size) (fun k _ hk => (World.ownsRow.lt ho4' k hk).1) (by have := hb4.size; simp; omega)
        have HL6 := Lib.hid (HL3.out.kept hb6)
        have HB6 := Lib.hid (HB3.out.trans (hb6.mono HB3.out.size))
        have HLL2 := Lib.hid hLl
        have HRL := Lib.hid hrd7
        have HND := Lib.hid (show L.Nodup from by rw [hL]; exact HG.out.1.placesNd HM.out)
        have HSUM := Lib.hid (show (L.map fun p => (kids T p).length).sum = T.length from Tm.sum_below (by rw [hL]; exact HG.out.1.placesNd HM.out) (fun e he => by
          have := HG.out.1.places e he
          rw [hL]
          rcases List.mem_append.1 this with h | h
          · exact List.mem_append.2 (Or.inl (HM.out.mem_iff.2 h))
          · exact List.mem_append.2 (Or.inr h)))
        have HWL := Lib.hid (show ∀ x ∈ L, StWf x from fun x hx => by
          rw [hL] at hx
          rcases List.mem_append.1 hx with h | h
          · obtain ⟨e, he, rfl⟩ := List.mem_map.1 (HM.out.mem_iff.1 h)
            exact HWF.out e he
          · rcases List.mem_cons.1 h with rfl | h
            · exact ⟨i64wf (by decide) (by decide), i64wf (by decide) (by decide)⟩
            · rcases List.mem_cons.1 h with rfl | h
              · exact ⟨i64wf (by decide) (by decide), i64wf (by decide) (by decide)⟩
              · cases h)
        have HML := Lib.hid (show m.length = T.length from by have := HM.out.length_eq; rwa [List.length_map] at this)
        have HKL := Lib.hid (show ∀ p, (kids T p).length ≤ 150 from fun p => by
          unfold kids
          rw [List.length_map]
          exact Nat.le_trans (List.length_filter_le _ _) HT5.out)
        clear hL hLl ho6 ho7 he7 hrd7 hg4 hw4 hg6 hw6 hb4 hb6 ho4 ho4' hlit hRM1 hi0 hz00 hz1 hz22 HRM HPB HL3 HB3 HM HND
        go_wp2_with fail
        go_loopg [7, 8] (m.length + 3) (fun g s7 s8 w8 => ∃ (i tot : Nat), s7 = .int .i64 (tot : Int) ∧ s8 = .int .i64 (i : Int) ∧ i + g = m.length + 3 ∧ i ≤ m.length + 2 ∧ tot ≤ i * 150 ∧ tot = ((L.take i).map fun p => (kids T p).length).sum ∧ Below w6.heap.size w6 w8)
        case atStart => exact ⟨0, 0, rfl, rfl, by omega, by omega, by omega, rfl, Below.refl _ _⟩
        case round =>
          obtain ⟨i2, tot, rfl, rfl, hi2, hi3, htb, hts, hB8⟩ := hrel
          have HTS := Lib.hid hts
          have HB8 := Lib.hid hB8
          clear hts hB8
          by_cases h1 : i2 < m.length + 2
          · have d1 : decide ((i2 : Int) < (m.length : Int) + 2) = true := decide_eq_true (by omega)
            obtain ⟨g2, rfl⟩ : ∃ g2, gk = g2 + 1 := ⟨gk - 1, by omega⟩
            have HH1 := Lib.hid (show i2 < L.length from by rw [HLL2.out]; exact h1)
            obtain ⟨b, o, rfl, hbl⟩ := HRL.out.addr (by rw [stCells_length]; have := HH1.out; omega)
            have HR6 := Lib.hid (fun W (hW : Below w6.heap.size w6 W) => show Rd W (some ⟨b, o, none⟩) (stCells L) from HRL.out.base hW fun a ha => by cases ha; exact hbl)
            have HWP := Lib.hid (HWL.out _ (stOf_mem HH1.out))
            have HBE := Lib.hid (below_any (Qm.stOf L i2) _ (HL6.out.kept HB8.out) HWP.out (by have := HT5.out; omega))
            have hi4 : i2 < 1000 := by omega
            clear hbl
            go_wp2_with (refine wpList_load_st rfl _ rfl b o i2 rfl L (HR6.out _ HB8.out) HH1.out ?_)
            refine HBE.out.mono ?_
            rintro e w9 ⟨p9, c9, K9, hp9, rfl, hrd9, -, hb9⟩
            have hkl : K9.length ≤ 150 := by rw [hp9.length_eq]; exact HKL.out _
            have htb2 : tot ≤ 150000 := by omega
            have HNX := Lib.hid (show ∀ W, Below w9.heap.size w9 W → tot + K9.length ≤ (i2 + 1) * 150 ∧ tot + K9.length = ((L.take (i2 + 1)).map fun p => (kids T p).length).sum ∧ Below w6.heap.size w6 W from fun W hW => ⟨by omega, by
              rw [List.take_succ_eq_append_getElem HH1.out, List.map_append, List.sum_append, ← HTS.out, hp9.length_eq, ← stOf_eq HH1.out]
              simp, HB8.out.trans ((hb9.mono HB8.out.size).trans (hW.mono (Nat.le_trans HB8.out.size hb9.size)))⟩)
            have HB9a := Lib.hid (HB8.out.trans (hb9.mono HB8.out.size))
            have HP9 := Lib.hid hp9
            have HRK := Lib.hid hrd9
            have HL8 := Lib.hid ((HL6.out.kept HB8.out).kept hb9)
            clear hp9 hrd9 hb9 HBE
            go_wp2_with fail
            go_loopg [10] (K9.length + 1) (fun g s10 w10 => ∃ j : Nat, s10 = .int .i64 (j : Int) ∧ j + g = K9.length + 1 ∧ Below w9.heap.size w9 w10)
            case atStart => exact ⟨0, rfl, by omega, Below.refl _ _⟩
            case round =>
              obtain ⟨j, rfl, hj, hB10⟩ := hrel
              have HB10 := Lib.hid hB10
              clear hB10
              by_cases h2 : j < K9.length
              · have d2 : decide ((j : Int) < (K9.length : Int)) = true := decide_eq_true (by omega)
                obtain ⟨g3, rfl⟩ : ∃ g3, gk = g3 + 1 := ⟨gk - 1, by omega⟩
                have HH2 := Lib.hid h2
                have hj2 : j < 1000 := by omega
                obtain ⟨b2, o2, rfl, hbl2⟩ := HRK.out.addr (by rw [stCells_length]; omega)
                have HR8 := Lib.hid (fun W (hW : Below w9.heap.size w9 W) => show Rd W (some ⟨b2, o2, none⟩) (stCells K9) from HRK.out.base hW fun a ha => by cases ha; exact hbl2)
                obtain ⟨s, hs1, hs2, hs3, hs4⟩ := HG.out.1.kid (HP9.out.mem_iff.1 (stOf_mem h2))
                obtain ⟨sp, sk⟩ := s
                dsimp only at hs2
                subst hs2
                have HWN := Lib.hid (show StWf (Qm.stOf K9 j) from HWF.out _ (Tm.look_mem hs1))
                have hsp := spot_any (Qm.stOf K9 j) _ (HL8.out.kept HB10.out) HWN.out
                rw [hs1] at hsp
                have HSP := Lib.hid hsp
                have HW1 := Lib.hid (show ∀ (F : Nat → Prop) W, Lay W P M1 M2 T C F → Calls Try.prog 21 #[.pointer (some ⟨P, 0, none⟩), snV (Qm.stOf K9 j), snV (Qm.stOf K9 j)] W fun e w' => e = .returned (.bool true) ∧ Below W.heap.size W w' from fun F W hW => by
                  have := within_any (Qm.stOf K9 j) (Qm.stOf K9 j) W hW HWN.out HG.out.1 HG.out.2
                  rwa [hs3] at this)
                have HW2 := Lib.hid (show ∀ (F : Nat → Prop) W, Lay W P M1 M2 T C F → Calls Try.prog 21 #[.pointer (some ⟨P, 0, none⟩), snV (Qm.stOf L i2), snV (Qm.stOf K9 j)] W fun e w' => e = .returned (.bool true) ∧ Below W.heap.size W w' from fun F W hW => by
                  have := within_any (Qm.stOf L i2) (Qm.stOf K9 j) W hW HWN.out HG.out.1 HG.out.2
                  rwa [hs4] at this)
                clear hbl2 hs1 hs3 hs4 hsp
                have hB10' := HB10.out
                go_wp2_with (refine wpList_load_st rfl _ rfl b2 o2 j rfl K9 (HR8.out _ HB10.out) HH2.out ?_)
                clear hB10'
                refine HSP.out.mono ?_
                rintro e w11 ⟨rfl, hb11⟩
                replace HB10 := Lib.hid (HB10.out.trans (hb11.mono HB10.out.size))
                clear hb11 HSP
                go_upto_region 22 with (refine wpList_store_newag spT rfl _ _ rfl rfl _ (A := spA (Qm.stOf L i2, sk)) rfl rfl rfl (spA_one _) ?_; intro w12 hv12 hb12)
                have hbd := hb12.trans ((Below.drew (Below.refl w12.heap.size w12)).mono hb12.size)
                replace HB10 := Lib.hid (HB10.out.trans (hbd.mono HB10.out.size))
                have HX := Lib.hid (AgAt.kept hv12 (Below.drew (Below.refl w12.heap.size w12)))
                clear hv12 hb12 hbd
                refine wp_region_held_drew (S := fun W => Below w12.drew.heap.size w12.drew W) (by kernel_rfl) (Below.refl _ _) (fun hS => ?_)
                have HL9 := Lib.hid (HL8.out.kept HB10.out)
                have HB9 := Lib.hid (HB9a.out.trans (HB10.out.mono HB9a.out.size))
                generalize w12.drew = w12 at *
                refine wpAnyH_take (i := 0) (v := ?_) rfl (by kernel_rfl) (by kernel_rfl) (by kernel_rfl) (fun _ _ _ h => h) (Or.inl ⟨by kernel_rfl, ?_⟩) hS ?_
                rotate_left
                · intro W hSW
                  go_simp
                  all_goals with_reducible rfl
                refine wpAnyH_take (i := 1) (v := ?_) rfl (by kernel_rfl) (by kernel_rfl) (by kernel_rfl) (fun _ _ _ h => h) (Or.inl ⟨by kernel_rfl, ?_⟩) hS ?_
                rotate_left
                · intro W hSW
                  go_simp
                  all_goals with_reducible rfl
                refine wpAnyH_take (i := 2) (v := ?_) rfl (by kernel_rfl) (by kernel_rfl) (by kernel_rfl) (fun _ _ _ h => h) (Or.inl ⟨by kernel_rfl, ?_⟩) hS ?_
                rotate_left
                · intro W hSW
                  go_simp
                  all_goals with_reducible rfl
                go_simp
                refine wpAnyH_take (i := 3) (v := ?_) rfl (by kernel_rfl) (by kernel_rfl) (by kernel_rfl) (fun _ _ _ h => h) (Or.inl ⟨by kernel_rfl, ?_⟩) hS ?_
                rotate_left
                · intro W hSW
                  go_simp
                  all_goals with_reducible rfl
                go_simp
                refine wpAnyH_take (i := 4) (v := snV (Qm.stOf L i2)) rfl (by kernel_rfl) (by kernel_rfl) (by kernel_rfl) (fun _ _ _ h => h) (Or.inl ⟨by kernel_rfl, fun W hSW => exec_load_part stT rfl rfl [.int .i64 (Qm.stOf L i2).1, .int .i64 (Qm.stOf L i2).2] rfl (AgAt.kept HX.out hSW) (spPar (s := (Qm.stOf L i2, sk)))⟩) hS ?_
                refine wpAnyH_take (i := 5) (v := ?_) rfl (by kernel_rfl) (by kernel_rfl) (by kernel_rfl) (fun _ _ _ h => h) (Or.inl ⟨by kernel_rfl, ?_⟩) hS ?_
                rotate_left
                · intro W hSW
                  go_simp
                  all_goals with_reducible rfl
                refine wpAnyH_take (i := 6) (v := ?_) rfl (by kernel_rfl) (by kernel_rfl) (by kernel_rfl) (fun _ _ _ h => h) (Or.inl ⟨by kernel_rfl, ?_⟩) hS ?_
                rotate_left
                · intro W hSW
                  go_simp
                  all_goals with_reducible rfl
                go_simp
                refine wpAnyH_take (i := 7) (v := ?_) rfl (by kernel_rfl) (by kernel_rfl) (by kernel_rfl) (fun _ _ _ h => h) (Or.inl ⟨by kernel_rfl, ?_⟩) hS ?_
                rotate_left
                · intro W hSW
                  have hx1 : (i2 : Int) < (m.length : Int) + 2 := by omega
                  go_simp
                  all_goals with_reducible rfl
                go_simp
                refine wpAnyH_take (i := 8) (v := snV (Qm.stOf L i2)) rfl (by kernel_rfl) (by kernel_rfl) (by kernel_rfl) (fun _ _ _ h => h) (Or.inl ⟨by kernel_rfl, fun W hSW => exec_load_row rfl rfl (HR6.out _ (HB9.out.trans (hSW.mono HB9.out.size))) HH1.out⟩) hS ?_
                go_simp
                refine wpAnyH_take (i := 9) (v := .bool false) rfl (by kernel_rfl) (by kernel_rfl) (by kernel_rfl) (fun _ _ _ h => h) (Or.inl ⟨by kernel_rfl, fun W hSW => (exec_neq_st rfl (Qm.stOf L i2) (Qm.stOf L i2) rfl rfl).trans (by simp)⟩) hS ?_
                refine wpAnyH_take (i := 10) (v := ?_) rfl (by kernel_rfl) (by kernel_rfl) (by kernel_rfl) (fun _ _ _ h => h) (Or.inl ⟨by kernel_rfl, ?_⟩) hS ?_
                rotate_left
                · intro W hSW
                  go_simp
                  all_goals with_reducible rfl
                refine wpAnyH_take (i := 11) (v := ?_) rfl (by kernel_rfl) (by kernel_rfl) (by kernel_rfl) (fun _ _ _ h => h) (Or.inl ⟨by kernel_rfl, ?_⟩) hS ?_
                rotate_left
                · intro W hSW
                  go_simp
                  all_goals with_reducible rfl
                go_simp
                refine wpAnyH_take (i := 12) (v := ?_) rfl (by kernel_rfl) (by kernel_rfl) (by kernel_rfl) (fun _ _ _ h => h) (Or.inl ⟨by kernel_rfl, ?_⟩) hS ?_
                rotate_left
                · intro W hSW
                  go_simp
                  all_goals with_reducible rfl
                refine wpAnyH_take (i := 13) (v := ?_) rfl (by kernel_rfl) (by kernel_rfl) (by kernel_rfl) (fun _ _ _ h => h) (Or.inl ⟨by kernel_rfl, ?_⟩) hS ?_
                rotate_left
                · intro W hSW
                  go_simp
                  all_goals with_reducible rfl
                refine wpAnyH_take (i := 14) (v := ?_) rfl (by kernel_rfl) (by kernel_rfl) (by kernel_rfl) (fun _ _ _ h => h) (Or.inl ⟨by kernel_rfl, ?_⟩) hS ?_
                rotate_left
                · intro W hSW
                  go_simp
                  all_goals with_reducible rfl
                go_simp
                refine wpAnyH_take (i := 15) (v := ?_) rfl (by kernel_rfl) (by kernel_rfl) (by kernel_rfl) (fun _ _ _ h => h) (Or.inl ⟨by kernel_rfl, ?_⟩) hS ?_
                rotate_left
                · intro W hSW
                  go_simp
                  all_goals with_reducible rfl
                go_simp
                refine wpAnyH_take (i := 16) (v := snV (Qm.stOf K9 j)) rfl (by kernel_rfl) (by kernel_rfl) (by kernel_rfl) (fun _ _ _ h => h) (Or.inl ⟨by kernel_rfl, fun W hSW => exec_load_row rfl rfl (HR8.out _ (HB10.out.trans (hSW.mono HB10.out.size))) HH2.out⟩) hS ?_
                refine wpAnyH_take (i := 17) (v := ?_) rfl (by kernel_rfl) (by kernel_rfl) (by kernel_rfl) (fun _ _ _ h => h) (Or.inl ⟨by kernel_rfl, ?_⟩) hS ?_
                rotate_left
                · intro W hSW
                  go_simp
                  all_goals with_reducible rfl
                refine wpAnyH_take (i := 18) (v := ?_) rfl (by kernel_rfl) (by kernel_rfl) (by kernel_rfl) (fun _ _ _ h => h) (Or.inl ⟨by kernel_rfl, ?_⟩) hS ?_
                rotate_left
                · intro W hSW
                  go_simp
                  all_goals with_reducible rfl
                go_simp
                refine wpAnyH_take (i := 19) (v := ?_) rfl (by kernel_rfl) (by kernel_rfl) (by kernel_rfl) (fun _ _ _ h => h) (Or.inl ⟨by kernel_rfl, ?_⟩) hS ?_
                rotate_left
                · intro W hSW
                  go_simp
                  all_goals with_reducible rfl
                go_simp
                refine wpAnyH_take (i := 20) (v := snV (Qm.stOf K9 j)) rfl (by kernel_rfl) (by kernel_rfl) (by kernel_rfl) (fun _ _ _ h => h) (Or.inl ⟨by kernel_rfl, fun W hSW => exec_load_row rfl rfl (HR8.out _ (HB10.out.trans (hSW.mono HB10.out.size))) HH2.out⟩) hS ?_
                go_simp
                refine wpAnyH_ready (rs := [21]) (by kernel_rfl) (by simp) ?_
                refine AllReadyH.cons rfl (fun K hK => ?_) AllReadyH.nil
                go_simp
                go_wp2_with ((go_at_call 21; refine (HW1.out _ _ HL9.out).mono ?_; rintro e wn ⟨rfl, hbn⟩))
                replace HL9 := Lib.hid (HL9.out.kept hbn)
                refine hK.out _ _ (hS.trans (hbn.mono hS.size)) (fun hS => ?_)
                clear hK K hbn
                refine wpAnyH_take (i := 22) (v := ?_) rfl (by kernel_rfl) (by kernel_rfl) (by kernel_rfl) (fun _ _ _ h => h) (Or.inl ⟨by kernel_rfl, ?_⟩) hS ?_
                rotate_left
                · intro W hSW
                  go_simp
                  all_goals with_reducible rfl
                refine wpAnyH_take (i := 23) (v := ?_) rfl (by kernel_rfl) (by kernel_rfl) (by kernel_rfl) (fun _ _ _ h => h) (Or.inl ⟨by kernel_rfl, ?_⟩) hS ?_
                rotate_left
                · intro W hSW
                  go_simp
                  all_goals with_reducible rfl
                refine wpAnyH_take (i := 24) (v := ?_) rfl (by kernel_rfl) (by kernel_rfl) (by kernel_rfl) (fun _ _ _ h => h) (Or.inl ⟨by kernel_rfl, ?_⟩) hS ?_
                rotate_left
                · intro W hSW
                  go_simp
                  all_goals with_reducible rfl
                go_simp
                refine wpAnyH_take (i := 25) (v := ?_) rfl (by kernel_rfl) (by kernel_rfl) (by kernel_rfl) (fun _ _ _ h => h) (Or.inl ⟨by kernel_rfl, ?_⟩) hS ?_
                rotate_left
                · intro W hSW
                  go_simp
                  all_goals with_reducible rfl
                refine wpAnyH_take (i := 26) (v := ?_) rfl (by kernel_rfl) (by kernel_rfl) (by kernel_rfl) (fun _ _ _ h => h) (Or.inl ⟨by kernel_rfl, ?_⟩) hS ?_
                rotate_left
                · intro W hSW
                  go_simp
                  all_goals with_reducible rfl
                refine wpAnyH_take (i := 27) (v := ?_) rfl (by kernel_rfl) (by kernel_rfl) (by kernel_rfl) (fun _ _ _ h => h) (Or.inl ⟨by kernel_rfl, ?_⟩) hS ?_
                rotate_left
                · intro W hSW
                  go_simp
                  all_goals with_reducible rfl
                go_simp
                refine wpAnyH_take (i := 28) (v := ?_) rfl (by kernel_rfl) (by kernel_rfl) (by kernel_rfl) (fun _ _ _ h => h) (Or.inl ⟨by kernel_rfl, ?_⟩) hS ?_
                rotate_left
                · intro W hSW
                  have hx1 : (i2 : Int) < (m.length : Int) + 2 := by omega
                  go_simp
                  all_goals with_reducible rfl
                go_simp
                refine wpAnyH_take (i := 29) (v := snV (Qm.stOf L i2)) rfl (by kernel_rfl) (by kernel_rfl) (by kernel_rfl) (fun _ _ _ h => h) (Or.inl ⟨by kernel_rfl, fun W hSW => exec_load_row rfl rfl (HR6.out _ (HB9.out.trans (hSW.mono HB9.out.size))) HH1.out⟩) hS ?_
                refine wpAnyH_take (i := 30) (v := ?_) rfl (by kernel_rfl) (by kernel_rfl) (by kernel_rfl) (fun _ _ _ h => h) (Or.inl ⟨by kernel_rfl, ?_⟩) hS ?_
                rotate_left
                · intro W hSW
                  go_simp
                  all_goals with_reducible rfl
                refine wpAnyH_take (i := 31) (v := ?_) rfl (by kernel_rfl) (by kernel_rfl) (by kernel_rfl) (fun _ _ _ h => h) (Or.inl ⟨by kernel_rfl, ?_⟩) hS ?_
                rotate_left
                · intro W hSW
                  go_simp
                  all_goals with_reducible rfl
                go_simp
                refine wpAnyH_take (i := 32) (v := ?_) rfl (by kernel_rfl) (by kernel_rfl) (by kernel_rfl) (fun _ _ _ h => h) (Or.inl ⟨by kernel_rfl, ?_⟩) hS ?_
                rotate_left
                · intro W hSW
                  go_simp
                  all_goals with_reducible rfl
                go_simp
                refine wpAnyH_take (i := 33) (v := snV (Qm.stOf K9 j)) rfl (by kernel_rfl) (by kernel_rfl) (by kernel_rfl) (fun _ _ _ h => h) (Or.inl ⟨by kernel_rfl, fun W hSW => exec_load_row rfl rfl (HR8.out _ (HB10.out.trans (hSW.mono HB10.out.size))) HH2.out⟩) hS ?_
                go_simp
                refine wpAnyH_ready (rs := [34]) (by kernel_rfl) (by simp) ?_
                refine AllReadyH.cons rfl (fun K hK => ?_) AllReadyH.nil
                go_simp
                go_wp2_with ((go_at_call 21; refine (HW2.out _ _ HL9.out).mono ?_; rintro e wn ⟨rfl, hbn⟩))
                replace HL9 := Lib.hid (HL9.out.kept hbn)
                refine hK.out _ _ (hS.trans (hbn.mono hS.size)) (fun hS => ?_)
                clear hK K hbn
                refine wpAnyH_take (i := 35) (v := ?_) rfl (by kernel_rfl) (by kernel_rfl) (by kernel_rfl) (fun _ _ _ h => h) (Or.inl ⟨by kernel_rfl, ?_⟩) hS ?_
                rotate_left
                · intro W hSW
                  go_simp
                  all_goals with_reducible rfl
                refine wpAnyH_take (i := 36) (v := ?_) rfl (by kernel_rfl) (by kernel_rfl) (by kernel_rfl) (fun _ _ _ h => h) (Or.inl ⟨by kernel_rfl, ?_⟩) hS ?_
                rotate_left
                · intro W hSW
                  go_simp
                  all_goals with_reducible rfl
                go_simp
                refine wpAnyH_done (by kernel_rfl) ?_ _
                go_simp
                have HN := Lib.hid (HB10.out.trans (hS.mono HB10.out.size))
                clear hS HL9 HX HW1 HW2
                go_wp2
                go_roundg g3
                case rel => exact ⟨j + 1, by rw [Int.natCast_add]; rfl, by omega, HN.out⟩
                case measure => omega
              · have d2 : decide ((j : Int) < (K9.length : Int)) = false := decide_eq_false (by omega)
                have HN := Lib.hid (HNX.out _ HB10.out)
                clear HNX
                go_wp2
                go_roundg g2
                case rel => exact ⟨i2 + 1, tot + K9.length, by rw [Int.natCast_add], by rw [Int.natCast_add]; rfl, by omega, by omega, HN.out⟩
                case measure => omega
          · have d1 : decide ((i2 : Int) < (m.length : Int) + 2) = false := decide_eq_false (by omega)
            have htm : tot = m.length := by
              rw [HTS.out, List.take_of_length_le (by rw [HLL2.out]; omega), HSUM.out, HML.out]
            have HE := Lib.hid (HB6.out.trans (HB8.out.mono HB6.out.size))
            subst htm
            go_wp2
            go_ret
            exact ⟨by simp, HE.out⟩
end Go.Proofs.Ytljojdabmjkkcaa
