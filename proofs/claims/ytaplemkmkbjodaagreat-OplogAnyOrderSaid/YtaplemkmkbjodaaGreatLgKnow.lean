/-
  THE LAW's HELPERS: num, knows.
  No conditions.
-/
import Derived.Test.YtaplemkmkbjodaaGreatLgAdd
import Derived.Test.YtaplemkmkbjodaaGreatGQ
namespace Go.Proofs.YtaplemkmkbjodaaGreat
open Go.RowKit

theorem lgnum_any (n : Int) (w : World) : Calls Tryz.prog 13 #[.int .i64 n] w fun e w' => e = .returned (.int .i64 n) ∧ w = w' := by
  go_enter Tryz.func13, Tryz.ntmps13
  go_wp2
  go_ret
  exact ⟨rfl, rfl⟩
def lgOa : Opp := { Opp.zero with k := 1, key := ⟨#[97]⟩ }
def lgOb : Opp := { Opp.zero with k := 1, key := ⟨#[98]⟩ }
def lgA : Bat := ⟨1, 1, 3, [lgOa]⟩
def lgB : Bat := ⟨1, 2, 8, [lgOb]⟩
theorem lgA_right : rightT lgA = true := by decide
theorem lgB_right : rightT lgB = true := by decide
theorem lg_szs (y : Opp) (h : y.key.size ≤ 10 ∧ y.vt.size ≤ 10 ∧ y.path.length ≤ 10) : Szs [y] := ⟨fun x hx => by
  simp only [List.mem_cons, List.not_mem_nil, or_false] at hx
  subst hx
  exact ⟨by omega, by omega, by omega⟩, by simp⟩
theorem lgOs (y : Opp) (hy : y.path = []) (w : World) (T : TypeId) : Os (w.alloc (.cells (opA y none 0) T)) (some ⟨w.heap.size, 0, none⟩) 1 [⟨y, none, 0⟩] [y] :=
  ⟨rfl, fun _ => ⟨_, 0, rfl, fun i u hu => by rw [Nat.zero_add, World.cell?_alloc_at _ _ _ _ rfl, ← hu]; simp [opA, enCells]⟩, fun e he => by
    simp only [List.mem_cons, List.not_mem_nil, or_false] at he
    subst he
    exact Pa.none _ _ hy, fun h => (by cases h), by simp⟩
def lgL1 : Lg := { Lg.zero with wait := Lg.zero.wait ++ [lgB] }
theorem lg_add1 : addL Lg.zero lgB = (lgL1, [], 33) := addL_gap lgB_right rfl (by decide) (by decide)
def lgL2 : Lg := (addL lgL1 lgA).1
theorem lg_two : (addL lgL1 lgA).2.2 = 0 ∧ (addL lgL1 lgA).2.1.length = 2 := by decide
theorem lg_vec : vecL9 lgL2 1 = 2 := by decide
theorem lg_tot : totL lgL2 = 2 := by decide
set_option maxRecDepth 100000 in
theorem lg_time : (tmS lgL2 16).1 = 8 := by decide
theorem lg_rows : RowsOk lgL2 := ⟨by decide, by decide⟩
theorem lg_ents : (entA lgL2).map (·.1) = [(3, 1), (8, 1)] := by decide

theorem lg_four (w : World) (T U : TypeId) : ∀ W, W = (((w.alloc (.cells (opA lgOa none 0) T)).alloc (.cells (btA lgA (some ⟨w.heap.size, 0, none⟩) 1) U)).alloc (.cells (opA lgOb none 0) T)).alloc (.cells (btA lgB (some ⟨w.heap.size + 2, 0, none⟩) 1) U) →
    Os W (some ⟨w.heap.size, 0, none⟩) 1 [⟨lgOa, none, 0⟩] [lgOa] ∧ AgAt W (w.heap.size + 1) (btA lgA (some ⟨w.heap.size, 0, none⟩) 1) ∧ Os W (some ⟨w.heap.size + 2, 0, none⟩) 1 [⟨lgOb, none, 0⟩] [lgOb] ∧ AgAt W (w.heap.size + 3) (btA lgB (some ⟨w.heap.size + 2, 0, none⟩) 1) ∧ Below w.heap.size w W ∧ W.heap.size = w.heap.size + 4 := by
  rintro W rfl
  have h1 : ∀ (w : World) (o : Obj), Below w.heap.size w (w.alloc o) := fun w o => (Below.refl _ _).alloc (Nat.le_refl _) _
  have b1 := h1 w (.cells (opA lgOa none 0) T)
  have o1 := lgOs lgOa rfl w T
  have e1 : (w.alloc (.cells (opA lgOa none 0) T)).heap.size = w.heap.size + 1 := by simp
  generalize w.alloc (.cells (opA lgOa none 0) T) = w1 at *
  have b2 := h1 w1 (.cells (btA lgA (some ⟨w.heap.size, 0, none⟩) 1) U)
  have a2 := AgAt.new w1 (btA lgA (some ⟨w.heap.size, 0, none⟩) 1) U
  have e2 : (w1.alloc (.cells (btA lgA (some ⟨w.heap.size, 0, none⟩) 1) U)).heap.size = w.heap.size + 2 := by simp [e1]
  rw [e1] at a2
  generalize w1.alloc (.cells (btA lgA (some ⟨w.heap.size, 0, none⟩) 1) U) = w2 at *
  have b3 := h1 w2 (.cells (opA lgOb none 0) T)
  have o3 := lgOs lgOb rfl w2 T
  have e3 : (w2.alloc (.cells (opA lgOb none 0) T)).heap.size = w.heap.size + 3 := by simp [e2]
  rw [e2] at o3
  generalize w2.alloc (.cells (opA lgOb none 0) T) = w3 at *
  have b4 := h1 w3 (.cells (btA lgB (some ⟨w.heap.size + 2, 0, none⟩) 1) U)
  have a4 := AgAt.new w3 (btA lgB (some ⟨w.heap.size + 2, 0, none⟩) 1) U
  rw [e3] at a4
  have e4 : (w3.alloc (.cells (btA lgB (some ⟨w.heap.size + 2, 0, none⟩) 1) U)).heap.size = w.heap.size + 4 := by simp [e3]
  generalize w3.alloc (.cells (btA lgB (some ⟨w.heap.size + 2, 0, none⟩) 1) U) = w4 at *
  exact ⟨((o1.kept b2).kept b3).kept b4, AgAt.kept (AgAt.kept a2 b3) b4, o3.kept b4, a4, ((b1.trans (b2.mono (by omega))).trans (b3.mono (by omega))).trans (b4.mono (by omega)), e4⟩

theorem lgBops (y : Opp) {w : World} {b B : Nat} (h : Os w (some ⟨b, 0, none⟩) 1 [⟨y, none, 0⟩] [y]) (hb : b < B) (x : Bat) (hx : x.ops = [y]) : BopsF (fun k => k < B) w x (some ⟨b, 0, none⟩) 1 := by
  refine ⟨[⟨y, none, 0⟩], by rw [hx]; exact h, fun _ a ha => ?_, fun e he _ a ha => ?_⟩
  · cases ha; exact hb
  · simp only [List.mem_cons, List.not_mem_nil, or_false] at he
    subst he
    cases ha
theorem lg_added1 {l S M : Nat} {F : Nat → Prop} {w w' : World} {e : Ending} (h : Added l S M F Lg.zero lgB w e w') :
    ∃ m n1 p c k, e = .returned (.tuple #[.slice p k c, .int .i64 33]) ∧ Lo w' l S M m (fun k => F k ∨ (w.heap.size ≤ k ∧ k < n1)) ∧ m.lg = lgL1 ∧ w.heap.size ≤ n1 ∧ Turns F w w' := by
  obtain ⟨m, p, c, n1, lo, he, h1, h2, -, -, h3, -, h4⟩ := h
  rw [lg_add1] at he h2
  exact ⟨m, n1, p, c, lo.length, he, h1, h2, h3, h4⟩
theorem lg_added2 {l S M : Nat} {F : Nat → Prop} {w w' : World} {e : Ending} (h : Added l S M F lgL1 lgA w e w') :
    ∃ m G p c, e = .returned (.tuple #[.slice p 2 c, .int .i64 0]) ∧ Lo w' l S M m G ∧ m.lg = lgL2 ∧ Turns F w w' := by
  obtain ⟨m, p, c, n1, lo, he, h1, h2, h5, -, -, -, h4⟩ := h
  have h6 := congrArg List.length h5
  rw [List.length_map, lg_two.2] at h6
  rw [lg_two.1, h6] at he
  exact ⟨m, _, p, c, he, h1, h2, h4⟩

theorem lg_out {lo : List Ee} (h : (lo.map Ee.en).Pairwise fun a b => Qm.ltS a.1 b.1) (hp : (lo.map Ee.en).Perm (entA lgL2)) : lo.map (fun e => e.s) = [(3, 1), (8, 1)] := by
  have h1 : (lo.map fun e => e.s) = (lo.map Ee.en).map (·.1) := by rw [List.map_map]; rfl
  have h2 := hp.map (·.1)
  rw [lg_ents, ← h1] at h2
  refine sorted_uniq id _ _ h2 ?_ (by decide)
  rw [h1]
  exact List.pairwise_map.2 h
theorem lg_second {lo : List Ee} (h : lo.map (fun e => e.s) = [(3, 1), (8, 1)]) : (eeOf lo 1).s = (8, 1) := by
  cases lo with
  | nil => simp at h
  | cons a t =>
    cases t with
    | nil => simp at h
    | cons b t =>
      simp only [List.map_cons, List.cons.injEq] at h
      exact h.2.1
set_option maxRecDepth 100000 in
set_option maxHeartbeats 8000000 in
theorem lgknows_any (w : World) : Calls Tryz.prog 6 #[] w fun e w' => e = .returned (.bool true) ∧ Below w.heap.size w w' := by
  have hfour := lg_four w 55 39 _ rfl
  have HFOUR := Lib.hid hfour
  clear hfour
  go_enter Tryz.func6, Tryz.ntmps6
  go_wp2_with fail
  refine (lnew_any _).mono ?_
  rintro e w5 ⟨l, S, M, m5, rfl, hlo, hlg5, hl1, hl2, hb5⟩
  have hz4 := HFOUR.out.2.2.2.2.2
  obtain ⟨F, hF, hlo⟩ : ∃ F : Nat → Prop, (∀ k, F k → w.heap.size + 4 ≤ k) ∧ Lo w5 l S M m5 F := ⟨_, fun k hk => Nat.le_trans (Nat.le_of_eq hz4.symm) hk.1, hlo⟩
  have HF := Lib.hid hF
  have HBA := Lib.hid (lgBops lgOa (HFOUR.out.1.kept hb5) (B := w.heap.size + 4) (by omega) lgA rfl)
  have HVA := Lib.hid (AgAt.kept HFOUR.out.2.1 hb5)
  have HBB := Lib.hid (lgBops lgOb (HFOUR.out.2.2.1.kept hb5) (B := w.heap.size + 4) (by omega) lgB rfl)
  have HVB := Lib.hid (AgAt.kept HFOUR.out.2.2.2.1 hb5)
  have HLL := Lib.hid (show w.heap.size + 4 ≤ l from Nat.le_trans (Nat.le_of_eq hz4.symm) hl1)
  have HZ5 := Lib.hid (show w.heap.size + 4 ≤ w5.heap.size from Nat.le_trans (Nat.le_of_eq hz4.symm) hb5.size)
  have HB5 := Lib.hid (HFOUR.out.2.2.2.2.1.trans (hb5.mono HFOUR.out.2.2.2.2.1.size))
  have HADD := Lib.hid (ladd_any lgB (some ⟨w.heap.size + 2, 0, none⟩) 1 w5 hlo (lg_szs lgOb (by decide)) ⟨by decide, by decide⟩ HBB.out.bops)
  rw [hlg5] at HADD
  clear hb5 hlo hlg5 hl1 hl2 hz4 HFOUR hF
  go_wp2_with (refine wpList_load_ag btP (by kernel_rfl) _ rfl _ rfl (A := btA lgB (some ⟨w.heap.size + 2, 0, none⟩) 1) rfl HVB.out ?_)
  refine HADD.out.mono ?_
  intro e w6 ha6
  obtain ⟨m6, n6, p6, c6, k6, rfl, hlo6, hlg6, hn6, ht6⟩ := lg_added1 ha6
  have HVA6 := Lib.hid (HVA.out.block (ht6.block _ (AgAt.lt HVA.out) fun h => by have := HF.out _ h; omega))
  have HBA6 := Lib.hid (HBA.out.turns ht6 fun k hk h => by have := HF.out _ h; omega)
  have HB6 := Lib.hid (HB5.out.trans (ht6.below (fun k _ h => by have := HF.out _ h; omega) HB5.out.size))
  have HLO6 := Lib.hid hlo6
  have HLG6 := Lib.hid hlg6
  have HF6 := Lib.hid (show ∀ k, (F k ∨ (w5.heap.size ≤ k ∧ k < n6)) → w.heap.size + 4 ≤ k from fun k h => h.elim (HF.out k) fun h => by have := HZ5.out; omega)
  have HW6 := Lib.hid (lwaiting_any w6 hlo6)
  rw [hlg6, show ((lgL1.wait.length : Nat) : Int) = 1 from rfl] at HW6
  clear ha6 ht6 hlo6 hlg6 hn6 HVA HBA HB5 HVB HBB HADD
  go_wp2_with fail
  refine HW6.out.mono ?_
  rintro e w7 ⟨rfl, rfl⟩
  have HADD := Lib.hid (ladd_any lgA (some ⟨w.heap.size, 0, none⟩) 1 w6 HLO6.out (lg_szs lgOa (by decide)) ⟨by decide, by decide⟩ HBA6.out.bops)
  rw [HLG6.out] at HADD
  go_wp2_with (refine wpList_load_ag btP (by kernel_rfl) _ rfl _ rfl (A := btA lgA (some ⟨w.heap.size, 0, none⟩) 1) rfl HVA6.out ?_)
  refine HADD.out.mono ?_
  intro e w8 ha8
  obtain ⟨m8, F8, p8, c8, rfl, hlo8, hlg8, ht8⟩ := lg_added2 ha8
  have HB8 := Lib.hid (HB6.out.trans (ht8.below (fun k _ h => by have := HF6.out _ h; omega) HB6.out.size))
  have HLO8 := Lib.hid hlo8
  have HLG8 := Lib.hid hlg8
  clear ha8 ht8 hlo8 hlg8 HADD HLO6 HLG6 HVA6 HBA6 HW6 HB6
  have HV8 := Lib.hid (lvector_any w8 HLO8.out)
  go_wp2_with fail
  refine HV8.out.mono ?_
  rintro e w9 ⟨rfl, hb9⟩
  have HLO9 := Lib.hid (HLO8.out.kept hb9)
  have HB9 := Lib.hid (HB8.out.trans (hb9.mono HB8.out.size))
  clear hb9 HV8 HLO8 HB8
  have HVN := Lib.hid (VAt.new w9 (fun _ => 0) 64)
  have HBN := Lib.hid ((Below.refl w9.heap.size w9).alloc (Nat.le_refl _) (.cells (vecA fun _ => 0) 64))
  go_wp2_with (refine wpList_store_vec vtP rfl _ _ rfl _ rfl _ _ HVN.out rfl ?_; intro w10 hv10 _ _ hb10)
  have hb910 := hb10 _ _ HBN.out (Nat.le_refl _)
  have HV10 := Lib.hid hv10
  have HLO10 := Lib.hid (HLO9.out.kept hb910)
  have HB10 := Lib.hid (HB9.out.trans (hb910.mono HB9.out.size))
  have HEN := Lib.hid (lentries_any w10 HLO10.out (by rw [HLG8.out]; have := congrArg List.length lg_ents; simp at this; omega))
  rw [HLG8.out] at HEN HV10
  clear hv10 hb10 hb910 HVN HBN HLO9 HB9
  refine HEN.out.mono ?_
  rintro e w11 ⟨p11, c11, lo11, rfl, hperm, hsort, hes, -, hb11⟩
  have hlo := lg_out (hsort lg_rows) hperm
  have hll : lo11.length = 2 := by have := congrArg List.length hlo; simpa using this
  obtain ⟨b11, o11, hq, hcc⟩ := hes.rd (by rw [eeCells_length]; dsimp only; omega)
  dsimp only at hq
  subst hq
  have hs1 := lg_second hlo
  have y14 := hcc 14 (.int .i64 8) (by have := eeCells_get lo11 1 0 (by omega) (by decide); rw [show 1 * 14 + 0 = 14 from rfl] at this; dsimp only; rw [this]; simp [eeL, hs1])
  have y15 := hcc 15 (.int .i64 1) (by have := eeCells_get lo11 1 1 (by omega) (by decide); rw [show 1 * 14 + 1 = 15 from rfl] at this; dsimp only; rw [this]; simp [eeL, hs1])
  have HLO11 := Lib.hid (HLO10.out.kept hb11)
  have HB11 := Lib.hid (HB10.out.trans (hb11.mono HB10.out.size))
  have yv := (HV10.out.kept hb11).cell 1 (by decide)
  rw [lg_vec] at yv
  rw [hll]
  clear hb11 hes hcc hlo hs1 HEN HB10 HLO10 HV10 hperm hsort
  have HNUM := Lib.hid (fun n W => lgnum_any n W)
  have HT := Lib.hid (ltotal_any w11 HLO11.out)
  rw [HLG8.out, lg_tot] at HT
  have HTM := Lib.hid (fun W (hW : Below w11.heap.size w11 W) => by
    have := ltime_any W (HLO11.out.kept hW)
    rw [HLG8.out, lg_time] at this
    exact this)
  go_wp2_with (first | (go_at_call 13; refine (HNUM.out _ _).mono ?_; rintro e wn ⟨rfl, rfl⟩) | (go_at_call 14; refine HT.out.mono ?_; rintro e w12 ⟨rfl, hb12⟩; have z14 := hb12.cell (cell_lt y14); have z15 := hb12.cell (cell_lt y15); rw [y14] at z14; rw [y15] at z15; have HTI := Lib.hid (HTM.out w12 hb12); have HB12 := Lib.hid (HB11.out.trans (hb12.mono HB11.out.size)); clear hb12) | (go_at_call 24; refine HTI.out.mono ?_; rintro e w13 ⟨rfl, hb13⟩; have HB13 := Lib.hid (HB12.out.trans (hb13.mono HB12.out.size)); clear hb13))
  go_ret
  exact ⟨rfl, HB13.out⟩
end Go.Proofs.YtaplemkmkbjodaaGreat
