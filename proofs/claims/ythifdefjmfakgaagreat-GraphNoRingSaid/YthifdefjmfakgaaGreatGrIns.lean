/-
  slices.Insert at lines: one line more, behind the first i.
  No conditions but sizes.
-/
import Derived.Test.YthifdefjmfakgaaGreatG5
import Derived.Test.YthifdefjmfakgaaGreatGK
import Derived.Lib.AppendZeros
import Derived.Lib.Overlaps
import Derived.Laws.IdiomCopy
import Derived.Laws.Externs
namespace Go.Proofs.YthifdefjmfakgaaGreat
open Go.RowKit
open Tm (Sp Tr has put cut kids)

theorem run_append_zerosG {P : Program} (w : World) (t tn ty e : TypeId) (i : TypeInfo) (z : Value) (k kn : IntKind) (ht : P.underlying t = some (.slice e)) (htn : P.underlying tn = some (.int kn)) (hi : P.info? e = some i) (hz : i.zero = some z)
    (a : Addr) (n c m : Nat) (cs : List Value) (hold : (Builtin.firstCells i.size n (.slice (some a) n c)).run P w.drew = .ok cs.toArray w.drew) (h0 : 0 < m) (hs : 0 < i.size) (hgrow : c < n + m) (hm : n + m ≤ 10000) (hb : i.bytes ≤ 1000) :
    (Builtin.append_ #[t, tn] ty #[.slice (some a) n c, .int k m]).run P w =
      .ok (.slice (some ⟨w.heap.size, 0, none⟩) (n + m) (grownCap w (n + m) c e)) (w.drew.alloc (.cells (cs.toArray ++ Builtin.zeroCells z.cells m ++ Builtin.zeroCells z.cells (grownCap w (n + m) c e - (n + m))) e)) := by
  have hn : m ≠ 0 := by omega
  have hw : IntKind.i64.wrap (m : Int) = m := by rw [IntKind.wrap_i64]; omega
  have h63n : ¬ (9223372036854775807 < (n : Int) + (m : Int)) := by omega
  have hfit := grow_fits (need := n + m) (old := c) (bytes := i.bytes) hgrow (Nat.le_trans (Nat.mul_le_mul hm hb) (by decide)) (by omega)
  have h48' : ¬ (281474976710656 < Builtin.nextslicecap (n + m) c * i.bytes) := by omega
  have h48i : ¬ (281474976710656 < (m : Int) * (i.bytes : Int)) := by
    rw [← Int.natCast_mul]
    have : m * i.bytes ≤ 10000 * 1000 := Nat.mul_le_mul (by omega) hb
    omega
  have hneg : ¬ ((m : Int) < 0) := by omega
  have hns : ¬ (m * i.size = 0) := Nat.mul_ne_zero hn (by omega)
  have hcg : ¬ (n + m ≤ c) := by omega
  simp [Builtin.append_, run_underlying ht, run_underlying htn, sizeOf, typeInfo, zeroValue, hi, hz, asInt, asIntOf, hw, hneg, hns, h63n, h48', h48i, hcg, Question.forced, hold, newRow, grownCap]
/-- a row with what lies behind it -/
theorem own_moreG {w : World} {E : TypeId} {p : Option Addr} {n c : Nat} {xs : List Value} (h : w.ownsRow 0 E 1 (.slice p n c) n xs) (hc : n < c) : ∃ y, w.ownsRow 0 E 1 (.slice p (n + 1) c) (n + 1) (xs ++ [y]) := by
  obtain ⟨h1, ⟨h2, rfl⟩ | ⟨g, cap, cur, hv, h3, h4, h5, h6, h7, h8⟩⟩ := h
  · cases h2; omega
  · cases hv
    have hl : n < cur.toList.length := by rw [Array.length_toList]; omega
    refine ⟨cur.toList[n], by rw [List.length_append, h1]; simp, Or.inr ⟨g, c, cur, rfl, h3, h4, by omega, h6, h7, ?_⟩⟩
    rw [Nat.mul_one] at h8 ⊢
    rw [List.take_add_one, h8, List.getElem?_eq_getElem hl]
    rfl
theorem get_insG (cs : List Value) (x : Value) (i j : Nat) (hi : i ≤ cs.length) : (cs.take i ++ x :: cs.drop i)[j]? = if j < i then cs[j]? else if j = i then some x else cs[j - 1]? := by
  have ht : (cs.take i).length = i := by rw [List.length_take]; omega
  by_cases h1 : j < i
  · rw [if_pos h1, List.getElem?_append_left (by omega), List.getElem?_take_of_lt h1]
  · rw [if_neg h1, List.getElem?_append_right (by omega), ht]
    by_cases h2 : j = i
    · subst h2
      rw [if_pos rfl, Nat.sub_self]
      rfl
    · rw [if_neg h2]
      obtain ⟨k, rfl⟩ : ∃ k, j = i + 1 + k := ⟨j - i - 1, by omega⟩
      rw [show i + 1 + k - i = k + 1 from by omega, List.getElem?_cons_succ, List.getElem?_drop, show i + 1 + k - 1 = i + k from by omega]
theorem setL_insG (cs ys : List Value) (x : Value) (i : Nat) (hi : i ≤ cs.length) (hl : (cs.take i ++ ys).length = cs.length + 1) : setL (setL (cs.take i ++ ys) i [x]) (i + 1) (cs.drop i) = cs.take i ++ x :: cs.drop i := by
  apply List.ext_getElem?
  intro j
  have hl1 : (setL (cs.take i ++ ys) i [x]).length = cs.length + 1 := by rw [setL_length, hl]
  have hd : (cs.drop i).length = cs.length - i := List.length_drop
  have ht : (cs.take i).length = i := by rw [List.length_take]; omega
  have hx : [x].length = 1 := rfl
  rw [get_insG cs x i j hi, setL_get _ _ _ (by omega), setL_get _ _ _ (by omega), hx, hd]
  by_cases h1 : j < i
  · rw [if_neg (by omega), if_neg (by omega), if_pos h1, List.getElem?_append_left (by omega), List.getElem?_take_of_lt h1]
  · by_cases h2 : j = i
    · subst h2
      rw [if_neg (by omega), if_pos (by omega), if_neg (by omega), if_pos rfl, Nat.sub_self]
      rfl
    · by_cases h3 : j < cs.length + 1
      · rw [if_pos (by omega), if_neg h1, if_neg h2, List.getElem?_drop, show i + (j - (i + 1)) = j - 1 from by omega]
      · rw [if_neg (by omega), if_neg (by omega), if_neg h1, if_neg h2, List.getElem?_eq_none (by omega), List.getElem?_eq_none (by omega)]
theorem setL_shiftG (cs : List Value) (x y : Value) (i : Nat) (hi : i ≤ cs.length) : setL (setL (cs ++ [y]) (i + 1) (cs.drop i)) i [x] = cs.take i ++ x :: cs.drop i := by
  apply List.ext_getElem?
  intro j
  have hd : (cs.drop i).length = cs.length - i := List.length_drop
  have hy : (cs ++ [y]).length = cs.length + 1 := by simp
  have hl1 : (setL (cs ++ [y]) (i + 1) (cs.drop i)).length = cs.length + 1 := by rw [setL_length, hy]
  have hx : [x].length = 1 := rfl
  rw [get_insG cs x i j hi, setL_get _ _ _ (by omega), setL_get _ _ _ (by omega), hx, hd]
  by_cases h1 : j < i
  · rw [if_neg (by omega), if_neg (by omega), if_pos h1, List.getElem?_append_left (by omega)]
  · by_cases h2 : j = i
    · subst h2
      rw [if_pos (by omega), if_neg (by omega), if_pos rfl, Nat.sub_self]
      rfl
    · rw [if_neg (by omega)]
      by_cases h3 : j < cs.length + 1
      · rw [if_pos (by omega), if_neg h1, if_neg h2, List.getElem?_drop, show i + (j - (i + 1)) = j - 1 from by omega]
      · rw [if_neg (by omega), if_neg h1, if_neg h2, List.getElem?_eq_none (by omega), List.getElem?_eq_none (by omega)]
/-- what Insert leaves -/
def Insd (p : Option Addr) (n c i : Nat) (xs : List Value) (x : Value) (w : World) (e : Ending) (w' : World) : Prop :=
  ∃ p' c', e = .returned (.slice p' (n + 1) c') ∧ w'.ownsRow 0 104 1 (.slice p' (n + 1) c') (n + 1) (xs.take i ++ x :: xs.drop i) ∧ Turns (fun k => (Value.slice p n c).ownBlock = some k) w w' ∧ ∀ g, (Value.slice p' (n + 1) c').ownBlock = some g → (Value.slice p n c).ownBlock = some g ∨ w.heap.size ≤ g
theorem setCells_turnsG (b : Nat) : ∀ (vs : List Value) (o : Nat) (w : World), Turns (fun k => k = b) w (w.setCells b o vs)
  | [], _, w => Turns.refl _ w
  | v :: r, o, w => (set_turns b w o v).trans ((setCells_turnsG b r (o + 1) (w.setCell ⟨b, o, none⟩ v)).mono fun _ _ hk => Or.inl hk)
theorem own_zerosG (w : World) (cs : List Value) (m k : Nat) {z : Value} {e : TypeId} (hz : z.cells.size = 1) (hm : cs.length + m + k ≤ maxLen) :
    (w.alloc (.cells (cs.toArray ++ (Builtin.zeroCells z.cells m ++ Builtin.zeroCells z.cells k)) e)).drew.ownsRow 0 e 1 (.slice (some ⟨w.heap.size, 0, none⟩) (cs.length + m) (cs.length + m + k)) (cs.length + m) (cs ++ (Builtin.zeroCells z.cells m).toList) := by
  have hs := size_zeroCells z.cells m
  rw [hz, Nat.mul_one] at hs
  have hk := size_zeroCells z.cells k
  rw [hz, Nat.mul_one] at hk
  have hs' : (Builtin.zeroCells z.cells m).toList.length = m := by rw [Array.length_toList]; exact hs
  refine ⟨by rw [List.length_append, hs', Nat.mul_one], Or.inr ⟨w.heap.size, _, _, rfl, Nat.zero_le _, heap_alloc_new w _, Nat.le_add_right _ _, hm, ?_, ?_⟩⟩
  · rw [Array.size_append, Array.size_append, hs, hk, List.size_toArray, Nat.mul_one, Nat.add_assoc]
  · rw [Nat.mul_one]
    simp only [Array.toList_append]
    rw [← List.append_assoc, List.take_left' (by rw [List.length_append, hs'])]
theorem exec_copyG {a : Act} {w w' : World} {o : Oper} {d s : Operand} {t t' : TypeId} (ho : o.op = .call { callee := .builtin .copy, args := #[d, s], argTypes := #[t, t'] }) {v u v' : Value} (hd : a.eval d = v) (hs : a.eval s = u)
    (hr : (Builtin.copy_ #[t, t'] o.type #[v, u]).run Tryz.prog w = .ok v' w') : (execOp a.eval o).run Tryz.prog w = .ok (.value v') w' := by
  unfold execOp
  simp only [ho, resolve, invoke, builtin, Sem.run_bind, Sem.run_pure, Result.andThen_ok, List.map_toArray, List.map_cons, List.map_nil, hd, hs, hr]
theorem wp_copyG {a : Act} {w w' : World} {o : Oper} {K : Act → World → Prop} {Q : Exit → Act → World → Prop} {d s : Operand} {t t' : TypeId} (ho : o.op = .call { callee := .builtin .copy, args := #[d, s], argTypes := #[t, t'] }) {v u v' : Value} (hd : a.eval d = v) (hs : a.eval s = u)
    (hr : (Builtin.copy_ #[t, t'] o.type #[v, u]).run Tryz.prog w = .ok v' w') (h : K (a.put o.dst v') w') : Oper.wp Tryz.prog o a w K Q := by
  unfold Oper.wp
  rw [exec_copyG ho hd hs hr]
  exact h
theorem size_lineG : (Tryz.prog.info? 104).map (·.size) = some 1 := by
  obtain ⟨i, h1, -, h2, -⟩ := lineR.info
  rw [h1]; simp [h2]

set_option maxRecDepth 100000 in
set_option maxHeartbeats 4000000 in
theorem insert_any (p : Option Addr) (n c i vb lb : Nat) (xs : List Value) (w : World) (h : w.ownsRow 0 104 1 (.slice p n c) n xs) (hi : i ≤ n) (hn : n ≤ 60) (hv : AgAt w vb #[ptV lb]) (hvo : (Value.slice p n c).ownBlock ≠ some vb) (h1 : ∀ v ∈ xs, v.oneCell' = true) :
    Calls Tryz.prog 40 #[.slice p n c, .int .i64 (i : Int), .slice (some ⟨vb, 0, none⟩) 1 1] w (Insd p n c i xs (ptV lb) w) := by
  have HO := Lib.hid h
  have HV := Lib.hid hv
  have HI := Lib.hid (And.intro hi hn)
  have hxl : xs.length = n := by have := h.1; omega
  have HXL := Lib.hid hxl
  have HRV := Lib.hid (show Rd w (some ⟨vb, 0, none⟩) [ptV lb] from fun _ => ⟨_, 0, rfl, fun j u hu => by rw [Nat.zero_add, AgAt.cell hv]; simpa using hu⟩)
  have hin : i ≤ n := hi
  have hnc := own_capG h
  have hi10 : i ≤ 60 := by omega
  have hn10 := hn
  have H1 := Lib.hid h1
  have HVO := Lib.hid hvo
  obtain ⟨i0, hi0, hz00, hz1, hz22⟩ := lineR.info
  by_cases he : i = n
  · subst he
    have d1 : ((i : Int) == (i : Int)) = true := by simp
    clear h hv hi h1 hvo
    go_enter Tryz.func40, Tryz.ntmps40
    go_wp2_with (first | (refine wpList_value (by kernel_rfl) (lineR.dropE rfl rfl rfl hin) ?_) | (at_builtin; refine wpList_append_k rfl _ _ 98 rfl 0 104 i0 _ 1 8 Tryz.underlying98 hi0 hz00 hz1 (by decide) hz22 (by decide) rfl _ i xs rfl HO.out _ 1 1 [ptV lb] rfl rfl HRV.out (fun h => by cases h) (fun v hv => by rw [List.mem_singleton.1 hv]; rfl) (by omega) (Nat.zero_le _) ?_; intro p6 c6 w6 ho6 hg6 hn6))
    go_ret
    exact ⟨p6, c6, rfl, by rw [List.take_of_length_le (by omega), List.drop_eq_nil_of_le (by omega)]; exact ho6, Turns.of_grown hg6, hn6⟩
  · have hlt : i < n := by omega
    have d1 : ((i : Int) == (n : Int)) = false := by rw [beq_eq_false_iff_ne]; omega
    have d1' : ¬ ((i : Int) = (n : Int)) := by omega
    obtain ⟨g, hg⟩ : ∃ g, p = some ⟨g, 0, none⟩ := by
      obtain ⟨p2, c2, hv2, h2⟩ := own_sliceG h
      cases hv2
      exact h2 (by omega)
    subst hg
    have hic : i ≤ c := by omega
    have hrd := own_1 h
    by_cases hcap : c < n + 1
    · have d2 : decide ((c : Int) < (n : Int) + 1) = true := decide_eq_true (by omega)
      have hw1 : IntKind.i64.wrap ((n : Int) + 1 - (i : Int)) = ((n + 1 - i : Nat) : Int) := by rw [wraps_i64 _ (by omega) (by omega)]; omega
      have hza := fun ty => run_append_zerosG (P := Tryz.prog) w 98 3 ty 104 i0 (.pointer none) .i64 .i64 Tryz.underlying98 Tryz.underlying3 hi0 hz00 ⟨g, 0, none⟩ i c (n + 1 - i) (xs.take i) (by
        rw [hz1]
        exact run_firstCells_some w.drew 1 i ⟨g, 0, none⟩ i c (xs.take i) (by rw [List.length_take]; omega) (fun j v hj => by
          have h3 := hrd j v (by
            rw [List.getElem?_take] at hj
            split at hj
            · exact hj
            · cases hj)
          rw [Addr.add_lit, Nat.zero_add]; exact h3)) (by omega) (by omega) (by omega) (by omega) (by omega)
      rw [show i + (n + 1 - i) = n + 1 from by omega] at hza
      clear h hv hi h1 hvo hrd he hlt hcap
      go_enter Tryz.func40, Tryz.ntmps40
      go_upto_region 10 with (first | (refine wpList_value (by kernel_rfl) (lineR.dropE rfl rfl rfl hin) ?_) | (refine wpList_value (by kernel_rfl) (lineR.take rfl rfl rfl hic) ?_) | (at_builtin; refine Lib.wpList_append_run _ rfl _ _ _ _ rfl _ _ rfl rfl _ _ (hza _) ?_))
      have HOZ := Lib.hid (own_zerosG w (xs.take i) (n + 1 - i) (grownCap w (n + 1) c 104 - (n + 1)) (z := .pointer none) (e := 104) rfl (by rw [List.length_take, HXL.out, Nat.min_eq_left hin]; have := grownCap_ge w (n + 1) c 104; have := grownCap_le_maxLen w (n + 1) c 104 (by unfold maxLen; omega); omega))
      rw [show (Value.pointer none).cells = #[Value.pointer none] from rfl, List.length_take, HXL.out, Nat.min_eq_left hin, show i + (n + 1 - i) = n + 1 from by omega, show n + 1 + (grownCap w (n + 1) c 104 - (n + 1)) = grownCap w (n + 1) c 104 from by have := grownCap_ge w (n + 1) c 104; omega] at HOZ
      have HGE := Lib.hid (grownCap_ge w (n + 1) c 104)
      have hbx : Below w.heap.size w (w.alloc (.cells ((xs.take i).toArray ++ (Builtin.zeroCells #[Value.pointer none] (n + 1 - i) ++ Builtin.zeroCells #[Value.pointer none] (grownCap w (n + 1) c 104 - (n + 1)))) 104)).drew := ((Below.refl _ w).alloc (Nat.le_refl _) _).drew
      have HBX := Lib.hid hbx
      have HV9 := Lib.hid (AgAt.kept HV.out hbx)
      have HO9 := Lib.hid (own_belowG HO.out hbx)
      clear hbx hza
      generalize (w.alloc (.cells ((xs.take i).toArray ++ (Builtin.zeroCells #[Value.pointer none] (n + 1 - i) ++ Builtin.zeroCells #[Value.pointer none] (grownCap w (n + 1) c 104 - (n + 1)))) 104)).drew = W9 at *
      generalize grownCap w (n + 1) c 104 = cp at *
      have HNB := Lib.hid (show w.heap.size ≠ vb ∧ w.heap.size ≠ g from ⟨fun e => by have := AgAt.lt HV.out; omega, fun e => by have := (World.ownsRow.lt HO.out g rfl).2; omega⟩)
      have HNW := Lib.hid (And.intro (Nat.le_refl w.heap.size) HBX.out.size)
      obtain ⟨nb, hnb⟩ : ∃ nb, nb = w.heap.size := ⟨_, rfl⟩
      rw [← hnb] at HOZ HNB ⊢
      replace HNW := Lib.hid (show w.heap.size ≤ nb ∧ True from ⟨by rw [hnb]; exact Nat.le_refl _, trivial⟩)
      clear hnb
      have hyl : (Builtin.zeroCells #[Value.pointer none] (n + 1 - i)).toList.length = n + 1 - i := by rw [Array.length_toList, size_zeroCells]; simp
      generalize (Builtin.zeroCells #[Value.pointer none] (n + 1 - i)).toList = ys at *
      have hrow : (xs.take i ++ ys).length = n + 1 := by rw [List.length_append, List.length_take, HXL.out, hyl]; omega
      have hdr : drA 1 (some ⟨nb, 0, none⟩) cp i = some ⟨nb, i, none⟩ := by unfold drA; rw [if_neg (by have := HGE.out; omega)]; rw [Option.map_some, Addr.add_mid, Nat.zero_add, Nat.mul_one]
      have hdr2 : drA 1 (some ⟨nb, 0, none⟩) cp (i + 1) = some ⟨nb, i + 1, none⟩ := by unfold drA; rw [if_neg (by have := HGE.out; omega), Option.map_some, Addr.add_mid, Nat.zero_add, Nat.mul_one]
      have hin2 : i + 1 ≤ n + 1 := by omega
      have hin1 : i ≤ n + 1 := by omega
      have hcp1 := fun ty => run_copy_cells (P := Tryz.prog) W9 98 98 ty 104 nb i (n + 1 - i) (cp - i) ⟨vb, 0, none⟩ 1 1 [ptV lb] Tryz.underlying98 size_lineG (by simp only [List.length_cons, List.length_nil, Nat.min_def]; split <;> omega) (fun j v hj => by
          rw [Addr.add_mid, Nat.zero_add, AgAt.cell HV9.out]
          simpa using hj) (fun j hj => (own_there HOZ.out i 1 (by rw [hrow]; omega) j (by simpa using hj)).1) (fun j hj => (own_there HOZ.out i 1 (by rw [hrow]; omega) j (by simpa using hj)).2) (fun v hv => by rw [List.mem_singleton.1 hv]; rfl)
      obtain ⟨W10, hW10⟩ : ∃ W, W = W9.setCells nb i [ptV lb] := ⟨_, rfl⟩
      have HO10 := Lib.hid (own_setCells [ptV lb] W9 i HOZ.out)
      rw [← hW10] at hcp1 HO10
      have ht10 : Turns (fun k => k = nb) W9 W10 := by rw [hW10]; exact setCells_turnsG nb _ _ _
      have HT10 := Lib.hid ht10
      have HS10 := Lib.hid (ht10.own HO9.out fun k hk e => HNB.out.2 (by cases hk; exact e.symm))
      clear hW10 ht10
      go_upto_region 11 with (first | (refine wpList_value (by kernel_rfl) (lineR.dropE rfl rfl rfl hin1) ?_; rw [hdr]) | (refine wpList_value (by kernel_rfl) (exec_copyG rfl rfl rfl (hcp1 _)) ?_))
      clear hcp1 hdr
      have HO11 := Lib.hid (own_belowG HO10.out.1 (Below.drew (Below.refl W10.heap.size W10)))
      have HS11 := Lib.hid (own_1 (own_belowG HS10.out (Below.drew (Below.refl W10.heap.size W10))))
      have HT11 := Lib.hid (HT10.out.trans (Turns.of_below (Below.drew (Below.refl W10.heap.size W10))))
      have hl11 : (setL (xs.take i ++ ys) i [ptV lb]).length = n + 1 := by rw [setL_length, hrow]
      refine wp_region_held_drew (S := fun _ => True) (by kernel_rfl) trivial (fun hS => ?_)
      generalize W10.drew = wd at *
      have hdd : (xs.drop i).length = n - i := by rw [List.length_drop, HXL.out]
      have hgi : drA 1 (some ⟨g, 0, none⟩) c i = some ⟨g, i, none⟩ := by unfold drA; rw [if_neg (by omega), Option.map_some, Addr.add_mid, Nat.zero_add, Nat.mul_one]
      have hcp2 := fun ty => run_copy_cells (P := Tryz.prog) wd 98 98 ty 104 nb (i + 1) (n - i) (cp - (i + 1)) ⟨g, i, none⟩ (n - i) (c - i) (xs.drop i) Tryz.underlying98 size_lineG (by rw [hdd]; simp only [Nat.min_def]; split <;> omega) (fun j v hj => by
          rw [Addr.add_mid]
          exact HS11.out (i + j) v (by rw [List.getElem?_drop] at hj; exact hj)) (fun j hj => (own_there HO11.out (i + 1) (n - i) (by rw [hl11]; omega) j (by omega)).1) (fun j hj => (own_there HO11.out (i + 1) (n - i) (by rw [hl11]; omega) j (by omega)).2) (fun v hv => H1.out v (List.mem_of_mem_drop hv))
      refine wpAnyH_take (i := 0) (v := ?_) rfl (by kernel_rfl) (by kernel_rfl) (by kernel_rfl) (fun _ _ _ h => h) (Or.inl ⟨by kernel_rfl, ?_⟩) hS ?_
      rotate_left
      · intro W hSW
        go_simp
        all_goals with_reducible rfl
      refine wpAnyH_take (i := 1) (v := ?_) rfl (by kernel_rfl) (by kernel_rfl) (by kernel_rfl) (fun _ _ _ h => h) (Or.inl ⟨by kernel_rfl, ?_⟩) hS ?_
      rotate_left
      · intro W hSW
        go_simp
        all_goals with_reducible rfl
      refine wpAnyH_take (i := 2) (v := ?_) rfl (by kernel_rfl) (by kernel_rfl) (by kernel_rfl) (fun _ _ _ h => h) (Or.inl ⟨by kernel_rfl, ?_⟩) hS ?_
      rotate_left
      · intro W hSW
        go_simp
        all_goals with_reducible rfl
      go_simp
      refine wpAnyH_take (i := 3) (v := .int .i64 ((i + 1 : Nat) : Int)) rfl (by kernel_rfl) (by kernel_rfl) (by kernel_rfl) (fun _ _ _ h => h) (Or.inl ⟨by kernel_rfl, fun W hSW => by rw [Int.natCast_add]; go_simp; exact wraps_i64 _ (by omega) (by omega)⟩) hS ?_
      go_simp
      refine wpAnyH_take (i := 4) (v := .slice (some ⟨nb, i + 1, none⟩) (n - i) (cp - (i + 1))) rfl (by kernel_rfl) (by kernel_rfl) (by kernel_rfl) (fun _ _ _ h => h) (Or.inl ⟨by kernel_rfl, fun W hSW => (lineR.dropE (i := i + 1) rfl rfl rfl hin2).trans (by rw [hdr2, Nat.add_sub_add_right])⟩) hS ?_
      refine wpAnyH_take (i := 5) (v := ?_) rfl (by kernel_rfl) (by kernel_rfl) (by kernel_rfl) (fun _ _ _ h => h) (Or.inl ⟨by kernel_rfl, ?_⟩) hS ?_
      rotate_left
      · intro W hSW
        go_simp
        all_goals with_reducible rfl
      refine wpAnyH_take (i := 6) (v := ?_) rfl (by kernel_rfl) (by kernel_rfl) (by kernel_rfl) (fun _ _ _ h => h) (Or.inl ⟨by kernel_rfl, ?_⟩) hS ?_
      rotate_left
      · intro W hSW
        go_simp
        all_goals with_reducible rfl
      go_simp
      refine wpAnyH_take (i := 7) (v := .slice (some ⟨g, i, none⟩) (n - i) (c - i)) rfl (by kernel_rfl) (by kernel_rfl) (by kernel_rfl) (fun _ _ _ h => h) (Or.inl ⟨by kernel_rfl, fun W hSW => (lineR.dropE rfl rfl rfl hin).trans (by rw [hgi])⟩) hS ?_
      go_simp
      refine wpAnyH_ready (rs := [8]) (by kernel_rfl) (by simp) ?_
      refine AllReadyH.cons rfl (fun K hK => ?_) AllReadyH.nil
      refine step_of (by kernel_rfl) ?_
      refine wp_copyG (v := .slice (some ⟨nb, i + 1, none⟩) (n - i) (cp - (i + 1))) (u := .slice (some ⟨g, i, none⟩) (n - i) (c - i)) rfl rfl rfl (hcp2 _) ?_
      refine hK.out _ _ trivial (fun hS => ?_)
      clear hK K
      refine wpAnyH_done (by kernel_rfl) ?_ _
      go_simp
      have HO12 := Lib.hid (own_setCells (xs.drop i) wd (i + 1) HO11.out)
      have HT12 := Lib.hid (HT11.out.trans ((setCells_turnsG nb (xs.drop i) (i + 1) wd).mono fun k _ hk => Or.inl hk))
      generalize wd.setCells nb (i + 1) (xs.drop i) = w12 at *
      have HE := Lib.hid (show Insd (some ⟨g, 0, none⟩) n c i xs (ptV lb) w (.returned (.slice (some ⟨nb, 0, none⟩) (n + 1) cp)) w12 from by
        refine ⟨_, _, rfl, ?_, ?_, fun j hj => Or.inr (by cases hj; exact HNW.out.1)⟩
        · have h5 := HO12.out.1
          rw [setL_insG xs ys (ptV lb) i (by rw [HXL.out]; exact hin) (by rw [hrow, HXL.out])] at h5
          exact h5
        · exact (Turns.of_below HBX.out).trans (HT12.out.mono fun k _ hk => Or.inr (by rw [hk]; exact HNW.out.1))
      )
      clear hcp2 HO12 HT12 HO11 HS11 HT11 HO10 HS10 HT10
      go_wp2
      go_ret
      exact HE.out
    · have hnc1 : n + 1 ≤ c := by omega
      have d2 : decide ((c : Int) < (n : Int) + 1) = false := decide_eq_false (by omega)
      obtain ⟨y, hy⟩ := own_moreG h (by omega)
      have HM := Lib.hid hy
      have hvb : vb ≠ g := fun e => hvo (by rw [e]; rfl)
      obtain ⟨TB, kB, hsb, hkB⟩ : ∃ TB kB, w.shape? g = some (TB, kB) ∧ kB ≠ 0 := by
        obtain ⟨-, ⟨h2, -⟩ | ⟨g2, cap, cur, hv2, h3, h4, h5, h6, h7, h8⟩⟩ := h
        · cases h2
        · cases hv2
          exact ⟨_, _, by unfold World.shape?; rw [h4], by omega⟩
      obtain ⟨TA, hsa⟩ : ∃ TA, w.shape? vb = some (TA, 1) := by
        obtain ⟨T, h2⟩ := hv
        exact ⟨T, by unfold World.shape?; rw [h2]; rfl⟩
      have hov : ∀ lb cb, (callFunc 77 #[.slice (some ⟨vb, 0, none⟩) 1 1, .slice (some ⟨g, i + 1, none⟩) lb cb]).run Tryz.prog w = .ok (.value (.bool false)) w := fun lb cb => by
        rw [run_callFunc_extern Tryz.func77 (by kernel_rfl) (by kernel_rfl) (by kernel_rfl) (e := Extern.SlicesOverlaps.overlaps #[98, 98] #[4]) (by kernel_rfl),
          Lib.run_overlaps_apart w 98 4 104 Tryz.underlying98 1 lineR.size ⟨vb, 0, none⟩ ⟨g, i + 1, none⟩ 1 1 lb cb hvb TA TB 1 kB hsa hsb hkB (hv.free 0) (hv.free 1)]
        rfl
      have hgi2 : drA 1 (some ⟨g, 0, none⟩) c (i + 1) = some ⟨g, i + 1, none⟩ := by unfold drA; rw [if_neg (by omega), Option.map_some, Addr.add_mid, Nat.zero_add, Nat.mul_one]
      have hgi : drA 1 (some ⟨g, 0, none⟩) c i = some ⟨g, i, none⟩ := by unfold drA; rw [if_neg (by omega), Option.map_some, Addr.add_mid, Nat.zero_add, Nat.mul_one]
      have hin2 : i + 1 ≤ n + 1 := by omega
      have hin1 : i ≤ n + 1 := by omega
      have hsy : i + 1 + (n - i) ≤ (xs ++ [y]).length := by rw [List.length_append, hxl, List.length_singleton]; omega
      have hdd : (xs.drop i).length = n - i := by rw [List.length_drop, hxl]
      clear h hv hi h1 hvo hrd he hlt hcap hsa hsb hkB hy
      go_enter Tryz.func40, Tryz.ntmps40
      go_upto_region 14 with (first | (refine wpList_value (by kernel_rfl) (lineR.take (i := n + 1) rfl rfl rfl hnc1) ?_))
      go_upto_region 15 with (first | (refine wpList_value (by kernel_rfl) (lineR.dropE (i := i + 1) rfl rfl rfl hin2) ?_; rw [hgi2, Nat.add_sub_add_right]) | (rw [hov]; simp only [Result.andThen]; rw [Oper.upon_value]))
      refine wp_region_held_drew (S := fun _ => True) (by kernel_rfl) trivial (fun hS => ?_)
      have HM15 := Lib.hid (own_belowG HM.out (Below.drew (Below.refl w.heap.size w)))
      have HV15 := Lib.hid (AgAt.kept HV.out (Below.drew (Below.refl w.heap.size w)))
      have HT15 := Lib.hid (Turns.of_below (F := fun k => k = g) (Below.drew (Below.refl w.heap.size w)))
      generalize w.drew = wd at *
      have HS15 := Lib.hid (own_1 HM15.out)
      have hcp2 := fun ty => run_copy_cells (P := Tryz.prog) wd 98 98 ty 104 g (i + 1) (n - i) (c - (i + 1)) ⟨g, i, none⟩ (n + 1 - i) (c - i) (xs.drop i) Tryz.underlying98 size_lineG (by rw [hdd]; simp only [Nat.min_def]; split <;> omega) (fun j v hj => by
          rw [Addr.add_mid]
          refine HS15.out (i + j) v ?_
          rw [List.getElem?_drop] at hj
          rw [List.getElem?_append_left (by have := (List.getElem?_eq_some_iff.1 hj).1; omega)]
          exact hj) (fun j hj => (own_there HM15.out (i + 1) (n - i) hsy j (by omega)).1) (fun j hj => (own_there HM15.out (i + 1) (n - i) hsy j (by omega)).2) (fun v hv => H1.out v (List.mem_of_mem_drop hv))
      refine wpAnyH_take (i := 0) (v := ?_) rfl (by kernel_rfl) (by kernel_rfl) (by kernel_rfl) (fun _ _ _ h => h) (Or.inl ⟨by kernel_rfl, ?_⟩) hS ?_
      rotate_left
      · intro W hSW
        go_simp
        all_goals with_reducible rfl
      refine wpAnyH_take (i := 1) (v := ?_) rfl (by kernel_rfl) (by kernel_rfl) (by kernel_rfl) (fun _ _ _ h => h) (Or.inl ⟨by kernel_rfl, ?_⟩) hS ?_
      rotate_left
      · intro W hSW
        go_simp
        all_goals with_reducible rfl
      refine wpAnyH_take (i := 2) (v := ?_) rfl (by kernel_rfl) (by kernel_rfl) (by kernel_rfl) (fun _ _ _ h => h) (Or.inl ⟨by kernel_rfl, ?_⟩) hS ?_
      rotate_left
      · intro W hSW
        go_simp
        all_goals with_reducible rfl
      go_simp
      refine wpAnyH_take (i := 3) (v := .int .i64 ((i + 1 : Nat) : Int)) rfl (by kernel_rfl) (by kernel_rfl) (by kernel_rfl) (fun _ _ _ h => h) (Or.inl ⟨by kernel_rfl, fun W hSW => by rw [Int.natCast_add]; go_simp; exact wraps_i64 _ (by omega) (by omega)⟩) hS ?_
      go_simp
      refine wpAnyH_take (i := 4) (v := .slice (some ⟨g, i + 1, none⟩) (n - i) (c - (i + 1))) rfl (by kernel_rfl) (by kernel_rfl) (by kernel_rfl) (fun _ _ _ h => h) (Or.inl ⟨by kernel_rfl, fun W hSW => (lineR.dropE (i := i + 1) rfl rfl rfl hin2).trans (by rw [hgi2, Nat.add_sub_add_right])⟩) hS ?_
      refine wpAnyH_take (i := 5) (v := ?_) rfl (by kernel_rfl) (by kernel_rfl) (by kernel_rfl) (fun _ _ _ h => h) (Or.inl ⟨by kernel_rfl, ?_⟩) hS ?_
      rotate_left
      · intro W hSW
        go_simp
        all_goals with_reducible rfl
      refine wpAnyH_take (i := 6) (v := ?_) rfl (by kernel_rfl) (by kernel_rfl) (by kernel_rfl) (fun _ _ _ h => h) (Or.inl ⟨by kernel_rfl, ?_⟩) hS ?_
      rotate_left
      · intro W hSW
        go_simp
        all_goals with_reducible rfl
      go_simp
      refine wpAnyH_take (i := 7) (v := .slice (some ⟨g, i, none⟩) (n + 1 - i) (c - i)) rfl (by kernel_rfl) (by kernel_rfl) (by kernel_rfl) (fun _ _ _ h => h) (Or.inl ⟨by kernel_rfl, fun W hSW => (lineR.dropE rfl rfl rfl hin1).trans (by rw [hgi])⟩) hS ?_
      go_simp
      refine wpAnyH_ready (rs := [8]) (by kernel_rfl) (by simp) ?_
      refine AllReadyH.cons rfl (fun K hK => ?_) AllReadyH.nil
      refine step_of (by kernel_rfl) ?_
      refine wp_copyG (v := .slice (some ⟨g, i + 1, none⟩) (n - i) (c - (i + 1))) (u := .slice (some ⟨g, i, none⟩) (n + 1 - i) (c - i)) rfl rfl rfl (hcp2 _) ?_
      refine hK.out _ _ trivial (fun hS => ?_)
      clear hK K
      refine wpAnyH_done (by kernel_rfl) ?_ _
      go_simp
      have HO16 := Lib.hid (own_setCells (xs.drop i) wd (i + 1) HM15.out)
      have ht16 := setCells_turnsG g (xs.drop i) (i + 1) wd
      have HT16 := Lib.hid (HT15.out.trans (ht16.mono fun k _ hk => Or.inl hk))
      have HV16 := Lib.hid (AgAt.block HV15.out (ht16.block _ (AgAt.lt HV15.out) hvb))
      clear ht16 hcp2
      generalize wd.setCells g (i + 1) (xs.drop i) = w16 at *
      have hl16 : (setL (xs ++ [y]) (i + 1) (xs.drop i)).length = n + 1 := by rw [setL_length, List.length_append, HXL.out]; rfl
      have hcp3 := fun ty => run_copy_cells (P := Tryz.prog) w16 98 98 ty 104 g i (n + 1 - i) (c - i) ⟨vb, 0, none⟩ 1 1 [ptV lb] Tryz.underlying98 size_lineG (by simp only [List.length_cons, List.length_nil, Nat.min_def]; split <;> omega) (fun j v hj => by
          rw [Addr.add_mid, Nat.zero_add, AgAt.cell HV16.out]
          simpa using hj) (fun j hj => (own_there HO16.out.1 i 1 (by rw [hl16]; omega) j (by simpa using hj)).1) (fun j hj => (own_there HO16.out.1 i 1 (by rw [hl16]; omega) j (by simpa using hj)).2) (fun v hv => by rw [List.mem_singleton.1 hv]; rfl)
      have HE := Lib.hid (show Insd (some ⟨g, 0, none⟩) n c i xs (ptV lb) w (.returned (.slice (some ⟨g, 0, none⟩) (n + 1) c)) (w16.setCells g i [ptV lb]) from by
        refine ⟨_, _, rfl, ?_, ?_, fun j hj => Or.inl hj⟩
        · have h5 := (own_setCells [ptV lb] w16 i HO16.out.1).1
          rw [setL_shiftG xs (ptV lb) y i (by rw [HXL.out]; exact hin)] at h5
          exact h5
        · exact (HT16.out.trans ((setCells_turnsG g [ptV lb] i w16).mono fun k _ hk => Or.inl hk)).mono fun k _ hk => by rw [show k = g from hk]; rfl
      )
      clear HO16 HT16 HM15 HS15 HT15 HM
      generalize w16.setCells g i [ptV lb] = w17 at *
      go_wp2_with (first | (refine wpList_value (by kernel_rfl) (lineR.dropE rfl rfl rfl hin1) ?_; rw [hgi]) | (refine wpList_value (by kernel_rfl) (exec_copyG rfl rfl rfl (hcp3 _)) ?_))
      go_ret
      exact HE.out
end Go.Proofs.YthifdefjmfakgaaGreat
