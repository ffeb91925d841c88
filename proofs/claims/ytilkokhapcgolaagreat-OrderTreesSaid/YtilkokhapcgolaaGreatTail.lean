/-
  A ROW THAT A CONVERSION MADE ('[]byte(s)': it bears a mark behind its end), and append to it.
  No conditions but sizes.
-/
import Derived.Test.YtilkokhapcgolaaGreatAppend
import Derived.Lib.ConvBytes
namespace Go.Proofs.YtilkokhapcgolaaGreat
open Go.RowKit

/-- 'run_storeCells_at', THE ROW's FROZEN RANGE LYING BEHIND ITS END. -/
theorem run_storeCells_atT (P : Program) (g o : Nat) (t : TypeId) (fz : Nat × Nat) : ∀ (vs : List Value) (i : Nat) (cur : Array Value) (w : World), w.heap[g]? = some (.cells cur t fz) → cur.size ≤ fz.1 → o + i + vs.length ≤ cur.size → (∀ v ∈ vs, v.oneCell' = true) →
    (storeCells ⟨g, o, none⟩ vs i).run P w = .ok () (w.setRow g (cur.toList.take (o + i) ++ vs ++ cur.toList.drop (o + i + vs.length)).toArray)
  | [], i, cur, w, hg, _, _, _ => by
    simp only [storeCells, List.append_nil, List.length_nil, Nat.add_zero, List.take_append_drop, Array.toArray_toList]
    rw [setRow_self w g cur t fz hg]
    rfl
  | v :: rest, i, cur, w, hg, hfz, hl, h1 => by
    have hi : o + i < cur.size := by simp at hl; omega
    have hadd : (⟨g, o, none⟩ : Addr).add i = ⟨g, o + i, none⟩ := by unfold Addr.add; split <;> simp_all
    have hcell : w.cell? ⟨g, o + i, none⟩ = some cur[o + i] := by simp [World.cell?, hg, hi]
    have hfro : w.frozen? ⟨g, o + i, none⟩ = false := by
      obtain ⟨lo, hi'⟩ := fz
      simp only [World.frozen?, hg, Bool.and_eq_false_iff, decide_eq_false_iff_not]
      left
      simp only at hfz
      omega
    have hst : (store ((⟨g, o, none⟩ : Addr).add i) v).run P w = .ok () (w.setRow g (cur.setIfInBounds (o + i) v)) := by
      rw [hadd, run_store P w _ v _ (h1 v (by simp)), hcell]
      simp [hfro, setCell_eq_setRow w g (o + i) cur t fz v hg]
    have ih := run_storeCells_atT P g o t fz rest (i + 1) (cur.setIfInBounds (o + i) v) (w.setRow g (cur.setIfInBounds (o + i) v)) (setRow_heap w g cur _ t _ hg) (by simpa using hfz) (by simp at hl ⊢; omega) (fun x hx => h1 x (by simp [hx]))
    simp only [storeCells, Sem.run_bind, hst, Result.andThen_ok, ih, setRow_setRow]
    congr 3
    have e := list_seg_step cur.toList (o + i) v rest (by simp at hl ⊢; omega)
    simpa [Array.toList_setIfInBounds, Nat.add_assoc] using e

/-- the value is a row of the call's own (from block B on) that holds these bytes, marked behind its end -/
def OwnT (E : TypeId) (w : World) (B : Nat) (v : Value) (l : List UInt8) : Prop :=
  ∃ g cap cur fz, v = .slice (some ⟨g, 0, none⟩) l.length cap ∧ B ≤ g ∧ w.heap[g]? = some (.cells cur E fz) ∧ cur.size ≤ fz.1 ∧ l.length ≤ cap ∧ cap ≤ maxLen ∧ cur.size = cap ∧ cur.toList.take l.length = vals l

theorem OwnT.below {E : TypeId} {w w' : World} {B : Nat} {v : Value} {l : List UInt8} (h : OwnT E w B v l) (hb : Below w.heap.size w w') : OwnT E w' B v l := by
  obtain ⟨g, cap, cur, fz, hv, hB, hg, r⟩ := h
  exact ⟨g, cap, cur, fz, hv, hB, by rw [hb.block _ (Array.getElem?_eq_some_iff.1 hg).1]; exact hg, r⟩

section
variable {P : Program} (w : World)

theorem run_append_T (base : Nat) (t ty e : TypeId) (i : TypeInfo) (ht : P.underlying t = some (.slice e)) (hi : P.info? e = some i) (hz : i.zero = some (.int .u8 0))
    (hsize : i.size = 1) (hby : i.bytes = 1)
    (v : Value) (l : List UInt8) (hown : OwnT e w base v l)
    (b o c : Nat) (m : List UInt8) (hcell : ∀ i, i < m.length → w.cell? ⟨b, o + i, none⟩ = some (.int .u8 (by8 m i)))
    (hbytes : l.length + m.length ≤ 140737488355328) (hbase : base ≤ w.heap.size) :
    ∃ p' c' w', (Builtin.append_ #[t, t] ty #[v, .slice (some ⟨b, o, none⟩) m.length c]).run P w = .ok (.slice p' (l.length + m.length) c') w' ∧ Bs w' p' (l ++ m) ∧ Below base w w' := by
  obtain ⟨g, cap, cur, fz, rfl, hB, hg, hfz, hlc, hcm, hcs, htake⟩ := hown
  have hnews : ∀ j u, (vals m)[j]? = some u → w.cell? ((⟨b, o, none⟩ : Addr).add j) = some u := by
    intro j u hu
    have hadd : (⟨b, o, none⟩ : Addr).add j = ⟨b, o + j, none⟩ := by unfold Addr.add; split <;> simp_all
    have hj : j < m.length := by
      have := (List.getElem?_eq_some_iff.1 hu).1
      rwa [vals_length] at this
    rw [vals_get m j hj] at hu
    rw [hadd, hcell j hj, hu]
  have holds : ∀ j u, (vals l)[j]? = some u → w.cell? ((⟨g, 0, none⟩ : Addr).add j) = some u := by
    intro j u hu
    have hadd : (⟨g, 0, none⟩ : Addr).add j = ⟨g, j, none⟩ := by unfold Addr.add; split <;> simp_all
    have hj : j < l.length := by
      have := (List.getElem?_eq_some_iff.1 hu).1
      rwa [vals_length] at this
    have hjc : j < cur.size := by omega
    rw [hadd]
    have h2 : cur.toList[j]? = some u := by
      rw [← htake, List.getElem?_take_of_lt hj] at hu
      exact hu
    simp only [World.cell?, hg]
    simpa using h2
  by_cases hroom : l.length + m.length ≤ cap
  · have hf := run_firstCells_some (P := P) w i.size m.length ⟨b, o, none⟩ m.length c (vals m) (by rw [hsize, vals_length]; omega) hnews
    rw [hsize] at hf
    have hst := run_storeCells_atT P g l.length e fz (vals m) 0 cur w hg hfz (by rw [vals_length]; omega) vals_one
    simp only [Nat.add_zero] at hst
    refine ⟨some ⟨g, 0, none⟩, cap, w.setRow g (cur.toList.take l.length ++ vals m ++ cur.toList.drop (l.length + (vals m).length)).toArray, by simp [Builtin.append_, run_underlying ht, sizeOf, typeInfo, hi, hsize, Builtin.lenOf, hroom, hf, Addr.add_lit, hst], ?_, ?_⟩
    · intro _
      refine ⟨g, 0, rfl, fun j hj => ?_⟩
      rw [Nat.zero_add]
      simp only [World.cell?, setRow_heap w g cur _ e _ hg]
      rw [htake]
      have hj2 : j < (vals l ++ vals m).length := by rw [← vals_append, vals_length]; exact hj
      have h3 := vals_get (l ++ m) j hj
      rw [vals_append] at h3
      have : (vals l ++ vals m ++ cur.toList.drop (l.length + (vals m).length))[j]? = some (.int .u8 (by8 (l ++ m) j)) := by
        rw [List.getElem?_append_left hj2]; exact h3
      simpa using this
    · refine ⟨rfl, rfl, rfl, by simp, fun k hk => setRow_other w g k _ (by omega)⟩
  · have hr := run_append_grow (P := P) w t ty e i (.int .u8 0) ht hi hz ⟨g, 0, none⟩ l.length cap (vals l) (by rw [hsize, vals_length]; omega) holds ⟨b, o, none⟩ m.length c (vals m) (by rw [hsize, vals_length]; omega) hnews (by omega) (by omega) (by rw [hby]; exact grow_fits (by omega) (by omega) (by decide))
    refine ⟨_, _, _, hr, ?_, ⟨rfl, rfl, rfl, by simp, fun k hk => Below.heap_alloc w.drew _ k (by simp; omega)⟩⟩
    intro _
    refine ⟨_, 0, rfl, fun j hj => ?_⟩
    rw [Nat.zero_add, show (⟨w.heap.size, j, none⟩ : Addr) = ⟨w.drew.heap.size, j, none⟩ from rfl, World.cell?_alloc_at _ _ _ _ rfl]
    have hj2 : j < (vals l ++ vals m).length := by rw [← vals_append, vals_length]; exact hj
    have h3 := vals_get (l ++ m) j hj
    rw [vals_append] at h3
    have : ((vals l).toArray ++ (vals m).toArray ++ Builtin.zeroCells (Value.int .u8 0).cells (grownCap w (l.length + m.length) cap e - (l.length + m.length)))[j]? = some (.int .u8 (by8 (l ++ m) j)) := by
      rw [Array.getElem?_append_left (by simpa using hj2)]
      simpa using h3
    exact this

/-- THE OPERATION, for the walk. -/
theorem wpList_append_T {w : World} {ops : Array Oper} {rest : List Oper} {o : Oper} {a : Act} {Q : Exit → Act → World → Prop} (hgd : o.guard = none) (s x : Operand) (t : TypeId)
    (ho : o.op = .call { callee := .builtin .append, args := #[s, x], argTypes := #[t, t] })
    (base : Nat) (e : TypeId) (i : TypeInfo) (ht : P.underlying t = some (.slice e)) (hi : P.info? e = some i) (hz : i.zero = some (.int .u8 0))
    (hsize : i.size = 1) (hby : i.bytes = 1)
    (v : Value) (l : List UInt8) (hs : a.eval s = v) (hown : OwnT e w base v l)
    (b q n c : Nat) (m : List UInt8) (hx : a.eval x = .slice (some ⟨b, q, none⟩) n c) (hn : m.length = n) (hcell : ∀ i, i < m.length → w.cell? ⟨b, q + i, none⟩ = some (.int .u8 (by8 m i)))
    (N : Nat) (hN : l.length + m.length = N) (hbytes : N ≤ 140737488355328) (hbase : base ≤ w.heap.size)
    (h : ∀ p' c' w', Bs w' p' (l ++ m) → Below base w w' → wpList P ops Q rest (a.put o.dst (.slice p' N c')) w') : wpList P ops Q (o :: rest) a w := by
  subst hn
  subst hN
  refine wpList_plain hgd fun K hK => ?_
  obtain ⟨p', c', w', hr, h2, h3⟩ := run_append_T (P := P) w base t o.type e i ht hi hz hsize hby v l hown b q c m hcell hbytes hbase
  unfold Oper.wp execOp
  simp only [ho, resolve, invoke, builtin, Sem.run_bind, Sem.run_pure, Result.andThen_ok, List.map_toArray, List.map_cons, List.map_nil, hs, hx, hr]
  have h4 := h p' c' w' h2 h3
  exact hK _ _ h4

theorem Bs.convN {w : World} {p : Option Addr} {l : List UInt8} (h : Bs w p l) (N : Nat) (hN : l.length = N) (c : Nat) (src e dst : TypeId)
    (hs : P.underlying src = some (.slice e)) (he : P.underlying e = some (.int .u8)) (hd : P.underlying dst = some .string) :
    (convert src dst (.slice p N c)).run P w = .ok (.string (strB l)) w := by
  subst hN
  exact h.conv c src e dst hs he hd

/-- '[]byte(s)', for the walk. -/
theorem wpList_bytes {w : World} {ops : Array Oper} {rest : List Oper} {o : Oper} {a : Act} {Q : Exit → Act → World → Prop} (hgd : o.guard = none) (x : Operand) (src dst e : TypeId)
    (ho : o.op = .convert src dst x) (s : ByteArray) (hx : a.eval x = .string s) (hs : P.underlying src = some .string) (hd : P.underlying dst = some (.slice e)) (he : P.underlying e = some (.int .u8)) (hsz : s.size ≤ 140737488355328)
    (h : ∀ v' w', OwnT e w' w.heap.size v' s.data.toList → Below w.heap.size w w' → w.heap.size < w'.heap.size → wpList P ops Q rest (a.put o.dst v') w') : wpList P ops Q (o :: rest) a w := by
  refine wpList_plain hgd fun K hK => ?_
  have hr := Lib.run_convert_string_bytes (P := P) w src dst e s hs hd he
  unfold Oper.wp execOp
  simp only [ho, hx, Sem.run_bind, hr, Result.andThen_ok, Sem.run_pure]
  have hl : s.data.toList.length = s.size := by rw [Array.length_toList]; rfl
  refine hK _ _ (h _ _ ⟨w.heap.size, grownCap w s.size 0 e, Lib.bytesCells w e s, _, by rw [hl], Nat.le_refl _, Lib.bytesWorld_at_new w e s, Nat.le_refl _, ?_, ?_, ?_, ?_⟩ ⟨rfl, rfl, rfl, ?_, fun k hk => Lib.bytesWorld_at_old w e s k hk⟩ ?_)
  · rw [hl]; exact grownCap_ge w s.size 0 e
  · exact grownCap_le_maxLen w s.size 0 e (by unfold maxLen; omega)
  · have := grownCap_ge w s.size 0 e
    have hz : s.data.size = s.size := rfl
    simp [Lib.bytesCells, hz]; omega
  · rw [hl]
    simp only [Lib.bytesCells, Array.toList_append, Array.toList_map]
    rw [List.take_append_of_le_length (by simp)]
    rw [List.take_of_length_le (by simp)]
    rfl
  · rw [Lib.bytesWorld_size]; omega
  · rw [Lib.bytesWorld_size]; omega
end

end Go.Proofs.YtilkokhapcgolaaGreat
