/-
  APPEND, of elements of one cell each, onto a row of the call's own, from whatever slice (nil, empty, or with its cells): up to 3 * 2^46 bytes in all.
  No other conditions.
-/
import Derived.Test.YtilkokhapcgolaaGreatBase
import Derived.Laws.AppendOwn
import Derived.Laws.OwnMore
import Derived.Lib.AppendStr
namespace Go.Proofs.YtilkokhapcgolaaGreat
open Go.RowKit

/-- the slice (p, so many) reads as these values, one cell each -/
def Rd (w : World) (p : Option Addr) (us : List Value) : Prop :=
  0 < us.length → ∃ b o, p = some ⟨b, o, none⟩ ∧ ∀ i u, us[i]? = some u → w.cell? ⟨b, o + i, none⟩ = some u

theorem Bs.rd {w : World} {p : Option Addr} {l : List UInt8} (h : Bs w p l) : Rd w p (vals l) := by
  intro h0
  rw [vals_length] at h0
  obtain ⟨b, o, e, hc⟩ := h h0
  refine ⟨b, o, e, fun i u hu => ?_⟩
  have hi : i < l.length := by
    have := (List.getElem?_eq_some_iff.1 hu).1
    rwa [vals_length] at this
  rw [vals_get l i hi] at hu
  rw [hc i hi, hu]

theorem nextcap_le {need old : Nat} (h : old < need) : Builtin.nextslicecap need old ≤ need + need / 4 + 512 := by
  unfold Builtin.nextslicecap
  split
  · omega
  · split
    · omega
    · rw [growBy_four]
      repeat' split
      all_goals omega

theorem grow_fits {need old bytes : Nat} (h : old < need) (hb : need * bytes ≤ 211106232532992) (h1 : bytes ≤ 1000000000) : Builtin.nextslicecap need old * bytes ≤ 281474976710656 := by
  have h2 : Builtin.nextslicecap need old * bytes ≤ (need + need / 4 + 512) * bytes := Nat.mul_le_mul_right _ (nextcap_le h)
  have h3 : need / 4 * bytes ≤ need * bytes / 4 := by
    rw [Nat.le_div_iff_mul_le (by decide), Nat.mul_assoc, Nat.mul_comm bytes 4, ← Nat.mul_assoc]
    exact Nat.mul_le_mul_right _ (Nat.div_mul_le_self _ _)
  rw [Nat.add_mul, Nat.add_mul] at h2
  omega

section
variable {P : Program} (w : World)

theorem run_append_rd (base : Nat) (t ty e : TypeId) (i : TypeInfo) (z : Value) (bytes : Nat) (ht : P.underlying t = some (.slice e)) (hi : P.info? e = some i) (hz : i.zero = some z)
    (hsize : i.size = 1) (hby : i.bytes = bytes) (hb1 : bytes ≤ 1000000000) (hzs : z.cells.size = 1)
    (v : Value) (n : Nat) (xs : List Value) (hown : w.ownsRow base e 1 v n xs)
    (p : Option Addr) (c : Nat) (us : List Value) (hrd : Rd w p us) (hpn : p = none → c = 0) (h1 : ∀ u ∈ us, u.oneCell' = true)
    (hbytes : (n + us.length) * bytes ≤ 211106232532992) (h63 : n + us.length ≤ maxLen) (hbase : base ≤ w.heap.size) :
    ∃ v' w', (Builtin.append_ #[t, t] ty #[v, .slice p us.length c]).run P w = .ok v' w' ∧ w'.ownsRow base e 1 v' (n + us.length) (xs ++ us) ∧ w.grownBy w' v.ownBlock ∧
      (v' = .slice none 0 0 ↔ v = .slice none 0 0 ∧ us.length = 0) := by
  rcases Nat.eq_zero_or_pos us.length with hm0 | hm0
  · obtain rfl : us = [] := List.eq_nil_of_length_eq_zero hm0
    simp only [List.length_nil, Nat.add_zero, List.append_nil]
    have hself : w.grownBy w v.ownBlock := ⟨rfl, rfl, rfl, Nat.le_refl _, fun _ _ _ => rfl⟩
    cases p with
    | none =>
      have hc := hpn rfl
      subst hc
      exact ⟨v, w, run_append_owned_none (P := P) (w := w) base t ty e i 1 ht hi v n xs hown, hown, hself, by simp⟩
    | some a =>
      refine ⟨v, w, ?_, hown, hself, by simp⟩
      rcases hown.2 with ⟨rfl, rfl⟩ | ⟨g, cap, cur, rfl, hbg, hg, hnc, hcm, hcs, htake⟩
      · simp [Builtin.append_, run_underlying ht, sizeOf, typeInfo, hi, Builtin.lenOf, Builtin.firstCells, loadCells, loadCellsFrom]
      · simp [Builtin.append_, run_underlying ht, sizeOf, typeInfo, hi, Builtin.lenOf, Builtin.firstCells, loadCells, loadCellsFrom, hnc, storeCells]
  · obtain ⟨b, o, rfl, hcell⟩ := hrd hm0
    have hnews : ∀ j u, us[j]? = some u → w.cell? ((⟨b, o, none⟩ : Addr).add j) = some u := by
      intro j u hu
      have hadd : (⟨b, o, none⟩ : Addr).add j = ⟨b, o + j, none⟩ := by unfold Addr.add; split <;> simp_all
      rw [hadd]
      exact hcell j u hu
    have hmax : (maxLen : Nat) = 9223372036854775807 := by decide
    have hxl : xs.length = n := by simpa using hown.1
    have grown : ∀ (old : Nat), old < n + us.length → ∀ (row : Option Nat),
        (w.drew.alloc (.cells (xs.toArray ++ us.toArray ++ Builtin.zeroCells z.cells (grownCap w (n + us.length) old e - (n + us.length))) e)).ownsRow base e 1
          (.slice (some ⟨w.heap.size, 0, none⟩) (n + us.length) (grownCap w (n + us.length) old e)) (n + us.length) (xs ++ us) ∧
        w.grownBy (w.drew.alloc (.cells (xs.toArray ++ us.toArray ++ Builtin.zeroCells z.cells (grownCap w (n + us.length) old e - (n + us.length))) e)) row := by
      intro old ho row
      have hge := grownCap_ge w (n + us.length) old e
      have hcm : grownCap w (n + us.length) old e ≤ maxLen := grownCap_le_maxLen w (n + us.length) old e h63
      refine ⟨⟨by simp [hxl], .inr ⟨w.heap.size, _, _, rfl, hbase, heap_alloc_new w.drew _, hge, hcm, ?_, ?_⟩⟩, ⟨rfl, rfl, rfl, by simp, fun k hk _ => Below.heap_alloc w.drew _ k hk⟩⟩
      · simp only [Array.size_append, List.size_toArray, size_zeroCells, hzs, hxl]
        omega
      · simp only [Array.toList_append, List.append_assoc]
        rw [← List.append_assoc, show (n + us.length) * 1 = (xs ++ us).length from by simp [hxl]]
        exact List.take_left
    rcases hown.2 with ⟨rfl, rfl⟩ | ⟨g, cap, cur, rfl, hbg, hg, hnc, hcm, hcs, htake⟩
    · have hx : xs = [] := List.eq_nil_of_length_eq_zero hxl
      subst hx
      have hr := run_append_nil (P := P) w t ty e i z ht hi hz ⟨b, o, none⟩ us.length c us (by rw [hsize]; omega) hnews hm0 (by omega) (by rw [hby]; have hb := hbytes; simp only [Nat.zero_add] at hb; omega)
      have hgr := grown 0 (by omega) (Value.ownBlock (.slice none 0 0))
      simp only [Nat.zero_add, List.nil_append, Array.empty_append] at hgr ⊢
      exact ⟨_, _, hr, hgr.1, hgr.2, ⟨fun h => by simp at h, fun h => by omega⟩⟩
    · by_cases hroom : n + us.length ≤ cap
      · have hfit : n * i.size + us.length ≤ cur.size := by rw [hcs, hsize]; omega
        have hr := run_append_room (P := P) w t ty e i ht hi g n cap cur hg ⟨b, o, none⟩ us.length c us (by rw [hsize]; omega) hnews h1 hroom hfit
        rw [hsize] at hr
        refine ⟨_, _, hr, ⟨by simp [hxl], .inr ⟨g, cap, _, rfl, hbg, setRow_heap w g cur _ e _ hg, hroom, hcm, ?_, ?_⟩⟩, ⟨rfl, rfl, rfl, by simp, fun k _ hk => setRow_other w g k _ (fun e => hk (by simp [Value.ownBlock, e]))⟩, by simp⟩
        · simp only [List.size_toArray, List.length_append, List.length_take, List.length_drop, Array.length_toList]
          rw [hsize] at hfit
          omega
        · rw [htake, show (n + us.length) * 1 = (xs ++ us).length from by simp [hxl]]
          exact List.take_left
      · have holds : ∀ j u, xs[j]? = some u → w.cell? ((⟨g, 0, none⟩ : Addr).add j) = some u := hown.cells (g := g) rfl
        have hr := run_append_grow (P := P) w t ty e i z ht hi hz ⟨g, 0, none⟩ n cap xs (by rw [hsize]; omega) holds ⟨b, o, none⟩ us.length c us (by rw [hsize]; omega) hnews (by omega) (by omega) (by rw [hby]; exact grow_fits (by omega) hbytes hb1)
        have hgr := grown cap (by omega) (Value.ownBlock (.slice (some ⟨g, 0, none⟩) n cap))
        exact ⟨_, _, hr, hgr.1, hgr.2, by simp⟩

/-- THE OPERATION, for the walk: append of a slice of bytes. -/
theorem wpList_append_bs {w : World} {ops : Array Oper} {rest : List Oper} {o : Oper} {a : Act} {Q : Exit → Act → World → Prop} (hgd : o.guard = none) (s x : Operand) (t : TypeId)
    (ho : o.op = .call { callee := .builtin .append, args := #[s, x], argTypes := #[t, t] })
    (base : Nat) (e : TypeId) (i : TypeInfo) (ht : P.underlying t = some (.slice e)) (hi : P.info? e = some i) (hz : i.zero = some (.int .u8 0))
    (hsize : i.size = 1) (hby : i.bytes = 1)
    (v : Value) (xs : List UInt8) (hs : a.eval s = v) (hown : Own e w base v xs)
    (p : Option Addr) (c : Nat) (l : List UInt8) (hx : a.eval x = .slice p l.length c) (hbs : Bs w p l) (hpn : p = none → c = 0)
    (hbytes : xs.length + l.length ≤ 211106232532992) (hbase : base ≤ w.heap.size)
    (h : ∀ v' w', Own e w' base v' (xs ++ l) → Below base w w' → w.grownBy w' v.ownBlock → (v' = .slice none 0 0 ↔ v = .slice none 0 0 ∧ l.length = 0) → wpList P ops Q rest (a.put o.dst v') w') : wpList P ops Q (o :: rest) a w := by
  refine wpList_plain hgd fun K hK => ?_
  obtain ⟨v', w', hr, h2, h3, h4⟩ := run_append_rd (P := P) w base t o.type e i (.int .u8 0) 1 ht hi hz hsize hby (by decide) rfl v xs.length (vals xs) hown p c (vals l) hbs.rd hpn vals_one
    (by rw [vals_length]; omega) (by rw [vals_length]; unfold maxLen; omega) hbase
  rw [vals_length] at hr h2 h4
  unfold Oper.wp execOp
  simp only [ho, resolve, invoke, builtin, Sem.run_bind, Sem.run_pure, Result.andThen_ok, List.map_toArray, List.map_cons, List.map_nil, hs, hx, hr]
  refine hK _ _ (h v' w' ?_ ?_ h3 h4)
  · unfold Own; rw [vals_append, List.length_append]; exact h2
  · exact (Below.refl _ _).grown h3 hbase fun k hk => (World.ownsRow.lt hown k hk).1

/-- the same, the length named -/
theorem wpList_append_bsn {w : World} {ops : Array Oper} {rest : List Oper} {o : Oper} {a : Act} {Q : Exit → Act → World → Prop} (hgd : o.guard = none) (s x : Operand) (t : TypeId)
    (ho : o.op = .call { callee := .builtin .append, args := #[s, x], argTypes := #[t, t] })
    (base : Nat) (e : TypeId) (i : TypeInfo) (ht : P.underlying t = some (.slice e)) (hi : P.info? e = some i) (hz : i.zero = some (.int .u8 0))
    (hsize : i.size = 1) (hby : i.bytes = 1)
    (v : Value) (xs : List UInt8) (hs : a.eval s = v) (hown : Own e w base v xs)
    (p : Option Addr) (m c : Nat) (l : List UInt8) (hx : a.eval x = .slice p m c) (hm : l.length = m) (hbs : Bs w p l) (hpn : p = none → c = 0)
    (hbytes : xs.length + l.length ≤ 211106232532992) (hbase : base ≤ w.heap.size)
    (h : ∀ v' w', Own e w' base v' (xs ++ l) → Below base w w' → w.grownBy w' v.ownBlock → (v' = .slice none 0 0 ↔ v = .slice none 0 0 ∧ l.length = 0) → wpList P ops Q rest (a.put o.dst v') w') : wpList P ops Q (o :: rest) a w := by
  subst hm
  exact wpList_append_bs hgd s x t ho base e i ht hi hz hsize hby v xs hs hown p c l hx hbs hpn hbytes hbase h

/-- THE OPERATION, for the walk: append of a string. -/
theorem wpList_append_str {w : World} {ops : Array Oper} {rest : List Oper} {o : Oper} {a : Act} {Q : Exit → Act → World → Prop} (hgd : o.guard = none) (sl x : Operand) (t u : TypeId)
    (ho : o.op = .call { callee := .builtin .append, args := #[sl, x], argTypes := #[t, u] })
    (base : Nat) (e : TypeId) (i : TypeInfo) (ht : P.underlying t = some (.slice e)) (hu : P.underlying u = some .string) (hi : P.info? e = some i) (hz : i.zero = some (.int .u8 0))
    (hsize : i.size = 1) (hby : i.bytes = 1)
    (v : Value) (xs : List UInt8) (hs : a.eval sl = v) (hown : Own e w base v xs) (s : ByteArray) (hx : a.eval x = .string s)
    (hbytes : xs.length + s.size ≤ 140737488355328) (hbase : base ≤ w.heap.size)
    (h : ∀ v' w', Own e w' base v' (xs ++ s.data.toList) → Below base w w' → (v' = .slice none 0 0 ↔ v = .slice none 0 0 ∧ s.size = 0) → wpList P ops Q rest (a.put o.dst v') w') : wpList P ops Q (o :: rest) a w := by
  refine Lib.wpList_append_own_string w hgd sl x t u ho base e i ht hu hi hz hsize hby v xs.length (vals xs) hs hown s hx (by unfold maxLen; omega) hbytes hbase ?_
  intro v' w' h2 h3 h4
  refine h v' w' ?_ ((Below.refl _ _).grown h3 hbase fun k hk => (World.ownsRow.lt hown k hk).1) h4
  have e1 : Lib.strCells s = vals s.data.toList := rfl
  have e2 : s.size = s.data.toList.length := by rw [Array.length_toList]; rfl
  rw [e1, e2] at h2
  unfold Own
  rw [vals_append, List.length_append]
  exact h2
end

end Go.Proofs.YtilkokhapcgolaaGreat
