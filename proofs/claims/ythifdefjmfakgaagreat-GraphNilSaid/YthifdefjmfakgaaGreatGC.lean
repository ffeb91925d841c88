/-
  APPEND, of elements of one cell each, onto a row of the call's own, from whatever slice (nil, empty, or with its cells): up to 3 * 2^46 bytes in all.
  No other conditions.
  HOW MANY BYTES A NUMBER TAKES: bits.Len64 and bits.Len of a number below 2^48.
  THE SUM: what wire.Sum and the reference's Sum answer of any slice of bytes: 'Wm.crc'; the world as it was.
  WRITING: addNum, Num, Text, sumBytes, Frame: new memory with the document's bytes.
  FRAMES: sumBytes, Frame, bytes.Clone, bytes.Equal.
  A NUMBER's FORM: what wire.number and the reference's number answer of any slice of bytes; the world as it was.
  UNFRAME: what wire.Unframe answers of any slice of bytes.
-/
import Derived.Test.YthifdefjmfakgaaGreatGA
import Derived.Laws.AppendOwn
import Derived.Laws.OwnMore
import Derived.Lib.AppendStr
import Derived.Lib.Tables
import Derived.Lib.BitFns
import Derived.Deep.RegionWith
import Derived.Deep.DeepMust
namespace Go.Proofs.YthifdefjmfakgaaGreat
open Go.RowKit

/-- the slice (p, so many) reads as these values, one cell each -/
def Rd (w : World) (p : Option Addr) (us : List Value) : Prop :=
  0 < us.length → ∃ b o, p = some ⟨b, o, none⟩ ∧ ∀ i u, us[i]? = some u → w.cell? ⟨b, o + i, none⟩ = some u

theorem Bs.rd {w : World} {p : Option Addr} {l : List UInt8} (h : Bs w p l) : Rd w p (vals l) := by
  intro h0
  rw [vals_length] at h0
  obtain ⟨b, o, e, hc⟩ := h h0
  refine ⟨b, o, e, fun i u hu => ?_⟩
  have hi : i < l.length := by
    have := (List.getElem?_eq_some_iff.1 hu).1
    rwa [vals_length] at this
  rw [vals_get l i hi] at hu
  rw [hc i hi, hu]

theorem nextcap_le {need old : Nat} (h : old < need) : Builtin.nextslicecap need old ≤ need + need / 4 + 512 := by
  unfold Builtin.nextslicecap
  split
  · omega
  · split
    · omega
    · rw [growBy_four]
      repeat' split
      all_goals omega

theorem grow_fits {need old bytes : Nat} (h : old < need) (hb : need * bytes ≤ 211106232532992) (h1 : bytes ≤ 1000000000) : Builtin.nextslicecap need old * bytes ≤ 281474976710656 := by
  have h2 : Builtin.nextslicecap need old * bytes ≤ (need + need / 4 + 512) * bytes := Nat.mul_le_mul_right _ (nextcap_le h)
  have h3 : need / 4 * bytes ≤ need * bytes / 4 := by
    rw [Nat.le_div_iff_mul_le (by decide), Nat.mul_assoc, Nat.mul_comm bytes 4, ← Nat.mul_assoc]
    exact Nat.mul_le_mul_right _ (Nat.div_mul_le_self _ _)
  rw [Nat.add_mul, Nat.add_mul] at h2
  omega

section
variable {P : Program} (w : World)

theorem run_append_rd (base : Nat) (t ty e : TypeId) (i : TypeInfo) (z : Value) (bytes : Nat) (ht : P.underlying t = some (.slice e)) (hi : P.info? e = some i) (hz : i.zero = some z)
    (hsize : i.size = 1) (hby : i.bytes = bytes) (hb1 : bytes ≤ 1000000000) (hzs : z.cells.size = 1)
    (v : Value) (n : Nat) (xs : List Value) (hown : w.ownsRow base e 1 v n xs)
    (p : Option Addr) (c : Nat) (us : List Value) (hrd : Rd w p us) (hpn : p = none → c = 0) (h1 : ∀ u ∈ us, u.oneCell' = true)
    (hbytes : (n + us.length) * bytes ≤ 211106232532992) (h63 : n + us.length ≤ maxLen) (hbase : base ≤ w.heap.size) :
    ∃ v' w', (Builtin.append_ #[t, t] ty #[v, .slice p us.length c]).run P w = .ok v' w' ∧ w'.ownsRow base e 1 v' (n + us.length) (xs ++ us) ∧ w.grownBy w' v.ownBlock ∧
      (v' = .slice none 0 0 ↔ v = .slice none 0 0 ∧ us.length = 0) := by
  rcases Nat.eq_zero_or_pos us.length with hm0 | hm0
  · obtain rfl : us = [] := List.eq_nil_of_length_eq_zero hm0
    simp only [List.length_nil, Nat.add_zero, List.append_nil]
    have hself : w.grownBy w v.ownBlock := ⟨rfl, rfl, rfl, Nat.le_refl _, fun _ _ _ => rfl⟩
    cases p with
    | none =>
      have hc := hpn rfl
      subst hc
      exact ⟨v, w, run_append_owned_none (P := P) (w := w) base t ty e i 1 ht hi v n xs hown, hown, hself, by simp⟩
    | some a =>
      refine ⟨v, w, ?_, hown, hself, by simp⟩
      rcases hown.2 with ⟨rfl, rfl⟩ | ⟨g, cap, cur, rfl, hbg, hg, hnc, hcm, hcs, htake⟩
      · simp [Builtin.append_, run_underlying ht, sizeOf, typeInfo, hi, Builtin.lenOf, Builtin.firstCells, loadCells, loadCellsFrom]
      · simp [Builtin.append_, run_underlying ht, sizeOf, typeInfo, hi, Builtin.lenOf, Builtin.firstCells, loadCells, loadCellsFrom, hnc, storeCells]
  · obtain ⟨b, o, rfl, hcell⟩ := hrd hm0
    have hnews : ∀ j u, us[j]? = some u → w.cell? ((⟨b, o, none⟩ : Addr).add j) = some u := by
      intro j u hu
      have hadd : (⟨b, o, none⟩ : Addr).add j = ⟨b, o + j, none⟩ := by unfold Addr.add; split <;> simp_all
      rw [hadd]
      exact hcell j u hu
    have hmax : (maxLen : Nat) = 9223372036854775807 := by decide
    have hxl : xs.length = n := by simpa using hown.1
    have grown : ∀ (old : Nat), old < n + us.length → ∀ (row : Option Nat),
        (w.drew.alloc (.cells (xs.toArray ++ us.toArray ++ Builtin.zeroCells z.cells (grownCap w (n + us.length) old e - (n + us.length))) e)).ownsRow base e 1
          (.slice (some ⟨w.heap.size, 0, none⟩) (n + us.length) (grownCap w (n + us.length) old e)) (n + us.length) (xs ++ us) ∧
        w.grownBy (w.drew.alloc (.cells (xs.toArray ++ us.toArray ++ Builtin.zeroCells z.cells (grownCap w (n + us.length) old e - (n + us.length))) e)) row := by
      intro old ho row
      have hge := grownCap_ge w (n + us.length) old e
      have hcm : grownCap w (n + us.length) old e ≤ maxLen := grownCap_le_maxLen w (n + us.length) old e h63
      refine ⟨⟨by simp [hxl], .inr ⟨w.heap.size, _, _, rfl, hbase, heap_alloc_new w.drew _, hge, hcm, ?_, ?_⟩⟩, ⟨rfl, rfl, rfl, by simp, fun k hk _ => Below.heap_alloc w.drew _ k hk⟩⟩
      · simp only [Array.size_append, List.size_toArray, size_zeroCells, hzs, hxl]
        omega
      · simp only [Array.toList_append, List.append_assoc]
        rw [← List.append_assoc, show (n + us.length) * 1 = (xs ++ us).length from by simp [hxl]]
        exact List.take_left
    rcases hown.2 with ⟨rfl, rfl⟩ | ⟨g, cap, cur, rfl, hbg, hg, hnc, hcm, hcs, htake⟩
    · have hx : xs = [] := List.eq_nil_of_length_eq_zero hxl
      subst hx
      have hr := run_append_nil (P := P) w t ty e i z ht hi hz ⟨b, o, none⟩ us.length c us (by rw [hsize]; omega) hnews hm0 (by omega) (by rw [hby]; have hb := hbytes; simp only [Nat.zero_add] at hb; omega)
      have hgr := grown 0 (by omega) (Value.ownBlock (.slice none 0 0))
      simp only [Nat.zero_add, List.nil_append, Array.empty_append] at hgr ⊢
      exact ⟨_, _, hr, hgr.1, hgr.2, ⟨fun h => by simp at h, fun h => by omega⟩⟩
    · by_cases hroom : n + us.length ≤ cap
      · have hfit : n * i.size + us.length ≤ cur.size := by rw [hcs, hsize]; omega
        have hr := run_append_room (P := P) w t ty e i ht hi g n cap cur hg ⟨b, o, none⟩ us.length c us (by rw [hsize]; omega) hnews h1 hroom hfit
        rw [hsize] at hr
        refine ⟨_, _, hr, ⟨by simp [hxl], .inr ⟨g, cap, _, rfl, hbg, setRow_heap w g cur _ e _ hg, hroom, hcm, ?_, ?_⟩⟩, ⟨rfl, rfl, rfl, by simp, fun k _ hk => setRow_other w g k _ (fun e => hk (by simp [Value.ownBlock, e]))⟩, by simp⟩
        · simp only [List.size_toArray, List.length_append, List.length_take, List.length_drop, Array.length_toList]
          rw [hsize] at hfit
          omega
        · rw [htake, show (n + us.length) * 1 = (xs ++ us).length from by simp [hxl]]
          exact List.take_left
      · have holds : ∀ j u, xs[j]? = some u → w.cell? ((⟨g, 0, none⟩ : Addr).add j) = some u := hown.cells (g := g) rfl
        have hr := run_append_grow (P := P) w t ty e i z ht hi hz ⟨g, 0, none⟩ n cap xs (by rw [hsize]; omega) holds ⟨b, o, none⟩ us.length c us (by rw [hsize]; omega) hnews (by omega) (by omega) (by rw [hby]; exact grow_fits (by omega) hbytes hb1)
        have hgr := grown cap (by omega) (Value.ownBlock (.slice (some ⟨g, 0, none⟩) n cap))
        exact ⟨_, _, hr, hgr.1, hgr.2, by simp⟩

/-- THE OPERATION, for the walk: append of a slice of bytes. -/
theorem wpList_append_bs {w : World} {ops : Array Oper} {rest : List Oper} {o : Oper} {a : Act} {Q : Exit → Act → World → Prop} (hgd : o.guard = none) (s x : Operand) (t : TypeId)
    (ho : o.op = .call { callee := .builtin .append, args := #[s, x], argTypes := #[t, t] })
    (base : Nat) (e : TypeId) (i : TypeInfo) (ht : P.underlying t = some (.slice e)) (hi : P.info? e = some i) (hz : i.zero = some (.int .u8 0))
    (hsize : i.size = 1) (hby : i.bytes = 1)
    (v : Value) (xs : List UInt8) (hs : a.eval s = v) (hown : Own e w base v xs)
    (p : Option Addr) (c : Nat) (l : List UInt8) (hx : a.eval x = .slice p l.length c) (hbs : Bs w p l) (hpn : p = none → c = 0)
    (hbytes : xs.length + l.length ≤ 211106232532992) (hbase : base ≤ w.heap.size)
    (h : ∀ v' w', Own e w' base v' (xs ++ l) → Below base w w' → w.grownBy w' v.ownBlock → (v' = .slice none 0 0 ↔ v = .slice none 0 0 ∧ l.length = 0) → wpList P ops Q rest (a.put o.dst v') w') : wpList P ops Q (o :: rest) a w := by
  refine wpList_plain hgd fun K hK => ?_
  obtain ⟨v', w', hr, h2, h3, h4⟩ := run_append_rd (P := P) w base t o.type e i (.int .u8 0) 1 ht hi hz hsize hby (by decide) rfl v xs.length (vals xs) hown p c (vals l) hbs.rd hpn vals_one
    (by rw [vals_length]; omega) (by rw [vals_length]; unfold maxLen; omega) hbase
  rw [vals_length] at hr h2 h4
  unfold Oper.wp execOp
  simp only [ho, resolve, invoke, builtin, Sem.run_bind, Sem.run_pure, Result.andThen_ok, List.map_toArray, List.map_cons, List.map_nil, hs, hx, hr]
  refine hK _ _ (h v' w' ?_ ?_ h3 h4)
  · unfold Own; rw [vals_append, List.length_append]; exact h2
  · exact (Below.refl _ _).grown h3 hbase fun k hk => (World.ownsRow.lt hown k hk).1

/-- the same, the length named -/
theorem wpList_append_bsn {w : World} {ops : Array Oper} {rest : List Oper} {o : Oper} {a : Act} {Q : Exit → Act → World → Prop} (hgd : o.guard = none) (s x : Operand) (t : TypeId)
    (ho : o.op = .call { callee := .builtin .append, args := #[s, x], argTypes := #[t, t] })
    (base : Nat) (e : TypeId) (i : TypeInfo) (ht : P.underlying t = some (.slice e)) (hi : P.info? e = some i) (hz : i.zero = some (.int .u8 0))
    (hsize : i.size = 1) (hby : i.bytes = 1)
    (v : Value) (xs : List UInt8) (hs : a.eval s = v) (hown : Own e w base v xs)
    (p : Option Addr) (m c : Nat) (l : List UInt8) (hx : a.eval x = .slice p m c) (hm : l.length = m) (hbs : Bs w p l) (hpn : p = none → c = 0)
    (hbytes : xs.length + l.length ≤ 211106232532992) (hbase : base ≤ w.heap.size)
    (h : ∀ v' w', Own e w' base v' (xs ++ l) → Below base w w' → w.grownBy w' v.ownBlock → (v' = .slice none 0 0 ↔ v = .slice none 0 0 ∧ l.length = 0) → wpList P ops Q rest (a.put o.dst v') w') : wpList P ops Q (o :: rest) a w := by
  subst hm
  exact wpList_append_bs hgd s x t ho base e i ht hi hz hsize hby v xs hs hown p c l hx hbs hpn hbytes hbase h

/-- THE OPERATION, for the walk: append of a string. -/
theorem wpList_append_str {w : World} {ops : Array Oper} {rest : List Oper} {o : Oper} {a : Act} {Q : Exit → Act → World → Prop} (hgd : o.guard = none) (sl x : Operand) (t u : TypeId)
    (ho : o.op = .call { callee := .builtin .append, args := #[sl, x], argTypes := #[t, u] })
    (base : Nat) (e : TypeId) (i : TypeInfo) (ht : P.underlying t = some (.slice e)) (hu : P.underlying u = some .string) (hi : P.info? e = some i) (hz : i.zero = some (.int .u8 0))
    (hsize : i.size = 1) (hby : i.bytes = 1)
    (v : Value) (xs : List UInt8) (hs : a.eval sl = v) (hown : Own e w base v xs) (s : ByteArray) (hx : a.eval x = .string s)
    (hbytes : xs.length + s.size ≤ 140737488355328) (hbase : base ≤ w.heap.size)
    (h : ∀ v' w', Own e w' base v' (xs ++ s.data.toList) → Below base w w' → (v' = .slice none 0 0 ↔ v = .slice none 0 0 ∧ s.size = 0) → wpList P ops Q rest (a.put o.dst v') w') : wpList P ops Q (o :: rest) a w := by
  refine Lib.wpList_append_own_string w hgd sl x t u ho base e i ht hu hi hz hsize hby v xs.length (vals xs) hs hown s hx (by unfold maxLen; omega) hbytes hbase ?_
  intro v' w' h2 h3 h4
  refine h v' w' ?_ ((Below.refl _ _).grown h3 hbase fun k hk => (World.ownsRow.lt hown k hk).1) h4
  have e1 : Lib.strCells s = vals s.data.toList := rfl
  have e2 : s.size = s.data.toList.length := by rw [Array.length_toList]; rfl
  rw [e1, e2] at h2
  unfold Own
  rw [vals_append, List.length_append]
  exact h2
end

end Go.Proofs.YthifdefjmfakgaaGreat

namespace Go.Proofs.YthifdefjmfakgaaGreat
open Go.RowKit

theorem info_u8 : (Tryz.prog.info? 5).map (fun i => (i.zero, i.size, i.bytes)) = some (some (.int .u8 0), 1, 1) := by kernel_rfl

theorem len_fit (k b n : Nat) (l : Int) (h : l = (b : Int)) (hb : b ≤ 8) (hk : k ≤ 40) (hn : n = k + b) : wrap64 ((k : Int) + wrap64 l) = (n : Int) := by
  subst h hn
  rw [IntWalk.wrap64_in (b : Int) (by omega), IntWalk.wrap64_in _ (by omega)]
  omega
theorem len_fit0 (b n : Nat) (l : Int) (h : l = (b : Int)) (hb : b ≤ 8) (hn : n = b) : wrap64 (wrap64 l) = (n : Int) := by
  subst h hn
  rw [IntWalk.wrap64_in (n : Int) (by omega), IntWalk.wrap64_in _ (by omega)]

set_option maxHeartbeats 2000000 in
set_option maxRecDepth 100000 in
theorem len64_any (x : Int) (w : World) (h0 : 0 ≤ x) (h1 : x ≤ 281474976710655) :
    Calls Tryz.prog 173 #[.int .u64 x] w fun e w' => e = .returned (.int .i64 (Lib.bitLen x.toNat)) ∧ w = w' := by
  have t9 := Tryz.underlying9
  by_cases a1 : x ≤ 255
  · have HF := Lib.hid (len_fit0 (Lib.bitLen x.toNat) (Lib.bitLen x.toNat) _ (Lib.len8_of x h0 a1) (Lib.bitLen_le8' x h0 a1) rfl)
    go_enter Tryz.func173, Tryz.ntmps173
    go_wp2
    go_ret
    exact ⟨ret_int HF.out, rfl⟩
  by_cases a2 : x ≤ 65535
  · have e : (x / 256).toNat = x.toNat / 256 := by omega
    have b0 : 0 ≤ x / 256 := by omega
    have b1 : x / 256 ≤ 255 := by omega
    have HF := Lib.hid (len_fit 8 (Lib.bitLen (x / 256).toNat) (Lib.bitLen x.toNat) _ (Lib.len8_of _ b0 b1) (Lib.bitLen_le8' _ b0 b1) (by decide) (by rw [e]; exact Lib.bitLen_shift8 _ (by omega) (by omega)))
    clear e
    go_enter Tryz.func173, Tryz.ntmps173
    go_wp2
    go_ret
    exact ⟨ret_int HF.out, rfl⟩
  by_cases a3 : x ≤ 16777215
  · have e : (x / 65536).toNat = x.toNat / 65536 := by omega
    have b0 : 0 ≤ x / 65536 := by omega
    have b1 : x / 65536 ≤ 255 := by omega
    have HF := Lib.hid (len_fit 16 (Lib.bitLen (x / 65536).toNat) (Lib.bitLen x.toNat) _ (Lib.len8_of _ b0 b1) (Lib.bitLen_le8' _ b0 b1) (by decide) (by rw [e]; exact Lib.bitLen_shift16 _ (by omega) (by omega)))
    clear e
    go_enter Tryz.func173, Tryz.ntmps173
    go_wp2
    go_ret
    exact ⟨ret_int HF.out, rfl⟩
  by_cases a4 : x ≤ 4294967295
  · have e : (x / 65536 / 256).toNat = x.toNat / 16777216 := by omega
    have b0 : 0 ≤ x / 65536 / 256 := by omega
    have b1 : x / 65536 / 256 ≤ 255 := by omega
    have HF := Lib.hid (len_fit 24 (Lib.bitLen (x / 65536 / 256).toNat) (Lib.bitLen x.toNat) _ (Lib.len8_of _ b0 b1) (Lib.bitLen_le8' _ b0 b1) (by decide) (by rw [e]; exact Lib.bitLen_shift24 _ (by omega) (by omega)))
    clear e
    go_enter Tryz.func173, Tryz.ntmps173
    go_wp2
    go_ret
    exact ⟨ret_int HF.out, rfl⟩
  by_cases a5 : x ≤ 1099511627775
  · have e : (x / 4294967296).toNat = x.toNat / 4294967296 := by omega
    have b0 : 0 ≤ x / 4294967296 := by omega
    have b1 : x / 4294967296 ≤ 255 := by omega
    have HF := Lib.hid (len_fit 32 (Lib.bitLen (x / 4294967296).toNat) (Lib.bitLen x.toNat) _ (Lib.len8_of _ b0 b1) (Lib.bitLen_le8' _ b0 b1) (by decide) (by rw [e]; exact Lib.bitLen_shift32 _ (by omega) (by omega)))
    clear e
    go_enter Tryz.func173, Tryz.ntmps173
    go_wp2
    go_ret
    exact ⟨ret_int HF.out, rfl⟩
  · have e : (x / 4294967296 / 256).toNat = x.toNat / 1099511627776 := by omega
    have b0 : 0 ≤ x / 4294967296 / 256 := by omega
    have b1 : x / 4294967296 / 256 ≤ 255 := by omega
    have HF := Lib.hid (len_fit 40 (Lib.bitLen (x / 4294967296 / 256).toNat) (Lib.bitLen x.toNat) _ (Lib.len8_of _ b0 b1) (Lib.bitLen_le8' _ b0 b1) (by decide) (by rw [e]; exact Lib.bitLen_shift40 _ (by omega) (by omega)))
    clear e
    go_enter Tryz.func173, Tryz.ntmps173
    go_wp2
    go_ret
    exact ⟨ret_int HF.out, rfl⟩

end Go.Proofs.YthifdefjmfakgaaGreat

namespace Go.Proofs.YthifdefjmfakgaaGreat
open Go.RowKit

theorem half_bits (S : Nat) (h : S < 4294967296) : bits BinOp.xor IntKind.u32 ((S : Int) / 2) (bits BinOp.and IntKind.u32 3988292384 (-bits BinOp.and IntKind.u32 (S : Int) 1 % 4294967296)) = ((Wm.half S : Nat) : Int) := by
  have h1 : bits BinOp.and IntKind.u32 (S : Int) 1 = ((S % 2 : Nat) : Int) := by
    have := Go.u32_and_nat S 1 h (by decide)
    rw [Go.nat_mask1] at this
    exact this
  have h2 : ((S : Int) / 2) = ((S / 2 : Nat) : Int) := by omega
  rw [h1, h2]
  unfold Wm.half
  rcases Nat.mod_two_eq_zero_or_one S with e | e
  · rw [e]
    have h3 : bits BinOp.and IntKind.u32 3988292384 (-((0 : Nat) : Int) % 4294967296) = ((0 : Nat) : Int) := by
      have := Go.u32_and_nat 3988292384 0 (by decide) (by decide)
      simpa using this
    rw [h3, Go.u32_xor_nat _ _ (by omega) (by decide)]
    simp
  · rw [e]
    have h3 : bits BinOp.and IntKind.u32 3988292384 (-((1 : Nat) : Int) % 4294967296) = ((3988292384 : Nat) : Int) := by
      have := Go.u32_and_nat 3988292384 4294967295 (by decide) (by decide)
      have e2 : (3988292384 &&& 4294967295 : Nat) = 3988292384 := by decide
      rw [e2] at this
      exact this
    rw [h3, Go.u32_xor_nat _ _ (by omega) (by decide)]
    simp

theorem not_nat (R : Nat) (h : R < 4294967296) : 4294967295 ^^^ R = 4294967295 - R := by
  apply Nat.eq_of_testBit_eq
  intro i
  have a := Nat.testBit_two_pow_sub_succ (n := 32) (x := R) (by omega) i
  have e : 2 ^ 32 - (R + 1) = 4294967295 - R := by omega
  rw [e] at a
  rw [a, Nat.testBit_xor]
  have b := Nat.testBit_two_pow_sub_one 32 i
  have e2 : (2 ^ 32 - 1 : Nat) = 4294967295 := by decide
  rw [e2] at b
  rw [b]
  by_cases hi : i < 32
  · simp [hi]
  · have : R.testBit i = false := Nat.testBit_lt_two_pow (Nat.lt_of_lt_of_le h (by have := Nat.pow_le_pow_right (n := 2) (by decide) (Nat.le_of_not_lt hi); omega))
    simp [hi, this]

theorem not_bits (R : Nat) (h : R < 4294967296) : wrap64 (bits BinOp.xor IntKind.u32 IntKind.u32.max (R : Int)) = ((4294967295 - R : Nat) : Int) := by
  have := Go.u32_xor_nat 4294967295 R (by decide) h
  rw [not_nat R h] at this
  rw [show (IntKind.u32.max) = ((4294967295 : Nat) : Int) from by decide, this]
  exact IntWalk.wrap64_in _ (by omega)

end Go.Proofs.YthifdefjmfakgaaGreat

namespace Go.Proofs.YthifdefjmfakgaaGreat
open Go.RowKit

theorem bitLen_pos (n : Nat) (h0 : n ≠ 0) (h : n < 18446744073709551616) : 1 ≤ Lib.bitLen n := by
  rw [Lib.bitLen_half n h0 h]; omega

theorem nlen_bits (n : Nat) (h : n < 281474976710656) : (Lib.bitLen n + 7) / 8 = Wm.nlen n := by
  unfold Wm.nlen
  split
  · subst_vars; decide
  split
  · have a := bitLen_pos n (by omega) (by omega)
    have b := Lib.bitLen_le n 8 (by decide) (by omega)
    omega
  split
  · have a := bitLen_pos (n / 256) (by omega) (by omega)
    have b := Lib.bitLen_le (n / 256) 8 (by decide) (by omega)
    have c := Lib.bitLen_shift8 n (by omega) (by omega)
    omega
  split
  · have a := bitLen_pos (n / 65536) (by omega) (by omega)
    have b := Lib.bitLen_le (n / 65536) 8 (by decide) (by omega)
    have c := Lib.bitLen_shift16 n (by omega) (by omega)
    omega
  split
  · have a := bitLen_pos (n / 16777216) (by omega) (by omega)
    have b := Lib.bitLen_le (n / 16777216) 8 (by decide) (by omega)
    have c := Lib.bitLen_shift24 n (by omega) (by omega)
    omega
  split
  · have a := bitLen_pos (n / 4294967296) (by omega) (by omega)
    have b := Lib.bitLen_le (n / 4294967296) 8 (by decide) (by omega)
    have c := Lib.bitLen_shift32 n (by omega) (by omega)
    omega
  · have a := bitLen_pos (n / 1099511627776) (by omega) (by omega)
    have b := Lib.bitLen_le (n / 1099511627776) 8 (by decide) (by omega)
    have c := Lib.bitLen_shift40 n (by omega) (by omega)
    omega

set_option maxRecDepth 100000 in
set_option maxHeartbeats 400000 in
theorem len_any (x : Int) (w : World) (h0 : 0 ≤ x) (h1 : x ≤ 281474976710655) :
    Calls Tryz.prog 149 #[.int .u64 x] w fun e w' => e = .returned (.int .i64 (Lib.bitLen x.toNat)) ∧ w = w' := by
  go_enter Tryz.func149, Tryz.ntmps149
  go_wp2_with (go_at_call 173; refine (len64_any _ _ h0 h1).mono ?_; rintro e w' ⟨rfl, rfl⟩)
  go_ret
  exact ⟨rfl, rfl⟩

/-- a new block of one byte reads as that byte -/
theorem Bs.new1 (w : World) (x : Int) (c : UInt8) (E : TypeId) (h : x = (c.toNat : Int)) : Bs (w.alloc (.cells #[.int .u8 x] E)) (some ⟨w.heap.size, 0, none⟩) [c] := by
  intro _
  refine ⟨_, _, rfl, fun i hi => ?_⟩
  have : i = 0 := by simpa using hi
  subst this
  rw [World.cell?_alloc_at _ _ _ _ rfl, h]
  rfl

theorem low_byte (n : Nat) : ((UInt8.ofNat (n % 256)).toNat : Int) = (n : Int) % 256 := by simp

/-- the byte at place j of a number's bytes -/
theorem be_at (k n j : Nat) (h : j < k) : (Wm.be k n)[j]'(by rw [Wm.be_length]; exact h) = UInt8.ofNat (n / 256 ^ (k - 1 - j) % 256) := by
  have a := Wm.be_take k n (j + 1) (by omega)
  have b := Wm.be_take k n j (by omega)
  rw [take_snoc _ j (by rw [Wm.be_length]; exact h), b, Wm.be] at a
  have c := List.append_inj_right' a rfl
  simp only [List.cons.injEq, and_true] at c
  rw [c, show k - (j + 1) = k - 1 - j from by omega]

theorem shr_pow (n e : Nat) : (n : Int) / 2 ^ (8 * e) = ((n / 256 ^ e : Nat) : Int) := by
  rw [show (2 : Int) ^ (8 * e) = ((256 ^ e : Nat) : Int) from by rw [show (256 : Nat) = 2 ^ 8 from rfl, ← Nat.pow_mul]; exact_mod_cast rfl]
  exact_mod_cast rfl

/-- what Num answers: the bytes, the error -/
def numW (n : Int) : List UInt8 × Nat := if 0 ≤ n ∧ n ≤ 281474976710655 then (Wm.numB n.toNat, 0) else ([], 30)

/-- bytes and an error: new memory; nothing below it has turned -/
def Wrote (E : TypeId) (w : World) (r : List UInt8 × Nat) (e : Ending) (w' : World) : Prop :=
  ∃ v, e = .returned (.tuple #[v, .int .i64 (r.2 : Int)]) ∧ Own E w' w.heap.size v r.1 ∧ Below w.heap.size w w'

/-- what Text answers -/
def textW (s : List UInt8) : List UInt8 × Nat := if s.length ≤ 1048576 then (Wm.numB s.length ++ s, 0) else ([], 6)

theorem numB_small (n : Nat) : (Wm.numB n).length ≤ 7 := by rw [Wm.numB_length]; have := Wm.nlen_le n; omega

end Go.Proofs.YthifdefjmfakgaaGreat

namespace Go.Proofs.YthifdefjmfakgaaGreat
open Go.RowKit

theorem be4 (n : Nat) : Wm.be 4 n = [UInt8.ofNat (n / 16777216 % 256), UInt8.ofNat (n / 65536 % 256), UInt8.ofNat (n / 256 % 256), UInt8.ofNat (n % 256)] := by
  simp [Wm.be, Nat.div_div_eq_div_mul]

/-- a literal row of the call's own -/
theorem Own.lit {E : TypeId} (w : World) (cs : Array Value) (l : List UInt8) (h : cs.toList = vals l) (hm : l.length ≤ maxLen) : Own E (w.alloc (.cells cs E)) w.heap.size (.slice (some ⟨w.heap.size, 0, none⟩) l.length l.length) l := by
  unfold Own
  rw [← h]
  refine World.ownsRow_lit w cs l.length (Nat.le_refl _) hm ?_
  rw [← Array.length_toList, h, vals_length, Nat.mul_one]

/-- what Frame answers -/
def frameW (l : List UInt8) : List UInt8 × Nat := if l.length ≤ 1048576 then (Wm.frameB l, 0) else ([], 6)

theorem strB_tl (l : List UInt8) : (strB l).toList = l := by rw [ByteArray.toList_eq, strB_toList]

end Go.Proofs.YthifdefjmfakgaaGreat

namespace Go.Proofs.YthifdefjmfakgaaGreat
open Go.RowKit

/-- the number that stands at the beginning, how many bytes it has, the error -/
def numR (l : List UInt8) (most : Nat) : Nat × Nat × Nat :=
  if l.length = 0 then (0, 0, 20)
  else if 6 < by8 l 0 then (0, 0, 21)
  else if 0 < by8 l 0 ∧ 1 < l.length ∧ by8 l 1 = 0 then (0, 0, 21)
  else if l.length < by8 l 0 + 1 then (0, 0, 20)
  else if most < Wm.val ((l.drop 1).take (by8 l 0)) then (0, 0, 21)
  else (Wm.val ((l.drop 1).take (by8 l 0)), 1 + by8 l 0, 0)

def NumAns (l : List UInt8) (most : Nat) (w : World) (e : Ending) (w' : World) : Prop :=
  e = .returned (.tuple #[.int .i64 ((numR l most).1 : Nat), .int .i64 ((numR l most).2.1 : Nat), .int .i64 ((numR l most).2.2 : Nat)]) ∧ w = w'

theorem ans_of {l : List UInt8} {most : Nat} {w : World} {a b c : Nat} (h : numR l most = (a, b, c)) : NumAns l most w (.returned (.tuple #[.int .i64 (a : Int), .int .i64 (b : Int), .int .i64 (c : Int)])) w := by
  unfold NumAns
  rw [h]
  exact ⟨rfl, rfl⟩

end Go.Proofs.YthifdefjmfakgaaGreat

namespace Go.Proofs.YthifdefjmfakgaaGreat
open Go.RowKit

/-- what is in the frame at the beginning, how many bytes it has, the error -/
def unfR (l : List UInt8) : List UInt8 × Nat × Nat :=
  if l.length = 0 then ([], 0, 20)
  else if by8 l 0 ≠ 93 then ([], 0, 21)
  else if (numR (l.drop 1) 1048576).2.2 ≠ 0 then ([], 0, (numR (l.drop 1) 1048576).2.2)
  else if l.length < (numR (l.drop 1) 1048576).2.1 + 1 + ((numR (l.drop 1) 1048576).1 + 4) then ([], 0, 20)
  else if ((l.drop ((numR (l.drop 1) 1048576).2.1 + 1 + (numR (l.drop 1) 1048576).1)).take 4 == Wm.be 4 (Wm.crc ((l.drop ((numR (l.drop 1) 1048576).2.1 + 1)).take (numR (l.drop 1) 1048576).1))) = false then ([], 0, 22)
  else ((l.drop ((numR (l.drop 1) 1048576).2.1 + 1)).take (numR (l.drop 1) 1048576).1, (numR (l.drop 1) 1048576).2.1 + 1 + (numR (l.drop 1) 1048576).1 + 4, 0)

/-- bytes, a number, an error: new memory; nothing below it has turned -/
def Unfr (E : TypeId) (w : World) (r : List UInt8 × Nat × Nat) (e : Ending) (w' : World) : Prop :=
  ∃ v, e = .returned (.tuple #[v, .int .i64 (r.2.1 : Int), .int .i64 (r.2.2 : Int)]) ∧ Own E w' w.heap.size v r.1 ∧ Below w.heap.size w w'

theorem unfr_err {E : TypeId} {w : World} {r : List UInt8 × Nat × Nat} {e : Nat} (h : r = ([], 0, e)) : Unfr E w r (.returned (.tuple #[.slice none 0 0, .int .i64 0, .int .i64 (e : Int)])) w := by
  rw [h]
  exact ⟨_, rfl, Own.nil _ _ _, Below.refl _ _⟩

theorem numR_small (l : List UInt8) (most : Nat) : (numR l most).2.1 ≤ 7 ∧ ((numR l most).1 ≤ most) ∧ ((numR l most).2.2 = 0 → 1 ≤ (numR l most).2.1 ∧ (numR l most).2.1 ≤ l.length) := by
  unfold numR
  repeat' split
  all_goals dsimp only
  all_goals omega

end Go.Proofs.YthifdefjmfakgaaGreat
