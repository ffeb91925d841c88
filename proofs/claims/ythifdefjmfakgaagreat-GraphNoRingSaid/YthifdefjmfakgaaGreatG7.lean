/-
  ROWS OF WRITES in memory; the law's Light, num.
  No conditions.
  ROWS OF WRITES: what the laws' walks share: parts of a write loaded, a row appended, two that change places; have no two one stamp?
  No conditions.
-/
import Derived.Test.YthifdefjmfakgaaGreatGL
import Derived.Test.YthifdefjmfakgaaGreatGrInsert
import Derived.Test.YthifdefjmfakgaaGreatGK
import Derived.Test.YthifdefjmfakgaaGreatG3
namespace Go.Proofs.YthifdefjmfakgaaGreat
open Go.RowKit

/-- a write, where its op's Path lies -/
structure WrE where
  w : Pm.Wr
  q : Option Addr
  c : Nat
instance : Inhabited WrE := ⟨⟨Pm.Wr.zero, none, 0⟩⟩
def ceW (e : WrE) : List Value := [.int .i64 e.w.s.1, .int .i64 e.w.s.2] ++ opL e.w.x e.q e.c
abbrev wrA (e : WrE) : Array Value := (ceW e).toArray
theorem wrK : RK 42 22 14 144 ceW where
  und := Tryz.underlying22
  elem := by kernel_rfl
  size := fun _ => by kernel_rfl
  info := by
    have h : (Tryz.prog.info? 42).map (fun i => (i.zero, i.size, i.bytes)) = some (some (.agg (wrA ⟨Pm.Wr.zero, none, 0⟩)), 14, 144) := by kernel_rfl
    cases hi : Tryz.prog.info? 42 with
    | none => rw [hi] at h; cases h
    | some i =>
      rw [hi] at h
      simp only [Option.map_some, Option.some.injEq, Prod.mk.injEq] at h
      exact ⟨i, _, rfl, h.1, h.2.1, h.2.2, rfl⟩
  row := ⟨_, Tryz.underlying42⟩
  len := fun _ => rfl
  one := fun x u hu => by
    simp only [ceW, opL, List.cons_append, List.nil_append, List.mem_cons, List.not_mem_nil, or_false] at hu
    rcases hu with rfl | rfl | rfl | rfl | rfl | rfl | rfl | rfl | rfl | rfl | rfl | rfl | rfl | rfl <;> rfl
  pos := by decide
  small := by decide
/-- a row of writes -/
structure Ws (w : World) (p : Option Addr) (l : List WrE) : Prop where
  rd : Rd w p (l.flatMap ceW)
  pa : ∀ e ∈ l, Pa w e.w.x e.q e.c
theorem Ws.kept {w w' : World} {p : Option Addr} {l : List WrE} (h : Ws w p l) (hb : Below w.heap.size w w') : Ws w' p l := ⟨h.rd.below hb, fun e he => (h.pa e he).kept hb⟩
def pl (l : List WrE) : List Pm.Wr := l.map (·.w)
/-- few and small -/
def Sm1 (x : Opp) : Prop := x.path.length ≤ 20 ∧ x.key.size ≤ 100 ∧ x.vt.size ≤ 200
def Small (l : List WrE) : Prop := l.length ≤ 40 ∧ ∀ e ∈ l, Sm1 e.w.x
theorem Sm1.sz {x : Opp} (h : Sm1 x) : Sz x := ⟨by have := h.2.1; omega, by have := h.2.2; omega, by have := h.1; omega⟩

set_option maxRecDepth 100000 in
set_option maxHeartbeats 1000000 in
theorem num13_any (n : Int) (w : World) : Calls Tryz.prog 13 #[.int .i64 n] w fun e w' => e = .returned (.int .i64 n) ∧ w = w' := by
  go_enter Tryz.func13, Tryz.ntmps13
  go_wp2
  go_ret
  exact ⟨rfl, rfl⟩

set_option maxRecDepth 100000 in
set_option maxHeartbeats 4000000 in
theorem rlight13_any (p : Option Addr) (c : Nat) (l : List WrE) (w : World) (h : Ws w p l) :
    Calls Tryz.prog 28 #[.slice p l.length c] w fun e w' => ∃ b, e = .returned (.bool b) ∧ (b = true → ∀ j e, j < 50 → l[j]? = some e → Sm1 e.w.x) ∧ Below w.heap.size w w' := by
  have HR := Lib.hid h.rd
  clear h
  go_enter Tryz.func28, Tryz.ntmps28
  go_wp2
  go_loopw [3] (fun i wr => ∃ k : Nat, k ≤ l.length ∧ k ≤ 50 ∧ i = .int .i64 (k : Int) ∧ (∀ j e, j < k → l[j]? = some e → Sm1 e.w.x) ∧ Below w.heap.size w wr) (fun i _ => l.length - (intOf i).toNat)
  case atStart => exact ⟨0, Nat.zero_le _, by omega, rfl, fun j e hj => by omega, Below.refl _ _⟩
  case round =>
    obtain ⟨k, hk, hk9, rfl, hgood, hbw⟩ := hrel
    have HG := Lib.hid hgood
    have HB := Lib.hid hbw
    have HE := Lib.hid (fun (hk : k = l.length ∨ k = 50) => show ∀ j e, j < 50 → l[j]? = some e → Sm1 e.w.x from fun j e hj he => by
      have hl : j < l.length := (List.getElem?_eq_some_iff.1 he).1
      exact hgood j e (by omega) he)
    clear hgood hbw
    by_cases hlt : k < l.length
    · have hd0 : decide ((k : Int) < (l.length : Int)) = true := decide_eq_true (by omega)
      by_cases h50 : k < 50
      · have hd1 : decide ((k : Int) < 50) = true := decide_eq_true (by omega)
        obtain ⟨e, he⟩ : ∃ e, l[k]? = some e := ⟨_, List.getElem?_eq_getElem hlt⟩
        have HRD := Lib.hid (HR.out.below HB.out)
        obtain ⟨b, o, rfl, -⟩ := HRD.out.addr (by rw [wrK.length]; omega)
        have hrg := wrK.range HRD.out he
        have y7 : wr.cell? ⟨b, o + k * 14 + 7, none⟩ = some (.string e.w.x.key) := hrg 7 _ rfl
        have y8 : wr.cell? ⟨b, o + k * 14 + 8, none⟩ = some (.slice e.q e.w.x.path.length e.c) := hrg 8 _ rfl
        have y12 : wr.cell? ⟨b, o + k * 14 + 12, none⟩ = some (.string e.w.x.vt) := hrg 12 _ rfl
        have HGN := Lib.hid (fun (h1 : Sm1 e.w.x) => show ∀ j e, j < k + 1 → l[j]? = some e → Sm1 e.w.x from fun j e' hj he' => by
          by_cases h2 : j = k
          · subst h2; rw [he] at he'; cases he'; exact h1
          · exact HG.out j e' (by omega) he')
        clear hrg he HR
        by_cases h1 : e.w.x.path.length ≤ 20
        · have d1 : decide (20 < (e.w.x.path.length : Int)) = false := decide_eq_false (by omega)
          by_cases h2 : e.w.x.key.size ≤ 100
          · have d2 : decide (100 < (e.w.x.key.size : Int)) = false := decide_eq_false (by omega)
            by_cases h3 : e.w.x.vt.size ≤ 200
            · have d3 : decide (200 < (e.w.x.vt.size : Int)) = false := decide_eq_false (by omega)
              have HGO := Lib.hid (HGN.out ⟨h1, h2, h3⟩)
              clear h1 h2 h3
              go_wp2
              go_roundw
              case rel => exact ⟨k + 1, by omega, by omega, by go_num, HGO.out, HB.out⟩
              case measure => simp [intOf]; omega
            · have d3 : decide (200 < (e.w.x.vt.size : Int)) = true := decide_eq_true (by omega)
              go_wp2
              go_ret
              exact ⟨false, rfl, fun h => (by cases h), HB.out⟩
          · have d2 : decide (100 < (e.w.x.key.size : Int)) = true := decide_eq_true (by omega)
            go_wp2
            go_ret
            exact ⟨false, rfl, fun h => (by cases h), HB.out⟩
        · have d1 : decide (20 < (e.w.x.path.length : Int)) = true := decide_eq_true (by omega)
          go_wp2
          go_ret
          exact ⟨false, rfl, fun h => (by cases h), HB.out⟩
      · have hd1 : decide ((k : Int) < 50) = false := decide_eq_false (by omega)
        have HX := Lib.hid (HE.out (Or.inr (by omega)))
        go_wp2
        go_ret
        exact ⟨true, rfl, fun _ => HX.out, HB.out⟩
    · have hd0 : decide ((k : Int) < (l.length : Int)) = false := decide_eq_false (by omega)
      have HX := Lib.hid (HE.out (Or.inl (by omega)))
      go_wp2
      go_ret
      exact ⟨true, rfl, fun _ => HX.out, HB.out⟩
set_option maxRecDepth 100000 in
set_option maxHeartbeats 4000000 in
theorem light13_any (p : Option Addr) (c : Nat) (l : List WrE) (w : World) (h : Ws w p l) :
    Calls Tryz.prog 6 #[.slice p l.length c] w fun e w' => ∃ b, e = .returned (.bool b) ∧ (b = true → Small l) ∧ Below w.heap.size w w' := by
  have HW := Lib.hid h
  clear h
  go_enter Tryz.func6, Tryz.ntmps6
  go_wp2_with fail
  refine (rlight13_any p c l w HW.out).mono ?_
  rintro e w1 ⟨b, rfl, hs, hb⟩
  have HS := Lib.hid hs
  have HB := Lib.hid hb
  clear hs hb HW
  cases b with
  | false =>
    go_wp2
    go_ret
    exact ⟨false, rfl, fun h => (by cases h), HB.out⟩
  | true =>
    by_cases h40 : l.length ≤ 40
    · have hs' : ∀ j e, j < 50 → l[j]? = some e → Sm1 e.w.x := by simpa using HS.out
      have d1 : decide ((l.length : Int) ≤ 40) = true := decide_eq_true (by omega)
      go_wp2
      go_ret
      exact ⟨true, rfl, fun _ => ⟨h40, fun e he => by
        obtain ⟨j, hj, rfl⟩ := List.mem_iff_getElem.1 he
        exact hs' j _ (by omega) (List.getElem?_eq_getElem hj)⟩, HB.out⟩
    · have d1 : decide ((l.length : Int) ≤ 40) = false := decide_eq_false (by omega)
      go_wp2
      go_ret
      exact ⟨false, rfl, fun h => (by cases h), HB.out⟩
end Go.Proofs.YthifdefjmfakgaaGreat

namespace Go.Proofs.YthifdefjmfakgaaGreat
open Go.RowKit

theorem ceW_st (s1 s2 : Int) (x : Opp) (q : Option Addr) (c : Nat) (j : Nat) (v : Value) (h : ([.int .i64 s1, .int .i64 s2] : List Value)[j]? = some v) : (ceW ⟨⟨(s1, s2), x⟩, q, c⟩)[0 + j]? = some v := by
  match j, h with
  | 0, h => exact h
  | 1, h => exact h
theorem ceW_op (s1 s2 : Int) (x : Opp) (q : Option Addr) (c : Nat) (j : Nat) (v : Value) (h : (opL x q c)[j]? = some v) : (ceW ⟨⟨(s1, s2), x⟩, q, c⟩)[2 + j]? = some v := by
  unfold ceW
  rw [List.getElem?_append_right (by simp)]
  simpa using h
theorem exec_wr_st {c0 : Act} {o : Oper} {y : Operand} {w : World} (ho : o.op = .load 35 y) {b s i : Nat} {l : List WrE} {s1 s2 : Int} {x : Opp} {q : Option Addr} {c : Nat} (hx : c0.eval y = .pointer (some ⟨b, s + i * 14, none⟩)) (hrd : Rd w (some ⟨b, s, none⟩) (l.flatMap ceW)) (hi : l[i]? = some ⟨⟨(s1, s2), x⟩, q, c⟩) :
    (execOp c0.eval o).run Tryz.prog w = .ok (.value (.agg #[.int .i64 s1, .int .i64 s2])) w :=
  wrK.loadPart (off := 0) Tryz.underlying35 ho hx [.int .i64 s1, .int .i64 s2] hrd hi (ceW_st s1 s2 x q c) (by kernel_rfl)
theorem exec_wr_op {c0 : Act} {o : Oper} {y : Operand} {w : World} (ho : o.op = .load 40 y) {b s i : Nat} {l : List WrE} {s1 s2 : Int} {x : Opp} {q : Option Addr} {c : Nat} (hx : c0.eval y = .pointer (some ⟨b, s + i * 14 + 2, none⟩)) (hrd : Rd w (some ⟨b, s, none⟩) (l.flatMap ceW)) (hi : l[i]? = some ⟨⟨(s1, s2), x⟩, q, c⟩) :
    (execOp c0.eval o).run Tryz.prog w = .ok (.value (.agg (opA x q c))) w :=
  wrK.loadPart (off := 2) Tryz.underlying40 ho hx (opL x q c) hrd hi (ceW_op s1 s2 x q c) (by kernel_rfl)
theorem pl_take {l : List WrE} {k : Nat} {e : WrE} (h : l[k]? = some e) : (pl l).take (k + 1) = (pl l).take k ++ [e.w] := by
  have hk : k < (pl l).length := by unfold pl; rw [List.length_map]; exact (List.getElem?_eq_some_iff.1 h).1
  rw [List.take_succ_eq_append_getElem hk]
  congr 2
  have : (pl l)[k]? = some e.w := by unfold pl; rw [List.getElem?_map, h]; rfl
  rw [List.getElem?_eq_getElem hk] at this
  exact Option.some.inj this
theorem pl_len (l : List WrE) : (pl l).length = l.length := List.length_map _
/-- one more of a row is inserted -/
theorem all_take {l : List WrE} {k : Nat} {e : WrE} (h : l[k]? = some e) : Gm.insO (Gm.insAll ((pl l).take k)) e.w = Gm.insAll ((pl l).take (k + 1)) := by rw [pl_take h, Gm.insAll_snoc]
theorem few_take {l : List WrE} {k : Nat} (hk : k < l.length) (hl : l.length ≤ 40) : (Gm.insAll ((pl l).take k)).length < 60 := by
  have h1 := Gm.len_all ((pl l).take k)
  rw [List.length_take] at h1
  omega
end Go.Proofs.YthifdefjmfakgaaGreat
