/-
  PUT and TAKE of stamps (without stage 2's texts of clocks and of reading texts).
  No conditions.
-/
import Derived.Test.YtjaojhhcpggcpaaStamp
import Derived.Lib.SmallJoins
import Derived.Deep.DeepCutAuto
namespace Go.Proofs.Ytjaojhhcpggcpaa
open Go.RowKit

theorem Only.of_below {b : Nat} {w w' : World} (h : Below w.heap.size w w') : Only b w w' := ⟨h.os, h.tape, h.output, h.size, fun i hi _ => h.block i hi⟩

/-- a stamp's bytes, the error -/
def putW (t r : Int) : List UInt8 × Nat := if rightB t r = true then (Wm.numB t.toNat ++ Wm.numB r.toNat, 0) else ([], 1)

set_option maxRecDepth 100000 in
set_option maxHeartbeats 1000000 in
theorem put_any (t r : Int) (w : World) : Calls Try.prog 23 #[.agg #[.int .i64 t, .int .i64 r]] w (Wrote 5 w (putW t r)) := by
  obtain ⟨i0, hi, hz0, hz1, hz2⟩ := info_parts info_u8
  have hb := (Below.refl w.heap.size w).alloc (Nat.le_refl _) (.cells #[.int .i64 t, .int .i64 r] 23)
  have HB := Lib.hid hb
  cases hR : rightB t r with
  | false =>
    have HR := Lib.hid (show putW t r = ([], 1) by unfold putW; rw [if_neg (by simp [hR])])
    have HRB := Lib.hid hR
    clear hR hb
    go_enter Try.func23, Try.ntmps23
    go_wp2_with fail
    refine (right_any t r _).mono ?_
    rw [HRB.out]
    rintro e w1 ⟨rfl, hb1⟩
    have HB1 := Lib.hid (HB.out.trans (hb1.mono (by simp)))
    clear hb1
    go_wp2
    go_ret2
    rw [HR.out]
    exact ⟨_, rfl, Own.nil _ _ _, HB1.out⟩
  | true =>
    obtain ⟨h0, h1, h2, h3⟩ := rightB_yes hR
    have HR := Lib.hid (show putW t r = (Wm.numB t.toNat ++ Wm.numB r.toNat, 0) by unfold putW; rw [if_pos hR])
    have HRB := Lib.hid hR
    have HN1 := Lib.hid (show numW t = (Wm.numB t.toNat, 0) by unfold numW; rw [if_pos (by omega)])
    have HN2 := Lib.hid (show numW r = (Wm.numB r.toNat, 0) by unfold numW; rw [if_pos (by omega)])
    have s1 := numB_small t.toNat
    have s2 := numB_small r.toNat
    generalize Wm.numB t.toNat = x at *
    generalize Wm.numB r.toNat = y at *
    clear hR hb h0 h1 h2 h3
    go_enter Try.func23, Try.ntmps23
    go_wp2_with fail
    refine (right_any t r _).mono ?_
    rw [HRB.out]
    rintro e w1 ⟨rfl, hb1⟩
    have c0 := hb1.cell (p := ⟨w.heap.size, 0, none⟩) (by simp)
    have c1 := hb1.cell (p := ⟨w.heap.size, 1, none⟩) (by simp)
    rw [World.cell?_alloc_at _ _ _ _ rfl] at c0 c1
    have c0' : w1.cell? ⟨w.heap.size, 0, none⟩ = some (.int .i64 t) := c0
    have c1' : w1.cell? ⟨w.heap.size, 1, none⟩ = some (.int .i64 r) := c1
    have HB1 := Lib.hid (HB.out.trans (hb1.mono (by simp)))
    have hl1 : w.heap.size < w1.heap.size := cell_lt c0'
    clear hb1 c0 c1
    go_wp2_with fail
    refine (num_any t _).mono ?_
    rw [HN1.out]
    rintro e w2 ⟨v2, rfl, hown2, hb2⟩
    dsimp only at hown2
    have c1 := (hb2.cell (p := ⟨w.heap.size, 1, none⟩) hl1).trans c1'
    have HO2 := Lib.hid (hown2.base (Nat.le_of_lt hl1))
    have HB2 := Lib.hid (HB1.out.trans (hb2.mono (Nat.le_of_lt hl1)))
    obtain ⟨p2, k2, rfl, -⟩ := hown2.bs
    have hs2 := hb2.size
    clear hown2 hb2 c0' c1'
    go_wp2_with fail
    refine (num_any r _).mono ?_
    rw [HN2.out]
    rintro e w3 ⟨v3, rfl, hown3, hb3⟩
    dsimp only at hown3
    obtain ⟨p3, k3, rfl, hbs3, -, -, hpn3, -⟩ := hown3.bs
    have HO3 := Lib.hid (HO2.out.below hb3)
    have HBS := Lib.hid hbs3
    have HB3 := Lib.hid (HB2.out.trans (hb3.mono (by omega)))
    have hs3 : w.heap.size ≤ w3.heap.size := HB3.out.size
    clear hown3 hbs3 hb3
    go_wp2_with (at_builtin; refine wpList_append_bs rfl _ _ 31 rfl w.heap.size 5 i0 Try.underlying31 hi hz0 hz1 hz2 _ x rfl HO3.out p3 k3 y rfl HBS.out hpn3 ?b0 ?b1 ?_)
    case b0 => omega
    case b1 => exact hs3
    intro v4 w4 hown4 hbel4 hgrow4 hnil4
    clear hgrow4 hnil4
    have HO4 := Lib.hid (show Own 5 w4 w.heap.size v4 (x ++ y) from hown4)
    have HB4 := Lib.hid (HB3.out.trans hbel4)
    clear hown4 hbel4
    go_wp2
    go_ret2
    rw [HR.out]
    exact ⟨_, rfl, HO4.out, HB4.out⟩

/-- what Take answers: the stamp, what is left, the error -/
def takeR (l : List UInt8) : Int × Int × List UInt8 × Nat :=
  if (uptoR l 1099511627776).2.2 ≠ 0 then (0, 0, (uptoR l 1099511627776).2.1, (uptoR l 1099511627776).2.2)
  else if (uptoR (uptoR l 1099511627776).2.1 15).2.2 ≠ 0 then (0, 0, (uptoR (uptoR l 1099511627776).2.1 15).2.1, (uptoR (uptoR l 1099511627776).2.1 15).2.2)
  else ((uptoR l 1099511627776).1, (uptoR (uptoR l 1099511627776).2.1 15).1, (uptoR (uptoR l 1099511627776).2.1 15).2.1, 0)

theorem Rdr.lt {w : World} {B b : Nat} {l : List UInt8} {err : Nat} (h : Rdr w B b l err) : b < w.heap.size := by
  obtain ⟨-, h1, -⟩ := h
  exact cell_lt h1
/-- block k holds two integers: no bytes -/
def TwoAt (w : World) (k : Nat) (x y : Int) : Prop := w.heap[k]? = some (.cells #[.int .i64 x, .int .i64 y] 23 (0, 0))
theorem TwoAt.size {w : World} {k : Nat} {x y : Int} (h : TwoAt w k x y) : k < w.heap.size := (Array.getElem?_eq_some_iff.1 h).1
theorem TwoAt.cell0 {w : World} {k : Nat} {x y : Int} (h : TwoAt w k x y) : w.cell? ⟨k, 0, none⟩ = some (.int .i64 x) := by rw [Go.Joins.cell_of_block h]; rfl
theorem TwoAt.cell1 {w : World} {k : Nat} {x y : Int} (h : TwoAt w k x y) : w.cell? ⟨k, 1, none⟩ = some (.int .i64 y) := by rw [Go.Joins.cell_of_block h]; rfl
theorem TwoAt.free {w : World} {k : Nat} {x y : Int} (h : TwoAt w k x y) (o : Nat) : w.frozen? ⟨k, o, none⟩ = false := Go.Joins.unfrozen_of_block h o
theorem TwoAt.start (w : World) (x y : Int) : TwoAt (w.alloc (.cells #[.int .i64 x, .int .i64 y] 23)) w.heap.size x y := by
  unfold TwoAt
  show (w.heap.push _)[w.heap.size]? = _
  simp
theorem TwoAt.only {w w' : World} {k b : Nat} {x y : Int} (h : TwoAt w k x y) (ho : Only b w w') (hne : k ≠ b) : TwoAt w' k x y := (ho.block k h.size (by simpa using hne)).trans h
theorem TwoAt.kept {w w' : World} {k : Nat} {x y : Int} (h : TwoAt w k x y) (hb : Below w.heap.size w w') : TwoAt w' k x y := (hb.block k h.size).trans h
theorem TwoAt.set {w : World} {k : Nat} {x y : Int} (h : TwoAt w k x y) (x' y' : Int) : TwoAt ((w.setCell ⟨k, 0, none⟩ (.int .i64 x')).setCell ⟨k, 1, none⟩ (.int .i64 y')) k x' y' := by
  have h1 := Go.Joins.block_setCell h (i := 0) (.int .i64 x')
  have h2 := Go.Joins.block_setCell h1 (i := 1) (.int .i64 y')
  exact h2
theorem Bs.two {w : World} {p : Option Addr} {l : List UInt8} {k : Nat} {x y : Int} (h : Bs w p l) (hk : TwoAt w k x y) (o : Nat) (v : Value) : Bs (w.setCell ⟨k, o, none⟩ v) p l := by
  intro h0
  obtain ⟨b', o', rfl, hc⟩ := h h0
  refine ⟨b', o', rfl, fun i hi => ?_⟩
  have hne : b' ≠ k := by
    rintro rfl
    have := hc i hi
    rw [Go.Joins.cell_of_block hk] at this
    match o' + i, this with
    | 0, this => simp at this
    | 1, this => simp at this
    | n + 2, this => simp at this
  rw [cell_other (by intro e; injection e with e1; exact hne e1.symm)]
  exact hc i hi
theorem Rdr.two {w : World} {B b k : Nat} {l : List UInt8} {err : Nat} {x y : Int} (h : Rdr w B b l err) (hk : TwoAt w k x y) (hne : k ≠ b) (o : Nat) (v : Value) : Rdr (w.setCell ⟨k, o, none⟩ v) B b l err := by
  obtain ⟨h0, h1, h2, h3, h4, h5, p, c, h6, h7, h8, h9, h10⟩ := h
  refine ⟨h0, ?_, ?_, by simpa using h3, by simpa using h4, h5, p, c, ?_, h7.two hk _ _, h8, h9, h10⟩
  · rw [cell_other (by intro e; injection e with e1; exact hne e1)]; exact h1
  · rw [cell_other (by intro e; injection e with e1; exact hne e1)]; exact h2
  · rw [cell_other (by intro e; injection e with e1; exact hne e1)]; exact h6
theorem Rdr.setTwo {w : World} {B b k : Nat} {l : List UInt8} {err : Nat} {x y : Int} (h : Rdr w B b l err) (hk : TwoAt w k x y) (hne : k ≠ b) (x' y' : Int) : Rdr ((w.setCell ⟨k, 0, none⟩ (.int .i64 x')).setCell ⟨k, 1, none⟩ (.int .i64 y')) B b l err := by
  have hk2 : TwoAt (w.setCell ⟨k, 0, none⟩ (.int .i64 x')) k x' y := Go.Joins.block_setCell hk (i := 0) (.int .i64 x')
  exact (h.two hk hne 0 _).two hk2 hne 1 _

theorem TwoAt.read {w : World} {k : Nat} {x y : Int} (h : TwoAt w k x y) (x' y' : Int) : (w.setCell ⟨k, 0, none⟩ (.int .i64 x')).cell? ⟨k, 0, none⟩ = some (.int .i64 x') ∧ ((w.setCell ⟨k, 0, none⟩ (.int .i64 x')).setCell ⟨k, 1, none⟩ (.int .i64 y')).cell? ⟨k, 1, none⟩ = some (.int .i64 y') :=
  ⟨cell_same h.cell0, (h.set x' y').cell1⟩
theorem Only.setFar {b k : Nat} {w0 w : World} (h : Only b w0 w) (hk : w0.heap.size ≤ k) (o o' : Nat) (v v' : Value) : Only b w0 ((w.setCell ⟨k, o, none⟩ v).setCell ⟨k, o', none⟩ v') := by
  have h1 := h.trans (Only.refl b w)
  refine ⟨h.os, h.tape, h.output, by simpa [World.setCell] using h.size, fun i hi hn => ?_⟩
  rw [Below.heap_setCell _ _ _ _ (by simp; omega), Below.heap_setCell _ _ _ _ (by simp; omega)]
  exact h.block i hi hn

set_option maxRecDepth 100000 in
set_option maxHeartbeats 4000000 in
theorem take_any (B b : Nat) (l : List UInt8) (w : World) (h : Rdr w B b l 0) :
    Calls Try.prog 31 #[.pointer (some ⟨b, 0, none⟩)] w fun e w' => e = .returned (.agg #[.int .i64 (takeR l).1, .int .i64 (takeR l).2.1]) ∧ Rdr w' B b (takeR l).2.2.1 (takeR l).2.2.2 ∧ Only b w w' := by
  have hblt := h.lt
  have hb := (Below.refl w.heap.size w).alloc (Nat.le_refl _) (.cells #[.int .i64 0, .int .i64 0] 23)
  have HO0 := Lib.hid (Only.of_below (b := b) hb)
  have HT0 := Lib.hid (TwoAt.start w 0 0)
  have HU1 := Lib.hid (upto_any B b l 1099511627776 _ (h.kept hb))
  have HTD : Hid (takeR l = if (uptoR l 1099511627776).2.2 ≠ 0 then ((0 : Int), (0 : Int), (uptoR l 1099511627776).2.1, (uptoR l 1099511627776).2.2)
    else if (uptoR (uptoR l 1099511627776).2.1 15).2.2 ≠ 0 then ((0 : Int), (0 : Int), (uptoR (uptoR l 1099511627776).2.1 15).2.1, (uptoR (uptoR l 1099511627776).2.1 15).2.2)
    else (((uptoR l 1099511627776).1 : Int), ((uptoR (uptoR l 1099511627776).2.1 15).1 : Int), (uptoR (uptoR l 1099511627776).2.1 15).2.1, 0)) := Lib.hid rfl
  clear h hb
  generalize uptoR l 1099511627776 = q1 at *
  obtain ⟨n1, l1, e1⟩ := q1
  dsimp only at *
  have HU2 := Lib.hid (fun W h => upto_any B b l1 15 W h)
  generalize uptoR l1 15 = q2 at *
  obtain ⟨n2, l2, e2⟩ := q2
  dsimp only at *
  by_cases he1 : e1 = 0
  · subst he1
    by_cases he2 : e2 = 0
    · subst he2
      have HT : Hid (takeR l = ((n1 : Int), (n2 : Int), l2, 0)) := Lib.hid (by rw [HTD.out, if_neg (by simp), if_neg (by simp)])
      go_enter Try.func31, Try.ntmps31
      go_wp2_with fail
      refine HU1.out.mono ?_
      rintro e w1 ⟨rfl, hr1, ho1⟩
      have HR1 := Lib.hid hr1
      have HT1 := Lib.hid (HT0.out.only ho1 (by omega))
      have HO1 := Lib.hid (HO0.out.trans ho1)
      clear hr1 ho1
      go_wp2_with fail
      refine (HU2.out _ HR1.out).mono ?_
      rintro e w2 ⟨rfl, hr2, ho2⟩
      have HR2 := Lib.hid hr2
      have HT2 := Lib.hid (HT1.out.only ho2 (by omega))
      have HO2 := Lib.hid (HO1.out.trans ho2)
      clear hr2 ho2
      go_wp2_with fail
      refine (err_any B b l2 0 _ HR2.out).mono ?_
      rintro e w' ⟨rfl, rfl⟩
      have z0 := HT2.out.cell0
      have z1 := HT2.out.cell1
      have y0 := HT2.out.free 0
      have y1 := HT2.out.free 1
      obtain ⟨q0, q2⟩ := HT2.out.read n1 n2
      have HF := Lib.hid (HR2.out.setTwo HT2.out (by omega) n1 n2)
      have HOF := Lib.hid (HO2.out.setFar (Nat.le_refl _) 0 1 (.int .i64 n1) (.int .i64 n2))
      go_wp2
      refine bodyPost_ret (v := .agg #[.int .i64 n1, .int .i64 n2]) (by simp [results, Try.results31, go_sem, q0, q2]) rfl ?_
      rw [HT.out]
      exact ⟨rfl, HF.out, HOF.out⟩
    · have HT : Hid (takeR l = ((0 : Int), (0 : Int), l2, e2)) := Lib.hid (by rw [HTD.out, if_neg (by simp), if_pos he2])
      have te : ((e2 : Int) != 0) = true := by rw [bne_iff_ne]; omega
      go_enter Try.func31, Try.ntmps31
      go_wp2_with fail
      refine HU1.out.mono ?_
      rintro e w1 ⟨rfl, hr1, ho1⟩
      have HR1 := Lib.hid hr1
      have HT1 := Lib.hid (HT0.out.only ho1 (by omega))
      have HO1 := Lib.hid (HO0.out.trans ho1)
      clear hr1 ho1
      go_wp2_with fail
      refine (HU2.out _ HR1.out).mono ?_
      rintro e w2 ⟨rfl, hr2, ho2⟩
      have HR2 := Lib.hid hr2
      have HT2 := Lib.hid (HT1.out.only ho2 (by omega))
      have HO2 := Lib.hid (HO1.out.trans ho2)
      clear hr2 ho2
      go_wp2_with fail
      refine (err_any B b l2 e2 _ HR2.out).mono ?_
      rintro e w' ⟨rfl, rfl⟩
      have z0 := HT2.out.cell0
      have z1 := HT2.out.cell1
      have y0 := HT2.out.free 0
      have y1 := HT2.out.free 1
      obtain ⟨q0, q2⟩ := HT2.out.read 0 0
      have HF := Lib.hid (HR2.out.setTwo HT2.out (by omega) 0 0)
      have HOF := Lib.hid (HO2.out.setFar (Nat.le_refl _) 0 1 (.int .i64 0) (.int .i64 0))
      go_wp2
      refine bodyPost_ret (v := .agg #[.int .i64 0, .int .i64 0]) (by simp [results, Try.results31, go_sem, q0, q2]) rfl ?_
      rw [HT.out]
      exact ⟨rfl, HF.out, HOF.out⟩
  · have HT : Hid (takeR l = ((0 : Int), (0 : Int), l1, e1)) := Lib.hid (by rw [HTD.out, if_pos he1])
    have te : ((e1 : Int) != 0) = true := by rw [bne_iff_ne]; omega
    go_enter Try.func31, Try.ntmps31
    go_wp2_with fail
    refine HU1.out.mono ?_
    rintro e w1 ⟨rfl, hr1, ho1⟩
    have HR1 := Lib.hid hr1
    have HT2 := Lib.hid (HT0.out.only ho1 (by omega))
    have HO2 := Lib.hid (HO0.out.trans ho1)
    have HE := Lib.hid he1
    clear hr1 ho1 he1
    go_wp2_with fail
    refine (upto_bad B b l1 e1 15 _ HR1.out HE.out).mono ?_
    rintro e w' ⟨rfl, rfl⟩
    go_wp2_with fail
    refine (err_any B b l1 e1 _ HR1.out).mono ?_
    rintro e w' ⟨rfl, rfl⟩
    have z0 := HT2.out.cell0
    have z1 := HT2.out.cell1
    have y0 := HT2.out.free 0
    have y1 := HT2.out.free 1
    obtain ⟨q0, q2⟩ := HT2.out.read 0 0
    have HF := Lib.hid (HR1.out.setTwo HT2.out (by omega) 0 0)
    have HOF := Lib.hid (HO2.out.setFar (Nat.le_refl _) 0 1 (.int .i64 0) (.int .i64 0))
    go_wp2
    refine bodyPost_ret (v := .agg #[.int .i64 0, .int .i64 0]) (by simp [results, Try.results31, go_sem, q0, q2]) rfl ?_
    rw [HT.out]
    exact ⟨rfl, HF.out, HOF.out⟩

end Go.Proofs.Ytjaojhhcpggcpaa
