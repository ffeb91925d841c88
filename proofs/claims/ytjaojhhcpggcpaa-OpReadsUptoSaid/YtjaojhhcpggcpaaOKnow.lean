/-
  THE LAW's HELPERS: long; what must come.
  No conditions.
-/
import Derived.Test.YtjaojhhcpggcpaaOOwn
import Derived.Test.YtjaojhhcpggcpaaOPut
import Derived.Test.YtjaojhhcpggcpaaOTake
import Derived.Test.YtjaojhhcpggcpaaOSame
namespace Go.Proofs.Ytjaojhhcpggcpaa
open Go.RowKit

/-- is an op long? -/
def longB (x : Opp) : Bool := decide (500 < x.path.length) || decide (5000 < x.key.size) || decide (5000 < x.vt.size)
theorem long_no {x : Opp} (h : longB x = false) : x.path.length ≤ 500 ∧ x.key.size ≤ 5000 ∧ x.vt.size ≤ 5000 := by
  simp only [longB, Bool.or_eq_false_iff, decide_eq_false_iff_not] at h
  omega
theorem long_sz {x : Opp} (h : longB x = false) : Sz x := by
  obtain ⟨h1, h2, h3⟩ := long_no h
  exact ⟨by omega, by omega, by omega⟩
set_option maxRecDepth 100000 in
set_option maxHeartbeats 1000000 in
theorem long_any (x : Opp) (q : Option Addr) (c : Nat) (w : World) : Calls Try.prog 6 #[.agg (opA x q c)] w fun e w' => e = .returned (.bool (longB x)) ∧ Below w.heap.size w w' := by
  have HX := Lib.hid (OpAt.new w x q c 28)
  have HB := Lib.hid ((Below.refl w.heap.size w).alloc (Nat.le_refl _) (.cells (opA x q c) 28))
  obtain ⟨x0, x1, x2, x3, x4, x5, x6, x7, x8, x9, x10, x11⟩ := HX.out.cells
  by_cases h1 : 500 < x.path.length
  · have d1 : decide ((500 : Int) < (x.path.length : Int)) = true := decide_eq_true (by omega)
    have HR := Lib.hid (show longB x = true by simp [longB, h1])
    go_enter Try.func6, Try.ntmps6
    go_wp2
    go_ret
    exact ⟨ret_b HR.out.symm, HB.out⟩
  · have d1 : decide ((500 : Int) < (x.path.length : Int)) = false := decide_eq_false (by omega)
    by_cases h2 : 5000 < x.key.size
    · have d2 : decide ((5000 : Int) < (x.key.size : Int)) = true := decide_eq_true (by omega)
      have HR := Lib.hid (show longB x = true by simp [longB, h2])
      go_enter Try.func6, Try.ntmps6
      go_wp2
      go_ret
      exact ⟨ret_b HR.out.symm, HB.out⟩
    · have d2 : decide ((5000 : Int) < (x.key.size : Int)) = false := decide_eq_false (by omega)
      have HR := Lib.hid (show longB x = decide ((5000 : Int) < (x.vt.size : Int)) by
        unfold longB
        rw [decide_eq_false h1, decide_eq_false h2, Bool.false_or, Bool.false_or]
        exact decide_eq_decide.2 (by omega))
      go_enter Try.func6, Try.ntmps6
      go_wp2
      go_ret
      exact ⟨ret_b HR.out.symm, HB.out⟩

/-- an op into a new block -/
theorem wpList_store_newop {t : TypeId} (V : OT t) {ops : Array Oper} {rest : List Oper} {o : Oper} {a : Act} {w : World} {T : TypeId} {Q : Exit → Act → World → Prop} (hgd : o.guard = none) (x y : Operand) (ho : o.op = .store t x y)
    (hx : a.eval x = .pointer (some ⟨w.heap.size, 0, none⟩)) (A : Array Value) (hA : A.size = 12) (v : Opp) (q : Option Addr) (c : Nat) (hy : a.eval y = .agg (opA v q c))
    (h : ∀ w' : World, OpAt w' w.heap.size v q c → Below w.heap.size w w' → wpList Try.prog ops Q rest (a.put o.dst undef) w') : wpList Try.prog ops Q (o :: rest) a (w.alloc (.cells A T)) :=
  wpList_store_op V hgd x y ho w.heap.size hx T A (heap_alloc_new w _) hA v q c hy fun w' hv _ _ hb => h w' hv (hb _ _ ((Below.refl _ _).alloc (Nat.le_refl _) _) (Nat.le_refl _))

/-- the mark of knows -/
def kM : Opp := { Opp.zero with k := 4, nt := 5, nr := 2, on := true }
theorem kM_right : rightO kM = true := by decide
theorem kM_put : putO kM = ([1, 4, 1, 5, 1, 2, 1, 1], 0) := by decide
theorem kM_take : takeO (([1, 4, 1, 5, 1, 2, 1, 1] : List UInt8), 0) = (kM, ([], 0)) := by
  have h := takeO_back kM_right []
  rw [show opB kM = [1, 4, 1, 5, 1, 2, 1, 1] from by decide] at h
  exact h

set_option maxRecDepth 100000 in
set_option maxHeartbeats 4000000 in
theorem oknows_any (w : World) : Calls Try.prog 7 #[] w fun e w' => e = .returned (.bool true) ∧ Below w.heap.size w w' := by
  have HX := Lib.hid (show OpAt (w.alloc (.cells #[.int .i64 4, .int .i64 5, .int .i64 2, .int .i64 0, .int .i64 0, .string ⟨#[]⟩, .slice none 0 0, .int .i64 0, .int .i64 0, .int .i64 0, .string ⟨#[]⟩, .bool true] 35)) w.heap.size kM none 0 from OpAt.new w kM none 0 35)
  have HB := Lib.hid ((Below.refl w.heap.size w).alloc (Nat.le_refl _) (.cells #[.int .i64 4, .int .i64 5, .int .i64 2, .int .i64 0, .int .i64 0, .string ⟨#[]⟩, .slice none 0 0, .int .i64 0, .int .i64 0, .int .i64 0, .string ⟨#[]⟩, .bool true] 35))
  have HSZ := Lib.hid (show Sz kM from ⟨by decide, by decide, by decide⟩)
  have hx := HX.out
  go_enter Try.func7, Try.ntmps7
  go_wp2_with (refine wpList_load_op otP rfl _ rfl _ rfl _ _ _ (by assumption) ?_)
  refine (oput_any kM none 0 _ HSZ.out (Pa.none _ _ rfl)).mono ?_
  rw [kM_put]
  rintro e w1 ⟨v1, rfl, hown, hb1⟩
  dsimp only at hown
  obtain ⟨p1, c1, rfl, hbs, -, -, hpn, -⟩ := hown.bs
  replace HX := Lib.hid (HX.out.kept hb1)
  replace HB := Lib.hid (HB.out.trans (hb1.mono HB.out.size))
  have HBS := Lib.hid hbs
  have HOP := Lib.hid (fun W h => open_any p1 c1 [1, 4, 1, 5, 1, 2, 1, 1] W h (by decide) (fun h => ⟨hpn h, by obtain ⟨b, o, e, -⟩ := hbs (by decide); rw [h] at e; cases e⟩))
  clear hown hb1 hbs hpn hx
  go_wp2_with fail
  refine (HOP.out _ HBS.out).mono ?_
  rintro e w2 ⟨b, rfl, hr, hb2⟩
  have HR := Lib.hid hr
  have hbw : w1.heap.size ≤ b := hr.1
  have HB2 := Lib.hid hb2
  clear hr hb2 HOP
  go_wp2_with fail
  refine (otake_any w1.heap.size b ([1, 4, 1, 5, 1, 2, 1, 1], 0) _ HR.out (by decide)).mono ?_
  rw [kM_take]
  rintro e w3 ⟨q3, c3, rfl, hpa, hr, ho⟩
  have hb3 := ho.below HB2.out hbw HB2.out.size
  replace HX := Lib.hid (HX.out.kept hb3)
  replace HB := Lib.hid (HB.out.trans (hb3.mono HB.out.size))
  replace HBS := Lib.hid (HBS.out.kept hb3)
  have HPA := Lib.hid hpa
  clear hpa hr ho hb3 HB2 HR
  go_wp2_with (refine wpList_store_newop otP rfl _ _ rfl rfl _ rfl _ _ _ rfl ?_; intro w4 hv4 hb4)
  replace HX := Lib.hid (HX.out.kept hb4)
  replace HB := Lib.hid (HB.out.trans (hb4.mono HB.out.size))
  replace HBS := Lib.hid (HBS.out.kept hb4)
  replace HPA := Lib.hid (HPA.out.kept hb4)
  have HV4 := Lib.hid hv4
  have k1 : (convert 31 9 (.slice p1 8 c1)).run Try.prog w4 = .ok (.string ⟨#[1, 4, 1, 5, 1, 2, 1, 1]⟩) w4 := HBS.out.conv (P := Try.prog) c1 31 5 9 Try.underlying31 Try.underlying5 Try.underlying9
  have hx := HX.out
  have hy := HV4.out
  clear hv4 hb4
  go_wp2_with (refine wpList_load_opG otP (by kernel_rfl) _ rfl _ rfl _ _ _ (by assumption) ?_)
  refine (onum_any _ _).mono ?_
  rintro e w' ⟨rfl, rfl⟩
  go_wp2_with (refine wpList_load_opG otP (by kernel_rfl) _ rfl _ rfl _ _ _ (by assumption) ?_)
  refine (same_any kM kM _ _ _ _ _ HSZ.out (Pa.none _ _ rfl) HPA.out).mono ?_
  rw [sameO_refl]
  rintro e w5 ⟨rfl, hb5⟩
  replace HX := Lib.hid (HX.out.kept hb5)
  replace HB := Lib.hid (HB.out.trans (hb5.mono HB.out.size))
  replace HV4 := Lib.hid (HV4.out.kept hb5)
  clear hb5 k1 hx hy
  have y11 : w5.cell? ⟨w3.heap.size, 11, none⟩ = some (.bool true) := HV4.out.cell 11
  have x1 : w5.cell? ⟨w.heap.size, 1, none⟩ = some (.int .i64 5) := HX.out.cell 1
  have x2 : w5.cell? ⟨w.heap.size, 2, none⟩ = some (.int .i64 2) := HX.out.cell 2
  go_wp2_with fail
  refine (onode_any 5 2 _).mono ?_
  rw [show okNode 5 2 = true from by decide]
  rintro e w6 ⟨rfl, hb6⟩
  replace HB := Lib.hid (HB.out.trans (hb6.mono HB.out.size))
  clear hb6 y11 x1 x2
  go_wp2_with fail
  refine (oplace_any 0 0 _).mono ?_
  rw [show okPlace 0 0 = true from by decide]
  rintro e w7 ⟨rfl, hb7⟩
  replace HB := Lib.hid (HB.out.trans (hb7.mono HB.out.size))
  clear hb7
  go_wp2
  go_ret
  exact ⟨rfl, HB.out⟩
end Go.Proofs.Ytjaojhhcpggcpaa
