/-
  THE DOCUMENT's TAKE of values.
  No conditions.
-/
import Derived.Test.YthpdphlkmleldaaGreatRoRdr
import Derived.Test.YthpdphlkmleldaaGreatVTake
namespace Go.Proofs.YthpdphlkmleldaaGreat
open Go.RowKit

theorem RRdr.three {w : World} {B b v : Nat} {l : List UInt8} {err : Nat} {k n : Int} {t : ByteArray} (h : RRdr w B b l err) (hk : ThreeAt w v k n t) (hne : v ≠ b) (o : Nat) (x : Value) : RRdr (w.setCell ⟨v, o, none⟩ x) B b l err := by
  obtain ⟨h0, h2, f1, f2, p, c, a, L, c0, c1, h3, h4, h5, h6, h7⟩ := h
  have m : ∀ o', (⟨v, o, none⟩ : Addr) ≠ ⟨b, o', none⟩ := fun o' e => by injection e with e1; exact hne e1
  exact ⟨h0, by rw [cell_other (m _)]; exact h2, by simpa using f1, by simpa using f2, p, c, a, L, by rw [cell_other (m _)]; exact c0, by rw [cell_other (m _)]; exact c1, h3, h4, h5, h6.three hk _ _, h7⟩

/-- what the document's Take carries: the result's cell, the value's box, the reader -/
def RTk (w0 : World) (B b : Nat) (R V : Nat) (k n : Int) (t : ByteArray) (l : List UInt8) (err : Nat) (w : World) : Prop :=
  (w0.heap.size ≤ R ∧ w0.heap.size ≤ V ∧ R ≠ V ∧ b < w0.heap.size) ∧ ThreeAt w R 0 0 ⟨#[]⟩ ∧ ThreeAt w V k n t ∧ RRdr w B b l err ∧ Only b w0 w

theorem RTk.kept {w0 w w' : World} {B b R V : Nat} {k n : Int} {t : ByteArray} {l : List UInt8} {err : Nat} (h : RTk w0 B b R V k n t l err w) (hb : Below w.heap.size w w') : RTk w0 B b R V k n t l err w' :=
  ⟨h.1, h.2.1.kept hb, h.2.2.1.kept hb, h.2.2.2.1.kept hb, h.2.2.2.2.trans (Only.ofBelow (b := b) hb)⟩

theorem RTk.read {w0 w w' : World} {B b R V : Nat} {k n : Int} {t : ByteArray} {l l' : List UInt8} {err err' : Nat} (h : RTk w0 B b R V k n t l err w) (hr : RRdr w' B b l' err') (ho : Only b w w') : RTk w0 B b R V k n t l' err' w' := by
  obtain ⟨⟨h1, h2, h3, h4⟩, h5, h6, h7, h8⟩ := h
  exact ⟨⟨h1, h2, h3, h4⟩, h5.only ho (by omega), h6.only ho (by omega), hr, h8.trans ho⟩

theorem RTk.set1 {w0 w : World} {B b R V : Nat} {k n : Int} {t : ByteArray} {l : List UInt8} {err : Nat} (h : RTk w0 B b R V k n t l err w) (n' : Int) : RTk w0 B b R V k n' t l err (w.setCell ⟨V, 1, none⟩ (.int .i64 n')) := by
  obtain ⟨⟨h1, h2, h3, h4⟩, h5, h6, h7, h8⟩ := h
  exact ⟨⟨h1, h2, h3, h4⟩, (Below.heap_setCell w ⟨V, 1, none⟩ (.int .i64 n') R h3).trans h5, h6.set1 n', h7.three h6 (by omega) 1 _, h8.far1 h2 1 _⟩

theorem RTk.set2 {w0 w : World} {B b R V : Nat} {k n : Int} {t : ByteArray} {l : List UInt8} {err : Nat} (h : RTk w0 B b R V k n t l err w) (t' : ByteArray) : RTk w0 B b R V k n t' l err (w.setCell ⟨V, 2, none⟩ (.string t')) := by
  obtain ⟨⟨h1, h2, h3, h4⟩, h5, h6, h7, h8⟩ := h
  exact ⟨⟨h1, h2, h3, h4⟩, (Below.heap_setCell w ⟨V, 2, none⟩ (.string t') R h3).trans h5, h6.set2 t', h7.three h6 (by omega) 2 _, h8.far1 h2 2 _⟩

/-- the answer is laid into its cell -/
theorem RTk.answer {w0 w : World} {B b R V : Nat} {k n : Int} {t : ByteArray} {l : List UInt8} {err : Nat} (h : RTk w0 B b R V k n t l err w) (k' n' : Int) (t' : ByteArray) :
    RRdr (((w.setCell ⟨R, 0, none⟩ (.int .i64 k')).setCell ⟨R, 1, none⟩ (.int .i64 n')).setCell ⟨R, 2, none⟩ (.string t')) B b l err ∧
    Only b w0 (((w.setCell ⟨R, 0, none⟩ (.int .i64 k')).setCell ⟨R, 1, none⟩ (.int .i64 n')).setCell ⟨R, 2, none⟩ (.string t')) := by
  obtain ⟨⟨h1, h2, h3, h4⟩, h5, h6, h7, h8⟩ := h
  have a1 : ThreeAt (w.setCell ⟨R, 0, none⟩ (.int .i64 k')) R k' 0 ⟨#[]⟩ := Go.Joins.block_setCell h5 (i := 0) (.int .i64 k')
  have a2 := a1.set1 n'
  exact ⟨((h7.three h5 (by omega) 0 _).three a1 (by omega) 1 _).three a2 (by omega) 2 _, ((h8.far1 h1 0 _).far1 h1 1 _).far1 h1 2 _⟩

set_option maxRecDepth 100000 in
set_option maxHeartbeats 2000000 in
theorem refVtake_any (B b : Nat) (l : List UInt8) (w : World) (h : RRdr w B b l 0) :
    Calls Tryz.prog 87 #[.pointer (some ⟨b, 0, none⟩)] w fun e w' => e = .returned (.agg #[.int .i64 (takeV l).1, .int .i64 (takeV l).2.1, .string (strB (takeV l).2.2.1)]) ∧ RRdr w' B b (takeV l).2.2.2.1 (takeV l).2.2.2.2 ∧ Only b w w' := by
  have hblt : b < w.heap.size := h.lt
  have hl62 : l.length ≤ 140737488355328 := by
    obtain ⟨-, -, -, -, p, c, a, L, -, -, h3, h4, h5, -, -⟩ := h
    rw [h5, List.length_drop]; omega
  have hb := (Below.refl w.heap.size w).alloc (Nat.le_refl _) (.cells #[.int .i64 0, .int .i64 0, .string ⟨#[]⟩] 50)
  have HO0 := Lib.hid (Only.ofBelow (b := b) hb)
  have HT0 := Lib.hid (ThreeAt.start w 0 0 ⟨#[]⟩)
  have HU1 := Lib.hid (refNumM_any B b l _ (h.kept hb))
  have HLT := uptoR_lt l
  have hlen1 : (uptoR l 281474976710655).2.1.length ≤ 140737488355328 := Nat.le_trans (uptoR_len l _) hl62
  have HER := Lib.hid (uptoR_err l 281474976710655)
  have HTD : Hid (takeV l = if (rawV l).2.2.2.2 ≠ 0 then (0, 0, [], (rawV l).2.2.2.1, (rawV l).2.2.2.2)
    else if Vm.rightV (rawV l).1 (rawV l).2.1 (rawV l).2.2.1 = true then ((rawV l).1, (rawV l).2.1, (rawV l).2.2.1, (rawV l).2.2.2.1, 0)
    else (0, 0, [], (rawV l).2.2.2.1, 21)) := Lib.hid rfl
  have HRW : Hid (rawV l = if (uptoR l 281474976710655).1 = 1 ∨ (uptoR l 281474976710655).1 = 2 then (((uptoR l 281474976710655).1 : Int), unfoldV (uptoR (uptoR l 281474976710655).2.1 281474976710655).1, [], (uptoR (uptoR l 281474976710655).2.1 281474976710655).2.1, (uptoR (uptoR l 281474976710655).2.1 281474976710655).2.2)
    else if (uptoR l 281474976710655).1 = 3 then (3, 0, (textR (uptoR l 281474976710655).2.1).1, (textR (uptoR l 281474976710655).2.1).2.1, (textR (uptoR l 281474976710655).2.1).2.2)
    else if (uptoR l 281474976710655).1 = 4 then (4, ((uptoR (uptoR l 281474976710655).2.1 281474976710655).1 : Int), [], (uptoR (uptoR l 281474976710655).2.1 281474976710655).2.1, (uptoR (uptoR l 281474976710655).2.1 281474976710655).2.2)
    else (((uptoR l 281474976710655).1 : Int), 0, [], (uptoR l 281474976710655).2.1, (uptoR l 281474976710655).2.2)) := Lib.hid rfl
  clear h hb
  generalize uptoR l 281474976710655 = q1 at *
  obtain ⟨kk, l1, e1⟩ := q1
  dsimp only at *
  have HU2 := Lib.hid (fun W h => refNumM_any B b l1 W h)
  have HUX := Lib.hid (fun W h => refText_rd B b l1 W h)
  have HLT2 := uptoR_lt l1
  generalize uptoR l1 281474976710655 = q2 at *
  obtain ⟨m, l2, e2⟩ := q2
  have HTLe := Lib.hid (textR_le l1)
  generalize textR l1 = q3 at *
  obtain ⟨tl, l3, e3⟩ := q3
  dsimp only at *
  have hk5 : kk = 1 ∨ kk = 2 ∨ kk = 3 ∨ kk = 4 ∨ (kk ≠ 1 ∧ kk ≠ 2 ∧ kk ≠ 3 ∧ kk ≠ 4) := by omega
  have hee : kk ≠ 0 → e1 = 0 := fun hk => Classical.byContradiction fun he => hk (HER.out he)
  rcases hk5 with rfl | rfl | rfl | rfl | ⟨g1, g2, g3, g4⟩
  · obtain rfl := hee (by decide)
    have HRAWX := Lib.hid (show rawV l = (1, unfoldV m, [], l2, e2) by rw [HRW.out]; rw [if_pos (by decide)]; rfl)
    by_cases hm : m % 2 = 1
    · have hE1 : ((m : Int) + 1).tdiv 2 = (((m + 1) / 2 : Nat) : Int) := rfl
      have HE2 := Lib.hid (show -(((m + 1) / 2 : Nat) : Int) = unfoldV m by unfold unfoldV; rw [if_pos hm])
      have hq : (m + 1) / 2 ≤ 281474976710656 := by omega
      have e5 : (((m : Int) % 2) == 1) = true := by rw [beq_iff_eq]; omega
      generalize hu : unfoldV m = u at *
      have HU := Lib.hid hu
      generalize (m + 1) / 2 = qq at *
      obtain rfl := HE2.out
      clear hm hu
      have HRAW := HRAWX
      have htt : (⟨#[]⟩ : ByteArray).size ≤ 4611686018427387904 := by decide
      by_cases he : e2 = 0
      · subst he
        cases hR : Vm.rightV (1) ((-(qq : Int))) [] with
        | false =>
          have HT : Hid (takeV l = (0, 0, [], l2, 21)) := Lib.hid (by rw [HTD.out, HRAW.out]; dsimp only; rw [if_neg (by simp), hR]; rfl)
          have HRB := Lib.hid (show Vm.rightV (1) ((-(qq : Int))) (⟨#[]⟩ : ByteArray).data.toList = false from hR)
          clear hR
          go_enter Tryz.func87, Tryz.ntmps87
          go_wp2_with fail
          refine HU1.out.mono ?_
          rintro e w1 ⟨rfl, hr1, ho1⟩
          have hsz := ho1.size
          have hT := (HT0.out.only ho1 (by omega))
          have hb1 := (Below.refl w1.heap.size w1).alloc (Nat.le_refl _) (.cells #[.int .i64 (1 : Int), .int .i64 0, .string ⟨#[]⟩] 50)
          have hVs : w.heap.size < w1.heap.size := hT.size
          have K1 := Lib.hid (show RTk w B b w.heap.size w1.heap.size (1 : Int) 0 ⟨#[]⟩ l1 0 _ from ⟨⟨Nat.le_refl _, by omega, by omega, hblt⟩, hT.kept hb1, ThreeAt.start w1 (1 : Int) 0 ⟨#[]⟩, hr1.kept hb1, (HO0.out.trans ho1).trans (Only.ofBelow (b := b) hb1)⟩)
          clear hr1 ho1 hT hb1 hsz
          go_wp2_with fail
          refine (HU2.out _ K1.out.2.2.2.1).mono ?_
          rintro e w2 ⟨rfl, hr2, ho2⟩
          have K2 := Lib.hid (K1.out.read hr2 ho2)
          clear hr2 ho2
          have K2b := Lib.hid (K2.out.set1 ((m : Int) / 2))
          have K3 := Lib.hid (K2b.out.set1 (-(qq : Int)))
          have v0 := K2.out.2.2.1.cell1
          have v1 := K2.out.2.2.1.free 1
          have v2 := K2b.out.2.2.1.cell1
          have v3 := K2b.out.2.2.1.free 1
          have r2 := K3.out.2.2.2.1.2.1
          have x0 := K3.out.2.2.1.cell0
          have x1 := K3.out.2.2.1.cell1
          have x2 := K3.out.2.2.1.cell2
          go_wp2_with fail
          refine (refVRight_any 1 (-(qq : Int)) ⟨#[]⟩ _ htt).mono ?_
          rw [HRB.out]
          rintro e w7 ⟨rfl, hb7⟩
          have K7 := Lib.hid (K3.out.kept hb7)
          clear hb7 x0 x1 x2 r2
          go_wp2_with fail
          refine (refFail_any B b l2 0 21 _ K7.out.2.2.2.1).mono ?_
          rintro e w8 ⟨rfl, hr8, ho8⟩
          rw [if_pos rfl] at hr8
          have K8 := Lib.hid (K7.out.read hr8 ho8)
          clear hr8 ho8
          obtain ⟨q0, q1, q2⟩ := K8.out.2.1.read (0) (0) ⟨#[]⟩
          have HF := Lib.hid (K8.out.answer (0) (0) ⟨#[]⟩)
          have y0 := K8.out.2.1.free 0
          have y1 := K8.out.2.1.free 1
          have y2 := K8.out.2.1.free 2
          have z0 := K8.out.2.1.cell0
          have z1 := K8.out.2.1.cell1
          have z2 := K8.out.2.1.cell2
          go_wp2
          refine bodyPost_ret (v := .agg #[.int .i64 (0), .int .i64 (0), .string ⟨#[]⟩]) (by simp [results, Tryz.results87, go_sem, q0, q1, q2]) rfl ?_
          rw [HT.out]
          exact ⟨rfl, HF.out.1, HF.out.2⟩
        | true =>
          have HT : Hid (takeV l = (1, (-(qq : Int)), [], l2, 0)) := Lib.hid (by rw [HTD.out, HRAW.out]; dsimp only; rw [if_neg (by simp), hR]; rfl)
          have HRB := Lib.hid (show Vm.rightV (1) ((-(qq : Int))) (⟨#[]⟩ : ByteArray).data.toList = true from hR)
          clear hR
          go_enter Tryz.func87, Tryz.ntmps87
          go_wp2_with fail
          refine HU1.out.mono ?_
          rintro e w1 ⟨rfl, hr1, ho1⟩
          have hsz := ho1.size
          have hT := (HT0.out.only ho1 (by omega))
          have hb1 := (Below.refl w1.heap.size w1).alloc (Nat.le_refl _) (.cells #[.int .i64 (1 : Int), .int .i64 0, .string ⟨#[]⟩] 50)
          have hVs : w.heap.size < w1.heap.size := hT.size
          have K1 := Lib.hid (show RTk w B b w.heap.size w1.heap.size (1 : Int) 0 ⟨#[]⟩ l1 0 _ from ⟨⟨Nat.le_refl _, by omega, by omega, hblt⟩, hT.kept hb1, ThreeAt.start w1 (1 : Int) 0 ⟨#[]⟩, hr1.kept hb1, (HO0.out.trans ho1).trans (Only.ofBelow (b := b) hb1)⟩)
          clear hr1 ho1 hT hb1 hsz
          go_wp2_with fail
          refine (HU2.out _ K1.out.2.2.2.1).mono ?_
          rintro e w2 ⟨rfl, hr2, ho2⟩
          have K2 := Lib.hid (K1.out.read hr2 ho2)
          clear hr2 ho2
          have K2b := Lib.hid (K2.out.set1 ((m : Int) / 2))
          have K3 := Lib.hid (K2b.out.set1 (-(qq : Int)))
          have v0 := K2.out.2.2.1.cell1
          have v1 := K2.out.2.2.1.free 1
          have v2 := K2b.out.2.2.1.cell1
          have v3 := K2b.out.2.2.1.free 1
          have r2 := K3.out.2.2.2.1.2.1
          have x0 := K3.out.2.2.1.cell0
          have x1 := K3.out.2.2.1.cell1
          have x2 := K3.out.2.2.1.cell2
          go_wp2_with fail
          refine (refVRight_any 1 (-(qq : Int)) ⟨#[]⟩ _ htt).mono ?_
          rw [HRB.out]
          rintro e w7 ⟨rfl, hb7⟩
          have K7 := Lib.hid (K3.out.kept hb7)
          clear hb7 x0 x1 x2 r2
          have x0 := K7.out.2.2.1.cell0
          have x1 := K7.out.2.2.1.cell1
          have x2 := K7.out.2.2.1.cell2
          obtain ⟨q0, q1, q2⟩ := K7.out.2.1.read (1) ((-(qq : Int))) ⟨#[]⟩
          have HF := Lib.hid (K7.out.answer (1) ((-(qq : Int))) ⟨#[]⟩)
          have y0 := K7.out.2.1.free 0
          have y1 := K7.out.2.1.free 1
          have y2 := K7.out.2.1.free 2
          have z0 := K7.out.2.1.cell0
          have z1 := K7.out.2.1.cell1
          have z2 := K7.out.2.1.cell2
          go_wp2
          refine bodyPost_ret (v := .agg #[.int .i64 (1), .int .i64 ((-(qq : Int))), .string ⟨#[]⟩]) (by simp [results, Tryz.results87, go_sem, q0, q1, q2]) rfl ?_
          rw [HT.out]
          exact ⟨rfl, HF.out.1, HF.out.2⟩
      · have HT : Hid (takeV l = (0, 0, [], l2, e2)) := Lib.hid (by rw [HTD.out, HRAW.out]; dsimp only; rw [if_pos he])
        have te : ((e2 : Int) != 0) = true := by rw [bne_iff_ne]; omega
        clear he
        go_enter Tryz.func87, Tryz.ntmps87
        go_wp2_with fail
        refine HU1.out.mono ?_
        rintro e w1 ⟨rfl, hr1, ho1⟩
        have hsz := ho1.size
        have hT := (HT0.out.only ho1 (by omega))
        have hb1 := (Below.refl w1.heap.size w1).alloc (Nat.le_refl _) (.cells #[.int .i64 (1 : Int), .int .i64 0, .string ⟨#[]⟩] 50)
        have hVs : w.heap.size < w1.heap.size := hT.size
        have K1 := Lib.hid (show RTk w B b w.heap.size w1.heap.size (1 : Int) 0 ⟨#[]⟩ l1 0 _ from ⟨⟨Nat.le_refl _, by omega, by omega, hblt⟩, hT.kept hb1, ThreeAt.start w1 (1 : Int) 0 ⟨#[]⟩, hr1.kept hb1, (HO0.out.trans ho1).trans (Only.ofBelow (b := b) hb1)⟩)
        clear hr1 ho1 hT hb1 hsz
        go_wp2_with fail
        refine (HU2.out _ K1.out.2.2.2.1).mono ?_
        rintro e w2 ⟨rfl, hr2, ho2⟩
        have K2 := Lib.hid (K1.out.read hr2 ho2)
        clear hr2 ho2
        have K2b := Lib.hid (K2.out.set1 ((m : Int) / 2))
        have K3 := Lib.hid (K2b.out.set1 (-(qq : Int)))
        have v0 := K2.out.2.2.1.cell1
        have v1 := K2.out.2.2.1.free 1
        have v2 := K2b.out.2.2.1.cell1
        have v3 := K2b.out.2.2.1.free 1
        have r2 := K3.out.2.2.2.1.2.1
        obtain ⟨q0, q1, q2⟩ := K3.out.2.1.read (0) (0) ⟨#[]⟩
        have HF := Lib.hid (K3.out.answer (0) (0) ⟨#[]⟩)
        have y0 := K3.out.2.1.free 0
        have y1 := K3.out.2.1.free 1
        have y2 := K3.out.2.1.free 2
        have z0 := K3.out.2.1.cell0
        have z1 := K3.out.2.1.cell1
        have z2 := K3.out.2.1.cell2
        go_wp2
        refine bodyPost_ret (v := .agg #[.int .i64 (0), .int .i64 (0), .string ⟨#[]⟩]) (by simp [results, Tryz.results87, go_sem, q0, q1, q2]) rfl ?_
        rw [HT.out]
        exact ⟨rfl, HF.out.1, HF.out.2⟩
    · have HE := Lib.hid (show (m : Int) / 2 = unfoldV m by unfold unfoldV; rw [if_neg hm]; omega)
      have e5 : (((m : Int) % 2) == 1) = false := by rw [beq_eq_false_iff_ne]; omega
      rw [← HE.out] at HRAWX
      clear hm
      have HRAW := HRAWX
      have htt : (⟨#[]⟩ : ByteArray).size ≤ 4611686018427387904 := by decide
      by_cases he : e2 = 0
      · subst he
        cases hR : Vm.rightV (1) (((m : Int) / 2)) [] with
        | false =>
          have HT : Hid (takeV l = (0, 0, [], l2, 21)) := Lib.hid (by rw [HTD.out, HRAW.out]; dsimp only; rw [if_neg (by simp), hR]; rfl)
          have HRB := Lib.hid (show Vm.rightV (1) (((m : Int) / 2)) (⟨#[]⟩ : ByteArray).data.toList = false from hR)
          clear hR
          go_enter Tryz.func87, Tryz.ntmps87
          go_wp2_with fail
          refine HU1.out.mono ?_
          rintro e w1 ⟨rfl, hr1, ho1⟩
          have hsz := ho1.size
          have hT := (HT0.out.only ho1 (by omega))
          have hb1 := (Below.refl w1.heap.size w1).alloc (Nat.le_refl _) (.cells #[.int .i64 (1 : Int), .int .i64 0, .string ⟨#[]⟩] 50)
          have hVs : w.heap.size < w1.heap.size := hT.size
          have K1 := Lib.hid (show RTk w B b w.heap.size w1.heap.size (1 : Int) 0 ⟨#[]⟩ l1 0 _ from ⟨⟨Nat.le_refl _, by omega, by omega, hblt⟩, hT.kept hb1, ThreeAt.start w1 (1 : Int) 0 ⟨#[]⟩, hr1.kept hb1, (HO0.out.trans ho1).trans (Only.ofBelow (b := b) hb1)⟩)
          clear hr1 ho1 hT hb1 hsz
          go_wp2_with fail
          refine (HU2.out _ K1.out.2.2.2.1).mono ?_
          rintro e w2 ⟨rfl, hr2, ho2⟩
          have K2 := Lib.hid (K1.out.read hr2 ho2)
          clear hr2 ho2
          have K3 := Lib.hid (K2.out.set1 ((m : Int) / 2))
          have v0 := K2.out.2.2.1.cell1
          have v1 := K2.out.2.2.1.free 1
          have r2 := K3.out.2.2.2.1.2.1
          have x0 := K3.out.2.2.1.cell0
          have x1 := K3.out.2.2.1.cell1
          have x2 := K3.out.2.2.1.cell2
          go_wp2_with fail
          refine (refVRight_any 1 ((m : Int) / 2) ⟨#[]⟩ _ htt).mono ?_
          rw [HRB.out]
          rintro e w7 ⟨rfl, hb7⟩
          have K7 := Lib.hid (K3.out.kept hb7)
          clear hb7 x0 x1 x2 r2
          go_wp2_with fail
          refine (refFail_any B b l2 0 21 _ K7.out.2.2.2.1).mono ?_
          rintro e w8 ⟨rfl, hr8, ho8⟩
          rw [if_pos rfl] at hr8
          have K8 := Lib.hid (K7.out.read hr8 ho8)
          clear hr8 ho8
          obtain ⟨q0, q1, q2⟩ := K8.out.2.1.read (0) (0) ⟨#[]⟩
          have HF := Lib.hid (K8.out.answer (0) (0) ⟨#[]⟩)
          have y0 := K8.out.2.1.free 0
          have y1 := K8.out.2.1.free 1
          have y2 := K8.out.2.1.free 2
          have z0 := K8.out.2.1.cell0
          have z1 := K8.out.2.1.cell1
          have z2 := K8.out.2.1.cell2
          go_wp2
          refine bodyPost_ret (v := .agg #[.int .i64 (0), .int .i64 (0), .string ⟨#[]⟩]) (by simp [results, Tryz.results87, go_sem, q0, q1, q2]) rfl ?_
          rw [HT.out]
          exact ⟨rfl, HF.out.1, HF.out.2⟩
        | true =>
          have HT : Hid (takeV l = (1, ((m : Int) / 2), [], l2, 0)) := Lib.hid (by rw [HTD.out, HRAW.out]; dsimp only; rw [if_neg (by simp), hR]; rfl)
          have HRB := Lib.hid (show Vm.rightV (1) (((m : Int) / 2)) (⟨#[]⟩ : ByteArray).data.toList = true from hR)
          clear hR
          go_enter Tryz.func87, Tryz.ntmps87
          go_wp2_with fail
          refine HU1.out.mono ?_
          rintro e w1 ⟨rfl, hr1, ho1⟩
          have hsz := ho1.size
          have hT := (HT0.out.only ho1 (by omega))
          have hb1 := (Below.refl w1.heap.size w1).alloc (Nat.le_refl _) (.cells #[.int .i64 (1 : Int), .int .i64 0, .string ⟨#[]⟩] 50)
          have hVs : w.heap.size < w1.heap.size := hT.size
          have K1 := Lib.hid (show RTk w B b w.heap.size w1.heap.size (1 : Int) 0 ⟨#[]⟩ l1 0 _ from ⟨⟨Nat.le_refl _, by omega, by omega, hblt⟩, hT.kept hb1, ThreeAt.start w1 (1 : Int) 0 ⟨#[]⟩, hr1.kept hb1, (HO0.out.trans ho1).trans (Only.ofBelow (b := b) hb1)⟩)
          clear hr1 ho1 hT hb1 hsz
          go_wp2_with fail
          refine (HU2.out _ K1.out.2.2.2.1).mono ?_
          rintro e w2 ⟨rfl, hr2, ho2⟩
          have K2 := Lib.hid (K1.out.read hr2 ho2)
          clear hr2 ho2
          have K3 := Lib.hid (K2.out.set1 ((m : Int) / 2))
          have v0 := K2.out.2.2.1.cell1
          have v1 := K2.out.2.2.1.free 1
          have r2 := K3.out.2.2.2.1.2.1
          have x0 := K3.out.2.2.1.cell0
          have x1 := K3.out.2.2.1.cell1
          have x2 := K3.out.2.2.1.cell2
          go_wp2_with fail
          refine (refVRight_any 1 ((m : Int) / 2) ⟨#[]⟩ _ htt).mono ?_
          rw [HRB.out]
          rintro e w7 ⟨rfl, hb7⟩
          have K7 := Lib.hid (K3.out.kept hb7)
          clear hb7 x0 x1 x2 r2
          have x0 := K7.out.2.2.1.cell0
          have x1 := K7.out.2.2.1.cell1
          have x2 := K7.out.2.2.1.cell2
          obtain ⟨q0, q1, q2⟩ := K7.out.2.1.read (1) (((m : Int) / 2)) ⟨#[]⟩
          have HF := Lib.hid (K7.out.answer (1) (((m : Int) / 2)) ⟨#[]⟩)
          have y0 := K7.out.2.1.free 0
          have y1 := K7.out.2.1.free 1
          have y2 := K7.out.2.1.free 2
          have z0 := K7.out.2.1.cell0
          have z1 := K7.out.2.1.cell1
          have z2 := K7.out.2.1.cell2
          go_wp2
          refine bodyPost_ret (v := .agg #[.int .i64 (1), .int .i64 (((m : Int) / 2)), .string ⟨#[]⟩]) (by simp [results, Tryz.results87, go_sem, q0, q1, q2]) rfl ?_
          rw [HT.out]
          exact ⟨rfl, HF.out.1, HF.out.2⟩
      · have HT : Hid (takeV l = (0, 0, [], l2, e2)) := Lib.hid (by rw [HTD.out, HRAW.out]; dsimp only; rw [if_pos he])
        have te : ((e2 : Int) != 0) = true := by rw [bne_iff_ne]; omega
        clear he
        go_enter Tryz.func87, Tryz.ntmps87
        go_wp2_with fail
        refine HU1.out.mono ?_
        rintro e w1 ⟨rfl, hr1, ho1⟩
        have hsz := ho1.size
        have hT := (HT0.out.only ho1 (by omega))
        have hb1 := (Below.refl w1.heap.size w1).alloc (Nat.le_refl _) (.cells #[.int .i64 (1 : Int), .int .i64 0, .string ⟨#[]⟩] 50)
        have hVs : w.heap.size < w1.heap.size := hT.size
        have K1 := Lib.hid (show RTk w B b w.heap.size w1.heap.size (1 : Int) 0 ⟨#[]⟩ l1 0 _ from ⟨⟨Nat.le_refl _, by omega, by omega, hblt⟩, hT.kept hb1, ThreeAt.start w1 (1 : Int) 0 ⟨#[]⟩, hr1.kept hb1, (HO0.out.trans ho1).trans (Only.ofBelow (b := b) hb1)⟩)
        clear hr1 ho1 hT hb1 hsz
        go_wp2_with fail
        refine (HU2.out _ K1.out.2.2.2.1).mono ?_
        rintro e w2 ⟨rfl, hr2, ho2⟩
        have K2 := Lib.hid (K1.out.read hr2 ho2)
        clear hr2 ho2
        have K3 := Lib.hid (K2.out.set1 ((m : Int) / 2))
        have v0 := K2.out.2.2.1.cell1
        have v1 := K2.out.2.2.1.free 1
        have r2 := K3.out.2.2.2.1.2.1
        obtain ⟨q0, q1, q2⟩ := K3.out.2.1.read (0) (0) ⟨#[]⟩
        have HF := Lib.hid (K3.out.answer (0) (0) ⟨#[]⟩)
        have y0 := K3.out.2.1.free 0
        have y1 := K3.out.2.1.free 1
        have y2 := K3.out.2.1.free 2
        have z0 := K3.out.2.1.cell0
        have z1 := K3.out.2.1.cell1
        have z2 := K3.out.2.1.cell2
        go_wp2
        refine bodyPost_ret (v := .agg #[.int .i64 (0), .int .i64 (0), .string ⟨#[]⟩]) (by simp [results, Tryz.results87, go_sem, q0, q1, q2]) rfl ?_
        rw [HT.out]
        exact ⟨rfl, HF.out.1, HF.out.2⟩
  · obtain rfl := hee (by decide)
    have HRAWX := Lib.hid (show rawV l = (2, unfoldV m, [], l2, e2) by rw [HRW.out]; rw [if_pos (by decide)]; rfl)
    by_cases hm : m % 2 = 1
    · have hE1 : ((m : Int) + 1).tdiv 2 = (((m + 1) / 2 : Nat) : Int) := rfl
      have HE2 := Lib.hid (show -(((m + 1) / 2 : Nat) : Int) = unfoldV m by unfold unfoldV; rw [if_pos hm])
      have hq : (m + 1) / 2 ≤ 281474976710656 := by omega
      have e5 : (((m : Int) % 2) == 1) = true := by rw [beq_iff_eq]; omega
      generalize hu : unfoldV m = u at *
      have HU := Lib.hid hu
      generalize (m + 1) / 2 = qq at *
      obtain rfl := HE2.out
      clear hm hu
      have HRAW := HRAWX
      have htt : (⟨#[]⟩ : ByteArray).size ≤ 4611686018427387904 := by decide
      by_cases he : e2 = 0
      · subst he
        cases hR : Vm.rightV (2) ((-(qq : Int))) [] with
        | false =>
          have HT : Hid (takeV l = (0, 0, [], l2, 21)) := Lib.hid (by rw [HTD.out, HRAW.out]; dsimp only; rw [if_neg (by simp), hR]; rfl)
          have HRB := Lib.hid (show Vm.rightV (2) ((-(qq : Int))) (⟨#[]⟩ : ByteArray).data.toList = false from hR)
          clear hR
          go_enter Tryz.func87, Tryz.ntmps87
          go_wp2_with fail
          refine HU1.out.mono ?_
          rintro e w1 ⟨rfl, hr1, ho1⟩
          have hsz := ho1.size
          have hT := (HT0.out.only ho1 (by omega))
          have hb1 := (Below.refl w1.heap.size w1).alloc (Nat.le_refl _) (.cells #[.int .i64 (2 : Int), .int .i64 0, .string ⟨#[]⟩] 50)
          have hVs : w.heap.size < w1.heap.size := hT.size
          have K1 := Lib.hid (show RTk w B b w.heap.size w1.heap.size (2 : Int) 0 ⟨#[]⟩ l1 0 _ from ⟨⟨Nat.le_refl _, by omega, by omega, hblt⟩, hT.kept hb1, ThreeAt.start w1 (2 : Int) 0 ⟨#[]⟩, hr1.kept hb1, (HO0.out.trans ho1).trans (Only.ofBelow (b := b) hb1)⟩)
          clear hr1 ho1 hT hb1 hsz
          go_wp2_with fail
          refine (HU2.out _ K1.out.2.2.2.1).mono ?_
          rintro e w2 ⟨rfl, hr2, ho2⟩
          have K2 := Lib.hid (K1.out.read hr2 ho2)
          clear hr2 ho2
          have K2b := Lib.hid (K2.out.set1 ((m : Int) / 2))
          have K3 := Lib.hid (K2b.out.set1 (-(qq : Int)))
          have v0 := K2.out.2.2.1.cell1
          have v1 := K2.out.2.2.1.free 1
          have v2 := K2b.out.2.2.1.cell1
          have v3 := K2b.out.2.2.1.free 1
          have r2 := K3.out.2.2.2.1.2.1
          have x0 := K3.out.2.2.1.cell0
          have x1 := K3.out.2.2.1.cell1
          have x2 := K3.out.2.2.1.cell2
          go_wp2_with fail
          refine (refVRight_any 2 (-(qq : Int)) ⟨#[]⟩ _ htt).mono ?_
          rw [HRB.out]
          rintro e w7 ⟨rfl, hb7⟩
          have K7 := Lib.hid (K3.out.kept hb7)
          clear hb7 x0 x1 x2 r2
          go_wp2_with fail
          refine (refFail_any B b l2 0 21 _ K7.out.2.2.2.1).mono ?_
          rintro e w8 ⟨rfl, hr8, ho8⟩
          rw [if_pos rfl] at hr8
          have K8 := Lib.hid (K7.out.read hr8 ho8)
          clear hr8 ho8
          obtain ⟨q0, q1, q2⟩ := K8.out.2.1.read (0) (0) ⟨#[]⟩
          have HF := Lib.hid (K8.out.answer (0) (0) ⟨#[]⟩)
          have y0 := K8.out.2.1.free 0
          have y1 := K8.out.2.1.free 1
          have y2 := K8.out.2.1.free 2
          have z0 := K8.out.2.1.cell0
          have z1 := K8.out.2.1.cell1
          have z2 := K8.out.2.1.cell2
          go_wp2
          refine bodyPost_ret (v := .agg #[.int .i64 (0), .int .i64 (0), .string ⟨#[]⟩]) (by simp [results, Tryz.results87, go_sem, q0, q1, q2]) rfl ?_
          rw [HT.out]
          exact ⟨rfl, HF.out.1, HF.out.2⟩
        | true =>
          have HT : Hid (takeV l = (2, (-(qq : Int)), [], l2, 0)) := Lib.hid (by rw [HTD.out, HRAW.out]; dsimp only; rw [if_neg (by simp), hR]; rfl)
          have HRB := Lib.hid (show Vm.rightV (2) ((-(qq : Int))) (⟨#[]⟩ : ByteArray).data.toList = true from hR)
          clear hR
          go_enter Tryz.func87, Tryz.ntmps87
          go_wp2_with fail
          refine HU1.out.mono ?_
          rintro e w1 ⟨rfl, hr1, ho1⟩
          have hsz := ho1.size
          have hT := (HT0.out.only ho1 (by omega))
          have hb1 := (Below.refl w1.heap.size w1).alloc (Nat.le_refl _) (.cells #[.int .i64 (2 : Int), .int .i64 0, .string ⟨#[]⟩] 50)
          have hVs : w.heap.size < w1.heap.size := hT.size
          have K1 := Lib.hid (show RTk w B b w.heap.size w1.heap.size (2 : Int) 0 ⟨#[]⟩ l1 0 _ from ⟨⟨Nat.le_refl _, by omega, by omega, hblt⟩, hT.kept hb1, ThreeAt.start w1 (2 : Int) 0 ⟨#[]⟩, hr1.kept hb1, (HO0.out.trans ho1).trans (Only.ofBelow (b := b) hb1)⟩)
          clear hr1 ho1 hT hb1 hsz
          go_wp2_with fail
          refine (HU2.out _ K1.out.2.2.2.1).mono ?_
          rintro e w2 ⟨rfl, hr2, ho2⟩
          have K2 := Lib.hid (K1.out.read hr2 ho2)
          clear hr2 ho2
          have K2b := Lib.hid (K2.out.set1 ((m : Int) / 2))
          have K3 := Lib.hid (K2b.out.set1 (-(qq : Int)))
          have v0 := K2.out.2.2.1.cell1
          have v1 := K2.out.2.2.1.free 1
          have v2 := K2b.out.2.2.1.cell1
          have v3 := K2b.out.2.2.1.free 1
          have r2 := K3.out.2.2.2.1.2.1
          have x0 := K3.out.2.2.1.cell0
          have x1 := K3.out.2.2.1.cell1
          have x2 := K3.out.2.2.1.cell2
          go_wp2_with fail
          refine (refVRight_any 2 (-(qq : Int)) ⟨#[]⟩ _ htt).mono ?_
          rw [HRB.out]
          rintro e w7 ⟨rfl, hb7⟩
          have K7 := Lib.hid (K3.out.kept hb7)
          clear hb7 x0 x1 x2 r2
          have x0 := K7.out.2.2.1.cell0
          have x1 := K7.out.2.2.1.cell1
          have x2 := K7.out.2.2.1.cell2
          obtain ⟨q0, q1, q2⟩ := K7.out.2.1.read (2) ((-(qq : Int))) ⟨#[]⟩
          have HF := Lib.hid (K7.out.answer (2) ((-(qq : Int))) ⟨#[]⟩)
          have y0 := K7.out.2.1.free 0
          have y1 := K7.out.2.1.free 1
          have y2 := K7.out.2.1.free 2
          have z0 := K7.out.2.1.cell0
          have z1 := K7.out.2.1.cell1
          have z2 := K7.out.2.1.cell2
          go_wp2
          refine bodyPost_ret (v := .agg #[.int .i64 (2), .int .i64 ((-(qq : Int))), .string ⟨#[]⟩]) (by simp [results, Tryz.results87, go_sem, q0, q1, q2]) rfl ?_
          rw [HT.out]
          exact ⟨rfl, HF.out.1, HF.out.2⟩
      · have HT : Hid (takeV l = (0, 0, [], l2, e2)) := Lib.hid (by rw [HTD.out, HRAW.out]; dsimp only; rw [if_pos he])
        have te : ((e2 : Int) != 0) = true := by rw [bne_iff_ne]; omega
        clear he
        go_enter Tryz.func87, Tryz.ntmps87
        go_wp2_with fail
        refine HU1.out.mono ?_
        rintro e w1 ⟨rfl, hr1, ho1⟩
        have hsz := ho1.size
        have hT := (HT0.out.only ho1 (by omega))
        have hb1 := (Below.refl w1.heap.size w1).alloc (Nat.le_refl _) (.cells #[.int .i64 (2 : Int), .int .i64 0, .string ⟨#[]⟩] 50)
        have hVs : w.heap.size < w1.heap.size := hT.size
        have K1 := Lib.hid (show RTk w B b w.heap.size w1.heap.size (2 : Int) 0 ⟨#[]⟩ l1 0 _ from ⟨⟨Nat.le_refl _, by omega, by omega, hblt⟩, hT.kept hb1, ThreeAt.start w1 (2 : Int) 0 ⟨#[]⟩, hr1.kept hb1, (HO0.out.trans ho1).trans (Only.ofBelow (b := b) hb1)⟩)
        clear hr1 ho1 hT hb1 hsz
        go_wp2_with fail
        refine (HU2.out _ K1.out.2.2.2.1).mono ?_
        rintro e w2 ⟨rfl, hr2, ho2⟩
        have K2 := Lib.hid (K1.out.read hr2 ho2)
        clear hr2 ho2
        have K2b := Lib.hid (K2.out.set1 ((m : Int) / 2))
        have K3 := Lib.hid (K2b.out.set1 (-(qq : Int)))
        have v0 := K2.out.2.2.1.cell1
        have v1 := K2.out.2.2.1.free 1
        have v2 := K2b.out.2.2.1.cell1
        have v3 := K2b.out.2.2.1.free 1
        have r2 := K3.out.2.2.2.1.2.1
        obtain ⟨q0, q1, q2⟩ := K3.out.2.1.read (0) (0) ⟨#[]⟩
        have HF := Lib.hid (K3.out.answer (0) (0) ⟨#[]⟩)
        have y0 := K3.out.2.1.free 0
        have y1 := K3.out.2.1.free 1
        have y2 := K3.out.2.1.free 2
        have z0 := K3.out.2.1.cell0
        have z1 := K3.out.2.1.cell1
        have z2 := K3.out.2.1.cell2
        go_wp2
        refine bodyPost_ret (v := .agg #[.int .i64 (0), .int .i64 (0), .string ⟨#[]⟩]) (by simp [results, Tryz.results87, go_sem, q0, q1, q2]) rfl ?_
        rw [HT.out]
        exact ⟨rfl, HF.out.1, HF.out.2⟩
    · have HE := Lib.hid (show (m : Int) / 2 = unfoldV m by unfold unfoldV; rw [if_neg hm]; omega)
      have e5 : (((m : Int) % 2) == 1) = false := by rw [beq_eq_false_iff_ne]; omega
      rw [← HE.out] at HRAWX
      clear hm
      have HRAW := HRAWX
      have htt : (⟨#[]⟩ : ByteArray).size ≤ 4611686018427387904 := by decide
      by_cases he : e2 = 0
      · subst he
        cases hR : Vm.rightV (2) (((m : Int) / 2)) [] with
        | false =>
          have HT : Hid (takeV l = (0, 0, [], l2, 21)) := Lib.hid (by rw [HTD.out, HRAW.out]; dsimp only; rw [if_neg (by simp), hR]; rfl)
          have HRB := Lib.hid (show Vm.rightV (2) (((m : Int) / 2)) (⟨#[]⟩ : ByteArray).data.toList = false from hR)
          clear hR
          go_enter Tryz.func87, Tryz.ntmps87
          go_wp2_with fail
          refine HU1.out.mono ?_
          rintro e w1 ⟨rfl, hr1, ho1⟩
          have hsz := ho1.size
          have hT := (HT0.out.only ho1 (by omega))
          have hb1 := (Below.refl w1.heap.size w1).alloc (Nat.le_refl _) (.cells #[.int .i64 (2 : Int), .int .i64 0, .string ⟨#[]⟩] 50)
          have hVs : w.heap.size < w1.heap.size := hT.size
          have K1 := Lib.hid (show RTk w B b w.heap.size w1.heap.size (2 : Int) 0 ⟨#[]⟩ l1 0 _ from ⟨⟨Nat.le_refl _, by omega, by omega, hblt⟩, hT.kept hb1, ThreeAt.start w1 (2 : Int) 0 ⟨#[]⟩, hr1.kept hb1, (HO0.out.trans ho1).trans (Only.ofBelow (b := b) hb1)⟩)
          clear hr1 ho1 hT hb1 hsz
          go_wp2_with fail
          refine (HU2.out _ K1.out.2.2.2.1).mono ?_
          rintro e w2 ⟨rfl, hr2, ho2⟩
          have K2 := Lib.hid (K1.out.read hr2 ho2)
          clear hr2 ho2
          have K3 := Lib.hid (K2.out.set1 ((m : Int) / 2))
          have v0 := K2.out.2.2.1.cell1
          have v1 := K2.out.2.2.1.free 1
          have r2 := K3.out.2.2.2.1.2.1
          have x0 := K3.out.2.2.1.cell0
          have x1 := K3.out.2.2.1.cell1
          have x2 := K3.out.2.2.1.cell2
          go_wp2_with fail
          refine (refVRight_any 2 ((m : Int) / 2) ⟨#[]⟩ _ htt).mono ?_
          rw [HRB.out]
          rintro e w7 ⟨rfl, hb7⟩
          have K7 := Lib.hid (K3.out.kept hb7)
          clear hb7 x0 x1 x2 r2
          go_wp2_with fail
          refine (refFail_any B b l2 0 21 _ K7.out.2.2.2.1).mono ?_
          rintro e w8 ⟨rfl, hr8, ho8⟩
          rw [if_pos rfl] at hr8
          have K8 := Lib.hid (K7.out.read hr8 ho8)
          clear hr8 ho8
          obtain ⟨q0, q1, q2⟩ := K8.out.2.1.read (0) (0) ⟨#[]⟩
          have HF := Lib.hid (K8.out.answer (0) (0) ⟨#[]⟩)
          have y0 := K8.out.2.1.free 0
          have y1 := K8.out.2.1.free 1
          have y2 := K8.out.2.1.free 2
          have z0 := K8.out.2.1.cell0
          have z1 := K8.out.2.1.cell1
          have z2 := K8.out.2.1.cell2
          go_wp2
          refine bodyPost_ret (v := .agg #[.int .i64 (0), .int .i64 (0), .string ⟨#[]⟩]) (by simp [results, Tryz.results87, go_sem, q0, q1, q2]) rfl ?_
          rw [HT.out]
          exact ⟨rfl, HF.out.1, HF.out.2⟩
        | true =>
          have HT : Hid (takeV l = (2, ((m : Int) / 2), [], l2, 0)) := Lib.hid (by rw [HTD.out, HRAW.out]; dsimp only; rw [if_neg (by simp), hR]; rfl)
          have HRB := Lib.hid (show Vm.rightV (2) (((m : Int) / 2)) (⟨#[]⟩ : ByteArray).data.toList = true from hR)
          clear hR
          go_enter Tryz.func87, Tryz.ntmps87
          go_wp2_with fail
          refine HU1.out.mono ?_
          rintro e w1 ⟨rfl, hr1, ho1⟩
          have hsz := ho1.size
          have hT := (HT0.out.only ho1 (by omega))
          have hb1 := (Below.refl w1.heap.size w1).alloc (Nat.le_refl _) (.cells #[.int .i64 (2 : Int), .int .i64 0, .string ⟨#[]⟩] 50)
          have hVs : w.heap.size < w1.heap.size := hT.size
          have K1 := Lib.hid (show RTk w B b w.heap.size w1.heap.size (2 : Int) 0 ⟨#[]⟩ l1 0 _ from ⟨⟨Nat.le_refl _, by omega, by omega, hblt⟩, hT.kept hb1, ThreeAt.start w1 (2 : Int) 0 ⟨#[]⟩, hr1.kept hb1, (HO0.out.trans ho1).trans (Only.ofBelow (b := b) hb1)⟩)
          clear hr1 ho1 hT hb1 hsz
          go_wp2_with fail
          refine (HU2.out _ K1.out.2.2.2.1).mono ?_
          rintro e w2 ⟨rfl, hr2, ho2⟩
          have K2 := Lib.hid (K1.out.read hr2 ho2)
          clear hr2 ho2
          have K3 := Lib.hid (K2.out.set1 ((m : Int) / 2))
          have v0 := K2.out.2.2.1.cell1
          have v1 := K2.out.2.2.1.free 1
          have r2 := K3.out.2.2.2.1.2.1
          have x0 := K3.out.2.2.1.cell0
          have x1 := K3.out.2.2.1.cell1
          have x2 := K3.out.2.2.1.cell2
          go_wp2_with fail
          refine (refVRight_any 2 ((m : Int) / 2) ⟨#[]⟩ _ htt).mono ?_
          rw [HRB.out]
          rintro e w7 ⟨rfl, hb7⟩
          have K7 := Lib.hid (K3.out.kept hb7)
          clear hb7 x0 x1 x2 r2
          have x0 := K7.out.2.2.1.cell0
          have x1 := K7.out.2.2.1.cell1
          have x2 := K7.out.2.2.1.cell2
          obtain ⟨q0, q1, q2⟩ := K7.out.2.1.read (2) (((m : Int) / 2)) ⟨#[]⟩
          have HF := Lib.hid (K7.out.answer (2) (((m : Int) / 2)) ⟨#[]⟩)
          have y0 := K7.out.2.1.free 0
          have y1 := K7.out.2.1.free 1
          have y2 := K7.out.2.1.free 2
          have z0 := K7.out.2.1.cell0
          have z1 := K7.out.2.1.cell1
          have z2 := K7.out.2.1.cell2
          go_wp2
          refine bodyPost_ret (v := .agg #[.int .i64 (2), .int .i64 (((m : Int) / 2)), .string ⟨#[]⟩]) (by simp [results, Tryz.results87, go_sem, q0, q1, q2]) rfl ?_
          rw [HT.out]
          exact ⟨rfl, HF.out.1, HF.out.2⟩
      · have HT : Hid (takeV l = (0, 0, [], l2, e2)) := Lib.hid (by rw [HTD.out, HRAW.out]; dsimp only; rw [if_pos he])
        have te : ((e2 : Int) != 0) = true := by rw [bne_iff_ne]; omega
        clear he
        go_enter Tryz.func87, Tryz.ntmps87
        go_wp2_with fail
        refine HU1.out.mono ?_
        rintro e w1 ⟨rfl, hr1, ho1⟩
        have hsz := ho1.size
        have hT := (HT0.out.only ho1 (by omega))
        have hb1 := (Below.refl w1.heap.size w1).alloc (Nat.le_refl _) (.cells #[.int .i64 (2 : Int), .int .i64 0, .string ⟨#[]⟩] 50)
        have hVs : w.heap.size < w1.heap.size := hT.size
        have K1 := Lib.hid (show RTk w B b w.heap.size w1.heap.size (2 : Int) 0 ⟨#[]⟩ l1 0 _ from ⟨⟨Nat.le_refl _, by omega, by omega, hblt⟩, hT.kept hb1, ThreeAt.start w1 (2 : Int) 0 ⟨#[]⟩, hr1.kept hb1, (HO0.out.trans ho1).trans (Only.ofBelow (b := b) hb1)⟩)
        clear hr1 ho1 hT hb1 hsz
        go_wp2_with fail
        refine (HU2.out _ K1.out.2.2.2.1).mono ?_
        rintro e w2 ⟨rfl, hr2, ho2⟩
        have K2 := Lib.hid (K1.out.read hr2 ho2)
        clear hr2 ho2
        have K3 := Lib.hid (K2.out.set1 ((m : Int) / 2))
        have v0 := K2.out.2.2.1.cell1
        have v1 := K2.out.2.2.1.free 1
        have r2 := K3.out.2.2.2.1.2.1
        obtain ⟨q0, q1, q2⟩ := K3.out.2.1.read (0) (0) ⟨#[]⟩
        have HF := Lib.hid (K3.out.answer (0) (0) ⟨#[]⟩)
        have y0 := K3.out.2.1.free 0
        have y1 := K3.out.2.1.free 1
        have y2 := K3.out.2.1.free 2
        have z0 := K3.out.2.1.cell0
        have z1 := K3.out.2.1.cell1
        have z2 := K3.out.2.1.cell2
        go_wp2
        refine bodyPost_ret (v := .agg #[.int .i64 (0), .int .i64 (0), .string ⟨#[]⟩]) (by simp [results, Tryz.results87, go_sem, q0, q1, q2]) rfl ?_
        rw [HT.out]
        exact ⟨rfl, HF.out.1, HF.out.2⟩
  · obtain rfl := hee (by decide)
    have hl1 : l1.length ≤ 140737488355328 := hlen1
    have HRAW := Lib.hid (show rawV l = (3, 0, tl, l3, e3) by rw [HRW.out]; rw [if_neg (by decide), if_pos rfl])
    have htt : ((strB tl) : ByteArray).size ≤ 4611686018427387904 := by rw [show (strB tl).size = tl.length from by simp [strB, ByteArray.size]]; have := HTLe.out; have := hl1; omega
    by_cases he : e3 = 0
    · subst he
      cases hR : Vm.rightV (3) (0) tl with
      | false =>
        have HT : Hid (takeV l = (0, 0, [], l3, 21)) := Lib.hid (by rw [HTD.out, HRAW.out]; dsimp only; rw [if_neg (by simp), hR]; rfl)
        have HRB := Lib.hid (show Vm.rightV (3) (0) ((strB tl) : ByteArray).data.toList = false from hR)
        clear hR
        go_enter Tryz.func87, Tryz.ntmps87
        go_wp2_with fail
        refine HU1.out.mono ?_
        rintro e w1 ⟨rfl, hr1, ho1⟩
        have hsz := ho1.size
        have hT := (HT0.out.only ho1 (by omega))
        have hb1 := (Below.refl w1.heap.size w1).alloc (Nat.le_refl _) (.cells #[.int .i64 (3 : Int), .int .i64 0, .string ⟨#[]⟩] 50)
        have hVs : w.heap.size < w1.heap.size := hT.size
        have K1 := Lib.hid (show RTk w B b w.heap.size w1.heap.size (3 : Int) 0 ⟨#[]⟩ l1 0 _ from ⟨⟨Nat.le_refl _, by omega, by omega, hblt⟩, hT.kept hb1, ThreeAt.start w1 (3 : Int) 0 ⟨#[]⟩, hr1.kept hb1, (HO0.out.trans ho1).trans (Only.ofBelow (b := b) hb1)⟩)
        clear hr1 ho1 hT hb1 hsz
        go_wp2_with fail
        refine (HUX.out _ K1.out.2.2.2.1).mono ?_
        rintro e w2 ⟨rfl, hr2, ho2⟩
        have K2 := Lib.hid (K1.out.read hr2 ho2)
        clear hr2 ho2
        have K3 := Lib.hid (K2.out.set2 (strB tl))
        have v0 := K2.out.2.2.1.cell2
        have v1 := K2.out.2.2.1.free 2
        have r2 := K3.out.2.2.2.1.2.1
        have x0 := K3.out.2.2.1.cell0
        have x1 := K3.out.2.2.1.cell1
        have x2 := K3.out.2.2.1.cell2
        go_wp2_with fail
        refine (refVRight_any 3 0 (strB tl) _ htt).mono ?_
        rw [HRB.out]
        rintro e w7 ⟨rfl, hb7⟩
        have K7 := Lib.hid (K3.out.kept hb7)
        clear hb7 x0 x1 x2 r2
        go_wp2_with fail
        refine (refFail_any B b l3 0 21 _ K7.out.2.2.2.1).mono ?_
        rintro e w8 ⟨rfl, hr8, ho8⟩
        rw [if_pos rfl] at hr8
        have K8 := Lib.hid (K7.out.read hr8 ho8)
        clear hr8 ho8
        obtain ⟨q0, q1, q2⟩ := K8.out.2.1.read (0) (0) ⟨#[]⟩
        have HF := Lib.hid (K8.out.answer (0) (0) ⟨#[]⟩)
        have y0 := K8.out.2.1.free 0
        have y1 := K8.out.2.1.free 1
        have y2 := K8.out.2.1.free 2
        have z0 := K8.out.2.1.cell0
        have z1 := K8.out.2.1.cell1
        have z2 := K8.out.2.1.cell2
        go_wp2
        refine bodyPost_ret (v := .agg #[.int .i64 (0), .int .i64 (0), .string ⟨#[]⟩]) (by simp [results, Tryz.results87, go_sem, q0, q1, q2]) rfl ?_
        rw [HT.out]
        exact ⟨rfl, HF.out.1, HF.out.2⟩
      | true =>
        have HT : Hid (takeV l = (3, 0, tl, l3, 0)) := Lib.hid (by rw [HTD.out, HRAW.out]; dsimp only; rw [if_neg (by simp), hR]; rfl)
        have HRB := Lib.hid (show Vm.rightV (3) (0) ((strB tl) : ByteArray).data.toList = true from hR)
        clear hR
        go_enter Tryz.func87, Tryz.ntmps87
        go_wp2_with fail
        refine HU1.out.mono ?_
        rintro e w1 ⟨rfl, hr1, ho1⟩
        have hsz := ho1.size
        have hT := (HT0.out.only ho1 (by omega))
        have hb1 := (Below.refl w1.heap.size w1).alloc (Nat.le_refl _) (.cells #[.int .i64 (3 : Int), .int .i64 0, .string ⟨#[]⟩] 50)
        have hVs : w.heap.size < w1.heap.size := hT.size
        have K1 := Lib.hid (show RTk w B b w.heap.size w1.heap.size (3 : Int) 0 ⟨#[]⟩ l1 0 _ from ⟨⟨Nat.le_refl _, by omega, by omega, hblt⟩, hT.kept hb1, ThreeAt.start w1 (3 : Int) 0 ⟨#[]⟩, hr1.kept hb1, (HO0.out.trans ho1).trans (Only.ofBelow (b := b) hb1)⟩)
        clear hr1 ho1 hT hb1 hsz
        go_wp2_with fail
        refine (HUX.out _ K1.out.2.2.2.1).mono ?_
        rintro e w2 ⟨rfl, hr2, ho2⟩
        have K2 := Lib.hid (K1.out.read hr2 ho2)
        clear hr2 ho2
        have K3 := Lib.hid (K2.out.set2 (strB tl))
        have v0 := K2.out.2.2.1.cell2
        have v1 := K2.out.2.2.1.free 2
        have r2 := K3.out.2.2.2.1.2.1
        have x0 := K3.out.2.2.1.cell0
        have x1 := K3.out.2.2.1.cell1
        have x2 := K3.out.2.2.1.cell2
        go_wp2_with fail
        refine (refVRight_any 3 0 (strB tl) _ htt).mono ?_
        rw [HRB.out]
        rintro e w7 ⟨rfl, hb7⟩
        have K7 := Lib.hid (K3.out.kept hb7)
        clear hb7 x0 x1 x2 r2
        have x0 := K7.out.2.2.1.cell0
        have x1 := K7.out.2.2.1.cell1
        have x2 := K7.out.2.2.1.cell2
        obtain ⟨q0, q1, q2⟩ := K7.out.2.1.read (3) (0) (strB tl)
        have HF := Lib.hid (K7.out.answer (3) (0) (strB tl))
        have y0 := K7.out.2.1.free 0
        have y1 := K7.out.2.1.free 1
        have y2 := K7.out.2.1.free 2
        have z0 := K7.out.2.1.cell0
        have z1 := K7.out.2.1.cell1
        have z2 := K7.out.2.1.cell2
        go_wp2
        refine bodyPost_ret (v := .agg #[.int .i64 (3), .int .i64 (0), .string (strB tl)]) (by simp [results, Tryz.results87, go_sem, q0, q1, q2]) rfl ?_
        rw [HT.out]
        exact ⟨rfl, HF.out.1, HF.out.2⟩
    · have HT : Hid (takeV l = (0, 0, [], l3, e3)) := Lib.hid (by rw [HTD.out, HRAW.out]; dsimp only; rw [if_pos he])
      have te : ((e3 : Int) != 0) = true := by rw [bne_iff_ne]; omega
      clear he
      go_enter Tryz.func87, Tryz.ntmps87
      go_wp2_with fail
      refine HU1.out.mono ?_
      rintro e w1 ⟨rfl, hr1, ho1⟩
      have hsz := ho1.size
      have hT := (HT0.out.only ho1 (by omega))
      have hb1 := (Below.refl w1.heap.size w1).alloc (Nat.le_refl _) (.cells #[.int .i64 (3 : Int), .int .i64 0, .string ⟨#[]⟩] 50)
      have hVs : w.heap.size < w1.heap.size := hT.size
      have K1 := Lib.hid (show RTk w B b w.heap.size w1.heap.size (3 : Int) 0 ⟨#[]⟩ l1 0 _ from ⟨⟨Nat.le_refl _, by omega, by omega, hblt⟩, hT.kept hb1, ThreeAt.start w1 (3 : Int) 0 ⟨#[]⟩, hr1.kept hb1, (HO0.out.trans ho1).trans (Only.ofBelow (b := b) hb1)⟩)
      clear hr1 ho1 hT hb1 hsz
      go_wp2_with fail
      refine (HUX.out _ K1.out.2.2.2.1).mono ?_
      rintro e w2 ⟨rfl, hr2, ho2⟩
      have K2 := Lib.hid (K1.out.read hr2 ho2)
      clear hr2 ho2
      have K3 := Lib.hid (K2.out.set2 (strB tl))
      have v0 := K2.out.2.2.1.cell2
      have v1 := K2.out.2.2.1.free 2
      have r2 := K3.out.2.2.2.1.2.1
      obtain ⟨q0, q1, q2⟩ := K3.out.2.1.read (0) (0) ⟨#[]⟩
      have HF := Lib.hid (K3.out.answer (0) (0) ⟨#[]⟩)
      have y0 := K3.out.2.1.free 0
      have y1 := K3.out.2.1.free 1
      have y2 := K3.out.2.1.free 2
      have z0 := K3.out.2.1.cell0
      have z1 := K3.out.2.1.cell1
      have z2 := K3.out.2.1.cell2
      go_wp2
      refine bodyPost_ret (v := .agg #[.int .i64 (0), .int .i64 (0), .string ⟨#[]⟩]) (by simp [results, Tryz.results87, go_sem, q0, q1, q2]) rfl ?_
      rw [HT.out]
      exact ⟨rfl, HF.out.1, HF.out.2⟩
  · obtain rfl := hee (by decide)
    have HRAW := Lib.hid (show rawV l = (4, (m : Int), [], l2, e2) by rw [HRW.out]; rw [if_neg (by decide), if_neg (by decide), if_pos rfl])
    have htt : (⟨#[]⟩ : ByteArray).size ≤ 4611686018427387904 := by decide
    by_cases he : e2 = 0
    · subst he
      cases hR : Vm.rightV (4) ((m : Int)) [] with
      | false =>
        have HT : Hid (takeV l = (0, 0, [], l2, 21)) := Lib.hid (by rw [HTD.out, HRAW.out]; dsimp only; rw [if_neg (by simp), hR]; rfl)
        have HRB := Lib.hid (show Vm.rightV (4) ((m : Int)) (⟨#[]⟩ : ByteArray).data.toList = false from hR)
        clear hR
        go_enter Tryz.func87, Tryz.ntmps87
        go_wp2_with fail
        refine HU1.out.mono ?_
        rintro e w1 ⟨rfl, hr1, ho1⟩
        have hsz := ho1.size
        have hT := (HT0.out.only ho1 (by omega))
        have hb1 := (Below.refl w1.heap.size w1).alloc (Nat.le_refl _) (.cells #[.int .i64 (4 : Int), .int .i64 0, .string ⟨#[]⟩] 50)
        have hVs : w.heap.size < w1.heap.size := hT.size
        have K1 := Lib.hid (show RTk w B b w.heap.size w1.heap.size (4 : Int) 0 ⟨#[]⟩ l1 0 _ from ⟨⟨Nat.le_refl _, by omega, by omega, hblt⟩, hT.kept hb1, ThreeAt.start w1 (4 : Int) 0 ⟨#[]⟩, hr1.kept hb1, (HO0.out.trans ho1).trans (Only.ofBelow (b := b) hb1)⟩)
        clear hr1 ho1 hT hb1 hsz
        go_wp2_with fail
        refine (HU2.out _ K1.out.2.2.2.1).mono ?_
        rintro e w2 ⟨rfl, hr2, ho2⟩
        have K2 := Lib.hid (K1.out.read hr2 ho2)
        clear hr2 ho2
        have K3 := Lib.hid (K2.out.set1 (m : Int))
        have v0 := K2.out.2.2.1.cell1
        have v1 := K2.out.2.2.1.free 1
        have r2 := K3.out.2.2.2.1.2.1
        have x0 := K3.out.2.2.1.cell0
        have x1 := K3.out.2.2.1.cell1
        have x2 := K3.out.2.2.1.cell2
        go_wp2_with fail
        refine (refVRight_any 4 (m : Int) ⟨#[]⟩ _ htt).mono ?_
        rw [HRB.out]
        rintro e w7 ⟨rfl, hb7⟩
        have K7 := Lib.hid (K3.out.kept hb7)
        clear hb7 x0 x1 x2 r2
        go_wp2_with fail
        refine (refFail_any B b l2 0 21 _ K7.out.2.2.2.1).mono ?_
        rintro e w8 ⟨rfl, hr8, ho8⟩
        rw [if_pos rfl] at hr8
        have K8 := Lib.hid (K7.out.read hr8 ho8)
        clear hr8 ho8
        obtain ⟨q0, q1, q2⟩ := K8.out.2.1.read (0) (0) ⟨#[]⟩
        have HF := Lib.hid (K8.out.answer (0) (0) ⟨#[]⟩)
        have y0 := K8.out.2.1.free 0
        have y1 := K8.out.2.1.free 1
        have y2 := K8.out.2.1.free 2
        have z0 := K8.out.2.1.cell0
        have z1 := K8.out.2.1.cell1
        have z2 := K8.out.2.1.cell2
        go_wp2
        refine bodyPost_ret (v := .agg #[.int .i64 (0), .int .i64 (0), .string ⟨#[]⟩]) (by simp [results, Tryz.results87, go_sem, q0, q1, q2]) rfl ?_
        rw [HT.out]
        exact ⟨rfl, HF.out.1, HF.out.2⟩
      | true =>
        have HT : Hid (takeV l = (4, (m : Int), [], l2, 0)) := Lib.hid (by rw [HTD.out, HRAW.out]; dsimp only; rw [if_neg (by simp), hR]; rfl)
        have HRB := Lib.hid (show Vm.rightV (4) ((m : Int)) (⟨#[]⟩ : ByteArray).data.toList = true from hR)
        clear hR
        go_enter Tryz.func87, Tryz.ntmps87
        go_wp2_with fail
        refine HU1.out.mono ?_
        rintro e w1 ⟨rfl, hr1, ho1⟩
        have hsz := ho1.size
        have hT := (HT0.out.only ho1 (by omega))
        have hb1 := (Below.refl w1.heap.size w1).alloc (Nat.le_refl _) (.cells #[.int .i64 (4 : Int), .int .i64 0, .string ⟨#[]⟩] 50)
        have hVs : w.heap.size < w1.heap.size := hT.size
        have K1 := Lib.hid (show RTk w B b w.heap.size w1.heap.size (4 : Int) 0 ⟨#[]⟩ l1 0 _ from ⟨⟨Nat.le_refl _, by omega, by omega, hblt⟩, hT.kept hb1, ThreeAt.start w1 (4 : Int) 0 ⟨#[]⟩, hr1.kept hb1, (HO0.out.trans ho1).trans (Only.ofBelow (b := b) hb1)⟩)
        clear hr1 ho1 hT hb1 hsz
        go_wp2_with fail
        refine (HU2.out _ K1.out.2.2.2.1).mono ?_
        rintro e w2 ⟨rfl, hr2, ho2⟩
        have K2 := Lib.hid (K1.out.read hr2 ho2)
        clear hr2 ho2
        have K3 := Lib.hid (K2.out.set1 (m : Int))
        have v0 := K2.out.2.2.1.cell1
        have v1 := K2.out.2.2.1.free 1
        have r2 := K3.out.2.2.2.1.2.1
        have x0 := K3.out.2.2.1.cell0
        have x1 := K3.out.2.2.1.cell1
        have x2 := K3.out.2.2.1.cell2
        go_wp2_with fail
        refine (refVRight_any 4 (m : Int) ⟨#[]⟩ _ htt).mono ?_
        rw [HRB.out]
        rintro e w7 ⟨rfl, hb7⟩
        have K7 := Lib.hid (K3.out.kept hb7)
        clear hb7 x0 x1 x2 r2
        have x0 := K7.out.2.2.1.cell0
        have x1 := K7.out.2.2.1.cell1
        have x2 := K7.out.2.2.1.cell2
        obtain ⟨q0, q1, q2⟩ := K7.out.2.1.read (4) ((m : Int)) ⟨#[]⟩
        have HF := Lib.hid (K7.out.answer (4) ((m : Int)) ⟨#[]⟩)
        have y0 := K7.out.2.1.free 0
        have y1 := K7.out.2.1.free 1
        have y2 := K7.out.2.1.free 2
        have z0 := K7.out.2.1.cell0
        have z1 := K7.out.2.1.cell1
        have z2 := K7.out.2.1.cell2
        go_wp2
        refine bodyPost_ret (v := .agg #[.int .i64 (4), .int .i64 ((m : Int)), .string ⟨#[]⟩]) (by simp [results, Tryz.results87, go_sem, q0, q1, q2]) rfl ?_
        rw [HT.out]
        exact ⟨rfl, HF.out.1, HF.out.2⟩
    · have HT : Hid (takeV l = (0, 0, [], l2, e2)) := Lib.hid (by rw [HTD.out, HRAW.out]; dsimp only; rw [if_pos he])
      have te : ((e2 : Int) != 0) = true := by rw [bne_iff_ne]; omega
      clear he
      go_enter Tryz.func87, Tryz.ntmps87
      go_wp2_with fail
      refine HU1.out.mono ?_
      rintro e w1 ⟨rfl, hr1, ho1⟩
      have hsz := ho1.size
      have hT := (HT0.out.only ho1 (by omega))
      have hb1 := (Below.refl w1.heap.size w1).alloc (Nat.le_refl _) (.cells #[.int .i64 (4 : Int), .int .i64 0, .string ⟨#[]⟩] 50)
      have hVs : w.heap.size < w1.heap.size := hT.size
      have K1 := Lib.hid (show RTk w B b w.heap.size w1.heap.size (4 : Int) 0 ⟨#[]⟩ l1 0 _ from ⟨⟨Nat.le_refl _, by omega, by omega, hblt⟩, hT.kept hb1, ThreeAt.start w1 (4 : Int) 0 ⟨#[]⟩, hr1.kept hb1, (HO0.out.trans ho1).trans (Only.ofBelow (b := b) hb1)⟩)
      clear hr1 ho1 hT hb1 hsz
      go_wp2_with fail
      refine (HU2.out _ K1.out.2.2.2.1).mono ?_
      rintro e w2 ⟨rfl, hr2, ho2⟩
      have K2 := Lib.hid (K1.out.read hr2 ho2)
      clear hr2 ho2
      have K3 := Lib.hid (K2.out.set1 (m : Int))
      have v0 := K2.out.2.2.1.cell1
      have v1 := K2.out.2.2.1.free 1
      have r2 := K3.out.2.2.2.1.2.1
      obtain ⟨q0, q1, q2⟩ := K3.out.2.1.read (0) (0) ⟨#[]⟩
      have HF := Lib.hid (K3.out.answer (0) (0) ⟨#[]⟩)
      have y0 := K3.out.2.1.free 0
      have y1 := K3.out.2.1.free 1
      have y2 := K3.out.2.1.free 2
      have z0 := K3.out.2.1.cell0
      have z1 := K3.out.2.1.cell1
      have z2 := K3.out.2.1.cell2
      go_wp2
      refine bodyPost_ret (v := .agg #[.int .i64 (0), .int .i64 (0), .string ⟨#[]⟩]) (by simp [results, Tryz.results87, go_sem, q0, q1, q2]) rfl ?_
      rw [HT.out]
      exact ⟨rfl, HF.out.1, HF.out.2⟩
  · have k1 : ((kk : Int) == 1) = false := by rw [beq_eq_false_iff_ne]; omega
    have k2 : ((kk : Int) == 2) = false := by rw [beq_eq_false_iff_ne]; omega
    have k3 : ((kk : Int) == 3) = false := by rw [beq_eq_false_iff_ne]; omega
    have k4 : ((kk : Int) == 4) = false := by rw [beq_eq_false_iff_ne]; omega
    have HRAW := Lib.hid (show rawV l = ((kk : Int), 0, [], l1, e1) by rw [HRW.out]; rw [if_neg (by omega), if_neg g3, if_neg g4])
    have htt : (⟨#[]⟩ : ByteArray).size ≤ 4611686018427387904 := by decide
    by_cases he : e1 = 0
    · subst he
      cases hR : Vm.rightV ((kk : Int)) (0) [] with
      | false =>
        have HT : Hid (takeV l = (0, 0, [], l1, 21)) := Lib.hid (by rw [HTD.out, HRAW.out]; dsimp only; rw [if_neg (by simp), hR]; rfl)
        have HRB := Lib.hid (show Vm.rightV ((kk : Int)) (0) (⟨#[]⟩ : ByteArray).data.toList = false from hR)
        clear hR
        go_enter Tryz.func87, Tryz.ntmps87
        go_wp2_with fail
        refine HU1.out.mono ?_
        rintro e w1 ⟨rfl, hr1, ho1⟩
        have hsz := ho1.size
        have hT := (HT0.out.only ho1 (by omega))
        have hb1 := (Below.refl w1.heap.size w1).alloc (Nat.le_refl _) (.cells #[.int .i64 (kk : Int), .int .i64 0, .string ⟨#[]⟩] 50)
        have hVs : w.heap.size < w1.heap.size := hT.size
        have K1 := Lib.hid (show RTk w B b w.heap.size w1.heap.size (kk : Int) 0 ⟨#[]⟩ l1 _ _ from ⟨⟨Nat.le_refl _, by omega, by omega, hblt⟩, hT.kept hb1, ThreeAt.start w1 (kk : Int) 0 ⟨#[]⟩, hr1.kept hb1, (HO0.out.trans ho1).trans (Only.ofBelow (b := b) hb1)⟩)
        clear hr1 ho1 hT hb1 hsz
        have r2 := K1.out.2.2.2.1.2.1
        have x0 := K1.out.2.2.1.cell0
        have x1 := K1.out.2.2.1.cell1
        have x2 := K1.out.2.2.1.cell2
        go_wp2_with fail
        refine (refVRight_any (kk : Int) 0 ⟨#[]⟩ _ htt).mono ?_
        rw [HRB.out]
        rintro e w7 ⟨rfl, hb7⟩
        have K7 := Lib.hid (K1.out.kept hb7)
        clear hb7 x0 x1 x2 r2
        go_wp2_with fail
        refine (refFail_any B b l1 0 21 _ K7.out.2.2.2.1).mono ?_
        rintro e w8 ⟨rfl, hr8, ho8⟩
        rw [if_pos rfl] at hr8
        have K8 := Lib.hid (K7.out.read hr8 ho8)
        clear hr8 ho8
        obtain ⟨q0, q1, q2⟩ := K8.out.2.1.read (0) (0) ⟨#[]⟩
        have HF := Lib.hid (K8.out.answer (0) (0) ⟨#[]⟩)
        have y0 := K8.out.2.1.free 0
        have y1 := K8.out.2.1.free 1
        have y2 := K8.out.2.1.free 2
        have z0 := K8.out.2.1.cell0
        have z1 := K8.out.2.1.cell1
        have z2 := K8.out.2.1.cell2
        go_wp2
        refine bodyPost_ret (v := .agg #[.int .i64 (0), .int .i64 (0), .string ⟨#[]⟩]) (by simp [results, Tryz.results87, go_sem, q0, q1, q2]) rfl ?_
        rw [HT.out]
        exact ⟨rfl, HF.out.1, HF.out.2⟩
      | true =>
        have HT : Hid (takeV l = ((kk : Int), 0, [], l1, 0)) := Lib.hid (by rw [HTD.out, HRAW.out]; dsimp only; rw [if_neg (by simp), hR]; rfl)
        have HRB := Lib.hid (show Vm.rightV ((kk : Int)) (0) (⟨#[]⟩ : ByteArray).data.toList = true from hR)
        clear hR
        go_enter Tryz.func87, Tryz.ntmps87
        go_wp2_with fail
        refine HU1.out.mono ?_
        rintro e w1 ⟨rfl, hr1, ho1⟩
        have hsz := ho1.size
        have hT := (HT0.out.only ho1 (by omega))
        have hb1 := (Below.refl w1.heap.size w1).alloc (Nat.le_refl _) (.cells #[.int .i64 (kk : Int), .int .i64 0, .string ⟨#[]⟩] 50)
        have hVs : w.heap.size < w1.heap.size := hT.size
        have K1 := Lib.hid (show RTk w B b w.heap.size w1.heap.size (kk : Int) 0 ⟨#[]⟩ l1 _ _ from ⟨⟨Nat.le_refl _, by omega, by omega, hblt⟩, hT.kept hb1, ThreeAt.start w1 (kk : Int) 0 ⟨#[]⟩, hr1.kept hb1, (HO0.out.trans ho1).trans (Only.ofBelow (b := b) hb1)⟩)
        clear hr1 ho1 hT hb1 hsz
        have r2 := K1.out.2.2.2.1.2.1
        have x0 := K1.out.2.2.1.cell0
        have x1 := K1.out.2.2.1.cell1
        have x2 := K1.out.2.2.1.cell2
        go_wp2_with fail
        refine (refVRight_any (kk : Int) 0 ⟨#[]⟩ _ htt).mono ?_
        rw [HRB.out]
        rintro e w7 ⟨rfl, hb7⟩
        have K7 := Lib.hid (K1.out.kept hb7)
        clear hb7 x0 x1 x2 r2
        have x0 := K7.out.2.2.1.cell0
        have x1 := K7.out.2.2.1.cell1
        have x2 := K7.out.2.2.1.cell2
        obtain ⟨q0, q1, q2⟩ := K7.out.2.1.read ((kk : Int)) (0) ⟨#[]⟩
        have HF := Lib.hid (K7.out.answer ((kk : Int)) (0) ⟨#[]⟩)
        have y0 := K7.out.2.1.free 0
        have y1 := K7.out.2.1.free 1
        have y2 := K7.out.2.1.free 2
        have z0 := K7.out.2.1.cell0
        have z1 := K7.out.2.1.cell1
        have z2 := K7.out.2.1.cell2
        go_wp2
        refine bodyPost_ret (v := .agg #[.int .i64 ((kk : Int)), .int .i64 (0), .string ⟨#[]⟩]) (by simp [results, Tryz.results87, go_sem, q0, q1, q2]) rfl ?_
        rw [HT.out]
        exact ⟨rfl, HF.out.1, HF.out.2⟩
    · have HT : Hid (takeV l = (0, 0, [], l1, e1)) := Lib.hid (by rw [HTD.out, HRAW.out]; dsimp only; rw [if_pos he])
      have te : ((e1 : Int) != 0) = true := by rw [bne_iff_ne]; omega
      clear he
      go_enter Tryz.func87, Tryz.ntmps87
      go_wp2_with fail
      refine HU1.out.mono ?_
      rintro e w1 ⟨rfl, hr1, ho1⟩
      have hsz := ho1.size
      have hT := (HT0.out.only ho1 (by omega))
      have hb1 := (Below.refl w1.heap.size w1).alloc (Nat.le_refl _) (.cells #[.int .i64 (kk : Int), .int .i64 0, .string ⟨#[]⟩] 50)
      have hVs : w.heap.size < w1.heap.size := hT.size
      have K1 := Lib.hid (show RTk w B b w.heap.size w1.heap.size (kk : Int) 0 ⟨#[]⟩ l1 _ _ from ⟨⟨Nat.le_refl _, by omega, by omega, hblt⟩, hT.kept hb1, ThreeAt.start w1 (kk : Int) 0 ⟨#[]⟩, hr1.kept hb1, (HO0.out.trans ho1).trans (Only.ofBelow (b := b) hb1)⟩)
      clear hr1 ho1 hT hb1 hsz
      go_upto_region 13 with fail
      generalize hWA : w1.alloc (.cells #[.int .i64 (kk : Int), .int .i64 0, .string ⟨#[]⟩] 50) = wA at *
      have HWA := Lib.hid hWA
      clear hWA
      have r2 := K1.out.2.2.2.1.2.1
      obtain ⟨q0, q1, q2⟩ := K1.out.2.1.read (0) (0) ⟨#[]⟩
      have HF := Lib.hid (K1.out.answer (0) (0) ⟨#[]⟩)
      have y0 := K1.out.2.1.free 0
      have y1 := K1.out.2.1.free 1
      have y2 := K1.out.2.1.free 2
      have z0 := K1.out.2.1.cell0
      have z1 := K1.out.2.1.cell1
      have z2 := K1.out.2.1.cell2
      go_wp2
      refine bodyPost_ret (v := .agg #[.int .i64 (0), .int .i64 (0), .string ⟨#[]⟩]) (by simp [results, Tryz.results87, go_sem, q0, q1, q2]) rfl ?_
      rw [HT.out]
      exact ⟨rfl, HF.out.1, HF.out.2⟩

end Go.Proofs.YthpdphlkmleldaaGreat
