/-
  Same: are two ops the same.
  No conditions but sizes.
-/
import Derived.Test.YthpdphlkmleldaaGreatOFit
namespace Go.Proofs.YthpdphlkmleldaaGreat
open Go.RowKit

theorem same_start (w : World) (x y : Opp) (q r : Option Addr) (c d : Nat) (ha : Pa w x q c) (hb : Pa w y r d) :
    Hid (OpAt ((w.alloc (.cells (opA x q c) 53)).alloc (.cells (opA y r d) 53)) w.heap.size x q c) ∧ Hid (OpAt ((w.alloc (.cells (opA x q c) 53)).alloc (.cells (opA y r d) 53)) (w.heap.size + 1) y r d) ∧
    Hid (Pa ((w.alloc (.cells (opA x q c) 53)).alloc (.cells (opA y r d) 53)) x q c) ∧ Hid (Pa ((w.alloc (.cells (opA x q c) 53)).alloc (.cells (opA y r d) 53)) y r d) ∧ Hid (Below w.heap.size w ((w.alloc (.cells (opA x q c) 53)).alloc (.cells (opA y r d) 53))) := by
  have h1 : ∀ (w : World) (o : Obj), Below w.heap.size w (w.alloc o) := fun w o => (Below.refl _ _).alloc (Nat.le_refl _) _
  have e1 : (w.alloc (.cells (opA x q c) 53)).heap.size = w.heap.size + 1 := by simp
  have k := OpAt.new (w.alloc (.cells (opA x q c) 53)) y r d 53
  rw [e1] at k
  exact ⟨Lib.hid ((OpAt.new w x q c _).kept (h1 _ _)), Lib.hid k, Lib.hid ((ha.kept (h1 _ _)).kept (h1 _ _)), Lib.hid ((hb.kept (h1 _ _)).kept (h1 _ _)), Lib.hid ((h1 _ _).trans ((h1 _ _).mono (by simp)))⟩
theorem bytes_ne {s t : ByteArray} (h : ¬ s = t) : (s.toList == t.toList) = false := by
  rw [ByteArray.toList_eq, ByteArray.toList_eq, beq_eq_false_iff_ne]
  intro e
  apply h
  obtain ⟨⟨l⟩⟩ := s
  obtain ⟨⟨m⟩⟩ := t
  simp at e
  rw [e]

set_option maxRecDepth 100000 in
set_option maxHeartbeats 8000000 in
theorem same_any (x y : Opp) (q r : Option Addr) (c d : Nat) (w : World) (hs : Sz x) (ha : Pa w x q c) (hb : Pa w y r d) : Calls Tryz.prog 38 #[.agg (opA x q c), .agg (opA y r d)] w fun e w' => e = .returned (.bool (sameO x y)) ∧ Below w.heap.size w w' := by
  obtain ⟨HX, HY, HA, HC, HB⟩ := same_start w x y q r c d ha hb
  have HZ := Lib.hid hs.path
  obtain ⟨k, nt, nr, rt, rr, key, path, p, vk, vn, vt, on⟩ := x
  obtain ⟨k', nt', nr', rt', rr', key', path', p', vk', vn', vt', on'⟩ := y
  clear ha hb hs
  by_cases h_k : k = k'
  · subst h_k
    by_cases h_nt : nt = nt'
    · subst h_nt
      by_cases h_nr : nr = nr'
      · subst h_nr
        by_cases h_rt : rt = rt'
        · subst h_rt
          by_cases h_rr : rr = rr'
          · subst h_rr
            by_cases h_key : key = key'
            · subst h_key
              by_cases h_path : path = path'
              · subst h_path
                by_cases h_p : p = p'
                · subst h_p
                  by_cases h_vk : vk = vk'
                  · subst h_vk
                    by_cases h_vn : vn = vn'
                    · subst h_vn
                      by_cases h_vt : vt = vt'
                      · subst h_vt
                        obtain ⟨x0, x1, x2, x3, x4, x5, x6, x7, x8, x9, x10, x11⟩ := HX.out.cells
                        obtain ⟨y0, y1, y2, y3, y4, y5, y6, y7, y8, y9, y10, y11⟩ := HY.out.cells
                        dsimp only at x0 x1 x2 x3 x4 x5 x6 x7 x8 x9 x10 x11 y0 y1 y2 y3 y4 y5 y6 y7 y8 y9 y10 y11
                        go_enter Tryz.func38, Tryz.ntmps38
                        go_wp2_with fail
                        refine (eqSt_any q r c d _ _ _ HA.out.rd HC.out.rd HZ.out).mono ?_
                        rintro e w1 ⟨rfl, hb1⟩
                        replace HB := Lib.hid (HB.out.trans (hb1.mono HB.out.size))
                        replace HX := Lib.hid (HX.out.kept hb1)
                        replace HY := Lib.hid (HY.out.kept hb1)
                        clear hb1 x0 x1 x2 x3 x4 x5 x6 x7 x8 x9 x10 x11 y0 y1 y2 y3 y4 y5 y6 y7 y8 y9 y10 y11
                        obtain ⟨x0, x1, x2, x3, x4, x5, x6, x7, x8, x9, x10, x11⟩ := HX.out.cells
                        obtain ⟨y0, y1, y2, y3, y4, y5, y6, y7, y8, y9, y10, y11⟩ := HY.out.cells
                        dsimp only at x0 x1 x2 x3 x4 x5 x6 x7 x8 x9 x10 x11 y0 y1 y2 y3 y4 y5 y6 y7 y8 y9 y10 y11
                        go_wp2
                        go_ret
                        exact ⟨ret_b (by simp [sameO]), HB.out⟩
                      · have z : (vt.toList == vt'.toList) = false := bytes_ne h_vt
                        have z2 : decide (vt = vt') = false := decide_eq_false h_vt
                        clear h_vt
                        have HZZ := Lib.hid z2
                        obtain ⟨x0, x1, x2, x3, x4, x5, x6, x7, x8, x9, x10, x11⟩ := HX.out.cells
                        obtain ⟨y0, y1, y2, y3, y4, y5, y6, y7, y8, y9, y10, y11⟩ := HY.out.cells
                        dsimp only at x0 x1 x2 x3 x4 x5 x6 x7 x8 x9 x10 x11 y0 y1 y2 y3 y4 y5 y6 y7 y8 y9 y10 y11
                        go_enter Tryz.func38, Tryz.ntmps38
                        go_wp2_with fail
                        refine (eqSt_any q r c d _ _ _ HA.out.rd HC.out.rd HZ.out).mono ?_
                        rintro e w1 ⟨rfl, hb1⟩
                        replace HB := Lib.hid (HB.out.trans (hb1.mono HB.out.size))
                        replace HX := Lib.hid (HX.out.kept hb1)
                        replace HY := Lib.hid (HY.out.kept hb1)
                        clear hb1 x0 x1 x2 x3 x4 x5 x6 x7 x8 x9 x10 x11 y0 y1 y2 y3 y4 y5 y6 y7 y8 y9 y10 y11
                        obtain ⟨x0, x1, x2, x3, x4, x5, x6, x7, x8, x9, x10, x11⟩ := HX.out.cells
                        obtain ⟨y0, y1, y2, y3, y4, y5, y6, y7, y8, y9, y10, y11⟩ := HY.out.cells
                        dsimp only at x0 x1 x2 x3 x4 x5 x6 x7 x8 x9 x10 x11 y0 y1 y2 y3 y4 y5 y6 y7 y8 y9 y10 y11
                        go_wp2
                        go_ret
                        exact ⟨ret_b (by simp [sameO, HZZ.out]), HB.out⟩
                    · have z : (vn == vn') = false := by simpa using h_vn
                      clear h_vn
                      have HZZ := Lib.hid z
                      obtain ⟨x0, x1, x2, x3, x4, x5, x6, x7, x8, x9, x10, x11⟩ := HX.out.cells
                      obtain ⟨y0, y1, y2, y3, y4, y5, y6, y7, y8, y9, y10, y11⟩ := HY.out.cells
                      dsimp only at x0 x1 x2 x3 x4 x5 x6 x7 x8 x9 x10 x11 y0 y1 y2 y3 y4 y5 y6 y7 y8 y9 y10 y11
                      go_enter Tryz.func38, Tryz.ntmps38
                      go_wp2_with fail
                      refine (eqSt_any q r c d _ _ _ HA.out.rd HC.out.rd HZ.out).mono ?_
                      rintro e w1 ⟨rfl, hb1⟩
                      replace HB := Lib.hid (HB.out.trans (hb1.mono HB.out.size))
                      replace HX := Lib.hid (HX.out.kept hb1)
                      replace HY := Lib.hid (HY.out.kept hb1)
                      clear hb1 x0 x1 x2 x3 x4 x5 x6 x7 x8 x9 x10 x11 y0 y1 y2 y3 y4 y5 y6 y7 y8 y9 y10 y11
                      obtain ⟨x0, x1, x2, x3, x4, x5, x6, x7, x8, x9, x10, x11⟩ := HX.out.cells
                      obtain ⟨y0, y1, y2, y3, y4, y5, y6, y7, y8, y9, y10, y11⟩ := HY.out.cells
                      dsimp only at x0 x1 x2 x3 x4 x5 x6 x7 x8 x9 x10 x11 y0 y1 y2 y3 y4 y5 y6 y7 y8 y9 y10 y11
                      go_wp2
                      go_ret
                      exact ⟨ret_b (by simp [sameO, HZZ.out]), HB.out⟩
                  · have z : (vk == vk') = false := by simpa using h_vk
                    clear h_vk
                    have HZZ := Lib.hid z
                    obtain ⟨x0, x1, x2, x3, x4, x5, x6, x7, x8, x9, x10, x11⟩ := HX.out.cells
                    obtain ⟨y0, y1, y2, y3, y4, y5, y6, y7, y8, y9, y10, y11⟩ := HY.out.cells
                    dsimp only at x0 x1 x2 x3 x4 x5 x6 x7 x8 x9 x10 x11 y0 y1 y2 y3 y4 y5 y6 y7 y8 y9 y10 y11
                    go_enter Tryz.func38, Tryz.ntmps38
                    go_wp2_with fail
                    refine (eqSt_any q r c d _ _ _ HA.out.rd HC.out.rd HZ.out).mono ?_
                    rintro e w1 ⟨rfl, hb1⟩
                    replace HB := Lib.hid (HB.out.trans (hb1.mono HB.out.size))
                    replace HX := Lib.hid (HX.out.kept hb1)
                    replace HY := Lib.hid (HY.out.kept hb1)
                    clear hb1 x0 x1 x2 x3 x4 x5 x6 x7 x8 x9 x10 x11 y0 y1 y2 y3 y4 y5 y6 y7 y8 y9 y10 y11
                    obtain ⟨x0, x1, x2, x3, x4, x5, x6, x7, x8, x9, x10, x11⟩ := HX.out.cells
                    obtain ⟨y0, y1, y2, y3, y4, y5, y6, y7, y8, y9, y10, y11⟩ := HY.out.cells
                    dsimp only at x0 x1 x2 x3 x4 x5 x6 x7 x8 x9 x10 x11 y0 y1 y2 y3 y4 y5 y6 y7 y8 y9 y10 y11
                    go_wp2
                    go_ret
                    exact ⟨ret_b (by simp [sameO, HZZ.out]), HB.out⟩
                · have z : (p == p') = false := by simpa using h_p
                  clear h_p
                  have HZZ := Lib.hid z
                  obtain ⟨x0, x1, x2, x3, x4, x5, x6, x7, x8, x9, x10, x11⟩ := HX.out.cells
                  obtain ⟨y0, y1, y2, y3, y4, y5, y6, y7, y8, y9, y10, y11⟩ := HY.out.cells
                  dsimp only at x0 x1 x2 x3 x4 x5 x6 x7 x8 x9 x10 x11 y0 y1 y2 y3 y4 y5 y6 y7 y8 y9 y10 y11
                  go_enter Tryz.func38, Tryz.ntmps38
                  go_wp2_with fail
                  refine (eqSt_any q r c d _ _ _ HA.out.rd HC.out.rd HZ.out).mono ?_
                  rintro e w1 ⟨rfl, hb1⟩
                  replace HB := Lib.hid (HB.out.trans (hb1.mono HB.out.size))
                  replace HX := Lib.hid (HX.out.kept hb1)
                  replace HY := Lib.hid (HY.out.kept hb1)
                  clear hb1 x0 x1 x2 x3 x4 x5 x6 x7 x8 x9 x10 x11 y0 y1 y2 y3 y4 y5 y6 y7 y8 y9 y10 y11
                  obtain ⟨x0, x1, x2, x3, x4, x5, x6, x7, x8, x9, x10, x11⟩ := HX.out.cells
                  obtain ⟨y0, y1, y2, y3, y4, y5, y6, y7, y8, y9, y10, y11⟩ := HY.out.cells
                  dsimp only at x0 x1 x2 x3 x4 x5 x6 x7 x8 x9 x10 x11 y0 y1 y2 y3 y4 y5 y6 y7 y8 y9 y10 y11
                  go_wp2
                  go_ret
                  exact ⟨ret_b (by simp [sameO, HZZ.out]), HB.out⟩
              · have z : (path == path') = false := by simpa using h_path
                clear h_path
                have HZZ := Lib.hid z
                obtain ⟨x0, x1, x2, x3, x4, x5, x6, x7, x8, x9, x10, x11⟩ := HX.out.cells
                obtain ⟨y0, y1, y2, y3, y4, y5, y6, y7, y8, y9, y10, y11⟩ := HY.out.cells
                dsimp only at x0 x1 x2 x3 x4 x5 x6 x7 x8 x9 x10 x11 y0 y1 y2 y3 y4 y5 y6 y7 y8 y9 y10 y11
                go_enter Tryz.func38, Tryz.ntmps38
                go_wp2_with fail
                refine (eqSt_any q r c d _ _ _ HA.out.rd HC.out.rd HZ.out).mono ?_
                rintro e w1 ⟨rfl, hb1⟩
                replace HB := Lib.hid (HB.out.trans (hb1.mono HB.out.size))
                replace HX := Lib.hid (HX.out.kept hb1)
                replace HY := Lib.hid (HY.out.kept hb1)
                clear hb1 x0 x1 x2 x3 x4 x5 x6 x7 x8 x9 x10 x11 y0 y1 y2 y3 y4 y5 y6 y7 y8 y9 y10 y11
                obtain ⟨x0, x1, x2, x3, x4, x5, x6, x7, x8, x9, x10, x11⟩ := HX.out.cells
                obtain ⟨y0, y1, y2, y3, y4, y5, y6, y7, y8, y9, y10, y11⟩ := HY.out.cells
                dsimp only at x0 x1 x2 x3 x4 x5 x6 x7 x8 x9 x10 x11 y0 y1 y2 y3 y4 y5 y6 y7 y8 y9 y10 y11
                go_wp2
                go_ret
                exact ⟨ret_b (by simp [sameO, HZZ.out]), HB.out⟩
            · have z : (key.toList == key'.toList) = false := bytes_ne h_key
              have z2 : decide (key = key') = false := decide_eq_false h_key
              clear h_key
              have HZZ := Lib.hid z2
              obtain ⟨x0, x1, x2, x3, x4, x5, x6, x7, x8, x9, x10, x11⟩ := HX.out.cells
              obtain ⟨y0, y1, y2, y3, y4, y5, y6, y7, y8, y9, y10, y11⟩ := HY.out.cells
              dsimp only at x0 x1 x2 x3 x4 x5 x6 x7 x8 x9 x10 x11 y0 y1 y2 y3 y4 y5 y6 y7 y8 y9 y10 y11
              go_enter Tryz.func38, Tryz.ntmps38
              go_wp2
              go_ret
              exact ⟨ret_b (by simp [sameO, HZZ.out]), HB.out⟩
          · have z : (rr == rr') = false := by simpa using h_rr
            clear h_rr
            have HZZ := Lib.hid z
            obtain ⟨x0, x1, x2, x3, x4, x5, x6, x7, x8, x9, x10, x11⟩ := HX.out.cells
            obtain ⟨y0, y1, y2, y3, y4, y5, y6, y7, y8, y9, y10, y11⟩ := HY.out.cells
            dsimp only at x0 x1 x2 x3 x4 x5 x6 x7 x8 x9 x10 x11 y0 y1 y2 y3 y4 y5 y6 y7 y8 y9 y10 y11
            go_enter Tryz.func38, Tryz.ntmps38
            go_wp2
            go_ret
            exact ⟨ret_b (by simp [sameO, HZZ.out]), HB.out⟩
        · have z : (rt == rt') = false := by simpa using h_rt
          clear h_rt
          have HZZ := Lib.hid z
          obtain ⟨x0, x1, x2, x3, x4, x5, x6, x7, x8, x9, x10, x11⟩ := HX.out.cells
          obtain ⟨y0, y1, y2, y3, y4, y5, y6, y7, y8, y9, y10, y11⟩ := HY.out.cells
          dsimp only at x0 x1 x2 x3 x4 x5 x6 x7 x8 x9 x10 x11 y0 y1 y2 y3 y4 y5 y6 y7 y8 y9 y10 y11
          go_enter Tryz.func38, Tryz.ntmps38
          go_wp2
          go_ret
          exact ⟨ret_b (by simp [sameO, HZZ.out]), HB.out⟩
      · have z : (nr == nr') = false := by simpa using h_nr
        clear h_nr
        have HZZ := Lib.hid z
        obtain ⟨x0, x1, x2, x3, x4, x5, x6, x7, x8, x9, x10, x11⟩ := HX.out.cells
        obtain ⟨y0, y1, y2, y3, y4, y5, y6, y7, y8, y9, y10, y11⟩ := HY.out.cells
        dsimp only at x0 x1 x2 x3 x4 x5 x6 x7 x8 x9 x10 x11 y0 y1 y2 y3 y4 y5 y6 y7 y8 y9 y10 y11
        go_enter Tryz.func38, Tryz.ntmps38
        go_wp2
        go_ret
        exact ⟨ret_b (by simp [sameO, HZZ.out]), HB.out⟩
    · have z : (nt == nt') = false := by simpa using h_nt
      clear h_nt
      have HZZ := Lib.hid z
      obtain ⟨x0, x1, x2, x3, x4, x5, x6, x7, x8, x9, x10, x11⟩ := HX.out.cells
      obtain ⟨y0, y1, y2, y3, y4, y5, y6, y7, y8, y9, y10, y11⟩ := HY.out.cells
      dsimp only at x0 x1 x2 x3 x4 x5 x6 x7 x8 x9 x10 x11 y0 y1 y2 y3 y4 y5 y6 y7 y8 y9 y10 y11
      go_enter Tryz.func38, Tryz.ntmps38
      go_wp2
      go_ret
      exact ⟨ret_b (by simp [sameO, HZZ.out]), HB.out⟩
  · have z : (k == k') = false := by simpa using h_k
    clear h_k
    have HZZ := Lib.hid z
    obtain ⟨x0, x1, x2, x3, x4, x5, x6, x7, x8, x9, x10, x11⟩ := HX.out.cells
    obtain ⟨y0, y1, y2, y3, y4, y5, y6, y7, y8, y9, y10, y11⟩ := HY.out.cells
    dsimp only at x0 x1 x2 x3 x4 x5 x6 x7 x8 x9 x10 x11 y0 y1 y2 y3 y4 y5 y6 y7 y8 y9 y10 y11
    go_enter Tryz.func38, Tryz.ntmps38
    go_wp2
    go_ret
    exact ⟨ret_b (by simp [sameO, HZZ.out]), HB.out⟩
end Go.Proofs.YthpdphlkmleldaaGreat
