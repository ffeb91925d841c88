/-
  THE DOCUMENT's Same over ops.
  No conditions but sizes.
-/
import Derived.Test.YtcenmkcencdlcaaRoA
import Derived.Test.YtcenmkcencdlcaaOSame
namespace Go.Proofs.Ytcenmkcencdlcaa
open Go.RowKit

theorem rsame_start (w : World) (x y : Opp) (q r : Option Addr) (c d : Nat) (ha : Pa w x q c) (hb : Pa w y r d) :
    Hid (OpAt ((w.alloc (.cells (opA x q c) 38)).alloc (.cells (opA y r d) 38)) w.heap.size x q c) ∧ Hid (OpAt ((w.alloc (.cells (opA x q c) 38)).alloc (.cells (opA y r d) 38)) (w.heap.size + 1) y r d) ∧
    Hid (Pa ((w.alloc (.cells (opA x q c) 38)).alloc (.cells (opA y r d) 38)) x q c) ∧ Hid (Pa ((w.alloc (.cells (opA x q c) 38)).alloc (.cells (opA y r d) 38)) y r d) ∧ Hid (Below w.heap.size w ((w.alloc (.cells (opA x q c) 38)).alloc (.cells (opA y r d) 38))) := by
  have h1 : ∀ (w : World) (o : Obj), Below w.heap.size w (w.alloc o) := fun w o => (Below.refl _ _).alloc (Nat.le_refl _) _
  have e1 : (w.alloc (.cells (opA x q c) 38)).heap.size = w.heap.size + 1 := by simp
  have k := OpAt.new (w.alloc (.cells (opA x q c) 38)) y r d 38
  rw [e1] at k
  exact ⟨Lib.hid ((OpAt.new w x q c _).kept (h1 _ _)), Lib.hid k, Lib.hid ((ha.kept (h1 _ _)).kept (h1 _ _)), Lib.hid ((hb.kept (h1 _ _)).kept (h1 _ _)), Lib.hid ((h1 _ _).trans ((h1 _ _).mono (by simp)))⟩

set_option maxRecDepth 100000 in
set_option maxHeartbeats 8000000 in
theorem rsame_any (x y : Opp) (q r : Option Addr) (c d : Nat) (w : World) (hs : x.path.length ≤ 4611686018427387904) (ha : Pa w x q c) (hb : Pa w y r d) : Calls Try.prog 51 #[.agg (opA x q c), .agg (opA y r d)] w fun e w' => e = .returned (.bool (sameO x y)) ∧ Below w.heap.size w w' := by
  obtain ⟨HX, HY, HA, HC, HB⟩ := rsame_start w x y q r c d ha hb
  have HNP := Lib.hid (show x.path ≠ y.path → sameO x y = false from fun h => by
    cases hh : sameO x y
    · rfl
    · exact absurd (by rw [sameO_iff.1 hh]) h)
  clear ha hb
  by_cases hn : x.path.length = y.path.length
  rotate_left
  · have HR := Lib.hid (HNP.out (fun e => hn (by rw [e])))
    have e1 : ((x.path.length : Int) != (y.path.length : Int)) = true := by rw [bne_iff_ne]; omega
    obtain ⟨x0, x1, x2, x3, x4, x5, x6, x7, x8, x9, x10, x11⟩ := HX.out.cells
    obtain ⟨y0, y1, y2, y3, y4, y5, y6, y7, y8, y9, y10, y11⟩ := HY.out.cells
    clear hn
    generalize x.path.length = n at *
    generalize y.path.length = n' at *
    go_enter Try.func51, Try.ntmps51
    go_wp2
    go_ret
    exact ⟨ret_b HR.out.symm, HB.out⟩
  have HN := Lib.hid hn
  have x6 := HX.out.cell 6
  have y6 := HY.out.cell 6
  simp only [opL, List.getElem?_cons_succ, List.getElem?_cons_zero] at x6 y6
  rw [← hn] at y6
  clear hn
  go_enter Try.func51, Try.ntmps51
  go_wp2
  go_loopw [5] (fun i wr => ∃ k : Nat, k ≤ x.path.length ∧ i = .int .i64 (k : Int) ∧ (∀ j, j < k → Qm.stOf x.path j = Qm.stOf y.path j) ∧ OpAt wr w.heap.size x q c ∧ OpAt wr (w.heap.size + 1) y r d ∧ Pa wr x q c ∧ Pa wr y r d ∧ Below w.heap.size w wr) (fun i _ => x.path.length - (intOf i).toNat)
  case atStart => exact ⟨0, Nat.zero_le _, rfl, fun j hj => absurd hj (Nat.not_lt_zero _), HX.out, HY.out, HA.out, HC.out, HB.out⟩
  case round =>
    clear x6 y6 HX HY HA HC HB
    obtain ⟨k, hk, rfl, ho, hx, hy, hpa, hpb, hbw⟩ := hrel
    have HO := Lib.hid ho
    have HX := Lib.hid hx
    have HY := Lib.hid hy
    have HA := Lib.hid hpa
    have HC := Lib.hid hpb
    have HB := Lib.hid hbw
    clear ho hx hy hpa hpb hbw
    by_cases hlt : k < x.path.length
    · have x6 := HX.out.cell 6
      have y6 := HY.out.cell 6
      simp only [opL, List.getElem?_cons_succ, List.getElem?_cons_zero] at x6 y6
      rw [← HN.out] at y6
      obtain ⟨b, o, rfl, -⟩ := HA.out.rd.addr (by rw [stCells_length]; omega)
      obtain ⟨b', o', rfl, -⟩ := HC.out.rd.addr (by rw [stCells_length, ← HN.out]; omega)
      obtain ⟨a0, a1⟩ := HA.out.rd.st k hlt
      obtain ⟨b0, b1⟩ := HC.out.rd.st k (by rw [← HN.out]; exact hlt)
      have d0 : decide ((k : Int) < (x.path.length : Int)) = true := decide_eq_true (by omega)
      have HST := Lib.hid (show Qm.stOf x.path k = Qm.stOf y.path k → ∀ j, j < k + 1 → Qm.stOf x.path j = Qm.stOf y.path j from fun he j hj => by
        rcases Nat.lt_or_ge j k with e | e
        · exact HO.out j e
        · obtain rfl : j = k := by omega
          exact he)
      have HNE := Lib.hid (show Qm.stOf x.path k ≠ Qm.stOf y.path k → sameO x y = false from fun he => HNP.out fun e => he (by rw [e]))
      generalize Qm.stOf x.path k = s at *
      generalize Qm.stOf y.path k = t at *
      obtain ⟨s0, s1⟩ := s
      obtain ⟨t0, t1⟩ := t
      dsimp only at *
      by_cases e0 : s0 = t0
      · subst e0
        by_cases e1 : s1 = t1
        · subst e1
          have HN2 := Lib.hid (HST.out rfl)
          clear HST HNE
          go_wp2
          go_quiet (fail)
          go_wp2
          go_roundw
          case rel => exact ⟨k + 1, by omega, by go_num, HN2.out, HX.out.kept (below_drewN (Below.refl _ _) _), HY.out.kept (below_drewN (Below.refl _ _) _), HA.out.kept (below_drewN (Below.refl _ _) _), HC.out.kept (below_drewN (Below.refl _ _) _), below_drewN HB.out _⟩
          case measure => simp [intOf]; omega
        · have f1 : (s1 == t1) = false := by simpa using e1
          have HR := Lib.hid (HNE.out (fun e => e1 (by injection e)))
          clear HST HNE
          go_wp2
          go_quiet (fail)
          go_wp2
          go_ret
          exact ⟨ret_b HR.out.symm, below_drewN HB.out _⟩
      · have f0 : (s0 == t0) = false := by simpa using e0
        have HR := Lib.hid (HNE.out (fun e => e0 (by injection e)))
        clear HST HNE
        go_wp2
        go_quiet (fail)
        go_wp2
        go_ret
        exact ⟨ret_b HR.out.symm, below_drewN HB.out _⟩
    · obtain rfl : k = x.path.length := by omega
      have HPE := Lib.hid (stOf_ext HN.out HO.out)
      have d0 : decide ((x.path.length : Int) < (x.path.length : Int)) = false := decide_eq_false (by omega)
      obtain ⟨x0, x1, x2, x3, x4, x5, x6, x7, x8, x9, x10, x11⟩ := HX.out.cells
      obtain ⟨y0, y1, y2, y3, y4, y5, y6, y7, y8, y9, y10, y11⟩ := HY.out.cells
      clear HO hk
      generalize hnn : x.path.length = n at *
      generalize hmm : y.path.length = m at *
      clear hnn hmm
      by_cases h_k : x.k = y.k
      rotate_left
      · have z : (x.k == y.k) = false := by simpa using h_k
        have HZ := Lib.hid z
        clear h_k
        go_wp2
        go_ret
        exact ⟨ret_b (by simp [sameO, HZ.out]), HB.out⟩
      have t_k : (x.k == y.k) = true := by simpa using h_k
      have T_k := Lib.hid h_k
      clear h_k
      by_cases h_nt : x.nt = y.nt
      rotate_left
      · have z : (x.nt == y.nt) = false := by simpa using h_nt
        have HZ := Lib.hid z
        clear h_nt
        go_wp2
        go_ret
        exact ⟨ret_b (by simp [sameO, HZ.out]), HB.out⟩
      have t_nt : (x.nt == y.nt) = true := by simpa using h_nt
      have T_nt := Lib.hid h_nt
      clear h_nt
      by_cases h_nr : x.nr = y.nr
      rotate_left
      · have z : (x.nr == y.nr) = false := by simpa using h_nr
        have HZ := Lib.hid z
        clear h_nr
        go_wp2
        go_ret
        exact ⟨ret_b (by simp [sameO, HZ.out]), HB.out⟩
      have t_nr : (x.nr == y.nr) = true := by simpa using h_nr
      have T_nr := Lib.hid h_nr
      clear h_nr
      by_cases h_rt : x.rt = y.rt
      rotate_left
      · have z : (x.rt == y.rt) = false := by simpa using h_rt
        have HZ := Lib.hid z
        clear h_rt
        go_wp2
        go_ret
        exact ⟨ret_b (by simp [sameO, HZ.out]), HB.out⟩
      have t_rt : (x.rt == y.rt) = true := by simpa using h_rt
      have T_rt := Lib.hid h_rt
      clear h_rt
      by_cases h_rr : x.rr = y.rr
      rotate_left
      · have z : (x.rr == y.rr) = false := by simpa using h_rr
        have HZ := Lib.hid z
        clear h_rr
        go_wp2
        go_ret
        exact ⟨ret_b (by simp [sameO, HZ.out]), HB.out⟩
      have t_rr : (x.rr == y.rr) = true := by simpa using h_rr
      have T_rr := Lib.hid h_rr
      clear h_rr
      by_cases h_key : x.key = y.key
      rotate_left
      · have z : (x.key.toList == y.key.toList) = false := bytes_ne h_key
        have HZ := Lib.hid (show decide (x.key = y.key) = false from decide_eq_false h_key)
        clear h_key
        go_wp2
        go_ret
        exact ⟨ret_b (by simp [sameO, HZ.out]), HB.out⟩
      have t_key : (x.key.toList == y.key.toList) = true := by rw [h_key]; simp
      have T_key := Lib.hid h_key
      clear h_key
      by_cases h_p : x.p = y.p
      rotate_left
      · have z : (x.p == y.p) = false := by simpa using h_p
        have HZ := Lib.hid z
        clear h_p
        go_wp2
        go_ret
        exact ⟨ret_b (by simp [sameO, HZ.out]), HB.out⟩
      have t_p : (x.p == y.p) = true := by simpa using h_p
      have T_p := Lib.hid h_p
      clear h_p
      by_cases h_vk : x.vk = y.vk
      rotate_left
      · have z : (x.vk == y.vk) = false := by simpa using h_vk
        have HZ := Lib.hid z
        clear h_vk
        go_wp2
        go_ret
        exact ⟨ret_b (by simp [sameO, HZ.out]), HB.out⟩
      have t_vk : (x.vk == y.vk) = true := by simpa using h_vk
      have T_vk := Lib.hid h_vk
      clear h_vk
      by_cases h_vn : x.vn = y.vn
      rotate_left
      · have z : (x.vn == y.vn) = false := by simpa using h_vn
        have HZ := Lib.hid z
        clear h_vn
        go_wp2
        go_ret
        exact ⟨ret_b (by simp [sameO, HZ.out]), HB.out⟩
      have t_vn : (x.vn == y.vn) = true := by simpa using h_vn
      have T_vn := Lib.hid h_vn
      clear h_vn
      by_cases h_vt : x.vt = y.vt
      rotate_left
      · have z : (x.vt.toList == y.vt.toList) = false := bytes_ne h_vt
        have HZ := Lib.hid (show decide (x.vt = y.vt) = false from decide_eq_false h_vt)
        clear h_vt
        go_wp2
        go_ret
        exact ⟨ret_b (by simp [sameO, HZ.out]), HB.out⟩
      have t_vt : (x.vt.toList == y.vt.toList) = true := by rw [h_vt]; simp
      have T_vt := Lib.hid h_vt
      clear h_vt
      have HR := Lib.hid (show sameO x y = (x.on == y.on) by simp [sameO, HPE.out, T_k.out, T_nt.out, T_nr.out, T_rt.out, T_rr.out, T_key.out, T_p.out, T_vk.out, T_vn.out, T_vt.out])
      go_wp2
      go_ret
      exact ⟨ret_b HR.out.symm, HB.out⟩
end Go.Proofs.Ytcenmkcencdlcaa
