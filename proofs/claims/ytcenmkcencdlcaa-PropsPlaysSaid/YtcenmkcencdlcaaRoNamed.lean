/-
  THE DOCUMENT's named: an op with just what its kind names.
  No conditions.
-/
import Derived.Test.YtcenmkcencdlcaaRoA
namespace Go.Proofs.Ytcenmkcencdlcaa
open Go.RowKit

theorem rn_below (w : World) (o o' : Obj) : Below w.heap.size w ((w.alloc o).alloc o') := by
  have h1 : ∀ (w : World) (o : Obj), Below w.heap.size w (w.alloc o) := fun w o => (Below.refl _ _).alloc (Nat.le_refl _) _
  exact (h1 _ _).trans ((h1 _ _).mono (by simp))
theorem rn_at (w : World) (o : Obj) (y : Opp) (q : Option Addr) (c : Nat) (T : TypeId) : OpAt ((w.alloc o).alloc (.cells (opA y q c) T)) (w.heap.size + 1) y q c := by
  have := OpAt.new (w.alloc o) y q c T
  simpa using this
set_option maxRecDepth 100000 in
set_option maxHeartbeats 2000000 in
theorem rnamed1_any (x : Opp) (q : Option Addr) (c : Nat) (w : World) (hk : x.k = 1) : Calls Try.prog 52 #[.agg (opA x q c)] w fun e w' => e = .returned (.agg (opA ({ Opp.zero with k := 1, rt := x.rt, rr := x.rr, key := x.key } : Opp) none 0)) ∧ Below w.heap.size w w' := by
  have HX := Lib.hid (show OpAt ((w.alloc (.cells (opA x q c) 38)).alloc (.cells #[.int .i64 0, .int .i64 0, .int .i64 0, .int .i64 0, .int .i64 0, .string ⟨#[]⟩, .slice none 0 0, .int .i64 0, .int .i64 0, .int .i64 0, .string ⟨#[]⟩, .bool false] 38)) w.heap.size x q c from (OpAt.new w x q c _).kept ((Below.refl _ _).alloc (Nat.le_refl _) _))
  obtain ⟨x0, x1, x2, x3, x4, x5, x6, x7, x8, x9, x10, x11⟩ := HX.out.cells
  rw [hk] at x0
  clear hk
  go_enter Try.func52, Try.ntmps52
  go_wp2
  exact bodyPost_ret (results_op otR _ rfl (rn_at w _ ({ Opp.zero with k := 1, rt := x.rt, rr := x.rr, key := x.key } : Opp) none 0 _) rfl) rfl ⟨rfl, rn_below _ _ _⟩
set_option maxRecDepth 100000 in
set_option maxHeartbeats 2000000 in
theorem rnamed2_any (x : Opp) (q : Option Addr) (c : Nat) (w : World) (hk : x.k = 2) : Calls Try.prog 52 #[.agg (opA x q c)] w fun e w' => e = .returned (.agg (opA ({ Opp.zero with k := 2, nt := x.nt, nr := x.nr, rt := x.rt, rr := x.rr, key := x.key } : Opp) none 0)) ∧ Below w.heap.size w w' := by
  have HX := Lib.hid (show OpAt ((w.alloc (.cells (opA x q c) 38)).alloc (.cells #[.int .i64 0, .int .i64 0, .int .i64 0, .int .i64 0, .int .i64 0, .string ⟨#[]⟩, .slice none 0 0, .int .i64 0, .int .i64 0, .int .i64 0, .string ⟨#[]⟩, .bool false] 38)) w.heap.size x q c from (OpAt.new w x q c _).kept ((Below.refl _ _).alloc (Nat.le_refl _) _))
  obtain ⟨x0, x1, x2, x3, x4, x5, x6, x7, x8, x9, x10, x11⟩ := HX.out.cells
  rw [hk] at x0
  clear hk
  go_enter Try.func52, Try.ntmps52
  go_wp2
  exact bodyPost_ret (results_op otR _ rfl (rn_at w _ ({ Opp.zero with k := 2, nt := x.nt, nr := x.nr, rt := x.rt, rr := x.rr, key := x.key } : Opp) none 0 _) rfl) rfl ⟨rfl, rn_below _ _ _⟩
set_option maxRecDepth 100000 in
set_option maxHeartbeats 2000000 in
theorem rnamed3_any (x : Opp) (q : Option Addr) (c : Nat) (w : World) (hk : x.k = 3) : Calls Try.prog 52 #[.agg (opA x q c)] w fun e w' => e = .returned (.agg (opA ({ Opp.zero with k := 3, nt := x.nt, nr := x.nr, p := x.p, vk := x.vk, vn := x.vn, vt := x.vt } : Opp) none 0)) ∧ Below w.heap.size w w' := by
  have HX := Lib.hid (show OpAt ((w.alloc (.cells (opA x q c) 38)).alloc (.cells #[.int .i64 0, .int .i64 0, .int .i64 0, .int .i64 0, .int .i64 0, .string ⟨#[]⟩, .slice none 0 0, .int .i64 0, .int .i64 0, .int .i64 0, .string ⟨#[]⟩, .bool false] 38)) w.heap.size x q c from (OpAt.new w x q c _).kept ((Below.refl _ _).alloc (Nat.le_refl _) _))
  obtain ⟨x0, x1, x2, x3, x4, x5, x6, x7, x8, x9, x10, x11⟩ := HX.out.cells
  rw [hk] at x0
  clear hk
  go_enter Try.func52, Try.ntmps52
  go_wp2
  exact bodyPost_ret (results_op otR _ rfl (rn_at w _ ({ Opp.zero with k := 3, nt := x.nt, nr := x.nr, p := x.p, vk := x.vk, vn := x.vn, vt := x.vt } : Opp) none 0 _) rfl) rfl ⟨rfl, rn_below _ _ _⟩
set_option maxRecDepth 100000 in
set_option maxHeartbeats 2000000 in
theorem rnamed4_any (x : Opp) (q : Option Addr) (c : Nat) (w : World) (hk : x.k = 4) : Calls Try.prog 52 #[.agg (opA x q c)] w fun e w' => e = .returned (.agg (opA ({ Opp.zero with k := 4, nt := x.nt, nr := x.nr, on := x.on } : Opp) none 0)) ∧ Below w.heap.size w w' := by
  have HX := Lib.hid (show OpAt ((w.alloc (.cells (opA x q c) 38)).alloc (.cells #[.int .i64 0, .int .i64 0, .int .i64 0, .int .i64 0, .int .i64 0, .string ⟨#[]⟩, .slice none 0 0, .int .i64 0, .int .i64 0, .int .i64 0, .string ⟨#[]⟩, .bool false] 38)) w.heap.size x q c from (OpAt.new w x q c _).kept ((Below.refl _ _).alloc (Nat.le_refl _) _))
  obtain ⟨x0, x1, x2, x3, x4, x5, x6, x7, x8, x9, x10, x11⟩ := HX.out.cells
  rw [hk] at x0
  clear hk
  go_enter Try.func52, Try.ntmps52
  go_wp2
  exact bodyPost_ret (results_op otR _ rfl (rn_at w _ ({ Opp.zero with k := 4, nt := x.nt, nr := x.nr, on := x.on } : Opp) none 0 _) rfl) rfl ⟨rfl, rn_below _ _ _⟩
set_option maxRecDepth 100000 in
set_option maxHeartbeats 2000000 in
theorem rnamed5_any (x : Opp) (q : Option Addr) (c : Nat) (w : World) (hk : x.k = 5) : Calls Try.prog 52 #[.agg (opA x q c)] w fun e w' => e = .returned (.agg (opA ({ Opp.zero with k := 5, nt := x.nt, nr := x.nr, rt := x.rt, rr := x.rr } : Opp) none 0)) ∧ Below w.heap.size w w' := by
  have HX := Lib.hid (show OpAt ((w.alloc (.cells (opA x q c) 38)).alloc (.cells #[.int .i64 0, .int .i64 0, .int .i64 0, .int .i64 0, .int .i64 0, .string ⟨#[]⟩, .slice none 0 0, .int .i64 0, .int .i64 0, .int .i64 0, .string ⟨#[]⟩, .bool false] 38)) w.heap.size x q c from (OpAt.new w x q c _).kept ((Below.refl _ _).alloc (Nat.le_refl _) _))
  obtain ⟨x0, x1, x2, x3, x4, x5, x6, x7, x8, x9, x10, x11⟩ := HX.out.cells
  rw [hk] at x0
  clear hk
  go_enter Try.func52, Try.ntmps52
  go_wp2
  exact bodyPost_ret (results_op otR _ rfl (rn_at w _ ({ Opp.zero with k := 5, nt := x.nt, nr := x.nr, rt := x.rt, rr := x.rr } : Opp) none 0 _) rfl) rfl ⟨rfl, rn_below _ _ _⟩
set_option maxRecDepth 100000 in
set_option maxHeartbeats 2000000 in
theorem rnamed6_any (x : Opp) (q : Option Addr) (c : Nat) (w : World) (hk : x.k = 6) : Calls Try.prog 52 #[.agg (opA x q c)] w fun e w' => e = .returned (.agg (opA ({ Opp.zero with k := 6, nt := x.nt, nr := x.nr, path := x.path, p := x.p, vk := x.vk, vn := x.vn, vt := x.vt } : Opp) q c)) ∧ Below w.heap.size w w' := by
  have HX := Lib.hid (show OpAt ((w.alloc (.cells (opA x q c) 38)).alloc (.cells #[.int .i64 0, .int .i64 0, .int .i64 0, .int .i64 0, .int .i64 0, .string ⟨#[]⟩, .slice none 0 0, .int .i64 0, .int .i64 0, .int .i64 0, .string ⟨#[]⟩, .bool false] 38)) w.heap.size x q c from (OpAt.new w x q c _).kept ((Below.refl _ _).alloc (Nat.le_refl _) _))
  obtain ⟨x0, x1, x2, x3, x4, x5, x6, x7, x8, x9, x10, x11⟩ := HX.out.cells
  rw [hk] at x0
  clear hk
  go_enter Try.func52, Try.ntmps52
  go_wp2
  exact bodyPost_ret (results_op otR _ rfl (rn_at w _ ({ Opp.zero with k := 6, nt := x.nt, nr := x.nr, path := x.path, p := x.p, vk := x.vk, vn := x.vn, vt := x.vt } : Opp) q c _) rfl) rfl ⟨rfl, rn_below _ _ _⟩
set_option maxRecDepth 100000 in
set_option maxHeartbeats 2000000 in
theorem rnamedN_any (x : Opp) (q : Option Addr) (c : Nat) (w : World) (h1 : x.k ≠ 1) (h2 : x.k ≠ 2) (h3 : x.k ≠ 3) (h4 : x.k ≠ 4) (h5 : x.k ≠ 5) (h6 : x.k ≠ 6) : Calls Try.prog 52 #[.agg (opA x q c)] w fun e w' => e = .returned (.agg (opA Opp.zero none 0)) ∧ Below w.heap.size w w' := by
  have HX := Lib.hid (show OpAt ((w.alloc (.cells (opA x q c) 38)).alloc (.cells #[.int .i64 0, .int .i64 0, .int .i64 0, .int .i64 0, .int .i64 0, .string ⟨#[]⟩, .slice none 0 0, .int .i64 0, .int .i64 0, .int .i64 0, .string ⟨#[]⟩, .bool false] 38)) w.heap.size x q c from (OpAt.new w x q c _).kept ((Below.refl _ _).alloc (Nat.le_refl _) _))
  obtain ⟨x0, x1, x2, x3, x4, x5, x6, x7, x8, x9, x10, x11⟩ := HX.out.cells
  have d1 : (x.k == 1) = false := by simpa using h1
  have d2 : (x.k == 2) = false := by simpa using h2
  have d3 : (x.k == 3) = false := by simpa using h3
  have d4 : (x.k == 4) = false := by simpa using h4
  have d5 : (x.k == 5) = false := by simpa using h5
  have d6 : (x.k == 6) = false := by simpa using h6
  clear h1 h2 h3 h4 h5 h6
  go_enter Try.func52, Try.ntmps52
  go_wp2
  exact bodyPost_ret (results_op otR _ rfl (rn_at w _ Opp.zero none 0 _) rfl) rfl ⟨rfl, rn_below _ _ _⟩
end Go.Proofs.Ytcenmkcencdlcaa
