/-
  What a kind names.
  No conditions.
-/
import Derived.Test.YtjaojhhcpggcpaaOMem
namespace Go.Proofs.Ytjaojhhcpggcpaa
open Go.RowKit

theorem named_end {w : World} {p q : Prt} (hp : q = p) (tmps : Array Value) (h : tmps.getD 2 undef = .pointer (some ⟨w.heap.size, 0, none⟩)) :
    bodyPost Try.prog Try.f21 (fun e w' => e = .returned (.agg (prA q)) ∧ Below w.heap.size w w') Exit.ret { tmps := tmps, defers := [] } (w.alloc (.cells (prA p) 50)) := by
  subst hp
  exact bodyPost_ret (results_cell_row rfl tmps _ w.heap.size 50 (prA q) (0, 0) _ h (heap_alloc_new w _) Try.underlying50 rfl (by kernel_rfl)) rfl ⟨rfl, (Below.refl _ _).alloc (Nat.le_refl _) _⟩
set_option maxRecDepth 100000 in
set_option maxHeartbeats 1000000 in
theorem named_any (k : Int) (w : World) : Calls Try.prog 21 #[.int .i64 k] w fun e w' => e = .returned (.agg (prA (prt k))) ∧ Below w.heap.size w w' := by
  by_cases h1 : k = 1
  · subst h1
    go_enter Try.func21, Try.ntmps21
    go_wp2
    exact named_end (p := prt 1) rfl _ rfl
  by_cases h2 : k = 2
  · subst h2
    go_enter Try.func21, Try.ntmps21
    go_wp2
    exact named_end (p := prt 2) rfl _ rfl
  by_cases h3 : k = 3
  · subst h3
    go_enter Try.func21, Try.ntmps21
    go_wp2
    exact named_end (p := prt 3) rfl _ rfl
  by_cases h4 : k = 4
  · subst h4
    go_enter Try.func21, Try.ntmps21
    go_wp2
    exact named_end (p := prt 4) rfl _ rfl
  by_cases h5 : k = 5
  · subst h5
    go_enter Try.func21, Try.ntmps21
    go_wp2
    exact named_end (p := prt 5) rfl _ rfl
  by_cases h6 : k = 6
  · subst h6
    go_enter Try.func21, Try.ntmps21
    go_wp2
    exact named_end (p := prt 6) rfl _ rfl
  have HP := Lib.hid (prt_none h1 h2 h3 h4 h5 h6)
  go_enter Try.func21, Try.ntmps21
  go_wp2
  exact named_end HP.out _ rfl
end Go.Proofs.Ytjaojhhcpggcpaa
