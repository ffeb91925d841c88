/-
  PLAIN MATHEMATICS of layer 3 (value): which values may be; sums, products, quotients.
  No conditions.
-/
import Derived.Lib.Bytes
namespace Go.Proofs.YthpdphlkmleldaaGreat.Vm

/-- may a text be? -/
def okC (c : UInt8) : Bool := decide (32 ≤ c.toNat ∧ c.toNat ≤ 126)
def okT (l : List UInt8) : Bool := decide (l.length ≤ 64) && l.all okC

/-- may a value be? -/
def rightV (k n : Int) (t : List UInt8) : Bool :=
  decide ((k = 3 ∧ n = 0 ∧ okT t = true) ∨ (k = 0 ∧ n = 0 ∧ t = []) ∨ (k = 4 ∧ (n = 0 ∨ n = 1) ∧ t = []) ∨ ((k = 1 ∨ k = 2) ∧ (-1099511627776 ≤ n ∧ n ≤ 1099511627776) ∧ t = []))

theorem rightV_text (n : Int) (t : List UInt8) : rightV 3 n t = (decide (n = 0) && okT t) := by simp [rightV]
theorem rightV_none (n : Int) (t : List UInt8) : rightV 0 n t = (decide (n = 0) && decide (t = [])) := by simp [rightV]
theorem rightV_flag (n : Int) (t : List UInt8) : rightV 4 n t = (decide (n = 0 ∨ n = 1) && decide (t = [])) := by simp [rightV]
theorem rightV_num (k n : Int) (t : List UInt8) (hk : k = 1 ∨ k = 2) : rightV k n t = (decide (-1099511627776 ≤ n ∧ n ≤ 1099511627776) && decide (t = [])) := by
  rcases hk with rfl | rfl <;> simp [rightV]
theorem rightV_other (k n : Int) (t : List UInt8) (h0 : k ≠ 0) (h1 : k ≠ 1) (h2 : k ≠ 2) (h3 : k ≠ 3) (h4 : k ≠ 4) : rightV k n t = false := by
  simp [rightV, h0, h1, h2, h3, h4]

end Go.Proofs.YthpdphlkmleldaaGreat.Vm
