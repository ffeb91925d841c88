/-
  METHODS THROUGH AN INTERFACE that holds a pointer to items: which function is called, with what.
  No conditions.
-/
import Derived.Test.YtaplemkmkbjodaaGreatQLess
namespace Go.Proofs.YtaplemkmkbjodaaGreat
open Go.RowKit

theorem method_val {P : Program} (F : Nat) (t elem : TypeId) (name : String) (f : FuncId) (a : Addr) (w : World) (v : Value)
    (hrow : (P.info? t).map (fun i => (i.methods.find? (·.name == name)).map fun m => (m.path.toList, m.func)) = some (some ([], some (f, false))))
    (hu : P.underlying t = some (.pointer elem)) (hl : (loadVar elem a).run P w = .ok v w) : (method (F + 1) t (.pointer (some a)) name).run P w = .ok (f, v) w := by
  cases hi : P.info? t with
  | none => rw [hi] at hrow; cases hrow
  | some i =>
    rw [hi] at hrow
    simp only [Option.map_some, Option.some.injEq] at hrow
    cases hm : i.methods.find? (·.name == name) with
    | none => rw [hm] at hrow; cases hrow
    | some m =>
      rw [hm] at hrow
      simp only [Option.map_some, Option.some.injEq, Prod.mk.injEq] at hrow
      obtain ⟨hp, hf⟩ := hrow
      have hpe : m.path.isEmpty = true := by
        have : m.path.size = 0 := by rw [← Array.length_toList, hp]; rfl
        simp [Array.isEmpty, this]
      unfold method receiverAt
      have hs : ∀ (T : TypeId) (s : String), (Builtin.ssaWrapNilChk_ #[T] T #[.pointer (some a), strVal "", strVal s]).run P w = .ok (.pointer (some a)) w := fun _ _ => rfl
      have hpg : (program : Sem Program).run P w = .ok P w := rfl
      simp only [Sem.run_bind, typeInfo, hpg, hi, Result.andThen_ok, Sem.run_pure, hm, hp, hf, hpe, follow, run_underlying hu, Place.get, if_true, hs, asAddr, hl]

theorem row_len : (Tryz.prog.info? 140).map (fun i => (i.methods.find? (·.name == "Len")).map fun m => (m.path.toList, m.func)) = some (some ([], some (104, false))) := by kernel_rfl
theorem row_less : (Tryz.prog.info? 140).map (fun i => (i.methods.find? (·.name == "Less")).map fun m => (m.path.toList, m.func)) = some (some ([], some (144, false))) := by kernel_rfl
theorem row_swap : (Tryz.prog.info? 140).map (fun i => (i.methods.find? (·.name == "Swap")).map fun m => (m.path.toList, m.func)) = some (some ([], some (145, false))) := by kernel_rfl

/-- what the heap's functions are handed -/
def hpV (c : Nat) : Value := .iface 140 (.pointer (some ⟨c, 0, none⟩))

theorem load_items {w : World} {c : Nat} {p : Option Addr} {n k : Nat} (h : w.cell? ⟨c, 0, none⟩ = some (.slice p n k)) : (loadVar 137 ⟨c, 0, none⟩).run Tryz.prog w = .ok (.slice p n k) w := by go_simp
theorem meth_len {w : World} {c : Nat} {p : Option Addr} {n k : Nat} (h : w.cell? ⟨c, 0, none⟩ = some (.slice p n k)) : (method 297 140 (.pointer (some ⟨c, 0, none⟩)) "Len").run Tryz.prog w = .ok (104, .slice p n k) w :=
  method_val 296 _ _ _ _ _ _ _ row_len Tryz.underlying140 (load_items h)
theorem meth_less {w : World} {c : Nat} {p : Option Addr} {n k : Nat} (h : w.cell? ⟨c, 0, none⟩ = some (.slice p n k)) : (method 297 140 (.pointer (some ⟨c, 0, none⟩)) "Less").run Tryz.prog w = .ok (144, .slice p n k) w :=
  method_val 296 _ _ _ _ _ _ _ row_less Tryz.underlying140 (load_items h)
theorem meth_swap {w : World} {c : Nat} {p : Option Addr} {n k : Nat} (h : w.cell? ⟨c, 0, none⟩ = some (.slice p n k)) : (method 297 140 (.pointer (some ⟨c, 0, none⟩)) "Swap").run Tryz.prog w = .ok (145, .slice p n k) w :=
  method_val 296 _ _ _ _ _ _ _ row_swap Tryz.underlying140 (load_items h)
theorem meth_push (c : Nat) (w : World) : (method 297 140 (.pointer (some ⟨c, 0, none⟩)) "Push").run Tryz.prog w = .ok (148, .pointer (some ⟨c, 0, none⟩)) w := by kernel_rfl
theorem meth_pop (c : Nat) (w : World) : (method 297 140 (.pointer (some ⟨c, 0, none⟩)) "Pop").run Tryz.prog w = .ok (147, .pointer (some ⟨c, 0, none⟩)) w := by kernel_rfl

end Go.Proofs.YtaplemkmkbjodaaGreat
