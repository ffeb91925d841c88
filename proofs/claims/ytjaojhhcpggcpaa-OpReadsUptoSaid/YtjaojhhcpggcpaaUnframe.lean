/-
  UNFRAME: what wire.Unframe answers of any slice of bytes.
-/
import Derived.Test.YtjaojhhcpggcpaaFrame
import Derived.Test.YtjaojhhcpggcpaaNumber
import Derived.Deep.RegionWith
import Derived.Deep.DeepMust
namespace Go.Proofs.Ytjaojhhcpggcpaa
open Go.RowKit

/-- what is in the frame at the beginning, how many bytes it has, the error -/
def unfR (l : List UInt8) : List UInt8 × Nat × Nat :=
  if l.length = 0 then ([], 0, 20)
  else if by8 l 0 ≠ 93 then ([], 0, 21)
  else if (numR (l.drop 1) 1048576).2.2 ≠ 0 then ([], 0, (numR (l.drop 1) 1048576).2.2)
  else if l.length < (numR (l.drop 1) 1048576).2.1 + 1 + ((numR (l.drop 1) 1048576).1 + 4) then ([], 0, 20)
  else if ((l.drop ((numR (l.drop 1) 1048576).2.1 + 1 + (numR (l.drop 1) 1048576).1)).take 4 == Wm.be 4 (Wm.crc ((l.drop ((numR (l.drop 1) 1048576).2.1 + 1)).take (numR (l.drop 1) 1048576).1))) = false then ([], 0, 22)
  else ((l.drop ((numR (l.drop 1) 1048576).2.1 + 1)).take (numR (l.drop 1) 1048576).1, (numR (l.drop 1) 1048576).2.1 + 1 + (numR (l.drop 1) 1048576).1 + 4, 0)

/-- bytes, a number, an error: new memory; nothing below it has turned -/
def Unfr (E : TypeId) (w : World) (r : List UInt8 × Nat × Nat) (e : Ending) (w' : World) : Prop :=
  ∃ v, e = .returned (.tuple #[v, .int .i64 (r.2.1 : Int), .int .i64 (r.2.2 : Int)]) ∧ Own E w' w.heap.size v r.1 ∧ Below w.heap.size w w'

theorem unfr_err {E : TypeId} {w : World} {r : List UInt8 × Nat × Nat} {e : Nat} (h : r = ([], 0, e)) : Unfr E w r (.returned (.tuple #[.slice none 0 0, .int .i64 0, .int .i64 (e : Int)])) w := by
  rw [h]
  exact ⟨_, rfl, Own.nil _ _ _, Below.refl _ _⟩

theorem numR_small (l : List UInt8) (most : Nat) : (numR l most).2.1 ≤ 7 ∧ ((numR l most).1 ≤ most) ∧ ((numR l most).2.2 = 0 → 1 ≤ (numR l most).2.1 ∧ (numR l most).2.1 ≤ l.length) := by
  unfold numR
  repeat' split
  all_goals dsimp only
  all_goals omega

end Go.Proofs.Ytjaojhhcpggcpaa
