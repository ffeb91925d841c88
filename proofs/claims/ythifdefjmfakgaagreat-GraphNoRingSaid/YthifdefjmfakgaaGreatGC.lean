/-
  APPEND, of elements of one cell each, onto a row of the call's own, from whatever slice (nil, empty, or with its cells): up to 3 * 2^46 bytes in all.
  No other conditions.
  HOW MANY BYTES A NUMBER TAKES: bits.Len64 and bits.Len of a number below 2^48.
  THE SUM: what wire.Sum and the reference's Sum answer of any slice of bytes: 'Wm.crc'; the world as it was.
  WRITING: addNum, Num, Text, sumBytes, Frame: new memory with the document's bytes.
  FRAMES: sumBytes, Frame, bytes.Clone, bytes.Equal.
  A NUMBER's FORM: what wire.number and the reference's number answer of any slice of bytes; the world as it was.
  UNFRAME: what wire.Unframe answers of any slice of bytes.
-/
import Derived.Test.YthifdefjmfakgaaGreatGA
import Derived.Laws.AppendOwn
import Derived.Laws.OwnMore
import Derived.Lib.AppendStr
import Derived.Lib.Tables
import Derived.Lib.BitFns
import Derived.Deep.RegionWith
import Derived.Deep.DeepMust
namespace Go.Proofs.YthifdefjmfakgaaGreat
open Go.RowKit

/-- the slice (p, so many) reads as these values, one cell each -/
def Rd (w : World) (p : Option Addr) (us : List Value) : Prop :=
  0 < us.length → ∃ b o, p = some ⟨b, o, none⟩ ∧ ∀ i u, us[i]? = some u → w.cell? ⟨b, o + i, none⟩ = some u

theorem Bs.rd {w : World} {p : Option Addr} {l : List UInt8} (h : Bs w p l) : Rd w p (vals l) := by
  intro h0
  rw [vals_length] at h0
  obtain ⟨b, o, e, hc⟩ := h h0
  refine ⟨b, o, e, fun i u hu => ?_⟩
  have hi : i < l.length := by
    have := (List.getElem?_eq_some_iff.1 hu).1
    rwa [vals_length] at this
  rw [vals_get l i hi] at hu
  rw [hc i hi, hu]

theorem nextcap_le {need old : Nat} (h : old < need) : Builtin.nextslicecap need old ≤ need + need / 4 + 512 := by
  unfold Builtin.nextslicecap
  split
  · omega
  · split
    · omega
    · rw [growBy_four]
      repeat' split
      all_goals omega

theorem grow_fits {need old bytes : Nat} (h : old < need) (hb : need * bytes ≤ 211106232532992) (h1 : bytes ≤ 1000000000) : Builtin.nextslicecap need old * bytes ≤ 281474976710656 := by
  have h2 : Builtin.nextslicecap need old * bytes ≤ (need + need / 4 + 512) * bytes := Nat.mul_le_mul_right _ (nextcap_le h)
  have h3 : need / 4 * bytes ≤ need * bytes / 4 := by
    rw [Nat.le_div_iff_mul_le (by decide), Nat.mul_assoc, Nat.mul_comm bytes 4, ← Nat.mul_assoc]
    exact Nat.mul_le_mul_right _ (Nat.div_mul_le_self _ _)
  rw [Nat.add_mul, Nat.add_mul] at h2
  omega

section
variable {P : Program} (w : World)

end

end Go.Proofs.YthifdefjmfakgaaGreat

namespace Go.Proofs.YthifdefjmfakgaaGreat
open Go.RowKit

end Go.Proofs.YthifdefjmfakgaaGreat

namespace Go.Proofs.YthifdefjmfakgaaGreat
open Go.RowKit

end Go.Proofs.YthifdefjmfakgaaGreat

namespace Go.Proofs.YthifdefjmfakgaaGreat
open Go.RowKit

end Go.Proofs.YthifdefjmfakgaaGreat

namespace Go.Proofs.YthifdefjmfakgaaGreat
open Go.RowKit

end Go.Proofs.YthifdefjmfakgaaGreat

namespace Go.Proofs.YthifdefjmfakgaaGreat
open Go.RowKit

end Go.Proofs.YthifdefjmfakgaaGreat

namespace Go.Proofs.YthifdefjmfakgaaGreat
open Go.RowKit

end Go.Proofs.YthifdefjmfakgaaGreat
