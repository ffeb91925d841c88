/-
  PLAIN MATHEMATICS of layer 1 (wire): numbers as bytes, the sum, frames: lists of bytes and natural numbers alone; no program, no world.
  No conditions.
  HOW BYTES LIE IN MEMORY: a slice that reads as a list of bytes ('Bs'), a row of the call's own that holds them ('vals' under 'ownsRow'), and what keeps them.
  No conditions.
-/
import Derived.Lib.BitFns
import Derived.Lib.Bytes
import Derived.Laws.BitsAllLaws
import Derived.Test.YthifdefjmfakgaaGreatRows
import Derived.WalkKit
import Derived.WalkSpells
import Derived.WalkLawsBesides
import Derived.Lib.Hide
import Derived.Deep.QuietTactic
import Derived.BigQuiet
import Derived.Deep.LoopGhost
import Derived.ScopeJumps
import Derived.WalkMore
namespace Go.Proofs.YthifdefjmfakgaaGreat.Wm

/-- the low 'k' bytes of n, the highest first -/
def be : Nat → Nat → List UInt8
  | 0, _ => []
  | k + 1, n => be k (n / 256) ++ [UInt8.ofNat (n % 256)]

/-- the number that bytes are -/
def val (l : List UInt8) : Nat := l.foldl (fun n c => n * 256 + c.toNat) 0

/-- one turn of the sum's register -/
def half (r : Nat) : Nat := if r % 2 = 1 then (r / 2) ^^^ 3988292384 else r / 2

/-- k turns -/
def halves : Nat → Nat → Nat
  | 0, r => r
  | k + 1, r => halves k (half r)

def step (r : Nat) (c : UInt8) : Nat := halves 8 (r ^^^ c.toNat)

end Go.Proofs.YthifdefjmfakgaaGreat.Wm

namespace Go.Proofs.YthifdefjmfakgaaGreat
open Go.RowKit

theorem wraps_i64 (n : Int) (h0 : 0 ≤ n) (h1 : n < 2 ^ 63) : IntKind.i64.wrap n = n := by rw [IntKind.wrap_i64]; omega
/-- byte i of a list, as a number -/
def by8 (l : List UInt8) (i : Nat) : Nat := (l.getD i 0).toNat
/-- the cells of bytes -/
def vals (l : List UInt8) : List Value := l.map fun c => .int .u8 (c.toNat : Int)
theorem vals_length (l : List UInt8) : (vals l).length = l.length := by simp [vals]
theorem vals_get (l : List UInt8) (i : Nat) (h : i < l.length) : (vals l)[i]? = some (.int .u8 (by8 l i)) := by
  simp [vals, by8, List.getElem?_eq_getElem h, List.getD]
/-- the slice (p, the list's length, whatever capacity) reads as these bytes -/
def Bs (w : World) (p : Option Addr) (l : List UInt8) : Prop :=
  0 < l.length → ∃ b o, p = some ⟨b, o, none⟩ ∧ ∀ i, i < l.length → w.cell? ⟨b, o + i, none⟩ = some (.int .u8 (by8 l i))

theorem Bs.nil (w : World) (p : Option Addr) : Bs w p [] := fun h => absurd h (Nat.lt_irrefl 0)

theorem Bs.get {w : World} {b o : Nat} {l : List UInt8} (h : Bs w (some ⟨b, o, none⟩) l) (i : Nat) (hi : i < l.length) : w.cell? ⟨b, o + i, none⟩ = some (.int .u8 (by8 l i)) := by
  obtain ⟨b', o', e, hc⟩ := h (by omega)
  simp only [Option.some.injEq, Addr.mk.injEq] at e
  obtain ⟨rfl, rfl, -⟩ := e
  exact hc i hi

/-- the string of bytes -/
def strB (l : List UInt8) : ByteArray := ⟨l.toArray⟩
/-- 'string(b)' -/
theorem Bs.conv {P : Program} {w : World} {p : Option Addr} {l : List UInt8} (h : Bs w p l) (c : Nat) (src e dst : TypeId)
    (hs : P.underlying src = some (.slice e)) (he : P.underlying e = some (.int .u8)) (hd : P.underlying dst = some .string) :
    (convert src dst (.slice p l.length c)).run P w = .ok (.string (strB l)) w := by
  rcases Nat.eq_zero_or_pos l.length with hn | hn
  · obtain rfl : l = [] := List.eq_nil_of_length_eq_zero hn
    rw [run_convert_bytes_string w src dst e _ _ c hs he hd]
    cases p <;> simp [Conv.bytesToString, loadCells]
    all_goals rfl
  · obtain ⟨b, o, rfl, hc⟩ := h hn
    rw [run_convert_bytes_arg (P := P) w src e hs he b o l.length c (l.map fun x => (x.toNat : Int)) (by simp) (fun i hi => by
      rw [hc i hi]
      simp [by8, List.getD, List.getElem?_eq_getElem hi]) dst hd]
    congr 2
    have hid : (fun n : Int => UInt8.ofNat n.toNat) ∘ (fun x : UInt8 => (x.toNat : Int)) = id := by
      funext x
      simp
    simp [strOfNums, strB, hid]

/-- what a world that is the same below some block keeps -/
theorem Bs.below {w w' : World} {p : Option Addr} {l : List UInt8} {B : Nat} (h : Bs w p l) (hb : Below B w w') (hp : ∀ a, p = some a → a.block < B) : Bs w' p l := by
  intro h0
  obtain ⟨b, o, rfl, hc⟩ := h h0
  have := hp _ rfl
  exact ⟨b, o, rfl, fun i hi => by rw [hb.cell (by simpa using this)]; exact hc i hi⟩

theorem cell_lt {w : World} {a : Addr} {v : Value} (h : w.cell? a = some v) : a.block < w.heap.size := World.block_lt_of_cell? w a h

/-- cells that are there lie below the heap's size: what is the same there keeps them -/
theorem Bs.kept {w w' : World} {p : Option Addr} {l : List UInt8} (h : Bs w p l) (hb : Below w.heap.size w w') : Bs w' p l := by
  intro h0
  obtain ⟨b, o, rfl, hc⟩ := h h0
  have := cell_lt (hc 0 h0)
  exact ⟨b, o, rfl, fun i hi => by rw [hb.cell (by simpa using this)]; exact hc i hi⟩

theorem Bs.drew {w : World} {p : Option Addr} {l : List UInt8} (h : Bs w p l) : Bs w.drew p l := fun h0 => by
  obtain ⟨b, o, e, hc⟩ := h h0
  exact ⟨b, o, e, fun i hi => hc i hi⟩

/-- an owned row reads as its bytes -/
theorem Bs.of_own {w : World} {B : Nat} {v : Value} {l : List UInt8} {E : TypeId} (h : w.ownsRow B E 1 v l.length (vals l)) : ∃ p c, v = .slice p l.length c ∧ Bs w p l ∧ l.length ≤ c ∧ c ≤ maxLen ∧ (v.ownBlock = none ∨ ∃ g, p = some ⟨g, 0, none⟩ ∧ v.ownBlock = some g ∧ B ≤ g ∧ g < w.heap.size) := by
  have h0 := h
  rcases h.2 with ⟨rfl, hn⟩ | ⟨g, cap, cur, rfl, hg, hh, hnc, hcm, -, -⟩
  · exact ⟨none, 0, by rw [hn], fun h => by omega, by omega, by simp [maxLen], Or.inl rfl⟩
  · refine ⟨_, cap, rfl, fun _ => ⟨g, 0, rfl, fun i hi => ?_⟩, hnc, hcm, Or.inr ⟨g, rfl, rfl, hg, ?_⟩⟩
    · rw [Nat.zero_add, h0.cellAt i (by simpa using hi), vals_get l i hi]
    · exact (Array.getElem?_eq_some_iff.1 hh).1

/-- the value owns a row of the call's own (from block B on; E: the type of bytes) that holds these bytes -/
def Own (E : TypeId) (w : World) (B : Nat) (v : Value) (l : List UInt8) : Prop := w.ownsRow B E 1 v l.length (vals l)

theorem own_below {w w' : World} {B : Nat} {v : Value} {n : Nat} {xs : List Value} {E : TypeId} (h : w.ownsRow B E 1 v n xs) (hb : Below w.heap.size w w') : w'.ownsRow B E 1 v n xs :=
  h.kept (row := none) ⟨hb.os, hb.tape, hb.output, hb.size, fun k hk _ => hb.block k hk⟩ (by cases hv : v.ownBlock <;> simp)

theorem Own.below {E : TypeId} {w w' : World} {B : Nat} {v : Value} {l : List UInt8} (h : Own E w B v l) (hb : Below w.heap.size w w') : Own E w' B v l := own_below h hb
theorem Own.alloc {E : TypeId} {w : World} {B : Nat} {v : Value} {l : List UInt8} (h : Own E w B v l) (o : Obj) : Own E (w.alloc o) B v l := World.ownsRow.alloc h o
theorem Own.drew {E : TypeId} {w : World} {B : Nat} {v : Value} {l : List UInt8} (h : Own E w B v l) : Own E w.drew B v l := World.ownsRow.kept (row := none) h ⟨rfl, rfl, rfl, Nat.le_refl _, fun _ _ _ => rfl⟩ (by cases hv : v.ownBlock <;> simp)
theorem Own.base {E : TypeId} {w : World} {B B' : Nat} {v : Value} {l : List UInt8} (h : Own E w B v l) (hB : B' ≤ B) : Own E w B' v l := by
  have h0 : w.ownsRow B E 1 v l.length (vals l) := h
  refine ⟨h0.1, ?_⟩
  rcases h0.2 with h2 | ⟨g, cap, cur, hv, hg, r⟩
  · exact Or.inl h2
  · exact Or.inr ⟨g, cap, cur, hv, by omega, r⟩
theorem Own.nil (E : TypeId) (w : World) (B : Nat) : Own E w B (.slice none 0 0) [] := World.ownsRow_nil w B E 1
/-- an owned row as a slice that reads as its bytes -/
theorem Own.bs {E : TypeId} {w : World} {B : Nat} {v : Value} {l : List UInt8} (h : Own E w B v l) : ∃ p c, v = .slice p l.length c ∧ Bs w p l ∧ l.length ≤ c ∧ c ≤ maxLen ∧ (p = none → c = 0) ∧ (∀ a, p = some a → B ≤ a.block ∧ a.block < w.heap.size) := by
  have h0 : w.ownsRow B E 1 v l.length (vals l) := h
  obtain ⟨p, c, hv, hbs, h1, h2, h3⟩ := Bs.of_own h0
  refine ⟨p, c, hv, hbs, h1, h2, fun hp => ?_, fun a ha => ?_⟩
  · subst hp
    rcases h0.2 with ⟨e, -⟩ | ⟨g, cap, cur, e, -⟩
    · rw [hv] at e; simp at e; exact e.2
    · rw [hv] at e; simp at e
  · subst ha
    rcases h3 with h3 | ⟨g, e, -, h4, h5⟩
    · rw [hv] at h3; simp [Value.ownBlock] at h3
    · simp only [Option.some.injEq] at e; subst e; exact ⟨h4, h5⟩

end Go.Proofs.YthifdefjmfakgaaGreat
