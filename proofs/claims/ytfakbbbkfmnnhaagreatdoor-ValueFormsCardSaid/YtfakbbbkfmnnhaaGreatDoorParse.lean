/-
  PARSE: strings.Cut at '@', and stamp.Parse, at every string.
  Conditions: the row's listed variables ('Laid').
-/
import Derived.Test.YtfakbbbkfmnnhaaGreatDoorText
namespace Go.Proofs.YtfakbbbkfmnnhaaGreatDoor
open Go.RowKit Go.Lib

/-- what stands ahead of the first '@', and behind it -/
def cutB (l : List UInt8) : List UInt8 × List UInt8 × Bool :=
  if 0 ≤ Lib.indexByte l 64 then (l.take (Lib.indexByte l 64).toNat, l.drop ((Lib.indexByte l 64).toNat + 1), true) else (l, [], false)
theorem extract_strB (s : ByteArray) (a b : Nat) : s.extract a b = strB ((s.data.toList.drop a).take (b - a)) := by
  rw [← Lib.extract_data]; rfl

/-- the result's cell of a call that began in w0, still zero -/
def Res (w0 w : World) : Prop :=
  w.cell? ⟨w0.heap.size, 0, none⟩ = some (.int .i64 0) ∧ w.cell? ⟨w0.heap.size, 1, none⟩ = some (.int .i64 0) ∧ w.frozen? ⟨w0.heap.size, 0, none⟩ = false ∧ w.frozen? ⟨w0.heap.size, 1, none⟩ = false ∧ Below w0.heap.size w0 w
theorem Res.start (w0 : World) : Res w0 (w0.alloc (.cells #[.int .i64 0, .int .i64 0] 79)) :=
  ⟨by rw [World.cell?_alloc_at _ _ _ _ rfl]; rfl, by rw [World.cell?_alloc_at _ _ _ _ rfl]; rfl, by rw [World.frozen?_alloc_at _ _ _ _ rfl], by rw [World.frozen?_alloc_at _ _ _ _ rfl], (Below.refl _ _).alloc (Nat.le_refl _) _⟩
theorem Res.kept {w0 w w' : World} (h : Res w0 w) (hb : Below w.heap.size w w') : Res w0 w' := by
  obtain ⟨z0, z1, y0, y1, h9⟩ := h
  have hs : w0.heap.size < w.heap.size := cell_lt z0
  exact ⟨by rw [hb.cell (by simpa using hs)]; exact z0, by rw [hb.cell (by simpa using hs)]; exact z1, by rw [hb.frozen (by simpa using hs)]; exact y0, by rw [hb.frozen (by simpa using hs)]; exact y1, h9.trans (hb.mono h9.size)⟩
theorem Res.only {w0 w w' : World} {b : Nat} (h : Res w0 w) (ho : Only b w w') (hne : b ≠ w0.heap.size) (hb : w0.heap.size ≤ b) : Res w0 w' := by
  obtain ⟨z0, z1, y0, y1, h9⟩ := h
  have hs : w0.heap.size < w.heap.size := cell_lt z0
  have c : ∀ o, w'.cell? ⟨w0.heap.size, o, none⟩ = w.cell? ⟨w0.heap.size, o, none⟩ := fun o => by
    have := ho.block _ hs (by simpa using Ne.symm hne)
    simp [World.cell?, this]
  have f : ∀ o, w'.frozen? ⟨w0.heap.size, o, none⟩ = w.frozen? ⟨w0.heap.size, o, none⟩ := fun o => by
    have := ho.block _ hs (by simpa using Ne.symm hne)
    simp [World.frozen?, this]
  exact ⟨by rw [c]; exact z0, by rw [c]; exact z1, by rw [f]; exact y0, by rw [f]; exact y1, ho.below h9 hb h9.size⟩
theorem Res.read {w0 w : World} (h : Res w0 w) (x y : Int) : (w.setCell ⟨w0.heap.size, 0, none⟩ (.int .i64 x)).cell? ⟨w0.heap.size, 0, none⟩ = some (.int .i64 x) ∧
    ((w.setCell ⟨w0.heap.size, 0, none⟩ (.int .i64 x)).setCell ⟨w0.heap.size, 1, none⟩ (.int .i64 y)).cell? ⟨w0.heap.size, 1, none⟩ = some (.int .i64 y) ∧
    Below w0.heap.size w0 ((w.setCell ⟨w0.heap.size, 0, none⟩ (.int .i64 x)).setCell ⟨w0.heap.size, 1, none⟩ (.int .i64 y)) := by
  obtain ⟨z0, z1, y0, y1, h9⟩ := h
  exact ⟨cell_same z0, cell_same (by rw [cell_other (by simp)]; exact z1), (h9.setCell (p := ⟨w0.heap.size, 0, none⟩) (by simp) _).setCell (p := ⟨w0.heap.size, 1, none⟩) (by simp) _⟩

/-- what Parse answers -/
def parseR (l : List UInt8) : Int × Int × Bool :=
  match Lib.atoiAll (cutB l).1, Lib.atoiAll (cutB l).2.1 with
  | .ok t, .ok r => if rightB t r = true ∧ printB t r = l then (t, r, true) else (0, 0, false)
  | _, _ => (0, 0, false)

theorem cutB_le (l : List UInt8) : (cutB l).1.length ≤ l.length ∧ (cutB l).2.1.length ≤ l.length := by
  unfold cutB
  split
  · simp; omega
  · simp

end Go.Proofs.YtfakbbbkfmnnhaaGreatDoor
