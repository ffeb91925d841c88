/-
  PUT's function value: bytes are put behind those that there are.
  No conditions but sizes.
-/
import Derived.Test.YtjaojhhcpggcpaaORight
namespace Go.Proofs.Ytjaojhhcpggcpaa
open Go.RowKit

/-- the bytes so far: in a row (from block B on) that cell o points to -/
structure Out (w : World) (B o : Nat) (l : List UInt8) : Prop where
  lt : o < B
  size : B ≤ w.heap.size
  free : w.frozen? ⟨o, 0, none⟩ = false
  row : ∃ v, w.cell? ⟨o, 0, none⟩ = some v ∧ Own 5 w B v l
/-- of what lies below block B nothing turned but block o -/
structure Chg (o B : Nat) (w w' : World) : Prop where
  os : w'.os = w.os
  tape : w'.tape = w.tape
  output : w'.output = w.output
  size : w.heap.size ≤ w'.heap.size
  block : ∀ k, k < B → k ≠ o → w'.heap[k]? = w.heap[k]?
theorem Out.kept {w w' : World} {B o : Nat} {l : List UInt8} (h : Out w B o l) (hb : Below w.heap.size w w') : Out w' B o l := by
  obtain ⟨h1, h2, h3, v, h4, h5⟩ := h
  exact ⟨h1, Nat.le_trans h2 hb.size, by rw [hb.frozen (by simp; omega)]; exact h3, v, by rw [hb.cell (by simp; omega)]; exact h4, h5.below hb⟩
theorem only_set' (b o : Nat) (w : World) (v : Value) : w.grownBy (w.setCell ⟨b, o, none⟩ v) (some b) :=
  ⟨rfl, rfl, rfl, by simp [World.setCell], fun k _ hk => Below.heap_setCell w _ v k (fun e => hk (by rw [e]))⟩
theorem Own.setFar {w : World} {B o : Nat} {v : Value} {l : List UInt8} (h : Own 5 w B v l) (ho : o < B) (u : Value) : Own 5 (w.setCell ⟨o, 0, none⟩ u) B v l :=
  World.ownsRow.kept (row := some o) h (only_set' o 0 w u) (by
    cases hv : v.ownBlock with
    | none => simp
    | some g => have := (World.ownsRow.lt h g hv).1; simp; omega)

set_option maxRecDepth 100000 in
set_option maxHeartbeats 1000000 in
theorem add_any (B o : Nat) (l m : List UInt8) (p : Option Addr) (c : Nat) (e : Int) (w : World) (h : Out w B o l) (hm : Bs w p m) (hpn : p = none → c = 0) (hl : l.length + m.length ≤ 100000) :
    Calls Try.prog 20 #[.slice p m.length c, .int .i64 e, .pointer (some ⟨o, 0, none⟩)] w fun r w' => r = .returned (.tuple #[]) ∧ Out w' B o (l ++ m) ∧ Chg o B w w' := by
  obtain ⟨i0, hi, hz0, hz1, hz2⟩ := info_parts info_u8
  obtain ⟨h1, h2, h3, v, h4, h5⟩ := h
  have HO := Lib.hid h5
  have HBS := Lib.hid hm
  obtain ⟨p1, c1, rfl, -⟩ := h5.bs
  clear h5 hm
  go_enter Try.func20, Try.ntmps20
  go_wp2_with (at_builtin; refine wpList_append_bs rfl _ _ 31 rfl B 5 i0 Try.underlying31 hi hz0 hz1 hz2 _ l rfl HO.out p c m rfl HBS.out hpn ?b0 ?b1 ?_)
  case b0 => omega
  case b1 => exact h2
  intro v4 w4 hown4 hbel4 hgrow4 hnil4
  clear hgrow4 hnil4
  obtain ⟨p4, c4, rfl, -⟩ := hown4.bs
  have k4 : w4.cell? ⟨o, 0, none⟩ = some (.slice p1 l.length c1) := by rw [hbel4.cell (by simpa using h1)]; exact h4
  have kf : w4.frozen? ⟨o, 0, none⟩ = false := by rw [hbel4.frozen (by simpa using h1)]; exact h3
  have HO4 := Lib.hid (hown4.setFar h1 (.slice p4 (l ++ m).length c4))
  have HK4 := Lib.hid (cell_same (v := .slice p4 (l ++ m).length c4) k4)
  have HF4 := Lib.hid (show (w4.setCell ⟨o, 0, none⟩ (.slice p4 (l ++ m).length c4)).frozen? ⟨o, 0, none⟩ = false by rw [World.frozen?_setCell]; exact kf)
  have HC := Lib.hid (show Chg o B w (w4.setCell ⟨o, 0, none⟩ (.slice p4 (l ++ m).length c4)) from
    ⟨hbel4.os, hbel4.tape, hbel4.output, by have := hbel4.size; simpa using this, fun k hk hn => ((only_set' o 0 w4 _).block k (by have := hbel4.size; omega) (by simpa using fun e => hn e)).trans (hbel4.block k hk)⟩)
  have HS := Lib.hid (show B ≤ (w4.setCell ⟨o, 0, none⟩ (.slice p4 (l ++ m).length c4)).heap.size by have := hbel4.size; simp; omega)
  clear hown4 hbel4
  have HL := Lib.hid (show (l ++ m).length = l.length + m.length from List.length_append)
  generalize (l ++ m).length = n at *
  go_wp2
  go_end0
  exact ⟨rfl, ⟨h1, HS.out, HF4.out, _, HK4.out, HO4.out⟩, HC.out⟩
end Go.Proofs.Ytjaojhhcpggcpaa
