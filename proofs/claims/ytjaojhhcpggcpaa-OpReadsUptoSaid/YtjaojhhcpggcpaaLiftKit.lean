/-
  FROM A LAW's WALK TO ITS STATEMENT: what arguments are read as (bytes, integers, strings in a slice), and how large they may be.
-/
import Derived.Test.YtjaojhhcpggcpaaBase
import Derived.Test.YtjaojhhcpggcpaaRows2
import Derived.ProofKit
import Derived.OpenShut
import Derived.ShutString
import Derived.SizedLaws
import Derived.SliceStrings
namespace Go.Proofs.Ytjaojhhcpggcpaa
open Go.ChangeShapes Go.WideShapes Go.ChangeAt Go.RowKit

theorem sized_args {H : Type} {P : Program} {ts : List TypeId} {ds : List (DataW H)} (h : (DataW.weightsEach P (ts ++ []) (ds ++ [])).all (· ≤ reachBytes) = true) : (DataW.weightsEach P ts ds).all (· ≤ reachBytes) = true := by
  simpa using h

theorem sized_str {s : ByteArray} (h : s.data.toList.length ≤ reachBytes) : s.size ≤ 140737488351232 := by
  have e : s.data.toList.length = s.size := by rw [Array.length_toList]; rfl
  rw [e] at h
  exact h

theorem bytes_in {w : World} {x : Addr} {len cap : Nat} {zs : List Int} (hl : len ≤ cap) (hz : zs.length = cap) (hcell : ∀ i, i < zs.length → w.cell? (x.add i) = some (.int .u8 (zs.getD i 0))) (hwz : ∀ n ∈ zs, (Lit.int .u8 n).wf = true) :
    ∃ l : List UInt8, l.length = len ∧ Bs w (some x) l := by
  refine ⟨(zs.take len).map fun n => UInt8.ofNat n.toNat, by simp; omega, fun h0 => ?_⟩
  have h00 : 0 < zs.length := by simp at h0; omega
  obtain ⟨b, o, s⟩ := x
  obtain rfl : s = none := by simpa [Addr.add] using World.cell?_spot (hcell 0 h00)
  refine ⟨b, o, rfl, fun i hi => ?_⟩
  have hi2 : i < zs.length := by simp at hi; omega
  have hi3 : i < len := by simp at hi; omega
  rw [← Go.WideShapes.add_plain, hcell i hi2]
  have hb : 0 ≤ zs[i] ∧ zs[i] ≤ 255 := by simpa [Lit.wf, IntKind.min, IntKind.max, IntKind.signed, IntKind.bits] using hwz _ (List.getElem_mem hi2)
  have e1 : zs.getD i 0 = zs[i] := by simp [List.getD, List.getElem?_eq_getElem hi2]
  have e2 : by8 ((zs.take len).map fun n => UInt8.ofNat n.toNat) i = zs[i].toNat % 256 := by
    simp [by8, List.getD, hi3, List.getElem?_eq_getElem hi2]
  rw [e1, e2]
  have e3 : zs[i] = ((zs[i].toNat % 256 : Nat) : Int) := by omega
  rw [← e3]

theorem opened_bytes {H : Type} {enc : TypeId × Value → H} {P : Program} {W : World} {held : Bool} {T E : TypeId} (ht : P.underlying T = some (.slice E)) (he : P.underlying E = some (.int .u8)) (hc : P.cellsOf E = 1) (hb1 : P.bytesOf E = 1)
    {a : Option Addr} {len cap : Nat} {d : DataW H} {p : List MemPlace} (h : DataW.Trod enc P W 0 (fun _ => true) held T (Value.slice a len cap) d p)
    (hs : ∀ el sp, d = .slice el sp → (el.length + sp.length) * P.bytesOf E ≤ reachBytes) :
    ∃ l : List UInt8, l.length = len ∧ Bs W a l ∧ len ≤ cap ∧ (a = none → cap = 0) ∧ len ≤ 140737488351232 := by
  obtain ⟨fuel, hf⟩ := h
  rcases open_ints ht he hc hf with ⟨hcs, hx⟩ | ⟨x, l, c, zs, hcs, _, hl, hm, hz, hx, hcell, hwz⟩
  · simp [Value.cells] at hcs
    obtain ⟨rfl, rfl, rfl⟩ := hcs
    exact ⟨[], rfl, Bs.nil _ _, by omega, fun _ => rfl, by omega⟩
  · simp [Value.cells] at hcs
    obtain ⟨rfl, rfl, rfl⟩ := hcs
    have hz' : zs.length = cap := by simpa using hz
    simp only [Prod.mk.injEq] at hx
    have hr := hs _ _ hx.1
    rw [hb1] at hr
    simp [lits, reachBytes] at hr
    obtain ⟨l', e', b'⟩ := bytes_in hl hz' hcell hwz
    exact ⟨l', e', b', hl, by simp, by omega⟩

theorem opened_ints {H : Type} {enc : TypeId × Value → H} {P : Program} {W : World} {held : Bool} {T E : TypeId} (ht : P.underlying T = some (.slice E)) (he : P.underlying E = some (.int .i64)) (hc : P.cellsOf E = 1) (hb1 : P.bytesOf E = 8)
    {a : Option Addr} {len cap : Nat} {d : DataW H} {p : List MemPlace} (h : DataW.Trod enc P W 0 (fun _ => true) held T (Value.slice a len cap) d p)
    (hs : ∀ el sp, d = .slice el sp → (el.length + sp.length) * P.bytesOf E ≤ reachBytes) :
    ∃ l : List Int, l.length = len ∧ (Ints W a l ∧ ∀ x ∈ l, (Lit.int .i64 x).wf = true) ∧ len ≤ cap ∧ (a = none → cap = 0) ∧ len ≤ 17592186043904 := by
  obtain ⟨fuel, hf⟩ := h
  rcases open_ints ht he hc hf with ⟨hcs, hx⟩ | ⟨x, l, c, zs, hcs, _, hl, hm, hz, hx, hcell, hwz⟩
  · simp [Value.cells] at hcs
    obtain ⟨rfl, rfl, rfl⟩ := hcs
    exact ⟨[], rfl, ⟨fun h => absurd h (Nat.lt_irrefl 0), by simp⟩, by omega, fun _ => rfl, by omega⟩
  · simp [Value.cells] at hcs
    obtain ⟨rfl, rfl, rfl⟩ := hcs
    have hz' : zs.length = cap := by simpa using hz
    simp only [Prod.mk.injEq] at hx
    have hr := hs _ _ hx.1
    rw [hb1] at hr
    simp [lits, reachBytes] at hr
    refine ⟨zs.take len, by simp; omega, ⟨fun h0 => ?_, fun y hy => hwz y (List.mem_of_mem_take hy)⟩, hl, by simp, by omega⟩
    have h00 : 0 < zs.length := by simp at h0; omega
    obtain ⟨b, o, s⟩ := x
    obtain rfl : s = none := by simpa [Addr.add] using World.cell?_spot (hcell 0 h00)
    refine ⟨b, o, rfl, fun i hi => ?_⟩
    have hi2 : i < zs.length := by simp at hi; omega
    have hi3 : i < len := by simp at hi; omega
    rw [← Go.WideShapes.add_plain, hcell i hi2]
    simp [List.getD, hi3]

theorem opened_strs {H : Type} {enc : TypeId × Value → H} {P : Program} {W : World} {held : Bool} {T E : TypeId} (ht : P.underlying T = some (.slice E)) (he : P.underlying E = some .string) (hc : P.cellsOf E = 1) (hb1 : P.bytesOf E = 16)
    {a : Option Addr} {len cap : Nat} {d : DataW H} {p : List MemPlace} (h : DataW.Trod enc P W 0 (fun _ => true) held T (Value.slice a len cap) d p)
    (hs : ∀ el sp, d = .slice el sp → (el.length + sp.length) * P.bytesOf E ≤ reachBytes) :
    ∃ l : List ByteArray, l.length = len ∧ (Strs W a l ∧ ∀ x ∈ l, x.size ≤ maxLen) ∧ len ≤ cap ∧ (a = none → cap = 0) ∧ len ≤ 8796093021952 := by
  obtain ⟨fuel, hf⟩ := h
  rcases open_strings ht he hc hf with ⟨hcs, hx⟩ | ⟨x, l, c, zs, hcs, _, hl, hm, hz, hx, hcell, hwz⟩
  · simp [Value.cells] at hcs
    obtain ⟨rfl, rfl, rfl⟩ := hcs
    exact ⟨[], rfl, ⟨fun h => absurd h (Nat.lt_irrefl 0), by simp⟩, by omega, fun _ => rfl, by omega⟩
  · simp [Value.cells] at hcs
    obtain ⟨rfl, rfl, rfl⟩ := hcs
    have hz' : zs.length = cap := by simpa using hz
    simp only [Prod.mk.injEq] at hx
    have hr := hs _ _ hx.1
    rw [hb1] at hr
    simp [strs, reachBytes] at hr
    refine ⟨zs.take len, by simp; omega, ⟨fun h0 => ?_, fun y hy => hwz y (List.mem_of_mem_take hy)⟩, hl, by simp, by omega⟩
    have h00 : 0 < zs.length := by simp at h0; omega
    obtain ⟨b, o, s⟩ := x
    obtain rfl : s = none := by simpa [Addr.add] using World.cell?_spot (hcell 0 h00)
    refine ⟨b, o, rfl, fun i hi => ?_⟩
    have hi2 : i < zs.length := by simp at hi; omega
    have hi3 : i < len := by simp at hi; omega
    rw [← Go.WideShapes.add_plain, hcell i hi2]
    simp [List.getD, hi3]

end Go.Proofs.Ytjaojhhcpggcpaa
