/-
  THE BOUND OF THE SECOND FORM, for an argument that is a slice of bytes.
  No conditions.
-/
import Derived.Test.YtjaojhhcpggcpaaLiftKit
import Derived.Deep.CondSized
namespace Go.Proofs.Ytjaojhhcpggcpaa
open Go.ChangeShapes Go.WideShapes Go.ChangeAt Go.RowKit

theorem bulk_one {H : Type} (d : DataW H) : 1 ≤ Rows.uptoBulk d := by
  cases d with
  | lit x => cases x <;> simp [Rows.uptoBulk]
  | _ => simp [Rows.uptoBulk]
theorem bulk_len {H : Type} : ∀ l : List (DataW H), l.length ≤ Rows.uptoBulkAll l
  | [] => Nat.zero_le _
  | d :: r => by
    have h1 := bulk_one d
    have h2 := bulk_len r
    simp only [List.length_cons, Rows.uptoBulkAll]
    omega
theorem bulk_slice {H : Type} {el sp r : List (DataW H)} (h : Rows.uptoSmall H (DataW.slice el sp :: r) = true) : el.length + sp.length ≤ 1048576 := by
  have h1 := of_decide_eq_true h
  have h2 := bulk_len el
  have h3 := bulk_len sp
  simp only [Rows.uptoBulkAll, Rows.uptoBulk] at h1
  omega
theorem opened_bytesU {H : Type} {enc : TypeId × Value → H} {P : Program} {W : World} {held : Bool} {T E : TypeId} (ht : P.underlying T = some (.slice E)) (he : P.underlying E = some (.int .u8)) (hc : P.cellsOf E = 1)
    {a : Option Addr} {len cap : Nat} {d : DataW H} {p : List MemPlace} (h : DataW.Trod enc P W 0 (fun _ => true) held T (Value.slice a len cap) d p)
    (hs : ∀ el sp, d = .slice el sp → el.length + sp.length ≤ 1048576) :
    ∃ l : List UInt8, l.length = len ∧ Bs W a l ∧ len ≤ cap ∧ (a = none → cap = 0) ∧ len ≤ 1048576 := by
  obtain ⟨fuel, hf⟩ := h
  rcases open_ints ht he hc hf with ⟨hcs, hx⟩ | ⟨x, l, c, zs, hcs, _, hl, hm, hz, hx, hcell, hwz⟩
  · simp [Value.cells] at hcs
    obtain ⟨rfl, rfl, rfl⟩ := hcs
    exact ⟨[], rfl, Bs.nil _ _, by omega, fun _ => rfl, by omega⟩
  · simp [Value.cells] at hcs
    obtain ⟨rfl, rfl, rfl⟩ := hcs
    have hz' : zs.length = cap := by simpa using hz
    simp only [Prod.mk.injEq] at hx
    have hr := hs _ _ hx.1
    simp [lits] at hr
    obtain ⟨l', e', b'⟩ := bytes_in hl hz' hcell hwz
    exact ⟨l', e', b', hl, by simp, by omega⟩
end Go.Proofs.Ytjaojhhcpggcpaa
