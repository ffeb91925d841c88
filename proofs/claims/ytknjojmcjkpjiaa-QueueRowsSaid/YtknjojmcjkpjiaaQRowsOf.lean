/-
  Rows of the law: the rows in memory of their own.
  No conditions but sizes.
-/
import Derived.Test.YtknjojmcjkpjiaaQRefMerge
namespace Go.Proofs.Ytknjojmcjkpjiaa
open Go.RowKit

theorem info_row : (Try.prog.info? 52).map (fun i => (i.zero, i.size, i.bytes)) = some (some (.slice none 0 0), 1, 24) := by kernel_rfl
theorem rd_val (w : World) (v : Value) (E : TypeId) : Rd (w.alloc (.cells #[v] E)) (some ⟨w.heap.size, 0, none⟩) [v] := fun _ => ⟨_, 0, rfl, fun i u hu => by
  have hi : i < 1 := (List.getElem?_eq_some_iff.1 hu).1
  obtain rfl : i = 0 := by omega
  rw [Nat.zero_add, World.cell?_alloc_at _ _ _ _ rfl, ← hu]
  rfl⟩

/-- the first k rows, in memory of their own -/
def RowsTo (L : List (List Qm.St)) (B : Nat) (w : World) (k : Nat) (p : Option Addr) (c : Nat) : Prop :=
  ∃ xs, w.ownsRow B 52 1 (.slice p k c) k xs ∧ ∀ i, i < k → ∃ pi ci, xs[i]? = some (.slice pi (rowAt L i).length ci) ∧ Rd w pi (stCells (rowAt L i)) ∧ (pi = none → ci = 0) ∧ ∀ a, pi = some a → a.block < w.heap.size ∧ (Value.slice p k c).ownBlock ≠ some a.block
theorem RowsTo.below {L : List (List Qm.St)} {B : Nat} {w w' : World} {k : Nat} {p : Option Addr} {c : Nat} (h : RowsTo L B w k p c) (hb : Below w.heap.size w w') : RowsTo L B w' k p c := by
  obtain ⟨xs, h1, h2⟩ := h
  refine ⟨xs, (Turns.of_below (F := fun _ => False) hb).own h1 fun _ _ h => h, fun i hi => ?_⟩
  obtain ⟨pi, ci, k1, k2, k3, k4⟩ := h2 i hi
  exact ⟨pi, ci, k1, k2.below hb, k3, fun a ha => ⟨Nat.lt_of_lt_of_le (k4 a ha).1 hb.size, (k4 a ha).2⟩⟩
/-- a row more -/
theorem RowsTo.more {L : List (List Qm.St)} {B : Nat} {w w' : World} {k : Nat} {p p' q : Option Addr} {c c' d : Nat} {xs : List Value} (h1 : w.ownsRow B 52 1 (.slice p k c) k xs)
    (h2 : ∀ i, i < k → ∃ pi ci, xs[i]? = some (.slice pi (rowAt L i).length ci) ∧ Rd w pi (stCells (rowAt L i)) ∧ (pi = none → ci = 0) ∧ ∀ a, pi = some a → a.block < w.heap.size ∧ (Value.slice p k c).ownBlock ≠ some a.block)
    (hq : Rd w q (stCells (rowAt L k))) (hqn : q = none → d = 0) (hqb : ∀ a, q = some a → a.block < w.heap.size ∧ (Value.slice p k c).ownBlock ≠ some a.block)
    (ho : w'.ownsRow B 52 1 (.slice p' (k + 1) c') (k + 1) (xs ++ [.slice q (rowAt L k).length d])) (hg : w.grownBy w' (Value.slice p k c).ownBlock)
    (hf : ∀ g, (Value.slice p' (k + 1) c').ownBlock = some g → (Value.slice p k c).ownBlock = some g ∨ w.heap.size ≤ g) : RowsTo L B w' (k + 1) p' c' := by
  have hx : xs.length = k := by have := h1.1; omega
  have ht := Turns.of_grown hg
  have key : ∀ (pi : Option Addr) (us : List Value), Rd w pi us → (∀ a, pi = some a → a.block < w.heap.size ∧ (Value.slice p k c).ownBlock ≠ some a.block) → Rd w' pi us ∧ ∀ a, pi = some a → a.block < w'.heap.size ∧ (Value.slice p' (k + 1) c').ownBlock ≠ some a.block := by
    intro pi us hr hb
    refine ⟨ht.rd hr fun a ha e => (hb a ha).2 e, fun a ha => ⟨Nat.lt_of_lt_of_le (hb a ha).1 ht.size, fun e => ?_⟩⟩
    rcases hf _ e with h | h
    · exact (hb a ha).2 h
    · have := (hb a ha).1; omega
  refine ⟨_, ho, fun i hi => ?_⟩
  by_cases e : i = k
  · subst e
    obtain ⟨r1, r2⟩ := key q _ hq hqb
    exact ⟨q, d, by rw [List.getElem?_append_right (by omega), hx]; simp, r1, hqn, r2⟩
  · obtain ⟨pi, ci, k1, k2, k3, k4⟩ := h2 i (by omega)
    obtain ⟨r1, r2⟩ := key pi _ k2 k4
    exact ⟨pi, ci, by rw [List.getElem?_append_left (by omega)]; exact k1, r1, k3, r2⟩
theorem RowsTo.rws {L : List (List Qm.St)} {B : Nat} {w : World} {p : Option Addr} {c : Nat} (h : RowsTo L B w L.length p c) : Rws w p L ∧ (p = none → c = 0) ∧ L.length ≤ c := by
  obtain ⟨xs, h1, h2⟩ := h
  obtain ⟨p', c', e, hrd, hnc, -, hpn, -⟩ := own_rd h1
  cases e
  refine ⟨fun h0 => ?_, hpn, hnc⟩
  obtain ⟨b, o, rfl, hc⟩ := hrd (by have := h1.1; omega)
  refine ⟨b, o, rfl, fun i hi => ?_⟩
  obtain ⟨pi, ci, k1, k2, k3, -⟩ := h2 i hi
  exact ⟨pi, ci, hc i _ k1, k2, k3⟩

/-- what Rows leaves -/
def Rowed (L : List (List Qm.St)) (w : World) (e : Ending) (w' : World) : Prop := ∃ p c, e = .returned (.slice p L.length c) ∧ Rws w' p L ∧ (p = none → c = 0) ∧ L.length ≤ c ∧ Below w.heap.size w w'

set_option maxRecDepth 100000 in
set_option maxHeartbeats 4000000 in
theorem rows_any (p : Option Addr) (cap : Nat) (L : List (List Qm.St)) (w : World) (h : Rws w p L) (hl : ∀ i, i < L.length → (rowAt L i).length ≤ 60) (hL : L.length ≤ 20) :
    Calls Try.prog 17 #[.slice p L.length cap] w (Rowed L w) := by
  obtain ⟨i0, hi, hz0, hz1, hz2⟩ := info_parts info_st
  obtain ⟨i1, ki, kz0, kz1, kz2⟩ := info_parts info_row
  have HW := Lib.hid h
  have HLL := Lib.hid hl
  clear h hl
  go_enter Try.func17, Try.ntmps17
  go_wp2
  go_loopw [3, 4] (fun v x wr => ∃ (k : Nat) (p' : Option Addr) (c' : Nat), k ≤ L.length ∧ x = .int .i64 (k : Int) ∧ v = .slice p' k c' ∧ RowsTo L w.heap.size wr k p' c' ∧ Below w.heap.size w wr) (fun _ x _ => L.length - (intOf x).toNat)
  case atStart => exact ⟨0, none, 0, Nat.zero_le _, rfl, rfl, ⟨[], World.ownsRow_nil _ _ _ _, fun i h => by omega⟩, Below.refl _ _⟩
  case round =>
    obtain ⟨k, p', c', hk, rfl, rfl, hR, hb⟩ := hrel
    have HRR := Lib.hid hR
    have HB := Lib.hid hb
    clear hR hb
    by_cases hlt : k < L.length
    · obtain ⟨b, o, rfl, hc⟩ := HW.out (by omega)
      obtain ⟨pi, ci, h1, hrd, hpn⟩ := hc k hlt
      have h1' : wr.cell? ⟨b, o + k, none⟩ = some (.slice pi (rowAt L k).length ci) := by rw [HB.out.cell (cell_lt h1)]; exact h1
      have hl60 := HLL.out k hlt
      have hbl : b < wr.heap.size := cell_lt h1'
      have hba : Below wr.heap.size wr (wr.alloc (.cells #[] 34)) := (Below.refl _ _).alloc (Nat.le_refl _) _
      have HBA := Lib.hid hba
      have HRD := Lib.hid ((hrd.below HB.out).below hba)
      have HPN := Lib.hid hpn
      have HO := Lib.hid (World.ownsRow_lit (base := wr.heap.size) (e := 34) (size := 2) wr #[] 0 (Nat.le_refl _) (by simp [maxLen]) (by simp))
      clear hc h1 hrd hpn hba
      go_wp2_with (at_builtin; refine wpList_append_k rfl (.tmp 12) _ 52 rfl wr.heap.size 34 i0 _ 2 16 Try.underlying52 hi hz0 hz1 (by decide) hz2 (by decide) rfl _ 0 [] rfl HO.out _ (rowAt L k).length ci (stCells (rowAt L k)) rfl (stCells_length _) HRD.out HPN.out stCells_one (by omega) (by simp) ?_)
      intro pa ca wa hoa hga _
      have hoa' : wa.ownsRow wr.heap.size 34 2 (.slice pa (rowAt L k).length ca) (rowAt L k).length (stCells (rowAt L k)) := by simpa using hoa
      have HBW := Lib.hid (HBA.out.grown hga (by simp) (fun k hk => by cases hk; exact Nat.le_refl _))
      obtain ⟨pa', ca', ea, hra, -, -, hna, hpa⟩ := own_rd hoa'
      obtain ⟨rfl, rfl⟩ : pa = pa' ∧ ca = ca' := by cases ea; exact ⟨rfl, rfl⟩
      have hbv : Below wa.heap.size wa (wa.alloc (.cells #[.slice pa (rowAt L k).length ca] 52)) := (Below.refl _ _).alloc (Nat.le_refl _) _
      have HRT := Lib.hid ((HRR.out.below HBW.out).below hbv)
      have HRA := Lib.hid (hra.below hbv)
      have HNA := Lib.hid hna
      have HPA := Lib.hid (show ∀ a, pa = some a → wr.heap.size ≤ a.block ∧ a.block < wa.heap.size from fun a ha => ⟨(hpa a ha).1, (hpa a ha).2.1⟩)
      have HBV := Lib.hid hbv
      have HVL := Lib.hid (rd_val wa (.slice pa (rowAt L k).length ca) 52)
      obtain ⟨xs, hxs, hxr⟩ := HRT.out
      have HXS := Lib.hid hxs
      have HXR := Lib.hid hxr
      have hsz1 : w.heap.size ≤ wa.heap.size + 1 := by have := HB.out.size; have := HBW.out.size; omega
      clear hoa hoa' hga ea hra hna hpa hbv hxs hxr
      go_wp2_with (at_builtin; refine wpList_append_k rfl (.tmp 11) _ 51 rfl w.heap.size 52 i1 _ 1 24 Try.underlying51 ki kz0 kz1 (by decide) kz2 (by decide) rfl _ k xs rfl HXS.out _ 1 1 [.slice pa (rowAt L k).length ca] rfl rfl HVL.out (fun e => by cases e) (by simp [Value.oneCell']) (by omega) (by simpa using hsz1) ?_)
      intro pb cb wb hob hgb hfb
      have HM := Lib.hid (RowsTo.more HXS.out HXR.out HRA.out HNA.out (fun a ha => ⟨by have := (HPA.out a ha).2; simp; omega, fun e => by
        have h1 := (HPA.out a ha).1
        obtain ⟨ys, hys, -⟩ := HRR.out
        have h2 := (World.ownsRow.lt hys a.block (by cases p' with | none => cases e | some q => exact e)).2
        omega⟩) hob hgb (fun g hg => by have hh := hfb g hg; simpa using hh))
      have HB2 := Lib.hid ((HB.out.trans ((HBW.out.trans (HBV.out.mono HBW.out.size)).mono HB.out.size)).grown hgb (by simpa using hsz1) (fun j hj => (World.ownsRow.lt HXS.out j hj).1))
      clear hob hgb hfb
      go_wp2
      go_roundw
      case rel => exact ⟨k + 1, pb, cb, by omega, by go_num, rfl, HM.out, HB2.out⟩
      case measure => simp [intOf]; omega
    · obtain rfl : k = L.length := by omega
      obtain ⟨r1, r2, r3⟩ := HRR.out.rws
      have HE := Lib.hid (show Rowed L w (.returned (.slice p' L.length c')) _ from ⟨p', c', rfl, r1, r2, r3, HB.out⟩)
      clear r1 r2 r3
      go_wp2
      go_ret
      exact HE.out

end Go.Proofs.Ytknjojmcjkpjiaa
