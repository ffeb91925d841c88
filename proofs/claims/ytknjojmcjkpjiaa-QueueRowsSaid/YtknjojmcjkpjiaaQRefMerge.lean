/-
  The document's Merge: each stamp of each row put into a rising row.
  No conditions but sizes.
-/
import Derived.Test.YtknjojmcjkpjiaaQWith
namespace Go.Proofs.Ytknjojmcjkpjiaa
open Go.RowKit

theorem rising_len' : ∀ {M F : List Qm.St}, Qm.Rising M → (∀ x, x ∈ M → x ∈ F) → M.length ≤ F.length
  | [], _, _, _ => Nat.zero_le _
  | a :: M, F, h, hs => by
    have h1 := List.pairwise_cons.1 h
    have ha : a ∈ F := hs a (by simp)
    have := rising_len' (M := M) (F := F.erase a) h1.2 fun x hx => (List.mem_erase_of_ne (fun e => by have := h1.1 x hx; rw [e] at this; exact Qm.ltS_irrefl a this)).2 (hs x (by simp [hx]))
    rw [List.length_erase_of_mem ha] at this
    have h0 : 0 < F.length := List.length_pos_of_mem ha
    simp only [List.length_cons]
    omega

/-- a rising row that reads in memory, of all that is in F -/
structure RowOf (w0 w : World) (p : Option Addr) (c : Nat) (M F : List Qm.St) : Prop where
  rd : Rd w p (stCells M)
  nil : p = none → c = 0
  rise : Qm.Rising M
  mem : ∀ x, x ∈ M ↔ x ∈ F
  cap : M.length ≤ c
  below : Below w0.heap.size w0 w
theorem RowOf.len {w0 w : World} {p : Option Addr} {c : Nat} {M F : List Qm.St} (h : RowOf w0 w p c M F) : M.length ≤ F.length := rising_len' h.rise fun x hx => (h.mem x).1 hx
theorem take_st {l : List Qm.St} {k : Nat} (h : k < l.length) : l.take (k + 1) = l.take k ++ [Qm.stOf l k] := by
  rw [List.take_succ_eq_append_getElem h, Qm.stOf_lt h]

/-- what the document's Merge leaves -/
def RMerged (L : List (List Qm.St)) (w : World) (e : Ending) (w' : World) : Prop := ∃ p c M, e = .returned (.slice p M.length c) ∧ RowOf w w' p c M (flatL L)

set_option maxRecDepth 100000 in
set_option maxHeartbeats 4000000 in
theorem refMerge_any (p : Option Addr) (cap : Nat) (L : List (List Qm.St)) (w : World) (h : Rws w p L) (hl : (flatL L).length ≤ 2000) (hL : L.length ≤ 5000) :
    Calls Try.prog 20 #[.slice p L.length cap] w (RMerged L w) := by
  have HW := Lib.hid h
  clear h
  go_enter Try.func20, Try.ntmps20
  go_wp2
  go_loopw [3, 4] (fun v x wr => ∃ (i : Nat) (p' : Option Addr) (c' : Nat) (M : List Qm.St), i ≤ L.length ∧ x = .int .i64 (i : Int) ∧ v = .slice p' M.length c' ∧ RowOf w wr p' c' M (upTo L i)) (fun _ x _ => L.length - (intOf x).toNat)
  case atStart => exact ⟨0, none, 0, [], Nat.zero_le _, rfl, rfl, Rd.nil _ _, fun _ => rfl, by simp [Qm.Rising], fun x => by simp [upTo], Nat.zero_le _, Below.refl _ _⟩
  case round =>
    obtain ⟨i, p', c', M, hi, rfl, rfl, hM⟩ := hrel
    have HM := Lib.hid hM
    clear hM
    by_cases hlt : i < L.length
    · have hrl : (upTo L i).length + (rowAt L i).length ≤ 2000 := by
        have h1 := congrArg List.length (upTo_succ L i hlt)
        rw [List.length_append] at h1
        have := upTo_le L (i + 1)
        omega
      have hi5 : i ≤ 5000 := by omega
      go_wp2
      go_loopw [3, 5] (fun v x wr2 => ∃ (k : Nat) (p' : Option Addr) (c' : Nat) (M : List Qm.St), k ≤ (rowAt L i).length ∧ x = .int .i64 (k : Int) ∧ v = .slice p' M.length c' ∧ RowOf w wr2 p' c' M (upTo L i ++ (rowAt L i).take k)) (fun _ x _ => (rowAt L i).length - (intOf x).toNat)
      case atStart => exact ⟨0, p', c', M, Nat.zero_le _, rfl, rfl, by rw [List.take_zero, List.append_nil]; exact HM.out⟩
      case round =>
        obtain ⟨k, p2, c2, N, hk, rfl, rfl, hN⟩ := hrel
        have HN := Lib.hid hN
        have hrw := HW.out.below hN.below
        have hNl := hN.len
        obtain ⟨b, o, rfl, hc⟩ := hrw (by omega)
        obtain ⟨pi, ci, h1, hrd, -⟩ := hc i hlt
        have hN2 : N.length ≤ 2000 := by
          rw [List.length_append, List.length_take] at hNl
          omega
        have hk5 : k ≤ 5000 := by omega
        clear hN hrw hc hNl
        by_cases hkl : k < (rowAt L i).length
        · obtain ⟨b2, o2, rfl, -⟩ := hrd.addr (by rw [stCells_length]; omega)
          obtain ⟨y0, y1⟩ := hrd.st k hkl
          have HTK := Lib.hid (take_st hkl)
          have HWI := Lib.hid (with_any p2 c2 N (Qm.stOf (rowAt L i) k).1 (Qm.stOf (rowAt L i) k).2 _ HN.out.rd HN.out.nil HN.out.cap HN.out.rise hN2)
          clear hrd
          go_wp2_with fail
          refine HWI.out.mono ?_
          rintro e w3 ⟨p3, c3, N3, rfl, q1, q2, q3, q4, q5, q6⟩
          have HN3 := Lib.hid (show RowOf w w3 p3 c3 N3 (upTo L i ++ (rowAt L i).take (k + 1)) from ⟨q1, q2, q3, fun x => by
            rw [q4 x, HN.out.mem x, HTK.out]
            simp only [List.mem_append, List.mem_singleton, or_assoc], q5, HN.out.below.trans (q6.mono HN.out.below.size)⟩)
          clear q1 q2 q3 q4 q5 q6
          go_wp2
          go_roundw
          case rel => exact ⟨k + 1, p3, c3, N3, by omega, by go_num, rfl, HN3.out⟩
          case measure => simp [intOf]; omega
        · obtain rfl : k = (rowAt L i).length := by omega
          have HN4 := Lib.hid (show RowOf w _ p2 c2 N (upTo L (i + 1)) by
            have h := HN.out
            rw [List.take_length, ← upTo_succ L i hlt] at h
            exact h)
          clear hrd
          go_wp2
          go_roundw
          case rel => exact ⟨i + 1, p2, c2, N, by omega, by go_num, rfl, HN4.out⟩
          case measure => simp [intOf]; omega
    · obtain rfl : i = L.length := by omega
      rw [upTo_all] at HM
      go_wp2
      go_ret
      exact ⟨p', c', M, rfl, HM.out⟩

end Go.Proofs.Ytknjojmcjkpjiaa
