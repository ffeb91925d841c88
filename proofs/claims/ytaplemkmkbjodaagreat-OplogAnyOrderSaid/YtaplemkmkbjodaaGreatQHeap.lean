/-
  heap.Init, heap.Push, heap.Pop over a pointer to items.
  No conditions but sizes.
-/
import Derived.Test.YtaplemkmkbjodaaGreatQPush
namespace Go.Proofs.YtaplemkmkbjodaaGreat
open Go.RowKit

/-- the blocks of a row -/
def inRow (p : Option Addr) (k : Nat) : Prop := ∃ a, p = some a ∧ a.block = k

def Inited (c : Nat) (p : Option Addr) (cap : Nat) (d : List Qm.It) (w : World) (e : Ending) (w' : World) : Prop :=
  e = .returned (.tuple #[]) ∧ ∃ d', HQ w' c p cap d' ∧ d'.Perm d ∧ Qm.HeapF d' d'.length 0 ∧ Turns (inRow p) w w'

set_option maxRecDepth 100000 in
set_option maxHeartbeats 4000000 in
theorem init_any (c : Nat) (p : Option Addr) (cap : Nat) (d : List Qm.It) (w : World) (h : HQ w c p cap d) :
    Calls Tryz.prog 79 #[.iface 140 (.pointer (some ⟨c, 0, none⟩))] w (Inited c p cap d w) := by
  have ml := meth_len h.cell
  have hl2 := h.len
  by_cases h2 : d.length < 2
  · have HE := Lib.hid (show Inited c p cap d w (.returned (.tuple #[])) w from ⟨rfl, d, h, List.Perm.refl _, Qm.HeapF.none (by omega), Turns.refl _ _⟩)
    have hq : (d.length : Int) / 2 - 1 = -1 := by omega
    have hq2 : (d.length : Int) / 2 = 0 := by omega
    have HL := Lib.hid (fun W => qitems_len p d.length cap W)
    clear h
    go_enter Tryz.func79, Tryz.ntmps79
    go_wp2_with fail
    refine (HL.out _).mono ?_
    rintro e w1 ⟨rfl, rfl⟩
    go_wp2
    refine wp_loop_rounds 1 ?_
    rw [rounds_succ]
    go_wp2
    go_end0
    exact HE.out
  · obtain ⟨g, rfl, hr⟩ := h.hr (by omega)
    obtain ⟨s, hs⟩ : ∃ s : Nat, s = d.length / 2 := ⟨_, rfl⟩
    have hq2 : (d.length : Int) / 2 = (s : Int) := by omega
    have hs1 : 1 ≤ s := by omega
    have hs2 : s ≤ 2000 := by omega
    have HS := Lib.hid (show HR w c g cap d ∧ d.Perm d ∧ Qm.HeapF d d.length s ∧ Turns (fun k => k = g) w w from ⟨hr, List.Perm.refl _, Qm.HeapF.none (by omega), Turns.refl _ _⟩)
    have HSD := Lib.hid hs
    have HL := Lib.hid (fun W => qitems_len (some ⟨g, 0, none⟩) d.length cap W)
    clear h hr hs
    go_enter Tryz.func79, Tryz.ntmps79
    go_wp2_with fail
    refine (HL.out _).mono ?_
    rintro e w1 ⟨rfl, rfl⟩
    clear ml
    go_wp2
    go_loopw [3] (fun x wr => ∃ (i : Int) (d' : List Qm.It), x = .int .i64 i ∧ -1 ≤ i ∧ i < (s : Int) ∧ (HR wr c g cap d' ∧ d'.Perm d ∧ Qm.HeapF d' d.length (i + 1).toNat ∧ Turns (fun k => k = g) w wr)) (fun x _ => ((intOf x) + 1).toNat)
    case atStart => exact ⟨(s : Int) - 1, d, rfl, by omega, by omega, by rw [show ((s : Int) - 1 + 1).toNat = s from by omega]; exact HS.out⟩
    case round =>
      obtain ⟨i, d', rfl, hi1, hi2, hR⟩ := hrel
      have HR0 := Lib.hid hR
      clear hR
      by_cases h0 : 0 ≤ i
      · obtain ⟨m, rfl⟩ : ∃ m : Nat, i = (m : Int) := ⟨i.toNat, by omega⟩
        have hm : m < s := by omega
        have hm2 : 2 * m + 1 < d.length := by have := HSD.out; omega
        have D := down_any c g cap d' m d.length wr HR0.out.1 (by rw [HR0.out.2.1.length_eq]; exact Nat.le_refl _) (by omega) (Qm.DownI.init (by have := HR0.out.2.2.1; rwa [show ((m : Int) + 1).toNat = m + 1 from by omega] at this))
        have HD := Lib.hid D
        clear D hi1 h0
        go_wp2_with fail
        refine HD.out.mono ?_
        rintro e w2 ⟨b, d2, rfl, q1, q2, -, q4, q5⟩
        have HR2 := Lib.hid (show HR w2 c g cap d2 ∧ d2.Perm d ∧ Qm.HeapF d2 d.length m ∧ Turns (fun k => k = g) w w2 from ⟨q1, q2.trans HR0.out.2.1, q4, turns_more HR0.out.2.2.2 q5⟩)
        clear q1 q2 q4 q5
        go_wp2
        go_roundw
        case rel => exact ⟨(m : Int) - 1, d2, rfl, by omega, by omega, by rw [show ((m : Int) - 1 + 1).toNat = m from by omega]; exact HR2.out⟩
        case measure => simp [intOf]
      · obtain rfl : i = -1 := by omega
        go_wp2
        go_end0
        refine ⟨rfl, d', HR0.out.1.hq, HR0.out.2.1, ?_, HR0.out.2.2.2.mono fun k _ hk => ⟨_, rfl, hk.symm⟩⟩
        rw [HR0.out.2.1.length_eq]
        exact HR0.out.2.2.1

/-- heap.Push -/
def HPushed (c : Nat) (p : Option Addr) (d : List Qm.It) (w : World) (e : Ending) (w' : World) : Prop :=
  e = .returned (.tuple #[]) ∧ ∃ p' cap' d', HQ w' c p' cap' d' ∧ d'.Perm d ∧ Qm.HeapF d' d'.length 0 ∧ Turns (fun k => k = c ∨ inRow p k) w w' ∧ (∀ a, p' = some a → p = some a ∨ (w.heap.size ≤ a.block ∧ a.block < w'.heap.size))

set_option maxRecDepth 100000 in
set_option maxHeartbeats 4000000 in
theorem hpush_any (c : Nat) (p : Option Addr) (cap : Nat) (d : List Qm.It) (t r k : Int) (w : World) (h : HQ w c p cap d) (hd : Qm.HeapF d d.length 0) (hl : d.length < 2000) :
    Calls Tryz.prog 103 #[.iface 140 (.pointer (some ⟨c, 0, none⟩)), .iface 115 (.agg #[.int .i64 t, .int .i64 r, .int .i64 k])] w (HPushed c p (d ++ [((t, r), k)]) w) := by
  have mp := meth_push c w
  have HP := Lib.hid (ipush_any c p cap d t r k w h hl)
  have HD := Lib.hid hd
  have hln : (d ++ [((t, r), k)]).length = d.length + 1 := by simp
  have hit : Qm.HeapF (d ++ [((t, r), k)]) d.length 0 := hd.congr fun j hj => Qm.itAt_append hj
  have HI := Lib.hid (Qm.UpI.start hit)
  clear h hd hit
  generalize d ++ [((t, r), k)] = D at *
  have HLN := Lib.hid hln
  clear hln
  go_enter Tryz.func103, Tryz.ntmps103
  go_wp2_with fail
  refine HP.out.mono ?_
  rintro e w1 ⟨rfl, p1, cap1, hq, ht, hp⟩
  obtain ⟨g, rfl, hr⟩ := hq.hr (by have := HLN.out; omega)
  have ml := meth_len hr.cell
  have HL := Lib.hid (fun W => qitems_len (some ⟨g, 0, none⟩) D.length cap1 W)
  have hl1 : (D.length : Int) - 1 = (d.length : Int) := by have := HLN.out; omega
  have HU1 := Lib.hid (up_any c g cap1 D d.length w1 hr (by have := HLN.out; omega) (by rw [HLN.out]; exact HI.out))
  have HT := Lib.hid ht
  have HPP := Lib.hid hp
  have hlD : D.length ≤ 2000 := hr.len
  clear hq hr ht hp mp
  go_wp2_with fail
  refine (HL.out _).mono ?_
  rintro e w2 ⟨rfl, rfl⟩
  go_wp2_with fail
  refine HU1.out.mono ?_
  rintro e w3 ⟨rfl, d', q1, q2, q3, q4⟩
  have HE := Lib.hid (show HPushed c p D w (.returned (.tuple #[])) w3 from ⟨rfl, _, _, d', q1.hq, q2, q3, HT.out.trans (q4.mono fun j _ hj => by
      subst hj
      rcases HPP.out _ rfl with h1 | h1
      · exact Or.inl (Or.inr ⟨_, h1, rfl⟩)
      · exact Or.inr h1), fun a ha => by
      rcases HPP.out a ha with h1 | h1
      · exact Or.inl h1
      · cases ha; exact Or.inr ⟨h1, q1.lt.2⟩⟩)
  clear q1 q2 q3 q4
  go_wp2
  go_end0
  exact HE.out

/-- heap.Pop -/
def HPopped (c g cap : Nat) (d : List Qm.It) (w : World) (e : Ending) (w' : World) : Prop :=
  e = .returned (.iface 115 (.agg #[.int .i64 (Qm.itAt d 0).1.1, .int .i64 (Qm.itAt d 0).1.2, .int .i64 (Qm.itAt d 0).2])) ∧ ∃ d', HQ w' c (some ⟨g, 0, none⟩) cap d' ∧ (Qm.itAt d 0 :: d').Perm d ∧ Qm.HeapF d' d'.length 0 ∧ Turns (fun k => k = c ∨ k = g) w w'

theorem down_start {d : List Qm.It} {n : Nat} (hd : Qm.HeapF d d.length 0) (hn : d.length = n + 1) : Qm.DownI (Qm.sw d 0 n) n 0 0 := by
  have A := Qm.sw_at (d := d) (i := 0) (j := n) (by omega) (by omega)
  refine ⟨fun k h0 hk _ hne => ?_, fun k _ _ _ h0 _ => absurd h0 (Nat.lt_irrefl 0)⟩
  rw [A k, A ((k - 1) / 2), if_neg (by omega), if_neg (by omega), if_neg (by omega), if_neg hne]
  exact hd k h0 (by omega) (Nat.zero_le _)
theorem pop_perm {d d2 : List Qm.It} {n : Nat} (hn : d.length = n + 1) (hp : d2.Perm (Qm.sw d 0 n)) (ht : Qm.itAt d2 n = Qm.itAt (Qm.sw d 0 n) n) : d2.length = n + 1 ∧ Qm.itAt d2 n = Qm.itAt d 0 ∧ (Qm.itAt d 0 :: d2.take n).Perm d := by
  have hl : d2.length = n + 1 := by rw [hp.length_eq, Qm.sw_length]; exact hn
  have hi : Qm.itAt d2 n = Qm.itAt d 0 := by rw [ht, Qm.sw_at (by omega) (by omega), if_pos rfl]
  have hd := Qm.take_last d2 (by omega)
  rw [show d2.length - 1 = n from by omega, hi] at hd
  refine ⟨hl, hi, ?_⟩
  have h1 : (Qm.itAt d 0 :: d2.take n).Perm (d2.take n ++ [Qm.itAt d 0]) := (List.perm_append_comm (l₁ := [Qm.itAt d 0]) (l₂ := d2.take n))
  rw [hd] at h1
  exact h1.trans (hp.trans (Qm.sw_perm (by omega) (by omega)))

set_option maxRecDepth 100000 in
set_option maxHeartbeats 4000000 in
theorem hpop_any (c g cap : Nat) (d : List Qm.It) (w : World) (h : HR w c g cap d) (hd : Qm.HeapF d d.length 0) (h0 : 0 < d.length) :
    Calls Tryz.prog 83 #[.iface 140 (.pointer (some ⟨c, 0, none⟩))] w (HPopped c g cap d w) := by
  obtain ⟨n, hn⟩ : ∃ n : Nat, d.length = n + 1 := ⟨d.length - 1, by omega⟩
  have hn1 : (d.length : Int) - 1 = (n : Int) := by omega
  have hn2 : n ≤ 2000 := by have := h.len; omega
  have ml := meth_len h.cell
  have ms := meth_swap h.cell
  have HL := Lib.hid (fun W => qitems_len (some ⟨g, 0, none⟩) d.length cap W)
  have HS := Lib.hid (swap_any c g cap d 0 n w h (by omega) (by omega))
  have HDS := Lib.hid (down_start hd hn)
  have HN := Lib.hid hn
  have hl2 := h.len
  clear h hd hn h0
  go_enter Tryz.func83, Tryz.ntmps83
  go_wp2_with fail
  refine (HL.out _).mono ?_
  rintro e w1 ⟨rfl, rfl⟩
  go_wp2_with fail
  refine HS.out.mono ?_
  rintro e w2 ⟨rfl, hr2, ht2⟩
  have HT2 := Lib.hid ht2
  have HD := Lib.hid (down_any c g cap (Qm.sw d 0 n) 0 n w2 hr2 (by rw [Qm.sw_length]; have := HN.out; omega) (Nat.zero_le _) HDS.out)
  clear hr2 ht2 ml ms
  go_wp2_with fail
  refine HD.out.mono ?_
  rintro e w3 ⟨b, d2, rfl, q1, q2, q3, q4, q5⟩
  obtain ⟨p1, p2, p3⟩ := pop_perm HN.out q2 (q3 n (Nat.le_refl _))
  have mp := meth_pop c w3
  have P := ipop_any c g cap d2 w3 q1 (by omega)
  unfold Popped at P
  rw [show d2.length - 1 = n from by omega, p2] at P
  have HP := Lib.hid P
  have HT3 := Lib.hid (turns_more HT2.out q5)
  have HF := Lib.hid (show Qm.HeapF (d2.take n) (d2.take n).length 0 by
    rw [List.length_take, Nat.min_eq_left (by omega)]
    exact q4.congr fun k hk => Qm.itAt_take hk)
  have HPM := Lib.hid p3
  clear q1 q2 q3 q4 q5 p1 p2 p3 P
  go_wp2_with fail
  refine HP.out.mono ?_
  rintro e w4 ⟨rfl, hr4, ht4⟩
  have HE := Lib.hid (show HPopped c g cap d w _ w4 from ⟨rfl, d2.take n, hr4.hq, HPM.out, HF.out, (HT3.out.mono fun k _ hk => Or.inr hk).trans (ht4.mono fun k _ hk => Or.inl (Or.inl hk))⟩)
  clear hr4 ht4
  go_wp2
  go_ret
  exact HE.out

end Go.Proofs.YtaplemkmkbjodaaGreat
