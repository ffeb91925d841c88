/-
  THE PROGRAM's Merge: slices.Grow, slices.Concat, and Merge: all stamps of all rows, rising, each once.
  No conditions but sizes.
-/
import Derived.Test.YtmenlfgfhnnmgaaQSort
namespace Go.Proofs.Ytmenlfgfhnnmgaa
open Go.RowKit

/-- row i of rows -/
def rowAt (L : List (List Qm.St)) (i : Nat) : List Qm.St := L.getD i []
/-- the slice (p, so many) reads as these rows -/
def Rws (w : World) (p : Option Addr) (L : List (List Qm.St)) : Prop :=
  0 < L.length → ∃ b o, p = some ⟨b, o, none⟩ ∧ ∀ i, i < L.length → ∃ pi ci, w.cell? ⟨b, o + i, none⟩ = some (.slice pi (rowAt L i).length ci) ∧ Rd w pi (stCells (rowAt L i)) ∧ (pi = none → ci = 0)
theorem Rws.below {w w' : World} {p : Option Addr} {L : List (List Qm.St)} (h : Rws w p L) (hb : Below w.heap.size w w') : Rws w' p L := fun h0 => by
  obtain ⟨b, o, rfl, hc⟩ := h h0
  refine ⟨b, o, rfl, fun i hi => ?_⟩
  obtain ⟨pi, ci, h1, h2, h3⟩ := hc i hi
  exact ⟨pi, ci, by rw [hb.cell (cell_lt h1)]; exact h1, h2.below hb, h3⟩
theorem Rws.base {B : Nat} {w w' : World} {p : Option Addr} {L : List (List Qm.St)} (h : Rws w p L) (hB : B = w.heap.size) (hb : Below B w w') : Rws w' p L := h.below (hB ▸ hb)
/-- all stamps of all rows -/
def flatL (L : List (List Qm.St)) : List Qm.St := L.flatten
/-- the stamps of the first k rows -/
def upTo (L : List (List Qm.St)) (k : Nat) : List Qm.St := (L.take k).flatten
theorem upTo_succ (L : List (List Qm.St)) (k : Nat) (h : k < L.length) : upTo L (k + 1) = upTo L k ++ rowAt L k := by
  unfold upTo rowAt
  rw [List.take_succ_eq_append_getElem h, List.flatten_append]
  simp [List.getD, h]
theorem upTo_all (L : List (List Qm.St)) : upTo L L.length = flatL L := by simp [upTo, flatL]
theorem upTo_le (L : List (List Qm.St)) (k : Nat) : (upTo L k).length ≤ (flatL L).length := by
  unfold flatL
  conv => rhs; rw [← List.take_append_drop k L, List.flatten_append, List.length_append]
  exact Nat.le_add_right _ _

theorem info_st : (Try.prog.info? 34).map (fun i => (i.zero, i.size, i.bytes)) = some (some (.agg #[.int .i64 0, .int .i64 0]), 2, 16) := by kernel_rfl

/-- what Grow of nil leaves -/
def Grew (w : World) (e : Ending) (w' : World) : Prop :=
  ∃ p c, e = .returned (.slice p 0 c) ∧ w'.ownsRow w.heap.size 34 2 (.slice p 0 c) 0 [] ∧ Below w.heap.size w w'
theorem grow_any (n : Nat) (w : World) (hn : n ≤ 5000) : Calls Try.prog 46 #[.slice none 0 0, .int .i64 (n : Int)] w (Grew w) := by
  obtain ⟨i0, hi, hz0, hz1, hz2⟩ := info_parts info_st
  rcases Nat.eq_zero_or_pos n with rfl | h0
  · have h := Any8.slices_Grow_room Try.growSt none 0 0 0 w (by omega) (by omega) (by omega) (by omega)
    change Calls Try.prog 46 _ _ _ at h
    refine h.mono ?_
    rintro e w' ⟨rfl, rfl⟩
    exact ⟨none, 0, rfl, World.ownsRow_nil _ _ _ _, Below.refl _ _⟩
  · have h := Any8.slices_Grow_grow Try.growSt i0 _ hi hz0 (by rw [hz1]; decide) none 0 0 n [] w (by omega) (by omega) (by rw [hz2]; omega) (by omega) (by simp) (fun _ => rfl) (fun a ha => by cases ha)
    change Calls Try.prog 46 _ _ _ at h
    refine h.mono ?_
    rintro e w' ⟨rfl, rfl⟩
    have hge := grownCap_ge w (0 + n) 0 34
    have hcm : grownCap w (0 + n) 0 34 ≤ maxLen := grownCap_le_maxLen w (0 + n) 0 34 (by unfold maxLen; omega)
    refine ⟨_, _, rfl, World.ownsRow_made w.drew _ _ (Nat.le_refl _) hcm ?_, (Below.refl _ _).drew.alloc (Nat.le_refl _) _⟩
    simp only [Array.size_append, List.size_toArray, List.length_nil, size_zeroCells]
    have e2 : (Value.agg #[.int .i64 0, .int .i64 0]).cells.size = 2 := rfl
    show _ = grownCap w (0 + n) 0 ((Try.growSt_ren).t 25) * 2
    have e3 : (Try.growSt_ren).t 25 = 34 := rfl
    rw [e2, e3]
    omega

/-- what Concat leaves -/
def Concated (L : List (List Qm.St)) (w : World) (e : Ending) (w' : World) : Prop :=
  ∃ p c, e = .returned (.slice p (flatL L).length c) ∧ w'.ownsRow w.heap.size 34 2 (.slice p (flatL L).length c) (flatL L).length (stCells (flatL L)) ∧ Below w.heap.size w w'

set_option maxRecDepth 100000 in
set_option maxHeartbeats 4000000 in
theorem concat_any (p : Option Addr) (cap : Nat) (L : List (List Qm.St)) (w : World) (h : Rws w p L) (hl : (flatL L).length ≤ 5000) (hL : L.length ≤ 5000) :
    Calls Try.prog 36 #[.slice p L.length cap] w (Concated L w) := by
  obtain ⟨i0, hi, hz0, hz1, hz2⟩ := info_parts info_st
  have HW := Lib.hid h
  clear h
  go_enter Try.func36, Try.ntmps36
  go_wp2
  go_loop [3, 11] (fun s i => ∃ k : Nat, k ≤ L.length ∧ i = .int .i64 (k : Int) ∧ s = .int .i64 ((upTo L k).length : Int)) (fun _ i => L.length - (intOf i).toNat)
  case atStart => exact ⟨0, Nat.zero_le _, rfl, rfl⟩
  case round =>
    obtain ⟨k, hk, rfl, rfl⟩ := hrel
    have hu := upTo_le L k
    by_cases hlt : k < L.length
    · obtain ⟨b, o, rfl, hc⟩ := HW.out (by omega)
      obtain ⟨pi, ci, c1, -, -⟩ := hc k hlt
      have hs := congrArg List.length (upTo_succ L k hlt)
      rw [List.length_append] at hs
      have hu2 := upTo_le L (k + 1)
      have HS := Lib.hid (show ((upTo L k).length : Int) + ((rowAt L k).length : Int) = ((upTo L (k + 1)).length : Int) by omega)
      have hb1 : (upTo L k).length + (rowAt L k).length ≤ 5000 := by omega
      have hneg : decide (((upTo L k).length : Int) + ((rowAt L k).length : Int) < 0) = false := decide_eq_false (by omega)
      clear hs hu hu2 hc
      go_wp2
      go_round
      case rel => exact ⟨k + 1, by omega, by go_num, by rw [HS.out]⟩
      case measure => simp [intOf]; omega
    · obtain rfl : k = L.length := by omega
      rw [upTo_all]
      have HG := Lib.hid (fun W => grow_any (flatL L).length W hl)
      clear hu
      go_wp2_with fail
      refine (HG.out _).mono ?_
      rintro e w1 ⟨p1, c1, rfl, ho1, hb1⟩
      have HST := Lib.hid (show w1.ownsRow w.heap.size 34 2 (.slice p1 0 c1) 0 [] ∧ Below w.heap.size w w1 from ⟨ho1, hb1⟩)
      clear ho1 hb1
      go_wp2
      go_loopw [6, 27] (fun v i wr => ∃ (k : Nat) (p' : Option Addr) (c' : Nat), k ≤ L.length ∧ i = .int .i64 (k : Int) ∧ v = .slice p' (upTo L k).length c' ∧ wr.ownsRow w.heap.size 34 2 (.slice p' (upTo L k).length c') (upTo L k).length (stCells (upTo L k)) ∧ Below w.heap.size w wr) (fun _ i _ => L.length - (intOf i).toNat)
      case atStart => exact ⟨0, p1, c1, Nat.zero_le _, rfl, rfl, HST.out.1, HST.out.2⟩
      case round =>
        obtain ⟨k, p', c', hk, rfl, rfl, ho, hb⟩ := hrel
        have HO := Lib.hid ho
        have HB := Lib.hid hb
        have hu := upTo_le L k
        clear ho hb
        by_cases hlt : k < L.length
        · have hrw := HW.out.below HB.out
          obtain ⟨b, o, rfl, hc⟩ := hrw (by omega)
          obtain ⟨pi, ci, c1, hrd, hpn⟩ := hc k hlt
          have HRD := Lib.hid hrd
          have HPN := Lib.hid hpn
          have hs := upTo_succ L k hlt
          have hs2 := congrArg List.length hs
          rw [List.length_append] at hs2
          have hu2 := upTo_le L (k + 1)
          have HS := Lib.hid hs
          have hb1 : (upTo L k).length + (rowAt L k).length ≤ 10000 := by omega
          have hBW : w.heap.size ≤ wr.heap.size := HB.out.size
          clear hs hs2 hu hu2 hc hrd hpn hrw
          go_wp2_with (at_builtin; refine wpList_append_k rfl _ _ 52 rfl w.heap.size 34 i0 _ 2 16 Try.underlying52 hi hz0 hz1 (by decide) hz2 (by decide) rfl _ (upTo L k).length (stCells (upTo L k)) rfl HO.out _ (rowAt L k).length ci (stCells (rowAt L k)) rfl (stCells_length _) HRD.out HPN.out stCells_one hb1 hBW ?_)
          intro p2 c2 w2 ho2 hg2 _
          have HO2 := Lib.hid (show w2.ownsRow w.heap.size 34 2 (.slice p2 (upTo L (k + 1)).length c2) (upTo L (k + 1)).length (stCells (upTo L (k + 1))) by
            rw [HS.out, List.length_append, stCells_append]; exact ho2)
          have HB2 := Lib.hid (HB.out.grown hg2 hBW (fun j hj => (World.ownsRow.lt HO.out j hj).1))
          have HSL := Lib.hid (show (upTo L k).length + (rowAt L k).length = (upTo L (k + 1)).length by rw [HS.out, List.length_append])
          clear ho2 hg2
          go_wp2
          go_roundw
          case rel => exact ⟨k + 1, p2, c2, by omega, by go_num, by rw [HSL.out], HO2.out, HB2.out⟩
          case measure => simp [intOf]; omega
        · obtain rfl : k = L.length := by omega
          rw [upTo_all] at HO
          rw [upTo_all]
          go_wp2
          go_ret
          exact ⟨p', c', rfl, HO.out, HB.out⟩

theorem compact_zero (p : Option Addr) (cap : Nat) (w : World) : Calls Try.prog 39 #[.slice p 0 cap] w fun e w' => e = .returned (.slice p 0 cap) ∧ w = w' := by
  go_enter Try.func39, Try.ntmps39
  go_wp2
  go_ret
  exact ⟨rfl, rfl⟩

theorem own_addr' {w : World} {B : Nat} {E : TypeId} {k : Nat} {p : Option Addr} {n c : Nat} {xs : List Value} (h : w.ownsRow B E k (.slice p n c) n xs) : p = none ∨ ∃ g, p = some ⟨g, 0, none⟩ := by
  rcases h.2 with ⟨h2, -⟩ | ⟨g, cap, cur, hv, -⟩
  · cases h2; exact Or.inl rfl
  · cases hv; exact Or.inr ⟨g, rfl⟩

/-- what Merge leaves: a new row M, rising, of all that there is -/
def Merged (L : List (List Qm.St)) (w : World) (e : Ending) (w' : World) : Prop :=
  ∃ p c M, e = .returned (.slice p M.length c) ∧ Rd w' p (stCells M) ∧ (p = none → c = 0) ∧ (∀ a, p = some a → w.heap.size ≤ a.block) ∧ Qm.Rising M ∧ (∀ x, x ∈ M ↔ x ∈ (flatL L)) ∧ M.length ≤ c ∧ Below w.heap.size w w'

set_option maxRecDepth 100000 in
set_option maxHeartbeats 2000000 in
theorem merge_any (p : Option Addr) (cap : Nat) (L : List (List Qm.St)) (w : World) (h : Rws w p L) (hl : (flatL L).length ≤ 5000) (hL : L.length ≤ 5000) :
    Calls Try.prog 18 #[.slice p L.length cap] w (Merged L w) := by
  have HC := Lib.hid (concat_any p cap L w h hl hL)
  clear h
  go_enter Try.func18, Try.ntmps18
  go_wp2_with fail
  refine HC.out.mono ?_
  rintro e w1 ⟨p1, c1, rfl, ho, hb⟩
  by_cases h0 : (flatL L).length = 0
  · have he : (flatL L) = [] := List.eq_nil_of_length_eq_zero h0
    have HE := Lib.hid (show Merged L w (.returned (.slice p1 0 c1)) w1 from ⟨p1, c1, [], rfl, Rd.nil _ _, by
        obtain ⟨p', c', e, -, -, -, h3, -⟩ := own_rd ho
        cases e; exact h3, fun a ha => (World.ownsRow.lt ho a.block (by rw [ha]; rfl)).1, by simp [Qm.Rising], by rw [he]; simp, Nat.zero_le _, hb⟩)
    rw [h0]
    have HN := Lib.hid (fun W => AnyF.slices_SortFunc_none (P := Try.prog) (ρ := Try.sortSt_ren) Try.sortSt p1 c1 (.func (.func 38) #[] #[]) W)
    change Hid (∀ W, Calls Try.prog 37 _ _ _) at HN
    have HZ := Lib.hid (fun W => compact_zero p1 c1 W)
    clear ho hb h0 he
    go_wp2_with fail
    refine (HN.out _).mono ?_
    rintro e w2 ⟨rfl, rfl⟩
    go_wp2_with fail
    refine (HZ.out _).mono ?_
    rintro e w2 ⟨rfl, rfl⟩
    go_wp2
    go_ret
    exact HE.out
  · obtain ⟨g, rfl⟩ : ∃ g, p1 = some ⟨g, 0, none⟩ := by
      rcases own_addr' ho with rfl | h
      · rcases ho.2 with ⟨-, h⟩ | ⟨g, cap, cur, hv, -⟩
        · exact absurd h h0
        · cases hv
      · exact h
    have HS := Lib.hid (sort_any w.heap.size g c1 (flatL L) w1 ho hl)
    have hcap : (flatL L).length ≤ c1 := by
      obtain ⟨p', c', e, -, h1, -⟩ := own_rd ho
      cases e; exact h1
    have hgb : w.heap.size ≤ g := (World.ownsRow.lt ho g rfl).1
    have HB := Lib.hid hb
    have HGB := Lib.hid hgb
    clear ho hb h0
    go_wp2_with fail
    refine HS.out.mono ?_
    rintro e w2 ⟨rfl, m, hp, hs, hcs, ht⟩
    have hml : m.length = (flatL L).length := hp.length_eq
    have C := compact_any g c1 m w2 hcs (by omega) (by omega)
    rw [hml] at C
    have HC2 := Lib.hid C
    have HM := Lib.hid (show Qm.Rising (Qm.cp m m.length) ∧ ∀ x, x ∈ Qm.cp m m.length ↔ x ∈ (flatL L) from by
      obtain ⟨r1, r2, -⟩ := Qm.cp_rising m hs m.length (Nat.le_refl _)
      exact ⟨r1, fun x => by rw [r2 x, List.take_length]; exact hp.mem_iff⟩)
    have HB2 := Lib.hid (HB.out.trans (ht.below (fun k _ hk => by subst hk; exact HGB.out) HB.out.size))
    have HML := Lib.hid hml
    clear hp hs hcs ht C hml
    go_wp2_with fail
    refine HC2.out.mono ?_
    rintro e w3 ⟨rfl, hr3, ht3⟩
    have HE := Lib.hid (show Merged L w (.returned (.slice (some ⟨g, 0, none⟩) (Qm.cp m m.length).length c1)) w3 from
      ⟨_, _, _, rfl, hr3, (fun e => by cases e), (fun a ha => by cases ha; exact HGB.out), HM.out.1, HM.out.2, Nat.le_trans (Qm.cp_length_le _ _) (by rw [HML.out]; exact hcap), HB2.out.trans (ht3.below (fun k _ hk => by subst hk; exact HGB.out) HB2.out.size)⟩)
    clear hr3 ht3
    go_wp2
    go_ret
    exact HE.out

end Go.Proofs.Ytmenlfgfhnnmgaa
