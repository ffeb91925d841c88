/-
  slices.BinarySearchFunc at stamps, and Place: the program's and the document's.
  No conditions but sizes.
-/
import Derived.Test.YtmenlfgfhnnmgaaQPlace
import Derived.Deep.RegionHeld
namespace Go.Proofs.Ytmenlfgfhnnmgaa
open Go.RowKit

/-- nothing of w has turned -/
def Bel (w W : World) : Prop := Below w.heap.size w W
theorem Bel.start (w : World) : Bel w w.drew := (Below.refl _ _).drew
theorem Bel.get {w W : World} (h : Bel w W) {a : Addr} {v : Value} (hc : w.cell? a = some v) : W.cell? a = some v := by rw [Below.cell h (cell_lt hc)]; exact hc
theorem Bel.trans {w W W' : World} (h : Bel w W) (hb : Below W.heap.size W W') : Bel w W' := Below.trans h (hb.mono (Below.size h))

/-- n stand ahead of s in a rising row; is it there? -/
def Placed (l : List Qm.St) (s : Qm.St) (n : Nat) (b : Bool) : Prop :=
  n ≤ l.length ∧ (∀ i, i < n → Qm.ltS (Qm.stOf l i) s) ∧ (n < l.length → ¬ Qm.ltS (Qm.stOf l n) s) ∧ b = decide (n < l.length ∧ Qm.stOf l n = s)
/-- what Place answers -/
def PlaceR (l : List Qm.St) (s : Qm.St) (n : Nat) (b : Bool) : Prop := (Qm.Rising l ∧ Placed l s n b) ∨ (¬ Qm.Rising l ∧ n = 0 ∧ b = false)
theorem PlaceR.uniq {l : List Qm.St} {s : Qm.St} {n m : Nat} {b c : Bool} (h : PlaceR l s n b) (k : PlaceR l s m c) : n = m ∧ b = c := by
  rcases h with ⟨hr, h1, h2, h3, h4⟩ | ⟨hr, h1, h2⟩ <;> rcases k with ⟨kr, k1, k2, k3, k4⟩ | ⟨kr, k1, k2⟩
  · obtain rfl : n = m := Qm.place_uniq (l := l) (s := s) h1 k1 h2 h3 k2 k3
    exact ⟨rfl, h4.trans k4.symm⟩
  · exact absurd hr kr
  · exact absurd kr hr
  · exact ⟨h1.trans k1.symm, h2.trans k2.symm⟩
theorem rising_le {l : List Qm.St} (h : Qm.Rising l) {a b : Nat} (hab : a < b) (hb : b < l.length) : Qm.ltS (Qm.stOf l a) (Qm.stOf l b) := by
  rw [Qm.stOf_lt hb, Qm.stOf_lt (by omega)]
  exact (List.pairwise_iff_getElem.1 h) a b (by omega) hb hab

/-- an answer of a number and whether -/
def intB (n : Nat) (b : Bool) : Value := .tuple #[.int .i64 (n : Int), .bool b]

/-- in the search -/
structure SInv (l : List Qm.St) (s : Qm.St) (i j : Nat) : Prop where
  ij : i ≤ j
  jl : j ≤ l.length
  lo : ∀ a, a < i → Qm.ltS (Qm.stOf l a) s
  hi : ∀ a, j ≤ a → a < l.length → ¬ Qm.ltS (Qm.stOf l a) s
theorem SInv.up {l : List Qm.St} {s : Qm.St} {i j h : Nat} (k : SInv l s i j) (hr : Qm.Rising l) (h2 : h < j) (hl : Qm.ltS (Qm.stOf l h) s) : SInv l s (h + 1) j :=
  ⟨by omega, k.jl, fun a ha => by
    rcases Nat.lt_or_ge a h with e | e
    · exact Qm.ltS_trans (rising_le hr e (by have := k.jl; omega)) hl
    · obtain rfl : a = h := by omega
      exact hl, k.hi⟩
theorem SInv.down {l : List Qm.St} {s : Qm.St} {i j h : Nat} (k : SInv l s i j) (hr : Qm.Rising l) (h1 : i ≤ h) (h2 : h < j) (hl : ¬ Qm.ltS (Qm.stOf l h) s) : SInv l s i h :=
  ⟨h1, by have := k.jl; omega, k.lo, fun a ha hal => by
    rcases Nat.lt_or_ge h a with e | e
    · exact fun hc => hl (Qm.ltS_trans (rising_le hr e hal) hc)
    · obtain rfl : a = h := by omega
      exact hl⟩

def Searched (l : List Qm.St) (s : Qm.St) (w : World) (e : Ending) (w' : World) : Prop := ∃ n b, e = .returned (intB n b) ∧ Placed l s n b ∧ Below w.heap.size w w'

set_option maxRecDepth 100000 in
set_option maxHeartbeats 2000000 in
theorem search_any (p : Option Addr) (cap : Nat) (l : List Qm.St) (st sr : Int) (w : World) (h : Rd w p (stCells l)) (hr : Qm.Rising l) (hl : l.length ≤ 5000) :
    Calls Try.prog 41 #[.slice p l.length cap, .agg #[.int .i64 st, .int .i64 sr], .func (.func 38) #[] #[]] w (Searched l (st, sr) w) := by
  have HR := Lib.hid h
  have HRI := Lib.hid hr
  have HB0 := Lib.hid ((Below.refl w.heap.size w).alloc (Nat.le_refl _) (.cells #[.int .i64 st, .int .i64 sr] 34))
  clear h hr
  go_enter Try.func41, Try.ntmps41
  go_wp2
  go_loopw [9, 10] (fun x y wr => ∃ i j : Nat, x = .int .i64 (i : Int) ∧ y = .int .i64 (j : Int) ∧ SInv l (st, sr) i j ∧ Below (w.heap.size + 1) (w.alloc (.cells #[.int .i64 st, .int .i64 sr] 34)) wr) (fun x y _ => (intOf y).toNat - (intOf x).toNat)
  case atStart => exact ⟨0, l.length, rfl, rfl, ⟨Nat.zero_le _, Nat.le_refl _, fun a h => by omega, fun a h k => by omega⟩, Below.refl _ _⟩
  case round =>
    obtain ⟨i, j, rfl, rfl, hI, hb⟩ := hrel
    have HI := Lib.hid hI
    have HB := Lib.hid hb
    have hij := hI.ij
    have hjl := hI.jl
    have s0 := hb.cell (p := ⟨w.heap.size, 0, none⟩) (by simp)
    have s1 := hb.cell (p := ⟨w.heap.size, 1, none⟩) (by simp)
    rw [World.cell?_alloc_at _ _ _ _ rfl] at s0 s1
    have s0' : wr.cell? ⟨w.heap.size, 0, none⟩ = some (.int .i64 st) := s0
    have s1' : wr.cell? ⟨w.heap.size, 1, none⟩ = some (.int .i64 sr) := s1
    have hbw : Below w.heap.size w wr := HB0.out.trans (hb.mono (by omega))
    have hrd := HR.out.below hbw
    have HBW := Lib.hid hbw
    clear s0 s1 hI hb hbw
    by_cases hlt : i < j
    · obtain ⟨b, o, rfl, -⟩ := hrd.addr (by rw [stCells_length]; omega)
      obtain ⟨m, hm⟩ : ∃ m : Nat, m = (i + j) / 2 := ⟨_, rfl⟩
      have hm1 : i ≤ m := by omega
      have hm2 : m < j := by omega
      have hml : m < l.length := by omega
      obtain ⟨x0, x1⟩ := hrd.st m hml
      have hdiv : ((i : Int) + (j : Int)) / 2 = (m : Int) := by omega
      clear hrd hm
      have HC := Lib.hid (fun W => compare_any (Qm.stOf l m).1 (Qm.stOf l m).2 st sr W)
      by_cases hs : Qm.ltS (Qm.stOf l m) (st, sr)
      · have hv : cmpS (Qm.stOf l m).1 (Qm.stOf l m).2 st sr = -1 := cmpV_lt hs
        have HN := Lib.hid (HI.out.up HRI.out hm2 hs)
        rw [hv] at HC
        clear hv hs
        go_wp2
        go_region_with (go_at_call 38; refine (HC.out _).mono ?_; rintro e w' ⟨rfl, hbc⟩)
        all_goals
          have HB2 := Lib.hid (HB.out.trans (((Below.refl wr.heap.size wr).drew.trans hbc).mono (by have := HB.out.size; simp only [World.size_alloc] at this; omega)))
          clear hbc
          go_wp2
          go_roundw
          case rel => exact ⟨m + 1, j, by go_num, rfl, HN.out, HB2.out⟩
          case measure => simp [intOf]; omega
      · have HV := Lib.hid (show cmpS (Qm.stOf l m).1 (Qm.stOf l m).2 st sr = 0 ∨ cmpS (Qm.stOf l m).1 (Qm.stOf l m).2 st sr = 1 from by
          rcases Qm.ltS_tri (Qm.stOf l m) (st, sr) with h | h | h
          · exact absurd h hs
          · left; rw [h]; exact cmpV_eq (st, sr)
          · right; exact cmpV_gt h)
        have HN := Lib.hid (HI.out.down HRI.out hm1 hm2 hs)
        clear hs
        rcases HV.out with hv | hv
        all_goals
          rw [hv] at HC
          clear hv
          go_wp2
          go_region_with (go_at_call 38; refine (HC.out _).mono ?_; rintro e w' ⟨rfl, hbc⟩)
          all_goals
            have HB2 := Lib.hid (HB.out.trans (((Below.refl wr.heap.size wr).drew.trans hbc).mono (by have := HB.out.size; simp only [World.size_alloc] at this; omega)))
            clear hbc
            go_wp2
            go_roundw
            case rel => exact ⟨i, m, rfl, rfl, HN.out, HB2.out⟩
            case measure => simp [intOf]; omega
    · obtain rfl : i = j := by omega
      by_cases hlen : i < l.length
      · obtain ⟨b, o, rfl, -⟩ := hrd.addr (by rw [stCells_length]; omega)
        obtain ⟨x0, x1⟩ := hrd.st i hlen
        have HC := Lib.hid (fun W => compare_any (Qm.stOf l i).1 (Qm.stOf l i).2 st sr W)
        have HNL := Lib.hid (HI.out.hi i (Nat.le_refl _) hlen)
        have HPL := Lib.hid (show ∀ b, b = decide (Qm.stOf l i = (st, sr)) → Placed l (st, sr) i b from fun b hb => ⟨hjl, HI.out.lo, fun h => HI.out.hi i (Nat.le_refl _) h, by rw [hb]; simp [hlen]⟩)
        clear hrd
        rcases Qm.ltS_tri (Qm.stOf l i) (st, sr) with hv | hv | hv
        · exact absurd hv HNL.out
        · have HD := Lib.hid (HPL.out true (decide_eq_true hv).symm)
          have hc : cmpS (Qm.stOf l i).1 (Qm.stOf l i).2 st sr = 0 := by rw [hv]; exact cmpV_eq (st, sr)
          rw [hc] at HC
          clear hv hc
          go_wp2
          refine wp_region_held_drew (S := Bel wr) (by kernel_rfl) (Bel.start wr) (fun hS => ?_)
          refine wpAnyH_take (i := 0) (v := ?_) rfl (by kernel_rfl) (by kernel_rfl) (by kernel_rfl) (fun _ _ _ h => h) (Or.inl ⟨by kernel_rfl, ?_⟩) hS ?_
          rotate_left
          · intro W hSW
            go_simp
            all_goals with_reducible rfl
          refine wpAnyH_take (i := 1) (v := ?_) rfl (by kernel_rfl) (by kernel_rfl) (by kernel_rfl) (fun _ _ _ h => h) (Or.inl ⟨by kernel_rfl, ?_⟩) hS ?_
          rotate_left
          · intro W hSW
            go_simp
            all_goals with_reducible rfl
          refine wpAnyH_take (i := 2) (v := ?_) rfl (by kernel_rfl) (by kernel_rfl) (by kernel_rfl) (fun _ _ _ h => h) (Or.inl ⟨by kernel_rfl, ?_⟩) hS ?_
          rotate_left
          · intro W hSW
            go_simp
            all_goals with_reducible rfl
          refine wpAnyH_take (i := 3) (v := ?_) rfl (by kernel_rfl) (by kernel_rfl) (by kernel_rfl) (fun _ _ _ h => h) (Or.inl ⟨by kernel_rfl, ?_⟩) hS ?_
          rotate_left
          · intro W hSW
            go_simp
            all_goals with_reducible rfl
          refine wpAnyH_take (i := 4) (v := ?_) rfl (by kernel_rfl) (by kernel_rfl) (by kernel_rfl) (fun _ _ _ h => h) (Or.inl ⟨by kernel_rfl, ?_⟩) hS ?_
          rotate_left
          · intro W hSW
            go_simp
            all_goals with_reducible rfl
          refine wpAnyH_take (i := 5) (v := ?_) rfl (by kernel_rfl) (by kernel_rfl) (by kernel_rfl) (fun _ _ _ h => h) (Or.inl ⟨by kernel_rfl, ?_⟩) hS ?_
          rotate_left
          · intro W hSW
            go_simp
            all_goals with_reducible rfl
          refine wpAnyH_take (i := 6) (v := ?_) rfl (by kernel_rfl) (by kernel_rfl) (by kernel_rfl) (fun _ _ _ h => h) (Or.inl ⟨by kernel_rfl, ?_⟩) hS ?_
          rotate_left
          · intro W hSW
            go_simp
            all_goals with_reducible rfl
          refine wpAnyH_take (i := 7) (v := ?_) rfl (by kernel_rfl) (by kernel_rfl) (by kernel_rfl) (fun _ _ _ h => h) (Or.inl ⟨by kernel_rfl, ?_⟩) hS ?_
          rotate_left
          · intro W hSW
            go_simp
            all_goals with_reducible rfl
          refine wpAnyH_take (i := 8) (v := ?_) rfl (by kernel_rfl) (by kernel_rfl) (by kernel_rfl) (fun _ _ _ h => h) (Or.inl ⟨by kernel_rfl, ?_⟩) hS ?_
          rotate_left
          · intro W hSW
            go_simp
            all_goals with_reducible rfl
          refine wpAnyH_take (i := 9) (v := ?_) rfl (by kernel_rfl) (by kernel_rfl) (by kernel_rfl) (fun _ _ _ h => h) (Or.inl ⟨by kernel_rfl, ?_⟩) hS ?_
          rotate_left
          · intro W hSW
            have x0' := hSW.get x0
            have x1' := hSW.get x1
            go_simp
            all_goals with_reducible rfl
          refine wpAnyH_take (i := 10) (v := ?_) rfl (by kernel_rfl) (by kernel_rfl) (by kernel_rfl) (fun _ _ _ h => h) (Or.inl ⟨by kernel_rfl, ?_⟩) hS ?_
          rotate_left
          · intro W hSW
            have s0'' := hSW.get s0'
            have s1'' := hSW.get s1'
            go_simp
            all_goals with_reducible rfl
          refine wpAnyH_ready (rs := [11]) (by kernel_rfl) (by simp) ?_
          refine AllReadyH.cons rfl (fun K hK => ?_) AllReadyH.nil
          go_simp
          go_wp2_with ((go_at_call 38; refine (HC.out _).mono ?_; rintro e wn ⟨rfl, hbn⟩))
          refine hK.out _ _ (hS.trans hbn) (fun hS => ?_)
          clear hK K
          refine wpAnyH_take (i := 12) (v := ?_) rfl (by kernel_rfl) (by kernel_rfl) (by kernel_rfl) (fun _ _ _ h => h) (Or.inl ⟨by kernel_rfl, ?_⟩) hS ?_
          rotate_left
          · intro W hSW
            go_simp
            all_goals with_reducible rfl
          refine wpAnyH_take (i := 13) (v := ?_) rfl (by kernel_rfl) (by kernel_rfl) (by kernel_rfl) (fun _ _ _ h => h) (Or.inl ⟨by kernel_rfl, ?_⟩) hS ?_
          rotate_left
          · intro W hSW
            go_simp
            all_goals with_reducible rfl
          refine wpAnyH_take (i := 14) (v := ?_) rfl (by kernel_rfl) (by kernel_rfl) (by kernel_rfl) (fun _ _ _ h => h) (Or.inl ⟨by kernel_rfl, ?_⟩) hS ?_
          rotate_left
          · intro W hSW
            go_simp
            all_goals with_reducible rfl
          refine wpAnyH_take (i := 15) (v := ?_) rfl (by kernel_rfl) (by kernel_rfl) (by kernel_rfl) (fun _ _ _ h => h) (Or.inl ⟨by kernel_rfl, ?_⟩) hS ?_
          rotate_left
          · intro W hSW
            go_simp
            all_goals with_reducible rfl
          refine wpAnyH_done (by kernel_rfl) ?_ _
          have HB2 := Lib.hid (HBW.out.trans (Below.mono hS HBW.out.size))
          clear hS hbn
          go_simp
          go_wp2
          go_ret2
          exact ⟨i, true, rfl, HD.out, HB2.out⟩
        · have HD := Lib.hid (HPL.out false (by rw [decide_eq_false]; intro e; rw [e] at hv; exact Qm.ltS_irrefl _ hv))
          have hc : cmpS (Qm.stOf l i).1 (Qm.stOf l i).2 st sr = 1 := cmpV_gt hv
          rw [hc] at HC
          clear hv hc
          go_wp2
          refine wp_region_held_drew (S := Bel wr) (by kernel_rfl) (Bel.start wr) (fun hS => ?_)
          refine wpAnyH_take (i := 0) (v := ?_) rfl (by kernel_rfl) (by kernel_rfl) (by kernel_rfl) (fun _ _ _ h => h) (Or.inl ⟨by kernel_rfl, ?_⟩) hS ?_
          rotate_left
          · intro W hSW
            go_simp
            all_goals with_reducible rfl
          refine wpAnyH_take (i := 1) (v := ?_) rfl (by kernel_rfl) (by kernel_rfl) (by kernel_rfl) (fun _ _ _ h => h) (Or.inl ⟨by kernel_rfl, ?_⟩) hS ?_
          rotate_left
          · intro W hSW
            go_simp
            all_goals with_reducible rfl
          refine wpAnyH_take (i := 2) (v := ?_) rfl (by kernel_rfl) (by kernel_rfl) (by kernel_rfl) (fun _ _ _ h => h) (Or.inl ⟨by kernel_rfl, ?_⟩) hS ?_
          rotate_left
          · intro W hSW
            go_simp
            all_goals with_reducible rfl
          refine wpAnyH_take (i := 3) (v := ?_) rfl (by kernel_rfl) (by kernel_rfl) (by kernel_rfl) (fun _ _ _ h => h) (Or.inl ⟨by kernel_rfl, ?_⟩) hS ?_
          rotate_left
          · intro W hSW
            go_simp
            all_goals with_reducible rfl
          refine wpAnyH_take (i := 4) (v := ?_) rfl (by kernel_rfl) (by kernel_rfl) (by kernel_rfl) (fun _ _ _ h => h) (Or.inl ⟨by kernel_rfl, ?_⟩) hS ?_
          rotate_left
          · intro W hSW
            go_simp
            all_goals with_reducible rfl
          refine wpAnyH_take (i := 5) (v := ?_) rfl (by kernel_rfl) (by kernel_rfl) (by kernel_rfl) (fun _ _ _ h => h) (Or.inl ⟨by kernel_rfl, ?_⟩) hS ?_
          rotate_left
          · intro W hSW
            go_simp
            all_goals with_reducible rfl
          refine wpAnyH_take (i := 6) (v := ?_) rfl (by kernel_rfl) (by kernel_rfl) (by kernel_rfl) (fun _ _ _ h => h) (Or.inl ⟨by kernel_rfl, ?_⟩) hS ?_
          rotate_left
          · intro W hSW
            go_simp
            all_goals with_reducible rfl
          refine wpAnyH_take (i := 7) (v := ?_) rfl (by kernel_rfl) (by kernel_rfl) (by kernel_rfl) (fun _ _ _ h => h) (Or.inl ⟨by kernel_rfl, ?_⟩) hS ?_
          rotate_left
          · intro W hSW
            go_simp
            all_goals with_reducible rfl
          refine wpAnyH_take (i := 8) (v := ?_) rfl (by kernel_rfl) (by kernel_rfl) (by kernel_rfl) (fun _ _ _ h => h) (Or.inl ⟨by kernel_rfl, ?_⟩) hS ?_
          rotate_left
          · intro W hSW
            go_simp
            all_goals with_reducible rfl
          refine wpAnyH_take (i := 9) (v := ?_) rfl (by kernel_rfl) (by kernel_rfl) (by kernel_rfl) (fun _ _ _ h => h) (Or.inl ⟨by kernel_rfl, ?_⟩) hS ?_
          rotate_left
          · intro W hSW
            have x0' := hSW.get x0
            have x1' := hSW.get x1
            go_simp
            all_goals with_reducible rfl
          refine wpAnyH_take (i := 10) (v := ?_) rfl (by kernel_rfl) (by kernel_rfl) (by kernel_rfl) (fun _ _ _ h => h) (Or.inl ⟨by kernel_rfl, ?_⟩) hS ?_
          rotate_left
          · intro W hSW
            have s0'' := hSW.get s0'
            have s1'' := hSW.get s1'
            go_simp
            all_goals with_reducible rfl
          refine wpAnyH_ready (rs := [11]) (by kernel_rfl) (by simp) ?_
          refine AllReadyH.cons rfl (fun K hK => ?_) AllReadyH.nil
          go_simp
          go_wp2_with ((go_at_call 38; refine (HC.out _).mono ?_; rintro e wn ⟨rfl, hbn⟩))
          refine hK.out _ _ (hS.trans hbn) (fun hS => ?_)
          clear hK K
          refine wpAnyH_take (i := 12) (v := ?_) rfl (by kernel_rfl) (by kernel_rfl) (by kernel_rfl) (fun _ _ _ h => h) (Or.inl ⟨by kernel_rfl, ?_⟩) hS ?_
          rotate_left
          · intro W hSW
            go_simp
            all_goals with_reducible rfl
          refine wpAnyH_take (i := 13) (v := ?_) rfl (by kernel_rfl) (by kernel_rfl) (by kernel_rfl) (fun _ _ _ h => h) (Or.inl ⟨by kernel_rfl, ?_⟩) hS ?_
          rotate_left
          · intro W hSW
            go_simp
            all_goals with_reducible rfl
          refine wpAnyH_take (i := 14) (v := ?_) rfl (by kernel_rfl) (by kernel_rfl) (by kernel_rfl) (fun _ _ _ h => h) (Or.inl ⟨by kernel_rfl, ?_⟩) hS ?_
          rotate_left
          · intro W hSW
            go_simp
            all_goals with_reducible rfl
          refine wpAnyH_take (i := 15) (v := ?_) rfl (by kernel_rfl) (by kernel_rfl) (by kernel_rfl) (fun _ _ _ h => h) (Or.inl ⟨by kernel_rfl, ?_⟩) hS ?_
          rotate_left
          · intro W hSW
            go_simp
            all_goals with_reducible rfl
          refine wpAnyH_done (by kernel_rfl) ?_ _
          have HB2 := Lib.hid (HBW.out.trans (Below.mono hS HBW.out.size))
          clear hS hbn
          go_simp
          go_wp2
          go_ret2
          exact ⟨i, false, rfl, HD.out, HB2.out⟩
      · obtain rfl : i = l.length := by omega
        have HD := Lib.hid (show Placed l (st, sr) l.length false from ⟨Nat.le_refl _, HI.out.lo, fun h => absurd h (Nat.lt_irrefl _), by simp⟩)
        clear hrd
        go_wp2
        go_region
        go_wp2
        go_ret2
        exact ⟨l.length, false, rfl, HD.out, HBW.out.drew⟩

/-- what Place leaves -/
def Places (l : List Qm.St) (s : Qm.St) (w : World) (e : Ending) (w' : World) : Prop := ∃ n b, e = .returned (intB n b) ∧ PlaceR l s n b ∧ Below w.heap.size w w'

set_option maxRecDepth 100000 in
set_option maxHeartbeats 2000000 in
theorem place_any (p : Option Addr) (cap : Nat) (l : List Qm.St) (st sr : Int) (w : World) (h : Rd w p (stCells l)) (hl : l.length ≤ 5000) :
    Calls Try.prog 21 #[.slice p l.length cap, .agg #[.int .i64 st, .int .i64 sr]] w (Places l (st, sr) w) := by
  have hb0 := (Below.refl w.heap.size w).alloc (Nat.le_refl _) (.cells #[.int .i64 st, .int .i64 sr] 34)
  have HB0 := Lib.hid hb0
  have HRD := Lib.hid (h.below hb0)
  have HRI := Lib.hid (rising_any p cap l _ (h.below hb0) hl)
  clear h hb0
  by_cases hr : Qm.Rising l
  · rw [decide_eq_true hr] at HRI
    have HR := Lib.hid hr
    clear hr
    go_enter Try.func21, Try.ntmps21
    go_wp2_with fail
    refine HRI.out.mono ?_
    rintro e w1 ⟨rfl, hb1⟩
    have HS := Lib.hid (search_any p cap l st sr w1 (HRD.out.below hb1) HR.out hl)
    have HB1 := Lib.hid (HB0.out.trans (hb1.mono (by simp)))
    have s0 := hb1.cell (p := ⟨w.heap.size, 0, none⟩) (by simp)
    have s1 := hb1.cell (p := ⟨w.heap.size, 1, none⟩) (by simp)
    rw [World.cell?_alloc_at _ _ _ _ rfl] at s0 s1
    have s0' : w1.cell? ⟨w.heap.size, 0, none⟩ = some (.int .i64 st) := s0
    have s1' : w1.cell? ⟨w.heap.size, 1, none⟩ = some (.int .i64 sr) := s1
    clear hb1 s0 s1
    go_wp2_with fail
    refine HS.out.mono ?_
    rintro e w2 ⟨n, b, rfl, hp, hb2⟩
    have HE := Lib.hid (show Places l (st, sr) w (.returned (intB n b)) w2 from ⟨n, b, rfl, Or.inl ⟨HR.out, hp⟩, HB1.out.trans (hb2.mono HB1.out.size)⟩)
    clear hp hb2
    unfold intB
    go_wp2
    go_ret2
    exact HE.out
  · rw [decide_eq_false hr] at HRI
    have HR := Lib.hid hr
    clear hr
    go_enter Try.func21, Try.ntmps21
    go_wp2_with fail
    refine HRI.out.mono ?_
    rintro e w1 ⟨rfl, hb1⟩
    have HE := Lib.hid (show Places l (st, sr) w (.returned (intB 0 false)) w1 from ⟨0, false, rfl, Or.inr ⟨HR.out, rfl, rfl⟩, HB0.out.trans (hb1.mono (by simp))⟩)
    clear hb1
    go_wp2
    go_ret2
    exact HE.out

end Go.Proofs.Ytmenlfgfhnnmgaa
