/-
  WHERE AN OP's PLACE IS: find's function, slices.BinarySearchFunc at lines, find.
  No conditions but sizes.
  reaches and closes: whether steps lead there; whether a ring would close.
  No conditions but sizes.
-/
import Derived.Test.YthifdefjmfakgaaGreatGrMem
import Derived.Test.YthifdefjmfakgaaGreatGQ
import Derived.Deep.RegionHeld
import Derived.Test.YthifdefjmfakgaaGreatGrClimb
namespace Go.Proofs.YthifdefjmfakgaaGreat
open Go.RowKit

/-- nothing of w has turned -/
def Bel (w W : World) : Prop := Below w.heap.size w W
theorem Bel.start (w : World) : Bel w w.drew := (Below.refl _ _).drew
theorem Bel.get {w W : World} (h : Bel w W) {a : Addr} {v : Value} (hc : w.cell? a = some v) : W.cell? a = some v := by rw [Below.cell h (cell_lt hc)]; exact hc
theorem Bel.trans {w W W' : World} (h : Bel w W) (hb : Below W.heap.size W W') : Bel w W' := Below.trans h (hb.mono (Below.size h))

/-- a rising row -/
theorem rising_le {l : List Qm.St} (h : Qm.Rising l) {a b : Nat} (hab : a < b) (hb : b < l.length) : Qm.ltS (Qm.stOf l a) (Qm.stOf l b) := by
  rw [Qm.stOf_lt hb, Qm.stOf_lt (by omega)]
  exact (List.pairwise_iff_getElem.1 h) a b (by omega) hb hab
/-- n stand ahead of s in a rising row; is it there? -/
def Placed (l : List Qm.St) (s : Qm.St) (n : Nat) (b : Bool) : Prop :=
  n ≤ l.length ∧ (∀ i, i < n → Qm.ltS (Qm.stOf l i) s) ∧ (n < l.length → ¬ Qm.ltS (Qm.stOf l n) s) ∧ b = decide (n < l.length ∧ Qm.stOf l n = s)
/-- an answer of a number and whether -/
def intB (n : Nat) (b : Bool) : Value := .tuple #[.int .i64 (n : Int), .bool b]

/-- in the search -/
structure SInv (l : List Qm.St) (s : Qm.St) (i j : Nat) : Prop where
  ij : i ≤ j
  jl : j ≤ l.length
  lo : ∀ a, a < i → Qm.ltS (Qm.stOf l a) s
  hi : ∀ a, j ≤ a → a < l.length → ¬ Qm.ltS (Qm.stOf l a) s
theorem SInv.up {l : List Qm.St} {s : Qm.St} {i j h : Nat} (k : SInv l s i j) (hr : Qm.Rising l) (h2 : h < j) (hl : Qm.ltS (Qm.stOf l h) s) : SInv l s (h + 1) j :=
  ⟨by omega, k.jl, fun a ha => by
    rcases Nat.lt_or_ge a h with e | e
    · exact Qm.ltS_trans (rising_le hr e (by have := k.jl; omega)) hl
    · obtain rfl : a = h := by omega
      exact hl, k.hi⟩
theorem SInv.down {l : List Qm.St} {s : Qm.St} {i j h : Nat} (k : SInv l s i j) (hr : Qm.Rising l) (h1 : i ≤ h) (h2 : h < j) (hl : ¬ Qm.ltS (Qm.stOf l h) s) : SInv l s i h :=
  ⟨h1, by have := k.jl; omega, k.lo, fun a ha hal => by
    rcases Nat.lt_or_ge h a with e | e
    · exact fun hc => hl (Qm.ltS_trans (rising_le hr e hal) hc)
    · obtain rfl : a = h := by omega
      exact hl⟩

theorem lnS {x : Pm.Wr} : ∀ j v, [Value.int .i64 x.s.1, .int .i64 x.s.2][j]? = some v → (lnA x)[0 + j]? = some v := fun j v h => by
  match j, h with
  | 0, h => exact h
  | 1, h => exact h
/-- lines: a row of pointers -/
structure Lr (w : World) (p : Option Addr) (ls : List (Pm.Wr × Nat)) : Prop where
  rd : Rd w p (ls.map fun e => ptV e.2)
  ln : ∀ e ∈ ls, AgAt w e.2 (lnA e.1)
theorem Lr.below {w w' : World} {p : Option Addr} {ls : List (Pm.Wr × Nat)} (h : Lr w p ls) (hb : Below w.heap.size w w') : Lr w' p ls := ⟨h.rd.below hb, fun e he => (h.ln e he).kept hb⟩

set_option maxRecDepth 100000 in
set_option maxHeartbeats 2000000 in
theorem find1_any (b : Nat) (x : Pm.Wr) (s : Qm.St) (w : World) (h : AgAt w b (lnA x)) :
    Calls Tryz.prog 75 #[ptV b, snV s] w fun e w' => e = .returned (.int .i64 (qcmpS x.s.1 x.s.2 s.1 s.2)) ∧ Below w.heap.size w w' := by
  have hb0 := (Below.refl w.heap.size w).alloc (Nat.le_refl _) (.cells #[.int .i64 s.1, .int .i64 s.2] 35)
  have HA := Lib.hid (AgAt.kept h hb0)
  have HN := Lib.hid (AgAt.new w #[.int .i64 s.1, .int .i64 s.2] 35)
  have HB := Lib.hid hb0
  clear h hb0
  go_enter Tryz.func75, Tryz.ntmps75
  go_upto_region 1 with fail
  generalize w.alloc (.cells #[.int .i64 s.1, .int .i64 s.2] 35) = w1 at *
  refine wp_region_held_drew (S := fun W => Below w1.heap.size w1 W) (by kernel_rfl) (Below.refl _ _).drew (fun hS => ?_)
  generalize w1.drew = wd at *
  refine wpAnyH_take (i := 0) (v := ?_) rfl (by kernel_rfl) (by kernel_rfl) (by kernel_rfl) (fun _ _ _ h => h) (Or.inl ⟨by kernel_rfl, ?_⟩) hS ?_
  rotate_left
  · intro W hSW
    go_simp
    all_goals with_reducible rfl
  refine wpAnyH_take (i := 1) (v := ?_) rfl (by kernel_rfl) (by kernel_rfl) (by kernel_rfl) (fun _ _ _ h => h) (Or.inl ⟨by kernel_rfl, ?_⟩) hS ?_
  rotate_left
  · intro W hSW
    go_simp
    all_goals with_reducible rfl
  refine wpAnyH_take (i := 2) (v := ?_) rfl (by kernel_rfl) (by kernel_rfl) (by kernel_rfl) (fun _ _ _ h => h) (Or.inl ⟨by kernel_rfl, ?_⟩) hS ?_
  rotate_left
  · intro W hSW
    go_simp
    all_goals with_reducible rfl
  go_simp
  refine wpAnyH_take (i := 3) (v := snV x.s) rfl (by kernel_rfl) (by kernel_rfl) (by kernel_rfl) (fun _ _ _ h => h) (Or.inl ⟨by kernel_rfl, fun W hSW => exec_load_part stT rfl rfl [.int .i64 x.s.1, .int .i64 x.s.2] rfl (AgAt.kept HA.out hSW) lnS⟩) hS ?_
  go_simp
  refine wpAnyH_take (i := 4) (v := snV s) rfl (by kernel_rfl) (by kernel_rfl) (by kernel_rfl) (fun _ _ _ h => h) (Or.inl ⟨by kernel_rfl, fun W hSW => exec_load_ag stT rfl rfl rfl (AgAt.kept HN.out hSW)⟩) hS ?_
  go_simp
  refine wpAnyH_ready (rs := [5]) (by kernel_rfl) (by simp) ?_
  refine AllReadyH.cons rfl (fun K hK => ?_) AllReadyH.nil
  go_simp
  go_wp2_with (go_at_call 76; refine (qcompare_any x.s.1 x.s.2 s.1 s.2 _).mono ?_; rintro e wn ⟨rfl, hbn⟩)
  refine hK.out _ _ (hS.trans (hbn.mono hS.size)) (fun hS => ?_)
  clear hK K
  refine wpAnyH_take (i := 6) (v := ?_) rfl (by kernel_rfl) (by kernel_rfl) (by kernel_rfl) (fun _ _ _ h => h) (Or.inl ⟨by kernel_rfl, ?_⟩) hS ?_
  rotate_left
  · intro W hSW
    go_simp
    all_goals with_reducible rfl
  go_simp
  refine wpAnyH_done (by kernel_rfl) ?_ _
  go_simp
  have HE := Lib.hid (HB.out.trans (hS.mono HB.out.size))
  clear hS
  go_wp2
  go_ret
  exact ⟨rfl, HE.out⟩

theorem Lr.at_ {w : World} {b o : Nat} {ls : List (Pm.Wr × Nat)} {l : List Qm.St} (h : Lr w (some ⟨b, o, none⟩) ls) (hll : l = ls.map (fun e => e.1.s)) (i : Nat) (hi : i < l.length) (s : Qm.St) :
    ∃ bl, w.cell? ⟨b, o + i, none⟩ = some (ptV bl) ∧ Hid (∀ W, Below w.heap.size w W → Calls Tryz.prog 75 #[ptV bl, snV s] W fun e w' => e = .returned (.int .i64 (qcmpS (Qm.stOf l i).1 (Qm.stOf l i).2 s.1 s.2)) ∧ Below W.heap.size W w') := by
  have hi2 : i < ls.length := by rw [hll, List.length_map] at hi; exact hi
  obtain ⟨b', o', he, hr⟩ := h.rd (by rw [List.length_map]; omega)
  cases he
  have h1 : Qm.stOf l i = ls[i].1.s := by rw [Qm.stOf_lt hi]; simp only [hll, List.getElem_map]
  refine ⟨ls[i].2, hr i _ (by rw [List.getElem?_map, List.getElem?_eq_getElem hi2, Option.map_some]), Lib.hid fun W hb => ?_⟩
  rw [h1]
  exact find1_any _ _ s W ((h.ln _ (List.getElem_mem hi2)).kept hb)

def Searched (l : List Qm.St) (s : Qm.St) (w : World) (e : Ending) (w' : World) : Prop := ∃ n b, e = .returned (intB n b) ∧ Placed l s n b ∧ Below w.heap.size w w'

set_option maxRecDepth 100000 in
set_option maxHeartbeats 2000000 in
theorem lsearch_any (p : Option Addr) (cap : Nat) (ls : List (Pm.Wr × Nat)) (l : List Qm.St) (st sr : Int) (w : World) (hll : l = ls.map (fun e => e.1.s)) (h : Lr w p ls) (hr : Qm.Rising l) (hl : l.length ≤ 5000) :
    Calls Tryz.prog 74 #[.slice p l.length cap, .agg #[.int .i64 st, .int .i64 sr], .func (.func 75) #[] #[]] w (Searched l (st, sr) w) := by
  have HR := Lib.hid h
  have HZ := Lib.hid (show l.length = ls.length by rw [hll, List.length_map])
  have HLL := Lib.hid hll
  have HRI := Lib.hid hr
  have HB0 := Lib.hid ((Below.refl w.heap.size w).alloc (Nat.le_refl _) (.cells #[.int .i64 st, .int .i64 sr] 35))
  clear h hr hll
  go_enter Tryz.func74, Tryz.ntmps74
  go_wp2
  go_loopw [9, 10] (fun x y wr => ∃ i j : Nat, x = .int .i64 (i : Int) ∧ y = .int .i64 (j : Int) ∧ SInv l (st, sr) i j ∧ Below (w.heap.size + 1) (w.alloc (.cells #[.int .i64 st, .int .i64 sr] 35)) wr) (fun x y _ => (intOf y).toNat - (intOf x).toNat)
  case atStart => exact ⟨0, l.length, rfl, rfl, ⟨Nat.zero_le _, Nat.le_refl _, fun a h => by omega, fun a h k => by omega⟩, Below.refl _ _⟩
  case round =>
    obtain ⟨i, j, rfl, rfl, hI, hb⟩ := hrel
    have HI := Lib.hid hI
    have HB := Lib.hid hb
    have hij := hI.ij
    have hjl := hI.jl
    have s0 := hb.cell (p := ⟨w.heap.size, 0, none⟩) (by simp)
    have s1 := hb.cell (p := ⟨w.heap.size, 1, none⟩) (by simp)
    rw [World.cell?_alloc_at _ _ _ _ rfl] at s0 s1
    have s0' : wr.cell? ⟨w.heap.size, 0, none⟩ = some (.int .i64 st) := s0
    have s1' : wr.cell? ⟨w.heap.size, 1, none⟩ = some (.int .i64 sr) := s1
    have hbw : Below w.heap.size w wr := HB0.out.trans (hb.mono (by omega))
    have hrd := HR.out.below hbw
    have HBW := Lib.hid hbw
    clear s0 s1 hI hb hbw
    by_cases hlt : i < j
    · obtain ⟨b, o, rfl, -⟩ := hrd.rd.addr (by rw [List.length_map, ← HZ.out]; omega)
      obtain ⟨m, hm⟩ : ∃ m : Nat, m = (i + j) / 2 := ⟨_, rfl⟩
      have hm1 : i ≤ m := by omega
      have hm2 : m < j := by omega
      have hml : m < l.length := by omega
      obtain ⟨bl, x0, HC⟩ := hrd.at_ HLL.out m hml (st, sr)
      have hdiv : ((i : Int) + (j : Int)) / 2 = (m : Int) := by omega
      clear hrd hm
      by_cases hs : Qm.ltS (Qm.stOf l m) (st, sr)
      · have hv : qcmpS (Qm.stOf l m).1 (Qm.stOf l m).2 st sr = -1 := cmpV_lt hs
        have HN := Lib.hid (HI.out.up HRI.out hm2 hs)
        rw [hv] at HC
        clear hv hs
        go_wp2
        go_region_with (go_at_call 75; refine (HC.out _ (Below.drew (Below.refl _ _))).mono ?_; rintro e w' ⟨rfl, hbc⟩)
        all_goals
          have HB2 := Lib.hid (HB.out.trans (((Below.refl wr.heap.size wr).drew.trans hbc).mono (by have := HB.out.size; simp only [World.size_alloc] at this; omega)))
          clear hbc
          go_wp2
          go_roundw
          case rel => exact ⟨m + 1, j, by go_num, rfl, HN.out, HB2.out⟩
          case measure => simp [intOf]; omega
      · have HV := Lib.hid (show qcmpS (Qm.stOf l m).1 (Qm.stOf l m).2 st sr = 0 ∨ qcmpS (Qm.stOf l m).1 (Qm.stOf l m).2 st sr = 1 from by
          rcases Qm.ltS_tri (Qm.stOf l m) (st, sr) with h | h | h
          · exact absurd h hs
          · left; rw [h]; exact cmpV_eq (st, sr)
          · right; exact cmpV_gt h)
        have HN := Lib.hid (HI.out.down HRI.out hm1 hm2 hs)
        clear hs
        rcases HV.out with hv | hv
        all_goals
          rw [hv] at HC
          clear hv
          go_wp2
          go_region_with (go_at_call 75; refine (HC.out _ (Below.drew (Below.refl _ _))).mono ?_; rintro e w' ⟨rfl, hbc⟩)
          all_goals
            have HB2 := Lib.hid (HB.out.trans (((Below.refl wr.heap.size wr).drew.trans hbc).mono (by have := HB.out.size; simp only [World.size_alloc] at this; omega)))
            clear hbc
            go_wp2
            go_roundw
            case rel => exact ⟨i, m, rfl, rfl, HN.out, HB2.out⟩
            case measure => simp [intOf]; omega
    · obtain rfl : i = j := by omega
      by_cases hlen : i < l.length
      · obtain ⟨b, o, rfl, -⟩ := hrd.rd.addr (by rw [List.length_map, ← HZ.out]; omega)
        obtain ⟨bl, x0, HC⟩ := hrd.at_ HLL.out i hlen (st, sr)
        have HNL := Lib.hid (HI.out.hi i (Nat.le_refl _) hlen)
        have HPL := Lib.hid (show ∀ b, b = decide (Qm.stOf l i = (st, sr)) → Placed l (st, sr) i b from fun b hb => ⟨hjl, HI.out.lo, fun h => HI.out.hi i (Nat.le_refl _) h, by rw [hb]; simp [hlen]⟩)
        clear hrd
        rcases Qm.ltS_tri (Qm.stOf l i) (st, sr) with hv | hv | hv
        · exact absurd hv HNL.out
        · have HD := Lib.hid (HPL.out true (decide_eq_true hv).symm)
          have hc : qcmpS (Qm.stOf l i).1 (Qm.stOf l i).2 st sr = 0 := by rw [hv]; exact cmpV_eq (st, sr)
          rw [hc] at HC
          clear hv hc
          go_wp2
          refine wp_region_held_drew (S := Bel wr) (by kernel_rfl) (Bel.start wr) (fun hS => ?_)
          refine wpAnyH_take (i := 0) (v := ?_) rfl (by kernel_rfl) (by kernel_rfl) (by kernel_rfl) (fun _ _ _ h => h) (Or.inl ⟨by kernel_rfl, ?_⟩) hS ?_
          rotate_left
          · intro W hSW
            go_simp
            all_goals with_reducible rfl
          refine wpAnyH_take (i := 1) (v := ?_) rfl (by kernel_rfl) (by kernel_rfl) (by kernel_rfl) (fun _ _ _ h => h) (Or.inl ⟨by kernel_rfl, ?_⟩) hS ?_
          rotate_left
          · intro W hSW
            go_simp
            all_goals with_reducible rfl
          refine wpAnyH_take (i := 2) (v := ?_) rfl (by kernel_rfl) (by kernel_rfl) (by kernel_rfl) (fun _ _ _ h => h) (Or.inl ⟨by kernel_rfl, ?_⟩) hS ?_
          rotate_left
          · intro W hSW
            go_simp
            all_goals with_reducible rfl
          refine wpAnyH_take (i := 3) (v := ?_) rfl (by kernel_rfl) (by kernel_rfl) (by kernel_rfl) (fun _ _ _ h => h) (Or.inl ⟨by kernel_rfl, ?_⟩) hS ?_
          rotate_left
          · intro W hSW
            go_simp
            all_goals with_reducible rfl
          refine wpAnyH_take (i := 4) (v := ?_) rfl (by kernel_rfl) (by kernel_rfl) (by kernel_rfl) (fun _ _ _ h => h) (Or.inl ⟨by kernel_rfl, ?_⟩) hS ?_
          rotate_left
          · intro W hSW
            go_simp
            all_goals with_reducible rfl
          refine wpAnyH_take (i := 5) (v := ?_) rfl (by kernel_rfl) (by kernel_rfl) (by kernel_rfl) (fun _ _ _ h => h) (Or.inl ⟨by kernel_rfl, ?_⟩) hS ?_
          rotate_left
          · intro W hSW
            go_simp
            all_goals with_reducible rfl
          refine wpAnyH_take (i := 6) (v := ?_) rfl (by kernel_rfl) (by kernel_rfl) (by kernel_rfl) (fun _ _ _ h => h) (Or.inl ⟨by kernel_rfl, ?_⟩) hS ?_
          rotate_left
          · intro W hSW
            go_simp
            all_goals with_reducible rfl
          refine wpAnyH_take (i := 7) (v := ?_) rfl (by kernel_rfl) (by kernel_rfl) (by kernel_rfl) (fun _ _ _ h => h) (Or.inl ⟨by kernel_rfl, ?_⟩) hS ?_
          rotate_left
          · intro W hSW
            go_simp
            all_goals with_reducible rfl
          refine wpAnyH_take (i := 8) (v := ?_) rfl (by kernel_rfl) (by kernel_rfl) (by kernel_rfl) (fun _ _ _ h => h) (Or.inl ⟨by kernel_rfl, ?_⟩) hS ?_
          rotate_left
          · intro W hSW
            go_simp
            all_goals with_reducible rfl
          refine wpAnyH_take (i := 9) (v := ?_) rfl (by kernel_rfl) (by kernel_rfl) (by kernel_rfl) (fun _ _ _ h => h) (Or.inl ⟨by kernel_rfl, ?_⟩) hS ?_
          rotate_left
          · intro W hSW
            have x0' := hSW.get x0
            go_simp
            all_goals with_reducible rfl
          refine wpAnyH_take (i := 10) (v := ?_) rfl (by kernel_rfl) (by kernel_rfl) (by kernel_rfl) (fun _ _ _ h => h) (Or.inl ⟨by kernel_rfl, ?_⟩) hS ?_
          rotate_left
          · intro W hSW
            have s0'' := hSW.get s0'
            have s1'' := hSW.get s1'
            go_simp
            all_goals with_reducible rfl
          refine wpAnyH_ready (rs := [11]) (by kernel_rfl) (by simp) ?_
          refine AllReadyH.cons rfl (fun K hK => ?_) AllReadyH.nil
          go_simp
          go_wp2_with ((go_at_call 75; refine (HC.out _ hS).mono ?_; rintro e wn ⟨rfl, hbn⟩))
          refine hK.out _ _ (hS.trans hbn) (fun hS => ?_)
          clear hK K
          refine wpAnyH_take (i := 12) (v := ?_) rfl (by kernel_rfl) (by kernel_rfl) (by kernel_rfl) (fun _ _ _ h => h) (Or.inl ⟨by kernel_rfl, ?_⟩) hS ?_
          rotate_left
          · intro W hSW
            go_simp
            all_goals with_reducible rfl
          refine wpAnyH_take (i := 13) (v := ?_) rfl (by kernel_rfl) (by kernel_rfl) (by kernel_rfl) (fun _ _ _ h => h) (Or.inl ⟨by kernel_rfl, ?_⟩) hS ?_
          rotate_left
          · intro W hSW
            go_simp
            all_goals with_reducible rfl
          refine wpAnyH_take (i := 14) (v := ?_) rfl (by kernel_rfl) (by kernel_rfl) (by kernel_rfl) (fun _ _ _ h => h) (Or.inl ⟨by kernel_rfl, ?_⟩) hS ?_
          rotate_left
          · intro W hSW
            go_simp
            all_goals with_reducible rfl
          refine wpAnyH_take (i := 15) (v := ?_) rfl (by kernel_rfl) (by kernel_rfl) (by kernel_rfl) (fun _ _ _ h => h) (Or.inl ⟨by kernel_rfl, ?_⟩) hS ?_
          rotate_left
          · intro W hSW
            go_simp
            all_goals with_reducible rfl
          refine wpAnyH_done (by kernel_rfl) ?_ _
          have HB2 := Lib.hid (HBW.out.trans (Below.mono hS HBW.out.size))
          clear hS hbn
          go_simp
          go_wp2
          go_ret2
          exact ⟨i, true, rfl, HD.out, HB2.out⟩
        · have HD := Lib.hid (HPL.out false (by rw [decide_eq_false]; intro e; rw [e] at hv; exact Qm.ltS_irrefl _ hv))
          have hc : qcmpS (Qm.stOf l i).1 (Qm.stOf l i).2 st sr = 1 := cmpV_gt hv
          rw [hc] at HC
          clear hv hc
          go_wp2
          refine wp_region_held_drew (S := Bel wr) (by kernel_rfl) (Bel.start wr) (fun hS => ?_)
          refine wpAnyH_take (i := 0) (v := ?_) rfl (by kernel_rfl) (by kernel_rfl) (by kernel_rfl) (fun _ _ _ h => h) (Or.inl ⟨by kernel_rfl, ?_⟩) hS ?_
          rotate_left
          · intro W hSW
            go_simp
            all_goals with_reducible rfl
          refine wpAnyH_take (i := 1) (v := ?_) rfl (by kernel_rfl) (by kernel_rfl) (by kernel_rfl) (fun _ _ _ h => h) (Or.inl ⟨by kernel_rfl, ?_⟩) hS ?_
          rotate_left
          · intro W hSW
            go_simp
            all_goals with_reducible rfl
          refine wpAnyH_take (i := 2) (v := ?_) rfl (by kernel_rfl) (by kernel_rfl) (by kernel_rfl) (fun _ _ _ h => h) (Or.inl ⟨by kernel_rfl, ?_⟩) hS ?_
          rotate_left
          · intro W hSW
            go_simp
            all_goals with_reducible rfl
          refine wpAnyH_take (i := 3) (v := ?_) rfl (by kernel_rfl) (by kernel_rfl) (by kernel_rfl) (fun _ _ _ h => h) (Or.inl ⟨by kernel_rfl, ?_⟩) hS ?_
          rotate_left
          · intro W hSW
            go_simp
            all_goals with_reducible rfl
          refine wpAnyH_take (i := 4) (v := ?_) rfl (by kernel_rfl) (by kernel_rfl) (by kernel_rfl) (fun _ _ _ h => h) (Or.inl ⟨by kernel_rfl, ?_⟩) hS ?_
          rotate_left
          · intro W hSW
            go_simp
            all_goals with_reducible rfl
          refine wpAnyH_take (i := 5) (v := ?_) rfl (by kernel_rfl) (by kernel_rfl) (by kernel_rfl) (fun _ _ _ h => h) (Or.inl ⟨by kernel_rfl, ?_⟩) hS ?_
          rotate_left
          · intro W hSW
            go_simp
            all_goals with_reducible rfl
          refine wpAnyH_take (i := 6) (v := ?_) rfl (by kernel_rfl) (by kernel_rfl) (by kernel_rfl) (fun _ _ _ h => h) (Or.inl ⟨by kernel_rfl, ?_⟩) hS ?_
          rotate_left
          · intro W hSW
            go_simp
            all_goals with_reducible rfl
          refine wpAnyH_take (i := 7) (v := ?_) rfl (by kernel_rfl) (by kernel_rfl) (by kernel_rfl) (fun _ _ _ h => h) (Or.inl ⟨by kernel_rfl, ?_⟩) hS ?_
          rotate_left
          · intro W hSW
            go_simp
            all_goals with_reducible rfl
          refine wpAnyH_take (i := 8) (v := ?_) rfl (by kernel_rfl) (by kernel_rfl) (by kernel_rfl) (fun _ _ _ h => h) (Or.inl ⟨by kernel_rfl, ?_⟩) hS ?_
          rotate_left
          · intro W hSW
            go_simp
            all_goals with_reducible rfl
          refine wpAnyH_take (i := 9) (v := ?_) rfl (by kernel_rfl) (by kernel_rfl) (by kernel_rfl) (fun _ _ _ h => h) (Or.inl ⟨by kernel_rfl, ?_⟩) hS ?_
          rotate_left
          · intro W hSW
            have x0' := hSW.get x0
            go_simp
            all_goals with_reducible rfl
          refine wpAnyH_take (i := 10) (v := ?_) rfl (by kernel_rfl) (by kernel_rfl) (by kernel_rfl) (fun _ _ _ h => h) (Or.inl ⟨by kernel_rfl, ?_⟩) hS ?_
          rotate_left
          · intro W hSW
            have s0'' := hSW.get s0'
            have s1'' := hSW.get s1'
            go_simp
            all_goals with_reducible rfl
          refine wpAnyH_ready (rs := [11]) (by kernel_rfl) (by simp) ?_
          refine AllReadyH.cons rfl (fun K hK => ?_) AllReadyH.nil
          go_simp
          go_wp2_with ((go_at_call 75; refine (HC.out _ hS).mono ?_; rintro e wn ⟨rfl, hbn⟩))
          refine hK.out _ _ (hS.trans hbn) (fun hS => ?_)
          clear hK K
          refine wpAnyH_take (i := 12) (v := ?_) rfl (by kernel_rfl) (by kernel_rfl) (by kernel_rfl) (fun _ _ _ h => h) (Or.inl ⟨by kernel_rfl, ?_⟩) hS ?_
          rotate_left
          · intro W hSW
            go_simp
            all_goals with_reducible rfl
          refine wpAnyH_take (i := 13) (v := ?_) rfl (by kernel_rfl) (by kernel_rfl) (by kernel_rfl) (fun _ _ _ h => h) (Or.inl ⟨by kernel_rfl, ?_⟩) hS ?_
          rotate_left
          · intro W hSW
            go_simp
            all_goals with_reducible rfl
          refine wpAnyH_take (i := 14) (v := ?_) rfl (by kernel_rfl) (by kernel_rfl) (by kernel_rfl) (fun _ _ _ h => h) (Or.inl ⟨by kernel_rfl, ?_⟩) hS ?_
          rotate_left
          · intro W hSW
            go_simp
            all_goals with_reducible rfl
          refine wpAnyH_take (i := 15) (v := ?_) rfl (by kernel_rfl) (by kernel_rfl) (by kernel_rfl) (fun _ _ _ h => h) (Or.inl ⟨by kernel_rfl, ?_⟩) hS ?_
          rotate_left
          · intro W hSW
            go_simp
            all_goals with_reducible rfl
          refine wpAnyH_done (by kernel_rfl) ?_ _
          have HB2 := Lib.hid (HBW.out.trans (Below.mono hS HBW.out.size))
          clear hS hbn
          go_simp
          go_wp2
          go_ret2
          exact ⟨i, false, rfl, HD.out, HB2.out⟩
      · obtain rfl : i = l.length := by omega
        have HD := Lib.hid (show Placed l (st, sr) l.length false from ⟨Nat.le_refl _, HI.out.lo, fun h => absurd h (Nat.lt_irrefl _), by simp⟩)
        clear hrd
        go_wp2
        go_region
        go_wp2
        go_ret2
        exact ⟨l.length, false, rfl, HD.out, HBW.out.drew⟩


end Go.Proofs.YthifdefjmfakgaaGreat

namespace Go.Proofs.YthifdefjmfakgaaGreat
open Go.RowKit
open Tm (Sp Tr has put cut kids)

def stepR (g : Gm.G) (up : Bool) : Qm.St → Qm.St → Prop := if up = true then Gm.UpS g else Gm.DnS g
set_option maxRecDepth 100000 in
set_option maxHeartbeats 4000000 in
theorem reach_any {X : Gx} {χ : Nat → Nat} {g : Gm.G} (n m : Qm.St) (up : Bool) (w : World) (h : Core w X χ g) (hn : Gm.has g n = true) (hm : Gm.has g m = true) :
    Calls Tryz.prog 62 #[ptV X.b, snV n, snV m, .bool up] w (Climbed (stepR g up) n m w) := by
  have h1 : ∀ (w : World) (o : Obj), Below w.heap.size w (w.alloc o) := fun w o => (Below.refl _ _).alloc (Nat.le_refl _) _
  have hz : ∀ (w : World) (o : Obj), (w.alloc o).heap.size = w.heap.size + 1 := fun w o => by simp
  have hb := (h1 w (.cells #[ptV X.b] 81)).trans (((h1 (w.alloc (.cells #[ptV X.b] 81)) (.cells (stA n) 35)).mono (by simp)).trans ((h1 ((w.alloc (.cells #[ptV X.b] 81)).alloc (.cells (stA n) 35)) (.cells (stA m) 35)).mono (by simp; omega)))
  have HC := Lib.hid (h.kept hb)
  have HB := Lib.hid hb
  have HB0 := Lib.hid (show AgAt (((w.alloc (.cells #[ptV X.b] 81)).alloc (.cells (stA n) 35)).alloc (.cells (stA m) 35)) w.heap.size #[ptV X.b] from ((AgAt.new w _ _).kept (h1 _ _)).kept (h1 _ _))
  have HB1 := Lib.hid (show AgAt (((w.alloc (.cells #[ptV X.b] 81)).alloc (.cells (stA n) 35)).alloc (.cells (stA m) 35)) (w.heap.size + 1) (stA n) from by
    have k := (AgAt.new (w.alloc (.cells #[ptV X.b] 81)) (stA n) 35).kept (h1 _ (.cells (stA m) 35))
    rwa [hz] at k)
  have HB2 := Lib.hid (show AgAt (((w.alloc (.cells #[ptV X.b] 81)).alloc (.cells (stA n) 35)).alloc (.cells (stA m) 35)) (w.heap.size + 1 + 1) (stA m) from by
    have k := AgAt.new ((w.alloc (.cells #[ptV X.b] 81)).alloc (.cells (stA n) 35)) (stA m) 35
    rwa [hz, hz] at k)
  have HHN := Lib.hid hn
  have HHM := Lib.hid hm
  have HWF := Lib.hid (show ∀ x, Gm.has g x = true → StWf x from fun x hx => has_wfG h.good hx)
  clear h hn hm hb h1 hz
  have s0 : (((w.alloc (.cells #[ptV X.b] 81)).alloc (.cells (stA n) 35)).alloc (.cells (stA m) 35)).cell? ⟨w.heap.size, 0, none⟩ = some (ptV X.b) := (AgAt.cell HB0.out 0).trans rfl
  cases up with
  | true =>
    go_enter Tryz.func62, Tryz.ntmps62
    go_wp2_with (first | (refine wpList_load_ag stT (by kernel_rfl) _ rfl _ rfl (A := stA n) rfl HB1.out ?_) | (refine wpList_load_ag stT (by kernel_rfl) _ rfl _ rfl (A := stA m) rfl HB2.out ?_))
    refine (climb1_any n m _ HC.out HB0.out HHN.out (HWF.out _ HHM.out)).mono ?_
    rintro e w5 ⟨b, rfl, hb1, hb2⟩
    have HE := Lib.hid (show Climbed (stepR g true) n m w (.returned (.bool b)) w5 from ⟨b, rfl, hb1, HB.out.trans (hb2.mono HB.out.size)⟩)
    clear hb1 hb2 s0
    go_wp2
    go_ret
    exact HE.out
  | false =>
    go_enter Tryz.func62, Tryz.ntmps62
    go_wp2_with (first | (refine wpList_load_ag stT (by kernel_rfl) _ rfl _ rfl (A := stA n) rfl HB1.out ?_) | (refine wpList_load_ag stT (by kernel_rfl) _ rfl _ rfl (A := stA m) rfl HB2.out ?_))
    refine (climb2_any m n _ HC.out HB0.out HHM.out (HWF.out _ HHN.out)).mono ?_
    rintro e w5 ⟨b, rfl, hb1, hb2⟩
    have HE := Lib.hid (show Climbed (stepR g false) n m w (.returned (.bool b)) w5 from ⟨b, rfl, hb1.trans Gm.rc_flip, HB.out.trans (hb2.mono HB.out.size)⟩)
    clear hb1 hb2 s0
    go_wp2
    go_ret
    exact HE.out

/-- the op's cells, where its Path is none -/
theorem opNode {x : Opp} : ∀ j v, [Value.int .i64 x.nt, .int .i64 x.nr][j]? = some v → (opA x none 0)[1 + j]? = some v := fun j v h => by
  match j, h with
  | 0, h => exact h
  | 1, h => exact h
theorem opRef {x : Opp} : ∀ j v, [Value.int .i64 x.rt, .int .i64 x.rr][j]? = some v → (opA x none 0)[3 + j]? = some v := fun j v h => by
  match j, h with
  | 0, h => exact h
  | 1, h => exact h
def Closed (g : Gm.G) (x : Opp) (w : World) (e : Ending) (w' : World) : Prop := ∃ b, e = .returned (.bool b) ∧ (b = true ↔ Gm.closes g x) ∧ Below w.heap.size w w'
set_option maxRecDepth 100000 in
set_option maxHeartbeats 4000000 in
theorem closes_any {X : Gx} {χ : Nat → Nat} {g : Gm.G} (x : Opp) (w : World) (h : Core w X χ g) (hn : Gm.has g (Gm.node x) = true) (hm : Gm.has g (Gm.ref x) = true) :
    Calls Tryz.prog 111 #[ptV X.b, .agg (opA x none 0)] w (Closed g x w) := by
  have hb := (Below.refl w.heap.size w).alloc (Nat.le_refl _) (.cells (opA x none 0) 43)
  have HC := Lib.hid (h.kept hb)
  have HX := Lib.hid (AgAt.new w (opA x none 0) 43)
  have HB := Lib.hid hb
  have HHN := Lib.hid hn
  have HHM := Lib.hid hm
  have y0 : (w.alloc (.cells (opA x none 0) 43)).cell? ⟨w.heap.size, 0, none⟩ = some (.int .i64 x.k) := (AgAt.cell HX.out 0).trans rfl
  clear h hb hn hm
  by_cases hk : x.k = 2
  · have d0 : (x.k == 2) = true := by simpa using hk
    have HCL := Lib.hid (show Gm.closes g x ↔ Gm.Rc (Gm.UpS g) (Gm.ref x) (Gm.node x) ∨ Gm.Rc (Gm.DnS g) (Gm.node x) (Gm.ref x) from by unfold Gm.closes; rw [if_pos hk])
    clear hk
    go_enter Tryz.func111, Tryz.ntmps111
    go_wp2_with (first | (refine wpList_load_part stT rfl _ rfl _ 3 rfl [.int .i64 x.rt, .int .i64 x.rr] rfl HX.out opRef ?_) | (refine wpList_load_part stT rfl _ rfl _ 1 rfl [.int .i64 x.nt, .int .i64 x.nr] rfl HX.out opNode ?_))
    refine (reach_any (Gm.ref x) (Gm.node x) true _ HC.out HHM.out HHN.out).mono ?_
    rintro e w1 ⟨b1, rfl, hb1, hb2⟩
    have HB1 := Lib.hid (HB.out.trans (hb2.mono HB.out.size))
    have HR1 := Lib.hid hb1
    have HC1 := Lib.hid (HC.out.kept hb2)
    have HX1 := Lib.hid (AgAt.kept HX.out hb2)
    clear hb1 hb2 y0
    cases b1 with
    | true =>
      have HE := Lib.hid (show Closed g x w (.returned (.bool true)) w1 from ⟨true, rfl, ⟨fun _ => HCL.out.2 (Or.inl (HR1.out.1 rfl)), fun _ => rfl⟩, HB1.out⟩)
      clear HC HX
      go_wp2
      go_ret
      exact HE.out
    | false =>
      go_wp2_with (first | (refine wpList_value (by kernel_rfl) (exec_load_part stT rfl rfl [.int .i64 x.rt, .int .i64 x.rr] rfl HX1.out opRef) ?_) | (refine wpList_value (by kernel_rfl) (exec_load_part stT rfl rfl [.int .i64 x.nt, .int .i64 x.nr] rfl HX1.out opNode) ?_))
      refine (reach_any (Gm.node x) (Gm.ref x) false _ HC1.out HHN.out HHM.out).mono ?_
      rintro e w2 ⟨b2, rfl, hb1, hb2⟩
      have HE := Lib.hid (show Closed g x w (.returned (.bool b2)) w2 from ⟨b2, rfl, ⟨fun h => HCL.out.2 (Or.inr (hb1.1 h)), fun h => (HCL.out.1 h).elim (fun h => by cases HR1.out.2 h) hb1.2⟩, HB1.out.trans (hb2.mono HB1.out.size)⟩)
      clear hb1 hb2
      go_wp2
      go_ret
      exact HE.out
  · have d0 : (x.k == 2) = false := by simpa using hk
    have HCL := Lib.hid (show Gm.closes g x ↔ Gm.ref x ≠ (0, 0) ∧ (Gm.Rc (Gm.UpS g) (Gm.ref x) (Gm.node x) ∨ Gm.Rc (Gm.DnS g) (Gm.ref x) (Gm.node x)) from by unfold Gm.closes; rw [if_neg hk])
    clear hk
    by_cases hr : Gm.ref x = (0, 0)
    · have HQ := Lib.hid (show decide (Gm.ref x = (0, 0)) = true from decide_eq_true hr)
      have HE := Lib.hid (show Closed g x w (.returned (.bool false)) (w.alloc (.cells (opA x none 0) 43)) from ⟨false, rfl, ⟨fun h => (by cases h), fun h => absurd hr (HCL.out.1 h).1⟩, HB.out⟩)
      clear hr
      go_enter Tryz.func111, Tryz.ntmps111
      go_wp2_with (first | (refine wpList_load_part stT rfl _ rfl _ 3 rfl [.int .i64 x.rt, .int .i64 x.rr] rfl HX.out opRef ?_) | (refine wpList_value (by kernel_rfl) (exec_eql_st rfl (Gm.ref x) (0, 0) rfl rfl) ?_; rw [HQ.out]))
      go_ret
      exact HE.out
    · have HQ := Lib.hid (show decide (Gm.ref x = (0, 0)) = false from decide_eq_false hr)
      have HNR := Lib.hid hr
      clear hr
      go_enter Tryz.func111, Tryz.ntmps111
      go_wp2_with (first | (refine wpList_load_part stT rfl _ rfl _ 3 rfl [.int .i64 x.rt, .int .i64 x.rr] rfl HX.out opRef ?_) | (refine wpList_load_part stT rfl _ rfl _ 1 rfl [.int .i64 x.nt, .int .i64 x.nr] rfl HX.out opNode ?_) | (refine wpList_value (by kernel_rfl) (exec_eql_st rfl (Gm.ref x) (0, 0) rfl rfl) ?_; rw [HQ.out]))
      refine (reach_any (Gm.ref x) (Gm.node x) true _ HC.out HHM.out HHN.out).mono ?_
      rintro e w1 ⟨b1, rfl, hb1, hb2⟩
      have HB1 := Lib.hid (HB.out.trans (hb2.mono HB.out.size))
      have HR1 := Lib.hid hb1
      have HC1 := Lib.hid (HC.out.kept hb2)
      have HX1 := Lib.hid (AgAt.kept HX.out hb2)
      clear hb1 hb2 y0
      cases b1 with
      | true =>
        have HE := Lib.hid (show Closed g x w (.returned (.bool true)) w1 from ⟨true, rfl, ⟨fun _ => HCL.out.2 ⟨HNR.out, Or.inl (HR1.out.1 rfl)⟩, fun _ => rfl⟩, HB1.out⟩)
        clear HC HX
        go_wp2
        go_ret
        exact HE.out
      | false =>
        go_wp2_with (first | (refine wpList_value (by kernel_rfl) (exec_load_part stT rfl rfl [.int .i64 x.rt, .int .i64 x.rr] rfl HX1.out opRef) ?_) | (refine wpList_value (by kernel_rfl) (exec_load_part stT rfl rfl [.int .i64 x.nt, .int .i64 x.nr] rfl HX1.out opNode) ?_))
        refine (reach_any (Gm.ref x) (Gm.node x) false _ HC1.out HHM.out HHN.out).mono ?_
        rintro e w2 ⟨b2, rfl, hb1, hb2⟩
        have HE := Lib.hid (show Closed g x w (.returned (.bool b2)) w2 from ⟨b2, rfl, ⟨fun h => HCL.out.2 ⟨HNR.out, Or.inr (hb1.1 h)⟩, fun h => (HCL.out.1 h).2.elim (fun h => by cases HR1.out.2 h) hb1.2⟩, HB1.out.trans (hb2.mono HB1.out.size)⟩)
        clear hb1 hb2
        go_wp2
        go_ret
        exact HE.out
end Go.Proofs.YthifdefjmfakgaaGreat
