/-
  QueueTogether: rows put together do not hang on how they are parted: the law's walk.
  No conditions.
-/
import Derived.Test.YtknjojmcjkpjiaaQSearch
import Derived.Test.YtknjojmcjkpjiaaQKnows
namespace Go.Proofs.Ytknjojmcjkpjiaa
open Go.RowKit

theorem rising_len : ∀ {M F : List Qm.St}, Qm.Rising M → (∀ x, x ∈ M → x ∈ F) → M.length ≤ F.length
  | [], _, _, _ => Nat.zero_le _
  | a :: M, F, h, hs => by
    have h1 := List.pairwise_cons.1 h
    have ha : a ∈ F := hs a (by simp)
    have := rising_len (M := M) (F := F.erase a) h1.2 fun x hx => (List.mem_erase_of_ne (fun e => by have := h1.1 x hx; rw [e] at this; exact Qm.ltS_irrefl a this)).2 (hs x (by simp [hx]))
    rw [List.length_erase_of_mem ha] at this
    have h0 : 0 < F.length := List.length_pos_of_mem ha
    simp only [List.length_cons]
    omega

/-- one, two, three rows, laid -/
theorem rws3 {w : World} {p0 p1 p2 : Option Addr} {c0 c1 c2 : Nat} {l0 l1 l2 : List Qm.St} (r0 : Rd w p0 (stCells l0)) (r1 : Rd w p1 (stCells l1)) (r2 : Rd w p2 (stCells l2)) (n0 : p0 = none → c0 = 0) (n1 : p1 = none → c1 = 0) (n2 : p2 = none → c2 = 0) :
    Rws (w.alloc (.cells #[.slice p0 l0.length c0, .slice p1 l1.length c1, .slice p2 l2.length c2] 52)) (some ⟨w.heap.size, 0, none⟩) [l0, l1, l2] := fun _ => by
  have hb : Below w.heap.size w (w.alloc (.cells #[.slice p0 l0.length c0, .slice p1 l1.length c1, .slice p2 l2.length c2] 52)) := (Below.refl _ _).alloc (Nat.le_refl _) _
  refine ⟨_, 0, rfl, fun i hi => ?_⟩
  have hi2 : i = 0 ∨ i = 1 ∨ i = 2 := by simp at hi; omega
  rcases hi2 with rfl | rfl | rfl
  · exact ⟨p0, c0, by rw [World.cell?_alloc_at _ _ _ _ rfl]; rfl, r0.below hb, n0⟩
  · exact ⟨p1, c1, by rw [World.cell?_alloc_at _ _ _ _ rfl]; rfl, r1.below hb, n1⟩
  · exact ⟨p2, c2, by rw [World.cell?_alloc_at _ _ _ _ rfl]; rfl, r2.below hb, n2⟩
theorem rws2 {w : World} {p0 p1 : Option Addr} {c0 c1 : Nat} {l0 l1 : List Qm.St} (r0 : Rd w p0 (stCells l0)) (r1 : Rd w p1 (stCells l1)) (n0 : p0 = none → c0 = 0) (n1 : p1 = none → c1 = 0) :
    Rws (w.alloc (.cells #[.slice p0 l0.length c0, .slice p1 l1.length c1] 52)) (some ⟨w.heap.size, 0, none⟩) [l0, l1] := fun _ => by
  have hb : Below w.heap.size w (w.alloc (.cells #[.slice p0 l0.length c0, .slice p1 l1.length c1] 52)) := (Below.refl _ _).alloc (Nat.le_refl _) _
  refine ⟨_, 0, rfl, fun i hi => ?_⟩
  have hi2 : i = 0 ∨ i = 1 := by simp at hi; omega
  rcases hi2 with rfl | rfl
  · exact ⟨p0, c0, by rw [World.cell?_alloc_at _ _ _ _ rfl]; rfl, r0.below hb, n0⟩
  · exact ⟨p1, c1, by rw [World.cell?_alloc_at _ _ _ _ rfl]; rfl, r1.below hb, n1⟩
theorem rws1 {w : World} {p0 : Option Addr} {n c0 : Nat} {l0 : List Qm.St} (hn : n = l0.length) (r0 : Rd w p0 (stCells l0)) (n0 : p0 = none → c0 = 0) :
    Rws (w.alloc (.cells #[.slice p0 n c0] 52)) (some ⟨w.heap.size, 0, none⟩) [l0] := fun _ => by
  have hb : Below w.heap.size w (w.alloc (.cells #[.slice p0 n c0] 52)) := (Below.refl _ _).alloc (Nat.le_refl _) _
  refine ⟨_, 0, rfl, fun i hi => ?_⟩
  obtain rfl : i = 0 := by simpa using hi
  exact ⟨p0, c0, by rw [World.cell?_alloc_at _ _ _ _ rfl, hn]; rfl, r0.below hb, n0⟩

/-- rising, and all of three rows -/
def Key (l0 l1 l2 M : List Qm.St) : Prop := Qm.Rising M ∧ ∀ x, x ∈ M ↔ x ∈ l0 ∨ x ∈ l1 ∨ x ∈ l2
theorem Key.uniq {l0 l1 l2 M N : List Qm.St} (h : Key l0 l1 l2 M) (k : Key l0 l1 l2 N) : N = M := Qm.rising_uniq k.1 h.1 fun x => (k.2 x).trans (h.2 x).symm
theorem Key.len {l0 l1 l2 M : List Qm.St} (h : Key l0 l1 l2 M) (h0 : l0.length ≤ 200) (h1 : l1.length ≤ 200) (h2 : l2.length ≤ 200) : M.length ≤ 600 := by
  have := rising_len (F := l0 ++ (l1 ++ l2)) h.1 fun x hx => by simpa using (h.2 x).1 hx
  simp only [List.length_append] at this
  omega

set_option maxRecDepth 100000 in
set_option maxHeartbeats 2000000 in
theorem together_early (p0 p1 p2 : Option Addr) (c0 c1 c2 n0 n1 n2 : Nat) (w : World) (h : 200 < n0 ∨ 200 < n1 ∨ 200 < n2) : Calls Try.prog 7 #[.slice p0 n0 c0, .slice p1 n1 c1, .slice p2 n2 c2] w (Yes w) := by
  have HK := Lib.hid (knows_any w)
  by_cases h0 : 200 < n0
  · clear h
    go_enter Try.func7, Try.ntmps7
    go_wp2_with fail
    refine HK.out.mono ?_
    rintro e w1 ⟨rfl, hb⟩
    go_wp2
    go_ret
    exact ⟨rfl, hb⟩
  · have d0 : decide (200 < (n0 : Int)) = false := decide_eq_false (by omega)
    by_cases h1 : 200 < n1
    · clear h
      go_enter Try.func7, Try.ntmps7
      go_wp2_with fail
      refine HK.out.mono ?_
      rintro e w1 ⟨rfl, hb⟩
      go_wp2
      go_ret
      exact ⟨rfl, hb⟩
    · have h2 : 200 < n2 := by omega
      have d1 : decide (200 < (n1 : Int)) = false := decide_eq_false (by omega)
      clear h
      go_enter Try.func7, Try.ntmps7
      go_wp2_with fail
      refine HK.out.mono ?_
      rintro e w1 ⟨rfl, hb⟩
      go_wp2
      go_ret
      exact ⟨rfl, hb⟩

set_option maxRecDepth 100000 in
set_option maxHeartbeats 8000000 in
theorem queueTogether_walk (p0 : Option Addr) (c0 : Nat) (l0 : List Qm.St) (p1 : Option Addr) (c1 : Nat) (l1 : List Qm.St) (p2 : Option Addr) (c2 : Nat) (l2 : List Qm.St) (w : World) (r0 : Rd w p0 (stCells l0)) (_ : l0.length ≤ c0) (n0 : p0 = none → c0 = 0)
    (r1 : Rd w p1 (stCells l1)) (_ : l1.length ≤ c1) (n1 : p1 = none → c1 = 0) (r2 : Rd w p2 (stCells l2)) (_ : l2.length ≤ c2) (n2 : p2 = none → c2 = 0) :
    Calls Try.prog 7 #[.slice p0 l0.length c0, .slice p1 l1.length c1, .slice p2 l2.length c2] w (Yes w) := by
  by_cases hbig : 200 < l0.length ∨ 200 < l1.length ∨ 200 < l2.length
  · exact together_early p0 p1 p2 c0 c1 c2 _ _ _ w hbig
  · have q0 : l0.length ≤ 200 := by omega
    have q1 : l1.length ≤ 200 := by omega
    have q2 : l2.length ≤ 200 := by omega
    have d0 : decide (200 < (l0.length : Int)) = false := decide_eq_false (by omega)
    have d1 : decide (200 < (l1.length : Int)) = false := decide_eq_false (by omega)
    have d2 : decide (200 < (l2.length : Int)) = false := decide_eq_false (by omega)
    obtain ⟨i0, hi, hz0, hz1, hz2⟩ := info_parts info_st
    have HR0 := Lib.hid r0
    have HR1 := Lib.hid r1
    have HR2 := Lib.hid r2
    have HN0 := Lib.hid n0
    have HN1 := Lib.hid n1
    have HN2 := Lib.hid n2
    have HX := Lib.hid (merge_any _ 3 _ _ (rws3 r0 r1 r2 n0 n1 n2) (by simp [flatL]; omega) (by simp))
    have HBX := Lib.hid ((Below.refl w.heap.size w).alloc (Nat.le_refl _) (.cells #[.slice p0 l0.length c0, .slice p1 l1.length c1, .slice p2 l2.length c2] 52))
    clear r0 r1 r2 n0 n1 n2 hbig
    go_enter Try.func7, Try.ntmps7
    go_wp2_with fail
    refine HX.out.mono ?_
    rintro e w1 ⟨px, cx, X, rfl, hrx, hnx, -, hRx, hmx, -, hb1⟩
    have HKX := Lib.hid (show Key l0 l1 l2 X from ⟨hRx, fun x => by rw [hmx x]; simp [flatL]⟩)
    have HB1 := Lib.hid (HBX.out.trans (hb1.mono (by simp)))
    have HRX := Lib.hid hrx
    have HNX := Lib.hid hnx
    have hXl : X.length ≤ 600 := HKX.out.len q0 q1 q2
    have HY := Lib.hid (merge_any _ 2 _ _ (rws2 (HR1.out.below HB1.out) (HR0.out.below HB1.out) HN1.out HN0.out) (by simp [flatL]; omega) (by simp))
    have HBY := Lib.hid ((Below.refl w1.heap.size w1).alloc (Nat.le_refl _) (.cells #[.slice p1 l1.length c1, .slice p0 l0.length c0] 52))
    clear hrx hnx hRx hmx hb1
    go_wp2_with fail
    refine HY.out.mono ?_
    rintro e w2 ⟨py, cy, Y, rfl, hry, hny, -, hRy, hmy, -, hb2⟩
    have HB2 := Lib.hid (HB1.out.trans ((HBY.out.trans (hb2.mono (by simp))).mono HB1.out.size))
    have HB12 := Lib.hid (HBY.out.trans (hb2.mono (by simp)))
    have hYl : Y.length ≤ 400 := by
      have := rising_len (F := l1 ++ l0) hRy fun x hx => by have := (hmy x).1 hx; simpa [flatL] using this
      simp only [List.length_append] at this
      omega
    have HMY := Lib.hid hmy
    have HY2 := Lib.hid (merge_any _ 2 _ _ (rws2 (HR2.out.below HB2.out) hry HN2.out hny) (by simp [flatL]; omega) (by simp))
    have HBZ := Lib.hid ((Below.refl w2.heap.size w2).alloc (Nat.le_refl _) (.cells #[.slice p2 l2.length c2, .slice py Y.length cy] 52))
    clear hry hny hRy hmy hb2
    go_wp2_with fail
    refine HY2.out.mono ?_
    rintro e w3 ⟨pz, cz, Z, rfl, hrz, hnz, -, hRz, hmz, -, hb3⟩
    obtain rfl : Z = X := HKX.out.uniq ⟨hRz, fun x => by
      rw [hmz x]
      have := HMY.out x
      simp only [flatL, List.flatten_cons, List.flatten_nil, List.append_nil, List.mem_append] at this ⊢
      rw [this]
      constructor
      · rintro (h | h | h)
        · exact Or.inr (Or.inr h)
        · exact Or.inr (Or.inl h)
        · exact Or.inl h
      · rintro (h | h | h)
        · exact Or.inr (Or.inr h)
        · exact Or.inr (Or.inl h)
        · exact Or.inl h⟩
    have HB3 := Lib.hid (HB2.out.trans ((HBZ.out.trans (hb3.mono (by simp))).mono HB2.out.size))
    have HB13 := Lib.hid (HB12.out.trans ((HBZ.out.trans (hb3.mono (by simp))).mono HB12.out.size))
    have HRZ := Lib.hid hrz
    clear hrz hnz hRz hmz hb3
    -- the three rows appended
    have ho0 := World.ownsRow_lit (base := w3.heap.size) (e := 34) (size := 2) w3 #[] 0 (Nat.le_refl _) (by simp [maxLen]) (by simp)
    have HO0 := Lib.hid ho0
    have hba : Below w3.heap.size w3 (w3.alloc (.cells #[] 34)) := (Below.refl _ _).alloc (Nat.le_refl _) _
    have HBA := Lib.hid hba
    have HA0 := Lib.hid ((HR0.out.below HB3.out).below hba)
    clear ho0 hba
    go_wp2_with (at_builtin; refine wpList_append_k rfl (.tmp 39) _ 52 rfl w3.heap.size 34 i0 _ 2 16 Try.underlying52 hi hz0 hz1 (by decide) hz2 (by decide) rfl _ 0 [] rfl HO0.out _ l0.length c0 (stCells l0) rfl (stCells_length l0) HA0.out HN0.out stCells_one (by omega) (by simp) ?_)
    intro pa ca wa hoa hga _
    have HOA := Lib.hid (show wa.ownsRow w3.heap.size 34 2 (.slice pa l0.length ca) l0.length (stCells l0) by simpa using hoa)
    have HBA1 := Lib.hid (HBA.out.grown hga (by simp) (fun k hk => by cases hk; exact Nat.le_refl _))
    have HA1 := Lib.hid ((HR1.out.below HB3.out).below HBA1.out)
    have hw3a := HBA1.out.size
    have hza : 0 + l0.length = l0.length := by omega
    clear hoa hga
    go_wp2_with (at_builtin; refine wpList_append_k rfl (.tmp 41) _ 52 rfl w3.heap.size 34 i0 _ 2 16 Try.underlying52 hi hz0 hz1 (by decide) hz2 (by decide) rfl _ l0.length (stCells l0) rfl HOA.out _ l1.length c1 (stCells l1) rfl (stCells_length l1) HA1.out HN1.out stCells_one (by omega) hw3a ?_)
    intro pb cb wb hob hgb _
    have HOB := Lib.hid hob
    have HBA2 := Lib.hid (HBA1.out.grown hgb hw3a (fun k hk => (World.ownsRow.lt HOA.out k hk).1))
    have HA2 := Lib.hid ((HR2.out.below HB3.out).below HBA2.out)
    have hw3b := HBA2.out.size
    clear hob hgb
    go_wp2_with (at_builtin; refine wpList_append_k rfl (.tmp 43) _ 52 rfl w3.heap.size 34 i0 _ 2 16 Try.underlying52 hi hz0 hz1 (by decide) hz2 (by decide) rfl _ (l0.length + l1.length) (stCells l0 ++ stCells l1) rfl HOB.out _ l2.length c2 (stCells l2) rfl (stCells_length l2) HA2.out HN2.out stCells_one (by omega) hw3b ?_)
    intro pc cc wc hoc hgc _
    have HBA3 := Lib.hid (HBA2.out.grown hgc hw3b (fun k hk => (World.ownsRow.lt HOB.out k hk).1))
    obtain ⟨pc', cc', ec, hrc, -, -, hnc, -⟩ := own_rd hoc
    obtain ⟨rfl, rfl⟩ : pc = pc' ∧ cc = cc' := by cases ec; exact ⟨rfl, rfl⟩
    have hlc : l0.length + l1.length + l2.length = (l0 ++ l1 ++ l2).length := by simp; omega
    have HM3 := Lib.hid (merge_any _ 1 _ _ (rws1 (w := wc) (p0 := pc) (n := l0.length + l1.length + l2.length) (c0 := cc) (l0 := l0 ++ l1 ++ l2) hlc (by rw [stCells_append, stCells_append, List.append_assoc]; exact hrc) hnc) (by simp [flatL]; omega) (by simp))
    have HBC := Lib.hid ((Below.refl wc.heap.size wc).alloc (Nat.le_refl _) (.cells #[.slice pc (l0.length + l1.length + l2.length) cc] 52))
    clear hoc hgc ec hrc hnc hlc
    go_wp2_with fail
    refine HM3.out.mono ?_
    rintro e w4 ⟨pv, cv, V, rfl, hrv, hnv, -, hRv, hmv, -, hb4⟩
    obtain rfl : V = Z := HKX.out.uniq ⟨hRv, fun x => by rw [hmv x]; simp [flatL]⟩
    have HB4 := Lib.hid (HB3.out.trans (((HBA3.out.trans ((HBC.out.trans (hb4.mono (by simp))).mono HBA3.out.size))).mono HB3.out.size))
    have HB34 := Lib.hid (HBA3.out.trans ((HBC.out.trans (hb4.mono (by simp))).mono HBA3.out.size))
    have HB14 := Lib.hid (HB13.out.trans (HB34.out.mono HB13.out.size))
    have HS1 := Lib.hid (same_any px pz cx cz V V w4 (HRX.out.below HB14.out) (HRZ.out.below HB34.out) (by omega))
    have HRV := Lib.hid hrv
    rw [decide_eq_true rfl] at HS1
    clear hrv hnv hRv hmv hb4
    go_wp2_with fail
    refine HS1.out.mono ?_
    rintro e w5 ⟨rfl, hb5⟩
    have HB5 := Lib.hid (HB4.out.trans (hb5.mono HB4.out.size))
    have HB15 := Lib.hid (HB14.out.trans (hb5.mono HB14.out.size))
    have HS2 := Lib.hid (same_any px pv cx cv V V w5 (HRX.out.below HB15.out) (HRV.out.below hb5) (by omega))
    rw [decide_eq_true rfl] at HS2
    clear hb5
    go_wp2_with fail
    refine HS2.out.mono ?_
    rintro e w6 ⟨rfl, hb6⟩
    have HB6 := Lib.hid (HB5.out.trans (hb6.mono HB5.out.size))
    have HB16 := Lib.hid (HB15.out.trans (hb6.mono HB15.out.size))
    have HM4 := Lib.hid (merge_any _ 2 _ _ (rws2 (HRX.out.below HB16.out) (HRX.out.below HB16.out) HNX.out HNX.out) (by simp [flatL]; omega) (by simp))
    have HBD := Lib.hid ((Below.refl w6.heap.size w6).alloc (Nat.le_refl _) (.cells #[.slice px V.length cx, .slice px V.length cx] 52))
    clear hb6
    go_wp2_with fail
    refine HM4.out.mono ?_
    rintro e w7 ⟨pu, cu, U, rfl, hru, hnu, -, hRu, hmu, -, hb7⟩
    obtain rfl : U = V := Qm.rising_uniq hRu HKX.out.1 fun x => by rw [hmu x]; simp [flatL]
    have HB7 := Lib.hid (HB6.out.trans ((HBD.out.trans (hb7.mono (by simp))).mono HB6.out.size))
    have HB17 := Lib.hid (HB16.out.trans ((HBD.out.trans (hb7.mono (by simp))).mono HB16.out.size))
    have HS3 := Lib.hid (same_any px pu cx cu U U w7 (HRX.out.below HB17.out) hru (by omega))
    rw [decide_eq_true rfl] at HS3
    clear hru hnu hRu hmu hb7
    go_wp2_with fail
    refine HS3.out.mono ?_
    rintro e w8 ⟨rfl, hb8⟩
    have HB8 := Lib.hid (HB7.out.trans (hb8.mono HB7.out.size))
    have HB18 := Lib.hid (HB17.out.trans (hb8.mono HB17.out.size))
    have HRS := Lib.hid (rising_any px cx U w8 (HRX.out.below HB18.out) (by omega))
    rw [decide_eq_true HKX.out.1] at HRS
    clear hb8
    go_wp2_with fail
    refine HRS.out.mono ?_
    rintro e w9 ⟨rfl, hb9⟩
    have HB9 := Lib.hid (HB8.out.trans (hb9.mono HB8.out.size))
    have HB19 := Lib.hid (HB18.out.trans (hb9.mono HB18.out.size))
    have HRX9 := Lib.hid (HRX.out.below HB19.out)
    have HR19 := Lib.hid (HR1.out.below HB9.out)
    clear hb9
    go_wp2
    go_loopw [10] (fun i wr => ∃ k : Nat, k ≤ l1.length ∧ i = .int .i64 (k : Int) ∧ Below w9.heap.size w9 wr) (fun i _ => l1.length - (intOf i).toNat)
    case atStart => exact ⟨0, Nat.zero_le _, rfl, Below.refl _ _⟩
    case round =>
      obtain ⟨k, hk, rfl, hb⟩ := hrel
      have HB := Lib.hid hb
      have hrx := HRX9.out.below hb
      have hr1 := HR19.out.below hb
      clear hb
      by_cases hlt : k < l1.length
      · obtain ⟨b1, o1, rfl, -⟩ := hr1.addr (by rw [stCells_length]; omega)
        obtain ⟨y0, y1⟩ := hr1.st k hlt
        have hmem : Qm.stOf l1 k ∈ U := (HKX.out.2 _).2 (Or.inr (Or.inl (by rw [Qm.stOf_lt hlt]; exact List.getElem_mem _)))
        have HME := Lib.hid hmem
        have HPL := Lib.hid (place_any px cx U (Qm.stOf l1 k).1 (Qm.stOf l1 k).2 wr hrx (by omega))
        have HY0 := Lib.hid (And.intro y0 y1)
        have HXR := Lib.hid hrx
        clear hrx hr1 hmem
        go_wp2_with fail
        refine HPL.out.mono ?_
        rintro e w2 ⟨n, bb, rfl, hp, hb2⟩
        obtain ⟨hnl, heq, rfl⟩ : n < U.length ∧ Qm.stOf U n = Qm.stOf l1 k ∧ bb = true := by
          rcases hp with ⟨-, h1, h2, h3, h4⟩ | ⟨h, -⟩
          · obtain ⟨a, ha, he⟩ := List.getElem_of_mem HME.out
            have hst : Qm.stOf U a = Qm.stOf l1 k := by rw [Qm.stOf_lt ha]; exact he
            have han : a = n := by
              rcases Nat.lt_trichotomy a n with h | h | h
              · exact absurd (h2 a h) (by rw [hst]; exact Qm.ltS_irrefl _)
              · exact h
              · exact absurd (by have := rising_le HKX.out.1 h ha; rw [hst] at this; exact this) (h3 (by omega))
            subst han
            exact ⟨ha, hst, by rw [h4]; exact decide_eq_true ⟨ha, hst⟩⟩
          · exact absurd HKX.out.1 h
        have hrx2 := HXR.out.below hb2
        obtain ⟨b, o, rfl, -⟩ := hrx2.addr (by rw [stCells_length]; omega)
        obtain ⟨z0, z1⟩ := hrx2.st n hnl
        rw [heq] at z0 z1
        have y0 : w2.cell? ⟨b1, o1 + k * 2, none⟩ = some (.int .i64 (Qm.stOf l1 k).1) := by rw [hb2.cell (cell_lt HY0.out.1)]; exact HY0.out.1
        have y1 : w2.cell? ⟨b1, o1 + k * 2 + 1, none⟩ = some (.int .i64 (Qm.stOf l1 k).2) := by rw [hb2.cell (cell_lt HY0.out.2)]; exact HY0.out.2
        have HB2' := Lib.hid (HB.out.trans (hb2.mono HB.out.size))
        have hUl : n ≤ 600 := by omega
        have dn : decide ((n : Int) < 0) = false := decide_eq_false (by omega)
        have dl : decide ((U.length : Int) ≤ (n : Int)) = false := decide_eq_false (by omega)
        have dl2 : decide (U.length ≤ n) = false := decide_eq_false (by omega)
        clear hp hb2 hrx2 heq
        unfold intB
        go_wp2
        refine wp_region_held_drew (S := Bel w2) (by kernel_rfl) (Bel.start w2) (fun hS => ?_)
        refine wpAnyH_take (i := 0) (v := ?_) rfl (by kernel_rfl) (by kernel_rfl) (by kernel_rfl) (fun _ _ _ h => h) (Or.inl ⟨by kernel_rfl, ?_⟩) hS ?_
        rotate_left
        · intro W hSW
          go_simp
          all_goals with_reducible rfl
        refine wpAnyH_take (i := 1) (v := ?_) rfl (by kernel_rfl) (by kernel_rfl) (by kernel_rfl) (fun _ _ _ h => h) (Or.inl ⟨by kernel_rfl, ?_⟩) hS ?_
        rotate_left
        · intro W hSW
          go_simp
          all_goals with_reducible rfl
        refine wpAnyH_take (i := 2) (v := ?_) rfl (by kernel_rfl) (by kernel_rfl) (by kernel_rfl) (fun _ _ _ h => h) (Or.inl ⟨by kernel_rfl, ?_⟩) hS ?_
        rotate_left
        · intro W hSW
          go_simp
          all_goals with_reducible rfl
        refine wpAnyH_take (i := 3) (v := ?_) rfl (by kernel_rfl) (by kernel_rfl) (by kernel_rfl) (fun _ _ _ h => h) (Or.inl ⟨by kernel_rfl, ?_⟩) hS ?_
        rotate_left
        · intro W hSW
          go_simp
          all_goals with_reducible rfl
        refine wpAnyH_take (i := 4) (v := ?_) rfl (by kernel_rfl) (by kernel_rfl) (by kernel_rfl) (fun _ _ _ h => h) (Or.inl ⟨by kernel_rfl, ?_⟩) hS ?_
        rotate_left
        · intro W hSW
          go_simp
          all_goals with_reducible rfl
        refine wpAnyH_take (i := 5) (v := ?_) rfl (by kernel_rfl) (by kernel_rfl) (by kernel_rfl) (fun _ _ _ h => h) (Or.inl ⟨by kernel_rfl, ?_⟩) hS ?_
        rotate_left
        · intro W hSW
          go_simp
          all_goals with_reducible rfl
        refine wpAnyH_take (i := 6) (v := ?_) rfl (by kernel_rfl) (by kernel_rfl) (by kernel_rfl) (fun _ _ _ h => h) (Or.inl ⟨by kernel_rfl, ?_⟩) hS ?_
        rotate_left
        · intro W hSW
          go_simp
          all_goals with_reducible rfl
        refine wpAnyH_take (i := 7) (v := ?_) rfl (by kernel_rfl) (by kernel_rfl) (by kernel_rfl) (fun _ _ _ h => h) (Or.inl ⟨by kernel_rfl, ?_⟩) hS ?_
        rotate_left
        · intro W hSW
          go_simp
          all_goals with_reducible rfl
        refine wpAnyH_take (i := 8) (v := ?_) rfl (by kernel_rfl) (by kernel_rfl) (by kernel_rfl) (fun _ _ _ h => h) (Or.inl ⟨by kernel_rfl, ?_⟩) hS ?_
        rotate_left
        · intro W hSW
          go_simp
          all_goals with_reducible rfl
        refine wpAnyH_take (i := 9) (v := ?_) rfl (by kernel_rfl) (by kernel_rfl) (by kernel_rfl) (fun _ _ _ h => h) (Or.inl ⟨by kernel_rfl, ?_⟩) hS ?_
        rotate_left
        · intro W hSW
          go_simp
          all_goals with_reducible rfl
        refine wpAnyH_take (i := 10) (v := ?_) rfl (by kernel_rfl) (by kernel_rfl) (by kernel_rfl) (fun _ _ _ h => h) (Or.inl ⟨by kernel_rfl, ?_⟩) hS ?_
        rotate_left
        · intro W hSW
          go_simp
          all_goals with_reducible rfl
        refine wpAnyH_take (i := 11) (v := ?_) rfl (by kernel_rfl) (by kernel_rfl) (by kernel_rfl) (fun _ _ _ h => h) (Or.inl ⟨by kernel_rfl, ?_⟩) hS ?_
        rotate_left
        · intro W hSW
          go_simp
          all_goals with_reducible rfl
        refine wpAnyH_take (i := 12) (v := ?_) rfl (by kernel_rfl) (by kernel_rfl) (by kernel_rfl) (fun _ _ _ h => h) (Or.inl ⟨by kernel_rfl, ?_⟩) hS ?_
        rotate_left
        · intro W hSW
          go_simp
          all_goals with_reducible rfl
        refine wpAnyH_take (i := 13) (v := ?_) rfl (by kernel_rfl) (by kernel_rfl) (by kernel_rfl) (fun _ _ _ h => h) (Or.inl ⟨by kernel_rfl, ?_⟩) hS ?_
        rotate_left
        · intro W hSW
          go_simp
          all_goals with_reducible rfl
        refine wpAnyH_take (i := 14) (v := ?_) rfl (by kernel_rfl) (by kernel_rfl) (by kernel_rfl) (fun _ _ _ h => h) (Or.inl ⟨by kernel_rfl, ?_⟩) hS ?_
        rotate_left
        · intro W hSW
          go_simp
          all_goals with_reducible rfl
        refine wpAnyH_take (i := 15) (v := ?_) rfl (by kernel_rfl) (by kernel_rfl) (by kernel_rfl) (fun _ _ _ h => h) (Or.inl ⟨by kernel_rfl, ?_⟩) hS ?_
        rotate_left
        · intro W hSW
          go_simp
          all_goals with_reducible rfl
        refine wpAnyH_take (i := 16) (v := ?_) rfl (by kernel_rfl) (by kernel_rfl) (by kernel_rfl) (fun _ _ _ h => h) (Or.inl ⟨by kernel_rfl, ?_⟩) hS ?_
        rotate_left
        · intro W hSW
          have z0' := hSW.get z0
          have z1' := hSW.get z1
          go_simp
          all_goals with_reducible rfl
        refine wpAnyH_take (i := 17) (v := ?_) rfl (by kernel_rfl) (by kernel_rfl) (by kernel_rfl) (fun _ _ _ h => h) (Or.inl ⟨by kernel_rfl, ?_⟩) hS ?_
        rotate_left
        · intro W hSW
          go_simp
          all_goals with_reducible rfl
        refine wpAnyH_take (i := 18) (v := ?_) rfl (by kernel_rfl) (by kernel_rfl) (by kernel_rfl) (fun _ _ _ h => h) (Or.inl ⟨by kernel_rfl, ?_⟩) hS ?_
        rotate_left
        · intro W hSW
          go_simp
          all_goals with_reducible rfl
        refine wpAnyH_take (i := 19) (v := ?_) rfl (by kernel_rfl) (by kernel_rfl) (by kernel_rfl) (fun _ _ _ h => h) (Or.inl ⟨by kernel_rfl, ?_⟩) hS ?_
        rotate_left
        · intro W hSW
          go_simp
          all_goals with_reducible rfl
        refine wpAnyH_take (i := 20) (v := ?_) rfl (by kernel_rfl) (by kernel_rfl) (by kernel_rfl) (fun _ _ _ h => h) (Or.inl ⟨by kernel_rfl, ?_⟩) hS ?_
        rotate_left
        · intro W hSW
          have y0' := hSW.get y0
          have y1' := hSW.get y1
          go_simp
          all_goals with_reducible rfl
        refine wpAnyH_take (i := 21) (v := ?_) rfl (by kernel_rfl) (by kernel_rfl) (by kernel_rfl) (fun _ _ _ h => h) (Or.inl ⟨by kernel_rfl, ?_⟩) hS ?_
        rotate_left
        · intro W hSW
          go_simp
          all_goals with_reducible rfl
        refine wpAnyH_take (i := 22) (v := ?_) rfl (by kernel_rfl) (by kernel_rfl) (by kernel_rfl) (fun _ _ _ h => h) (Or.inl ⟨by kernel_rfl, ?_⟩) hS ?_
        rotate_left
        · intro W hSW
          go_simp
          all_goals with_reducible rfl
        refine wpAnyH_done (by kernel_rfl) ?_ _
        have HB3' := Lib.hid (HB2'.out.trans (Below.mono hS HB2'.out.size))
        clear hS
        go_simp
        go_wp2
        go_roundw
        case rel => exact ⟨k + 1, by omega, by go_num, HB3'.out⟩
        case measure => simp [intOf]; omega
      · have HK := Lib.hid (knows_any wr)
        clear hrx hr1
        go_wp2_with fail
        refine HK.out.mono ?_
        rintro e w10 ⟨rfl, hb10⟩
        have HE := Lib.hid (HB9.out.trans ((HB.out.trans (hb10.mono HB.out.size)).mono HB9.out.size))
        clear hb10
        go_wp2
        go_ret
        exact ⟨rfl, HE.out⟩

end Go.Proofs.Ytknjojmcjkpjiaa
