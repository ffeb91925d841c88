/-
  THE PROGRAM's QUEUE: Clone, New, Peek, Pop.
  No conditions but sizes.
-/
import Derived.Test.YtaplemkmkbjodaaGreatQQueue
namespace Go.Proofs.YtaplemkmkbjodaaGreat
open Go.RowKit

/-- what Clone leaves -/
def Cloned (l : List Qm.It) (w : World) (e : Ending) (w' : World) : Prop :=
  ∃ p' c', e = .returned (.slice p' l.length c') ∧ w'.ownsRow w.heap.size 115 3 (.slice p' l.length c') l.length (itCells l) ∧ Below w.heap.size w w'

set_option maxRecDepth 100000 in
set_option maxHeartbeats 2000000 in
theorem qclone_any (p : Option Addr) (cap : Nat) (l : List Qm.It) (w : World) (h : Rd w p (itCells l)) (hpn : p = none → cap = 0) (hl : l.length ≤ 2000) :
    Calls Tryz.prog 78 #[.slice p l.length cap] w (Cloned l w) := by
  obtain ⟨i0, hi, hz0, hz1, hz2⟩ := info_parts info_item
  have qT : ∀ (w : World) (a : Option Addr) (n c n' c' : Nat), (binOp .eql 136 (.slice a n c) (.slice none n' c')).run Tryz.prog w = .ok (.bool a.isNone) w := fun w a n c n' c' => Lib.run_eql_slice_nil w _ _ a n c n' c' Tryz.underlying136
  cases p with
  | none =>
    have h0 : l = [] := by
      cases l with
      | nil => rfl
      | cons a l =>
        obtain ⟨b, o, e, -⟩ := h (by rw [itCells_length]; simp)
        cases e
    subst h0
    have HE := Lib.hid (show Cloned [] w (.returned (.slice none 0 0)) w from ⟨none, 0, rfl, World.ownsRow_nil _ _ _ _, Below.refl _ _⟩)
    clear h hpn
    go_enter Tryz.func78, Tryz.ntmps78
    go_wp2
    go_ret
    exact HE.out
  | some a =>
    have hb : Below w.heap.size w (w.alloc (.cells #[] 115)) := (Below.refl _ _).alloc (Nat.le_refl _) _
    have HR := Lib.hid (h.below hb)
    have HB := Lib.hid hb
    have HO := Lib.hid (World.ownsRow_lit (base := w.heap.size) (e := 115) (size := 3) w #[] 0 (Nat.le_refl _) (by simp [maxLen]) (by simp))
    clear h hb hpn
    go_enter Tryz.func78, Tryz.ntmps78
    go_wp2_with (at_builtin; refine wpList_append_k rfl _ _ 136 rfl w.heap.size 115 i0 _ 3 24 Tryz.underlying136 hi hz0 hz1 (by decide) hz2 (by decide) rfl _ 0 [] rfl HO.out _ l.length cap (itCells l) rfl (itCells_length l) HR.out (fun e => by cases e) itCells_one (by omega) (by simp) ?_)
    intro p' c' w1 ho1 hg1 _
    have hbw := HB.out.grown hg1 (by simp) (fun k hk => by cases hk; exact Nat.le_refl _)
    have HE := Lib.hid (show Cloned l w (.returned (.slice p' l.length c')) w1 from ⟨p', c', rfl, by simpa using ho1, hbw⟩)
    clear ho1 hg1 hbw
    go_wp2
    go_ret
    exact HE.out

/-- what New leaves -/
def Newed (l : List Qm.It) (w : World) (e : Ending) (w' : World) : Prop :=
  ∃ q, e = .returned (.pointer (some ⟨q, 0, none⟩)) ∧ QO w' q (fun k => w.heap.size ≤ k ∧ k < w'.heap.size) l ∧ Below w.heap.size w w'

set_option maxRecDepth 100000 in
set_option maxHeartbeats 2000000 in
theorem new_any (p : Option Addr) (cap : Nat) (l : List Qm.It) (w : World) (h : Rd w p (itCells l)) (hpn : p = none → cap = 0) (hl : l.length ≤ 2000) (hcap : l.length ≤ cap) :
    Calls Tryz.prog 58 #[.slice p l.length cap] w (Newed l w) := by
  have HC := Lib.hid (qclone_any p cap l w h hpn hl)
  have hmin : min (l.length : Int) 1048576 = (l.length : Int) := by omega
  have hd : decide ((l.length : Int) < 1048576) = true := decide_eq_true (by omega)
  clear h hpn
  go_enter Tryz.func58, Tryz.ntmps58
  go_wp2_with fail
  refine HC.out.mono ?_
  rintro e w1 ⟨p1, c1, rfl, ho, hb⟩
  have hq : HQ (w1.alloc (.cells #[.slice p1 l.length c1] 137)) w1.heap.size p1 c1 l := by
    have hlt := World.ownsRow.lt ho
    refine ⟨World.cell?_alloc_at _ _ _ _ rfl, World.frozen?_alloc_at _ _ _ _ rfl, (own_base ho fun _ _ => Nat.zero_le _).alloc _, fun a ha e => ?_, hl⟩
    have := (hlt a.block (by rw [ha]; rfl)).2
    omega
  have HI := Lib.hid (init_any w1.heap.size p1 c1 l _ hq)
  have HN := Lib.hid (show ∀ a, p1 = some a → w.heap.size ≤ a.block ∧ a.block < w1.heap.size from fun a ha => World.ownsRow.lt ho a.block (by rw [ha]; rfl))
  have HB := Lib.hid (hb.alloc hb.size (.cells #[.slice p1 l.length c1] 137))
  have HS := Lib.hid hb.size
  clear ho hb hq
  go_wp2_with fail
  refine HI.out.mono ?_
  rintro e w2 ⟨rfl, d, hq, hp, hf, ht⟩
  have hsz := ht.size
  simp only [World.size_alloc] at hsz
  have HE := Lib.hid (show Newed l w (.returned (.pointer (some ⟨w2.heap.size, 0, none⟩))) (w2.alloc (.cells #[.pointer (some ⟨w1.heap.size, 0, none⟩)] 142)) by
    have h1 := HS.out
    have hb2 : Below w.heap.size w w2 := HB.out.trans (ht.below (fun k _ ⟨a, ha, e⟩ => by have := (HN.out a ha).1; omega) (by simp; omega))
    refine ⟨w2.heap.size, rfl, ⟨w1.heap.size, p1, c1, d, World.cell?_alloc_at _ _ _ _ rfl, by omega, fun a ha => ?_, hq.below ((Below.refl _ _).alloc (Nat.le_refl _) _), hf, hp, ?_, ?_, ?_⟩, hb2.alloc hb2.size _⟩
    · have := (HN.out a ha).2; omega
    · simp; omega
    · simp; omega
    · rintro k ⟨a, ha, rfl⟩
      have := HN.out a ha
      simp; omega)
  clear hq hp hf ht hsz
  go_wp2
  go_ret
  exact HE.out

/-- three cells of a result are written -/
theorem res3 {W : World} {b : Nat} {u0 u1 u2 : Value} (h0 : W.cell? ⟨b, 0, none⟩ = some u0) (h1 : W.cell? ⟨b, 1, none⟩ = some u1) (h2 : W.cell? ⟨b, 2, none⟩ = some u2) (v0 v1 v2 : Value) :
    (W.setCell ⟨b, 0, none⟩ v0).cell? ⟨b, 0, none⟩ = some v0 ∧ (W.setCell ⟨b, 0, none⟩ v0).cell? ⟨b, 1, none⟩ = some u1 ∧ ((W.setCell ⟨b, 0, none⟩ v0).setCell ⟨b, 1, none⟩ v1).cell? ⟨b, 2, none⟩ = some u2 ∧
    (((W.setCell ⟨b, 0, none⟩ v0).setCell ⟨b, 1, none⟩ v1).setCell ⟨b, 2, none⟩ v2).cell? ⟨b, 0, none⟩ = some v0 ∧ (((W.setCell ⟨b, 0, none⟩ v0).setCell ⟨b, 1, none⟩ v1).setCell ⟨b, 2, none⟩ v2).cell? ⟨b, 1, none⟩ = some v1 ∧
    (((W.setCell ⟨b, 0, none⟩ v0).setCell ⟨b, 1, none⟩ v1).setCell ⟨b, 2, none⟩ v2).cell? ⟨b, 2, none⟩ = some v2 := by
  have k0 : (W.setCell ⟨b, 0, none⟩ v0).cell? ⟨b, 0, none⟩ = some v0 := qcell_same h0
  have k1 : (W.setCell ⟨b, 0, none⟩ v0).cell? ⟨b, 1, none⟩ = some u1 := by rw [qcell_other (by simp)]; exact h1
  have k2 : ((W.setCell ⟨b, 0, none⟩ v0).setCell ⟨b, 1, none⟩ v1).cell? ⟨b, 2, none⟩ = some u2 := by rw [qcell_other (by simp), qcell_other (by simp)]; exact h2
  refine ⟨k0, k1, k2, ?_, ?_, qcell_same k2⟩
  · rw [qcell_other (by simp), qcell_other (by simp)]; exact k0
  · rw [qcell_other (by simp)]; exact qcell_same k1

/-- the world in which a call has written its three result cells at block b -/
def put3 (W : World) (b : Nat) (v0 v1 v2 : Value) : World := ((W.setCell ⟨b, 0, none⟩ v0).setCell ⟨b, 1, none⟩ v1).setCell ⟨b, 2, none⟩ v2
theorem put3_turns (W : World) (b : Nat) (v0 v1 v2 : Value) : Turns (fun k => k = b) W (put3 W b v0 v1 v2) := by
  have tr : ∀ {a b' c : World}, Turns (fun k => k = b) a b' → Turns (fun k => k = b) b' c → Turns (fun k => k = b) a c := fun h k => h.trans (k.mono fun _ _ h => Or.inl h)
  exact tr (tr (turns_set b W 0 v0) (turns_set b _ 1 v1)) (turns_set b _ 2 v2)
theorem put3_below {B b : Nat} {w W : World} (h : Below B w W) (hb : B ≤ b) (v0 v1 v2 : Value) : Below B w (put3 W b v0 v1 v2) :=
  ((h.setCell (p := ⟨b, 0, none⟩) hb v0).setCell (p := ⟨b, 1, none⟩) hb v1).setCell (p := ⟨b, 2, none⟩) hb v2

/-- an item and whether there is one, as an answer -/
def itB (x : Qm.It) (b : Bool) : Value := .tuple #[.agg #[.int .i64 x.1.1, .int .i64 x.1.2, .int .i64 x.2], .bool b]

set_option maxRecDepth 100000 in
set_option maxHeartbeats 2000000 in
theorem qpop_no (v : Value) (w : World) (h : NoQ w v) : Calls Tryz.prog 61 #[v] w fun e w' => e = .returned (itB ((0, 0), 0) false) ∧ Below w.heap.size w w' := by
  have hb := (Below.refl w.heap.size w).alloc (Nat.le_refl _) (.cells #[.int .i64 0, .int .i64 0, .int .i64 0] 115)
  have h' : NoQ (w.alloc (.cells #[.int .i64 0, .int .i64 0, .int .i64 0] 115)) v := by
    rcases h with h | ⟨b, h, hc⟩
    · exact Or.inl h
    · exact Or.inr ⟨b, h, by rw [hb.cell (cell_lt hc)]; exact hc⟩
  have HO := Lib.hid (qlen_no v _ h')
  have HB := Lib.hid hb
  clear h h' hb
  go_enter Tryz.func61, Tryz.ntmps61
  go_wp2_with fail
  refine HO.out.mono ?_
  rintro e w1 ⟨rfl, rfl⟩
  go_wp2
  exact bodyPost_ret (v := itB ((0, 0), 0) false) (by simp [results, Tryz.results61, go_sem, itB]) rfl ⟨rfl, HB.out⟩

/-- what Peek leaves -/
def QPeeked (l : List Qm.It) (w : World) (e : Ending) (w' : World) : Prop :=
  ((l = [] ∧ e = .returned (itB ((0, 0), 0) false)) ∨ ∃ x, Qm.Least x l ∧ e = .returned (itB x true)) ∧ Below w.heap.size w w'

/-- what Pop leaves -/
def QPopped (q : Nat) (F : Nat → Prop) (l : List Qm.It) (w : World) (e : Ending) (w' : World) : Prop :=
  ((l = [] ∧ e = .returned (itB ((0, 0), 0) false) ∧ QO w' q (ext F w w') []) ∨ ∃ x m, Qm.Least x l ∧ (x :: m).Perm l ∧ e = .returned (itB x true) ∧ QO w' q (ext F w w') m) ∧ Turns F w w'

set_option maxRecDepth 100000 in
set_option maxHeartbeats 2000000 in
theorem qpop_any (q : Nat) (F : Nat → Prop) (l : List Qm.It) (w : World) (h : QO w q F l) : Calls Tryz.prog 61 #[.pointer (some ⟨q, 0, none⟩)] w (QPopped q F l w) := by
  have hb := (Below.refl w.heap.size w).alloc (Nat.le_refl _) (.cells #[.int .i64 0, .int .i64 0, .int .i64 0] 115)
  have h' := h.below hb
  have hsame := h'
  obtain ⟨c, p, cap, d, h1, h2, h3, h4, h5, h6, h7, h8, h9⟩ := h'
  have HL := Lib.hid (qlen_at q c p d.length cap _ h1 h4.cell)
  have HB := Lib.hid hb
  by_cases h0 : d.length = 0
  · have hl0 : l = [] := List.eq_nil_of_length_eq_zero (by rw [← h6.length_eq]; exact h0)
    subst hl0
    have HE := Lib.hid hsame
    rw [h0] at HL
    clear h hsame hb h1 h2 h3 h4 h5 h6 h7 h8 h9 h0
    go_enter Tryz.func61, Tryz.ntmps61
    go_wp2_with fail
    refine HL.out.mono ?_
    rintro e w1 ⟨rfl, rfl⟩
    go_wp2
    exact bodyPost_ret (v := itB ((0, 0), 0) false) (by simp [results, Tryz.results61, go_sem, itB]) rfl ⟨Or.inl ⟨rfl, rfl, HE.out.mono fun _ hk => Or.inl hk⟩, Turns.of_below HB.out⟩
  · obtain ⟨g, rfl, hr⟩ := h4.hr (by omega)
    have hx := (h5.least (by omega)).perm h6
    have hpos : 0 < d.length := by omega
    have te : (((d.length : Nat) : Int) == 0) = false := by rw [beq_eq_false_iff_ne]; omega
    have hqq := h1
    have HP := Lib.hid (hpop_any c g cap d _ hr h5 hpos)
    have hcw : c < w.heap.size := by
      obtain ⟨c', p', cap', d', k1, k2, k3, k4, -⟩ := h
      have e : (w.alloc (.cells #[.int .i64 0, .int .i64 0, .int .i64 0] 115)).cell? ⟨q, 0, none⟩ = w.cell? ⟨q, 0, none⟩ := hb.cell (cell_lt k1)
      rw [e, k1] at h1
      cases h1
      exact cell_lt k4.cell
    have hgw : g < w.heap.size := by
      obtain ⟨c', p', cap', d', k1, k2, k3, k4, -⟩ := h
      have e : (w.alloc (.cells #[.int .i64 0, .int .i64 0, .int .i64 0] 115)).cell? ⟨q, 0, none⟩ = w.cell? ⟨q, 0, none⟩ := hb.cell (cell_lt k1)
      rw [e, k1] at h1
      cases h1
      have e2 : (w.alloc (.cells #[.int .i64 0, .int .i64 0, .int .i64 0] 115)).cell? ⟨c, 0, none⟩ = w.cell? ⟨c, 0, none⟩ := hb.cell (cell_lt k4.cell)
      have k5 := hr.cell
      rw [e2, k4.cell] at k5
      simp only [Option.some.injEq, Value.slice.injEq] at k5
      obtain ⟨rfl, -, -⟩ := k5
      exact (World.ownsRow.lt k4.own g rfl).2
    have HFQ := Lib.hid h7
    have HFC := Lib.hid h8
    have HFG := Lib.hid (h9 g ⟨_, rfl, rfl⟩)
    have HQ1 := Lib.hid (show q ≠ c ∧ q ≠ g ∧ q < w.heap.size from ⟨h2, fun e => h3 _ rfl e.symm, by
      obtain ⟨c', p', cap', d', k1, -⟩ := h
      exact cell_lt k1⟩)
    have HPM := Lib.hid h6
    have HX := Lib.hid hx
    unfold HPopped at HP
    generalize Qm.itAt d 0 = x at *
    obtain ⟨⟨t, r⟩, k⟩ := x
    dsimp only at *
    have z0 : (w.alloc (.cells #[.int .i64 0, .int .i64 0, .int .i64 0] 115)).cell? ⟨w.heap.size, 0, none⟩ = some (.int .i64 0) := World.cell?_alloc_at _ _ _ _ rfl
    have z1 : (w.alloc (.cells #[.int .i64 0, .int .i64 0, .int .i64 0] 115)).cell? ⟨w.heap.size, 1, none⟩ = some (.int .i64 0) := World.cell?_alloc_at _ _ _ _ rfl
    have z2 : (w.alloc (.cells #[.int .i64 0, .int .i64 0, .int .i64 0] 115)).cell? ⟨w.heap.size, 2, none⟩ = some (.int .i64 0) := World.cell?_alloc_at _ _ _ _ rfl
    have zf : ∀ o, (w.alloc (.cells #[.int .i64 0, .int .i64 0, .int .i64 0] 115)).frozen? ⟨w.heap.size, o, none⟩ = false := fun o => World.frozen?_alloc_at _ _ _ _ rfl
    have HZ := Lib.hid (And.intro z0 (And.intro z1 (And.intro z2 zf)))
    have ta := fun W => assert_item (.int .i64 t) (.int .i64 r) (.int .i64 k) W
    have HCG := Lib.hid (And.intro hcw hgw)
    clear h hsame hb h1 h2 h3 h4 h5 h6 h7 h8 h9 hx h0 hr z0 z1 z2 zf hcw hgw
    go_enter Tryz.func61, Tryz.ntmps61
    go_wp2_with fail
    refine HL.out.mono ?_
    rintro e w1 ⟨rfl, rfl⟩
    go_wp2_with fail
    refine HP.out.mono ?_
    rintro e w2 ⟨rfl, d', hq2, hp2, hf2, ht2⟩
    obtain ⟨z0, z1, z2, zf⟩ := HZ.out
    have hnb : ¬ (w.heap.size = c ∨ w.heap.size = g) := by have := HCG.out; omega
    have y0 := ht2.cell z0 hnb
    have y1 := ht2.cell z1 hnb
    have y2 := ht2.cell z2 hnb
    have yf0 : w2.frozen? ⟨w.heap.size, 0, none⟩ = false := by rw [ht2.frozen (by simp) hnb]; exact zf 0
    have yf1 : w2.frozen? ⟨w.heap.size, 1, none⟩ = false := by rw [ht2.frozen (by simp) hnb]; exact zf 1
    have yf2 : w2.frozen? ⟨w.heap.size, 2, none⟩ = false := by rw [ht2.frozen (by simp) hnb]; exact zf 2
    obtain ⟨r0, r1, r2, r3, r4, r5⟩ := res3 y0 y1 y2 (.int .i64 t) (.int .i64 r) (.int .i64 k)
    have HE := Lib.hid (show QPopped q F l w (.returned (itB ((t, r), k) true)) (put3 w2 w.heap.size (.int .i64 t) (.int .i64 r) (.int .i64 k)) by
      have hT : Turns (fun k => k = w.heap.size) w2 (put3 w2 w.heap.size (.int .i64 t) (.int .i64 r) (.int .i64 k)) := put3_turns _ _ _ _ _
      have hsz := ht2.size
      simp only [World.size_alloc] at hsz
      refine ⟨Or.inr ⟨_, d', HX.out, hp2.trans HPM.out, rfl, c, some ⟨g, 0, none⟩, cap, d', ?_, HQ1.out.1, fun a ha => by cases ha; exact fun e => HQ1.out.2.1 e.symm, ?_, hf2, List.Perm.refl _, Or.inl HFQ.out, Or.inl HFC.out, ?_⟩, ?_⟩
      · exact hT.cell (ht2.cell hqq (show ¬ (q = c ∨ q = g) from by have := HQ1.out; omega)) (by have := HQ1.out; simp; omega)
      · exact hq2.turns hT (by have := HCG.out; simp; omega) (fun a ha => by cases ha; have := HCG.out; simp; omega)
      · rintro j ⟨a, ha, rfl⟩; cases ha; exact Or.inl HFG.out
      · refine (Turns.of_below HB.out).trans ((ht2.mono fun j _ hj => Or.inl ?_).trans (hT.mono fun j _ hj => Or.inl (Or.inr (by omega))))
        rcases hj with rfl | rfl
        · exact HFC.out
        · exact HFG.out)
    clear hq2 hp2 hf2 ht2 z0 z1 z2 zf hnb
    go_wp2
    exact bodyPost_ret (v := itB ((t, r), k) true) (by simp [results, Tryz.results61, go_sem, itB, r3, r4, r5]) rfl HE.out

end Go.Proofs.YtaplemkmkbjodaaGreat
