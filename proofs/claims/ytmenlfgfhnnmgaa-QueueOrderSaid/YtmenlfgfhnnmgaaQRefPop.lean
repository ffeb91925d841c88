/-
  THE DOCUMENT's QUEUE: Pop.
  No conditions but sizes.
-/
import Derived.Test.YtmenlfgfhnnmgaaQRefQ2
import Derived.Test.YtmenlfgfhnnmgaaQWith
namespace Go.Proofs.Ytmenlfgfhnnmgaa
open Go.RowKit

/-- what the document's Pop leaves -/
def RPopped (s : Nat) (p : Option Addr) (d : List Qm.It) (w : World) (e : Ending) (w' : World) : Prop :=
  ∃ p' cap' m, RQ w' s p' cap' m ∧ ((d = [] ∧ m = [] ∧ e = .returned (itB ((0, 0), 0) false)) ∨ ∃ x, Qm.Least x d ∧ (x :: m).Perm d ∧ e = .returned (itB x true)) ∧ (∀ a, p' = some a → p = some a ∨ w.heap.size ≤ a.block) ∧ Turns (fun k => k = s) w w'

/-- the row without place i, behind the appends, under its cell -/
theorem rpopped_new {s i n c' : Nat} {p p' : Option Addr} {cap : Nat} {d : List Qm.It} {x : Qm.It} {w w1 wb : World} (h : RQ w1 s p cap d) (hb1 : Below w.heap.size w w1) (hw1 : w.heap.size + 1 ≤ w1.heap.size) (hs : s < w.heap.size) (hbb : Below w1.heap.size w1 wb)
    (ho : wb.ownsRow (w1.heap.size + 1) 36 3 (.slice p' n c') n (itCells (d.take i) ++ itCells (d.drop (i + 1)))) (hn : n = i + (d.length - (i + 1))) (hi : i < d.length)
    (hx : Qm.Least x d) (hpm : (x :: (d.take i ++ d.drop (i + 1))).Perm d) (t r k : Int) :
    RPopped s p d w (.returned (itB x true)) (put3 (wb.setCell ⟨s, 0, none⟩ (.slice p' n c')) w.heap.size (.int .i64 t) (.int .i64 r) (.int .i64 k)) := by
  have hl : (d.take i ++ d.drop (i + 1)).length = n := by rw [List.length_append, List.length_take, List.length_drop]; omega
  have hcell := (h.below hbb).cell
  have hfree := (h.below hbb).free
  have hlt := World.ownsRow.lt ho
  have h1 : Turns (fun k => k = s) wb (wb.setCell ⟨s, 0, none⟩ (.slice p' n c')) := turns_set s wb 0 _
  have h2 := put3_turns (wb.setCell ⟨s, 0, none⟩ (.slice p' n c')) w.heap.size (.int .i64 t) (.int .i64 r) (.int .i64 k)
  have hsw : s ≠ w.heap.size := by omega
  refine ⟨p', c', d.take i ++ d.drop (i + 1), ⟨?_, ?_, ?_, ?_, ?_⟩, Or.inr ⟨x, hx, hpm, rfl⟩, fun a ha => ?_, ?_⟩
  · rw [hl]
    exact h2.cell (cell_same hcell) hsw
  · rw [h2.frozen (cell_lt (cell_same hcell)) hsw, World.frozen?_setCell]; exact hfree
  · rw [hl, itCells_append]
    refine h2.own (h1.own (own_base ho fun _ _ => Nat.zero_le _) fun g hg e => ?_) fun g hg e => ?_
    · have := (hlt g hg).1; omega
    · have := (hlt g hg).1; omega
  · intro a ha e
    have := (hlt a.block (by rw [ha]; rfl)).1
    omega
  · have := h.len; rw [hl]; omega
  · right
    have := (hlt a.block (by rw [ha]; rfl)).1
    omega
  · have k1 : Below w.heap.size w wb := hb1.trans (hbb.mono (by omega))
    refine (Turns.of_below (F := fun k => k = s) k1).trans ((h1.mono fun j _ hj => Or.inl hj).trans (h2.mono fun j _ hj => ?_))
    exact Or.inl (Or.inr (by omega))

set_option maxRecDepth 100000 in
set_option maxHeartbeats 1500000 in
theorem rpop_any (s : Nat) (p : Option Addr) (cap : Nat) (d : List Qm.It) (w : World) (h : RQ w s p cap d) :
    Calls Try.prog 30 #[.pointer (some ⟨s, 0, none⟩)] w (RPopped s p d w) := by
  obtain ⟨i0, hi, hz0, hz1, hz2⟩ := info_parts info_ritem
  have hb := (Below.refl w.heap.size w).alloc (Nat.le_refl _) (.cells #[.int .i64 0, .int .i64 0, .int .i64 0] 36)
  have HF := Lib.hid (first_any s p cap d _ (h.below hb))
  have HH := Lib.hid (h.below hb)
  have HB := Lib.hid hb
  have hsw := cell_lt h.cell
  have HGW := Lib.hid (show ∀ a, p = some a → a.block < w.heap.size from fun a ha => (World.ownsRow.lt h.own a.block (by rw [ha]; rfl)).2)
  have HNE := Lib.hid h.ne
  have z0 : (w.alloc (.cells #[.int .i64 0, .int .i64 0, .int .i64 0] 36)).cell? ⟨w.heap.size, 0, none⟩ = some (.int .i64 0) := World.cell?_alloc_at _ _ _ _ rfl
  have z1 : (w.alloc (.cells #[.int .i64 0, .int .i64 0, .int .i64 0] 36)).cell? ⟨w.heap.size, 1, none⟩ = some (.int .i64 0) := World.cell?_alloc_at _ _ _ _ rfl
  have z2 : (w.alloc (.cells #[.int .i64 0, .int .i64 0, .int .i64 0] 36)).cell? ⟨w.heap.size, 2, none⟩ = some (.int .i64 0) := World.cell?_alloc_at _ _ _ _ rfl
  have zf : ∀ o, (w.alloc (.cells #[.int .i64 0, .int .i64 0, .int .i64 0] 36)).frozen? ⟨w.heap.size, o, none⟩ = false := fun o => World.frozen?_alloc_at _ _ _ _ rfl
  have HZ := Lib.hid (And.intro z0 (And.intro z1 (And.intro z2 zf)))
  clear h hb z0 z1 z2 zf
  go_enter Try.func30, Try.ntmps30
  go_wp2_with fail
  refine HF.out.mono ?_
  rintro e w1 ⟨k, hk, rfl, hb1⟩
  obtain ⟨z0, z1, z2, zf⟩ := HZ.out
  have y0 := hb1.cell (p := ⟨w.heap.size, 0, none⟩) (by simp)
  have y1 := hb1.cell (p := ⟨w.heap.size, 1, none⟩) (by simp)
  have y2 := hb1.cell (p := ⟨w.heap.size, 2, none⟩) (by simp)
  rw [z0] at y0
  rw [z1] at y1
  rw [z2] at y2
  have yf0 : w1.frozen? ⟨w.heap.size, 0, none⟩ = false := by rw [hb1.frozen (by simp)]; exact zf 0
  have yf1 : w1.frozen? ⟨w.heap.size, 1, none⟩ = false := by rw [hb1.frozen (by simp)]; exact zf 1
  have yf2 : w1.frozen? ⟨w.heap.size, 2, none⟩ = false := by rw [hb1.frozen (by simp)]; exact zf 2
  have HW := Lib.hid (HH.out.below hb1)
  have HB1 := Lib.hid (HB.out.trans (hb1.mono (by simp)))
  have hc := HW.out.cell
  have hcf := HW.out.free
  have hw1 : w.heap.size + 1 ≤ w1.heap.size := by have := hb1.size; simpa using this
  clear hb1 z0 z1 z2 zf
  rcases hk with ⟨hd, rfl⟩ | ⟨i, rfl, hi0, hx⟩
  · subst hd
    obtain ⟨r0, r1, r2, r3, r4, r5⟩ := res3 y0 y1 y2 (.int .i64 0) (.int .i64 0) (.int .i64 0)
    have HT := Lib.hid (put3_turns w1 w.heap.size (.int .i64 0) (.int .i64 0) (.int .i64 0))
    have HP := Lib.hid (put3_below HB1.out (Nat.le_refl _) (.int .i64 0) (.int .i64 0) (.int .i64 0))
    go_wp2
    exact bodyPost_ret (v := itB ((0, 0), 0) false) (by simp [results, Try.results30, go_sem, itB, r3, r4, r5]) rfl ⟨p, cap, [], HW.out.turns HT.out (by omega) (fun a ha => by have := HGW.out a ha; omega), Or.inl ⟨rfl, rfl, rfl⟩, fun a ha => Or.inl ha, Turns.of_below HP.out⟩
  · have hrd := HW.out.rd
    have hlen := HW.out.len
    obtain ⟨b, o, rfl, -⟩ := hrd.addr (by rw [itCells_length]; omega)
    obtain ⟨x0, x1, x2⟩ := hrd.it i hi0
    have hcap : d.length ≤ cap := by
      obtain ⟨p', c', e, -, h1, -⟩ := own_rd HW.out.own
      cases e
      exact h1
    have HX := Lib.hid hx
    have HPM := Lib.hid (Qm.erase_perm hi0)
    have di : decide ((i : Int) < 0) = false := decide_eq_false (by omega)
    generalize Qm.itAt d i = x at *
    obtain ⟨⟨t, r⟩, k⟩ := x
    dsimp only at *
    clear hrd hx
    have hbw2 : Below w1.heap.size w1 ((w1.alloc (.cells #[.int .i64 t, .int .i64 r, .int .i64 k] 36)).alloc (.cells #[] 36)) := ((Below.refl _ _).alloc (Nat.le_refl _) _).alloc (by simp) _
    have hlit : ((w1.alloc (.cells #[.int .i64 t, .int .i64 r, .int .i64 k] 36)).alloc (.cells #[] 36)).drew.ownsRow (w1.heap.size + 1) 36 3 (.slice (some ⟨w1.heap.size + 1, 0, none⟩) 0 0) 0 [] := by
      have h9 := World.ownsRow_lit (base := w1.heap.size + 1) (e := 36) (size := 3) (w1.alloc (.cells #[.int .i64 t, .int .i64 r, .int .i64 k] 36)) #[] 0 (by simp) (by simp [maxLen]) (by simp)
      rw [World.size_alloc] at h9
      exact h9
    have HLIT := Lib.hid hlit
    have HBA := Lib.hid hbw2.drew
    have HWA := Lib.hid (HW.out.below hbw2.drew)
    have hc2 : ((w1.alloc (.cells #[.int .i64 t, .int .i64 r, .int .i64 k] 36)).alloc (.cells #[] 36)).cell? ⟨s, 0, none⟩ = _ := (HW.out.below hbw2).cell
    have hc1 : (w1.alloc (.cells #[.int .i64 t, .int .i64 r, .int .i64 k] 36)).cell? ⟨s, 0, none⟩ = _ := (HW.out.below ((Below.refl _ _).alloc (Nat.le_refl _) _)).cell
    have HBA2 := Lib.hid (show Below (w1.heap.size + 1) (w1.alloc (.cells #[.int .i64 t, .int .i64 r, .int .i64 k] 36)) ((w1.alloc (.cells #[.int .i64 t, .int .i64 r, .int .i64 k] 36)).alloc (.cells #[] 36)).drew from by have h9 := ((Below.refl (w1.alloc (.cells #[.int .i64 t, .int .i64 r, .int .i64 k] 36)).heap.size (w1.alloc (.cells #[.int .i64 t, .int .i64 r, .int .i64 k] 36))).alloc (Nat.le_refl _) (.cells #[] 36)).drew; rw [World.size_alloc] at h9; exact h9)
    have q0 : (w1.alloc (.cells #[.int .i64 t, .int .i64 r, .int .i64 k] 36)).cell? ⟨w1.heap.size, 0, none⟩ = some (.int .i64 t) := World.cell?_alloc_at _ _ _ _ rfl
    have q1 : (w1.alloc (.cells #[.int .i64 t, .int .i64 r, .int .i64 k] 36)).cell? ⟨w1.heap.size, 1, none⟩ = some (.int .i64 r) := World.cell?_alloc_at _ _ _ _ rfl
    have q2 : (w1.alloc (.cells #[.int .i64 t, .int .i64 r, .int .i64 k] 36)).cell? ⟨w1.heap.size, 2, none⟩ = some (.int .i64 k) := World.cell?_alloc_at _ _ _ _ rfl
    have HQC := Lib.hid (And.intro q0 (And.intro q1 q2))
    have HYC := Lib.hid (And.intro y0 (And.intro y1 (And.intro y2 (And.intro yf0 (And.intro yf1 yf2)))))
    have HRT := Lib.hid (show Rd ((w1.alloc (.cells #[.int .i64 t, .int .i64 r, .int .i64 k] 36)).alloc (.cells #[] 36)).drew (some ⟨b, o, none⟩) (itCells (d.take i)) from by have h9 := (HWA.out.rd).take (i * 3); rw [itCells_take] at h9; exact h9)
    have hwi : IntKind.i64.wrap ((i : Int) + 1) = ((i + 1 : Nat) : Int) := by rw [wraps_i64 _ (by omega) (by omega)]; omega
    have hi1 : i + 1 ≤ d.length := hi0
    have hi2 : i + 1 ≤ cap := by omega
    have hi3 : i ≤ cap := by omega
    have hin1 : (0 : Int) ≤ (i : Int) + 1 := by omega
    have hin2 : (i : Int) + 1 ≤ (d.length : Int) := by omega
    have HSZ := Lib.hid (show w1.heap.size + 1 ≤ ((w1.alloc (.cells #[.int .i64 t, .int .i64 r, .int .i64 k] 36)).alloc (.cells #[] 36)).heap.size from by rw [World.size_alloc, World.size_alloc]; omega)
    have hus : (itCells (d.take i)).length = i * 3 := by rw [itCells_length, List.length_take]; omega
    clear hbw2 hlit q0 q1 q2 y0 y1 y2 yf0 yf1 yf2
    go_wp2
    go_region_law (first | (refine step_append_k0 rfl _ _ 22 rfl (w1.heap.size + 1) 36 i0 _ 3 24 Try.underlying22 hi hz0 hz1 (by decide) hz2 (by decide) rfl _ rfl HLIT.out _ i cap (itCells (d.take i)) rfl hus HRT.out (fun e => by cases e) itCells_one (by omega) HSZ.out ?_; intro pa ca wa hoa hga hfa; have HOA := Lib.hid hoa; have HNB := Lib.hid (HBA.out.grown hga (by have := HSZ.out; exact Nat.le_of_succ_le this) (fun j hj => by have := (World.ownsRow.lt HLIT.out j hj).1; omega)); have HNB2 := Lib.hid (HBA2.out.grown hga HSZ.out (fun j hj => (World.ownsRow.lt HLIT.out j hj).1)); have HWB := Lib.hid (HW.out.below HNB.out); have hc3 := HWB.out.cell; have HRD := Lib.hid (show Rd wa (if cap = i + 1 then some ⟨b, o, none⟩ else some ⟨b, o + (i + 1) * 3, none⟩) (itCells (d.drop (i + 1))) from by split <;> first | (exact (by have h8 := HWB.out.rd.drop ((i + 1) * 3); rw [itCells_drop] at h8; exact h8)) | (rw [List.drop_eq_nil_of_le (by omega)]; exact Rd.nil _ _)); have hza : w1.heap.size + 1 ≤ wa.heap.size := Nat.le_trans HSZ.out hga.size; clear hoa hga hfa) | (refine step_append_k rfl _ _ 22 rfl (w1.heap.size + 1) 36 i0 _ 3 24 Try.underlying22 hi hz0 hz1 (by decide) hz2 (by decide) rfl _ i (itCells (d.take i)) rfl HOA.out _ (d.length - (i + 1)) (cap - (i + 1)) (itCells (d.drop (i + 1))) rfl (by rw [itCells_length, List.length_drop]) HRD.out (fun e => by split at e <;> cases e) itCells_one (by omega) hza ?_; intro pb cb wb hob hgb hfb; have HOB := Lib.hid hob; have HNC := Lib.hid (HNB.out.grown hgb (by omega) (fun j hj => by have := (World.ownsRow.lt HOA.out j hj).1; omega)); have HNC2 := Lib.hid (HNB2.out.grown hgb hza (fun j hj => (World.ownsRow.lt HOA.out j hj).1)); have HWC := Lib.hid (HW.out.below HNC.out); have hc4 := HWC.out.cell; have hf4 := HWC.out.free; have hzb : w1.heap.size + 1 ≤ wb.heap.size := Nat.le_trans hza hgb.size; clear hob hgb hfb))
    all_goals
      have HFB := Lib.hid (show ∀ o, (⟨w.heap.size, o, none⟩ : Addr) ≠ ⟨s, 0, none⟩ from fun o e => by have := congrArg Addr.block e; simp at this; omega)
      have y0 := HNC.out.cell (p := ⟨w.heap.size, 0, none⟩) (by simp; omega)
      have y1 := HNC.out.cell (p := ⟨w.heap.size, 1, none⟩) (by simp; omega)
      have y2 := HNC.out.cell (p := ⟨w.heap.size, 2, none⟩) (by simp; omega)
      rw [HYC.out.1] at y0
      rw [HYC.out.2.1] at y1
      rw [HYC.out.2.2.1] at y2
      have f0 : wb.frozen? ⟨w.heap.size, 0, none⟩ = false := by rw [HNC.out.frozen (by simp; omega)]; exact HYC.out.2.2.2.1
      have f1 : wb.frozen? ⟨w.heap.size, 1, none⟩ = false := by rw [HNC.out.frozen (by simp; omega)]; exact HYC.out.2.2.2.2.1
      have f2 : wb.frozen? ⟨w.heap.size, 2, none⟩ = false := by rw [HNC.out.frozen (by simp; omega)]; exact HYC.out.2.2.2.2.2
      have x0 := HNC2.out.cell (p := ⟨w1.heap.size, 0, none⟩) (by simp)
      have x1 := HNC2.out.cell (p := ⟨w1.heap.size, 1, none⟩) (by simp)
      have x2 := HNC2.out.cell (p := ⟨w1.heap.size, 2, none⟩) (by simp)
      rw [HQC.out.1] at x0
      rw [HQC.out.2.1] at x1
      rw [HQC.out.2.2] at x2
      have hsn : s ≠ w1.heap.size := by omega
      have hsr : s ≠ w.heap.size := by omega
      have V0 : (wb.setCell ⟨s, 0, none⟩ (.slice pb (i + (d.length - (i + 1))) cb)).cell? ⟨w1.heap.size, 0, none⟩ = some (.int .i64 t) := by rw [cell_other (by simp)]; exact x0
      have V1 : (wb.setCell ⟨s, 0, none⟩ (.slice pb (i + (d.length - (i + 1))) cb)).cell? ⟨w1.heap.size, 1, none⟩ = some (.int .i64 r) := by rw [cell_other (by simp)]; exact x1
      have V2 : (wb.setCell ⟨s, 0, none⟩ (.slice pb (i + (d.length - (i + 1))) cb)).cell? ⟨w1.heap.size, 2, none⟩ = some (.int .i64 k) := by rw [cell_other (by simp)]; exact x2
      have Y0 : (wb.setCell ⟨s, 0, none⟩ (.slice pb (i + (d.length - (i + 1))) cb)).cell? ⟨w.heap.size, 0, none⟩ = some (.int .i64 0) := by rw [cell_other (by simp)]; exact y0
      have Y1 : (wb.setCell ⟨s, 0, none⟩ (.slice pb (i + (d.length - (i + 1))) cb)).cell? ⟨w.heap.size, 1, none⟩ = some (.int .i64 0) := by rw [cell_other (by simp)]; exact y1
      have Y2 : (wb.setCell ⟨s, 0, none⟩ (.slice pb (i + (d.length - (i + 1))) cb)).cell? ⟨w.heap.size, 2, none⟩ = some (.int .i64 0) := by rw [cell_other (by simp)]; exact y2
      obtain ⟨r0, r1, r2, r3, r4, r5⟩ := res3 Y0 Y1 Y2 (.int .i64 t) (.int .i64 r) (.int .i64 k)
      clear x0 x1 x2 y0 y1 y2
      generalize (if cap = i + 1 then (some ⟨b, o, none⟩ : Option Addr) else some ⟨b, o + (i + 1) * 3, none⟩) = pd
      go_wp2
      refine bodyPost_ret (v := itB ((t, r), k) true) (by simp [results, Try.results30, go_sem, itB, r3, r4, r5]) rfl ?_
      exact rpopped_new HW.out HB1.out hw1 hsw HNC.out HOB.out rfl hi0 HX.out HPM.out t r k

end Go.Proofs.Ytmenlfgfhnnmgaa
