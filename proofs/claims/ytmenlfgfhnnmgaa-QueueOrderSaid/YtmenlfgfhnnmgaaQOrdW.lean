/-
  QueueOrder's walk: all that was pushed is popped, in order.
  Conditions: none.
-/
import Derived.Test.YtmenlfgfhnnmgaaQOrd
import Derived.Test.YtmenlfgfhnnmgaaQStepP
import Derived.Test.YtmenlfgfhnnmgaaQItems
import Derived.Test.YtmenlfgfhnnmgaaQKnows
namespace Go.Proofs.Ytmenlfgfhnnmgaa
open Go.RowKit

set_option maxRecDepth 100000 in
set_option maxHeartbeats 2000000 in
theorem order_early (p0 p1 : Option Addr) (c0 c1 n0 n1 : Nat) (w : World) (h : 300 < n0 ∨ 300 < n1) :
    Calls Try.prog 6 #[.slice p0 n0 c0, .slice p1 n1 c1] w (Yes w) := by
  have HK := Lib.hid (knows_any w)
  by_cases h0 : 300 < n0
  · have d0 : decide (300 < (n0 : Int)) = true := decide_eq_true (by omega)
    clear h
    go_enter Try.func6, Try.ntmps6
    go_wp2_with fail
    refine HK.out.mono ?_
    rintro e w1 ⟨rfl, hb⟩
    go_wp2
    go_ret
    exact ⟨rfl, hb⟩
  · have d0 : decide (300 < (n0 : Int)) = false := decide_eq_false (by omega)
    have d1 : decide (300 < (n1 : Int)) = true := decide_eq_true (by omega)
    clear h
    go_enter Try.func6, Try.ntmps6
    go_wp2_with fail
    refine HK.out.mono ?_
    rintro e w1 ⟨rfl, hb⟩
    go_wp2
    go_ret
    exact ⟨rfl, hb⟩

theorem num_le (l : List Qm.It) (k : Nat) (x : Qm.It) (h : l.length ≤ 600) : (l.take k).count x ≤ 600 :=
  Nat.le_trans List.count_le_length (by rw [List.length_take]; omega)

set_option maxRecDepth 100000 in
set_option maxHeartbeats 6000000 in
theorem queueOrder_walk (p0 : Option Addr) (c0 : Nat) (l0 : List Qm.It) (p1 : Option Addr) (c1 : Nat) (l1 : List Qm.It) (w : World) (r0 : Rd w p0 (itCells l0) ∧ ∀ x ∈ l0, ItWf x) (_ : l0.length ≤ c0) (_ : p0 = none → c0 = 0)
    (r1 : Rd w p1 (itCells l1) ∧ ∀ x ∈ l1, ItWf x) (_ : l1.length ≤ c1) (_ : p1 = none → c1 = 0) :
    Calls Try.prog 6 #[.slice p0 l0.length c0, .slice p1 l1.length c1] w (Yes w) := by
  by_cases hbig : 300 < l0.length ∨ 300 < l1.length
  · exact order_early p0 p1 c0 c1 _ _ w hbig
  · have q0 : l0.length ≤ 300 := by omega
    have q1 : l1.length ≤ 300 := by omega
    have d0 : decide (300 < (l0.length : Int)) = false := decide_eq_false (by omega)
    have d1 : decide (300 < (l1.length : Int)) = false := decide_eq_false (by omega)
    have hmm := @run_makeMap Try.prog
    obtain ⟨i0, hi, hz0, hz1, hz2⟩ := info_parts info_item
    have HWF := Lib.hid (show ∀ x ∈ l0 ++ l1, ItWf x from fun x hx => by
      rcases List.mem_append.1 hx with h | h
      · exact r0.2 x h
      · exact r1.2 x h)
    have HR0 := Lib.hid r0.1
    have HR1 := Lib.hid r1.1
    have HI := Lib.hid (items_any p0 c0 l0 w r0.1 (by omega))
    clear r0 r1 hbig
    go_enter Try.func6, Try.ntmps6
    go_wp2_with fail
    refine HI.out.mono ?_
    rintro e w1 ⟨px, cx, rfl, hox, hb1⟩
    obtain ⟨px', cx', ex, hrx, hlx, -, hnx, -⟩ := own_rd hox
    obtain ⟨rfl, rfl⟩ : px = px' ∧ cx = cx' := by cases ex; exact ⟨rfl, rfl⟩
    have HB1 := Lib.hid hb1
    have HN := Lib.hid (new_any px cx l0 w1 hrx hnx (by omega) hlx)
    clear hox hb1 ex hrx hlx hnx
    go_wp2_with fail
    refine HN.out.mono ?_
    rintro e w2 ⟨q, rfl, hq, hb2⟩
    have HQ := Lib.hid hq
    have HB2 := Lib.hid (HB1.out.trans (hb2.mono HB1.out.size))
    have HZ1 := Lib.hid HB1.out.size
    clear hq hb2
    go_wp2_with fail
    refine (knows_any _).mono ?_
    rintro e w3 ⟨rfl, hb3⟩
    have HQ3 := Lib.hid (HQ.out.below hb3)
    have HB3 := Lib.hid (HB2.out.trans (hb3.mono HB2.out.size))
    have hz3 := hb3.size
    have hz23 := HB3.out.size
    clear hb3
    have hbm : Below w3.heap.size w3 (w3.alloc (.map #[] 0)) := (Below.refl _ _).alloc (Nat.le_refl _) _
    have HBM := Lib.hid (HB3.out.trans (hbm.mono HB3.out.size))
    have HO4 := Lib.hid (show Ord w q w3.heap.size (fun k => w1.heap.size ≤ k ∧ k < w2.heap.size) l0 (fun _ => 0) 0 (w3.alloc (.map #[] 0)) from
      ⟨HBM.out, HQ3.out.below hbm, fun k hk => ⟨Nat.le_trans HZ1.out hk.1, by simp; omega⟩, Cnt.start w3, fun hk => by omega, hz23⟩)
    clear hbm
    have HI4 := Lib.hid (items_any p0 c0 l0 _ (HR0.out.below HBM.out) (by omega))
    go_wp2_with fail
    refine HI4.out.mono ?_
    rintro e w5 ⟨pa, ca, rfl, hoa, hb5⟩
    have HO5 := Lib.hid (HO4.out.more hb5)
    have HOA := Lib.hid hoa
    have HI5 := Lib.hid (items_any p1 c1 l1 _ (HR1.out.below HO5.out.below) (by omega))
    have hz5 : w3.heap.size + 1 ≤ w5.heap.size := by have := hb5.size; simpa using this
    clear hoa hb5
    go_wp2_with fail
    refine HI5.out.mono ?_
    rintro e w6 ⟨pb, cb, rfl, hob, hb6⟩
    obtain ⟨pb', cb', ex, hrb, hlb, -, hnb, -⟩ := own_rd hob
    obtain ⟨rfl, rfl⟩ : pb = pb' ∧ cb = cb' := by cases ex; exact ⟨rfl, rfl⟩
    have HO6 := Lib.hid (HO5.out.more hb6)
    have HOA6 := Lib.hid (show w6.ownsRow (w3.heap.size + 1) 40 3 (.slice pa l0.length ca) l0.length (itCells l0) from by
      have h9 := (Turns.of_below (F := fun _ => False) hb6).own HOA.out fun _ _ h => h
      simpa using h9)
    have HRB := Lib.hid hrb
    have HNB := Lib.hid hnb
    have hz6 : w3.heap.size + 1 ≤ w6.heap.size := Nat.le_trans hz5 hb6.size
    clear hob hb6 ex hrb hlb hnb
    go_wp2_with (at_builtin; refine wpList_append_k rfl (.tmp 36) _ 27 rfl (w3.heap.size + 1) 40 i0 _ 3 24 Try.underlying27 hi hz0 hz1 (by decide) hz2 (by decide) rfl _ l0.length (itCells l0) rfl HOA6.out _ l1.length cb (itCells l1) rfl (itCells_length l1) HRB.out HNB.out itCells_one (by omega) hz6 ?_)
    intro pc cc w7 hoc hgc _
    have HT7 := Lib.hid ((Turns.of_grown hgc).mono (G := fun k => ∃ g, (Value.slice pa l0.length ca).ownBlock = some g ∧ g = k) fun k _ e => ⟨k, e, rfl⟩)
    have HPA := Lib.hid (fun g (hg : (Value.slice pa l0.length ca).ownBlock = some g) => (World.ownsRow.lt HOA6.out g hg).1)
    have HO7 := Lib.hid (HO6.out.turns HT7.out (by
      rintro k ⟨g, hg, rfl⟩
      have := HPA.out g hg
      omega))
    obtain ⟨pc', cc', ex, hrc, -, -, -, hpc⟩ := own_rd hoc
    obtain ⟨rfl, rfl⟩ : pc = pc' ∧ cc = cc' := by cases ex; exact ⟨rfl, rfl⟩
    have hall : l0.length + l1.length = (l0 ++ l1).length := by simp
    have HRC := Lib.hid (show Rd w7 pc (itCells (l0 ++ l1)) from by rw [itCells_append]; exact hrc)
    have HPC := Lib.hid (fun a ha => (hpc a ha).1)
    have h600 : (l0 ++ l1).length ≤ 600 := by simp; omega
    have hpm0 : (l0 ++ l1.take 0).Perm l0 := by simp
    have HPM0 := Lib.hid hpm0
    have HTA := Lib.hid (fun k (hk : k < l1.length) => (show (l0 ++ l1.take (k + 1)).Perm (Qm.itAt l1 k :: (l0 ++ l1.take k)) from by
      rw [take_item hk, ← List.append_assoc]
      exact (List.perm_append_comm (l₁ := l0 ++ l1.take k) (l₂ := [Qm.itAt l1 k]))))
    have HTL := Lib.hid (show l0 ++ l1.take l1.length = l0 ++ l1 from by rw [List.take_length])
    clear hoc hgc ex hrc hpc hpm0
    rw [hall]
    generalize hA : l0 ++ l1 = L at *
    generalize hbb : w3.heap.size = b at *
    go_wp2
    go_loopw [8] (fun i wr => ∃ k : Nat, k ≤ L.length ∧ i = .int .i64 (k : Int) ∧ Ord w q b (fun k => w1.heap.size ≤ k ∧ k < w2.heap.size) l0 (fun y => ((L.take k).count y : Int)) k wr ∧ Rd wr pc (itCells L)) (fun i _ => L.length - (intOf i).toNat)
    case atStart => exact ⟨0, Nat.zero_le _, rfl, HO7.out.congr fun y => by simp, HRC.out⟩
    case round =>
      obtain ⟨k, hk, rfl, hord, hrr⟩ := hrel
      have HRR := Lib.hid hrr
      by_cases hlt : k < L.length
      · obtain ⟨ba, oa, rfl, -⟩ := hrr.addr (by rw [itCells_length]; omega)
        obtain ⟨x0, x1, x2⟩ := hrr.it k hlt
        have hwx := HWF.out _ (Qm.itAt_mem hlt)
        have hod := hord.more (Below.refl _ _).drew
        obtain ⟨D, kl, how, hkl, hup⟩ := hod.map _ hwx
        have hlook := hod.cnt.look _ hwx
        have HOW := Lib.hid how
        have HKL := Lib.hid hkl
        have HUP := Lib.hid hup
        have HCT := Lib.hid (count_take hlt)
        have hcb : (((L.take k).count (Qm.itAt L k) : Nat) : Int) ≤ 600 := by have := num_le L k (Qm.itAt L k) h600; omega
        have HNB := Lib.hid (show ¬ (ba = b) from fun e => by have := HPC.out _ rfl; simp at this; omega)
        have HBD := Lib.hid (show wr.drew.heap.size = wr.heap.size from rfl)
        generalize Qm.itAt L k = x at *
        have hc0 : (0 : Int) ≤ (((L.take k).count x : Nat) : Int) := by omega
        generalize (((L.take k).count x : Nat) : Int) = cn at *
        obtain ⟨⟨t, r⟩, g⟩ := x
        have HV := Lib.hid (show (Lit.int .i64 (cn + 1)).wf = true from i64_of (by omega) (by omega))
        have hwr : IntKind.i64.wrap (cn + 1) = cn + 1 := wraps_i64 _ (by omega) (by omega)
        obtain ⟨wu, hstore, hou, hgu⟩ := how.update lawIt Try.underlying63 (by unfold maxLen; omega) hkl (plainElem_int Try.underlying3 HV.out)
        have HOU := Lib.hid hou
        have HGU := Lib.hid hgu
        dsimp only [itA] at x0 x1 x2 hlook hstore
        clear how hkl hup hrr hord hod hwx hou hgu HOW HKL
        go_wp2
        refine wp_region_held_drew (S := Turns (fun k => k = b) _) (by kernel_rfl) (turns_drew _ _) (fun hS => ?_)
        refine wpAnyH_take (i := 0) (v := ?_) rfl (by kernel_rfl) (by kernel_rfl) (by kernel_rfl) (fun _ _ _ h => h) (Or.inl ⟨by kernel_rfl, ?_⟩) hS ?_
        rotate_left
        · intro W hSW
          go_simp
          all_goals with_reducible rfl
        refine wpAnyH_take (i := 1) (v := ?_) rfl (by kernel_rfl) (by kernel_rfl) (by kernel_rfl) (fun _ _ _ h => h) (Or.inl ⟨by kernel_rfl, ?_⟩) hS ?_
        rotate_left
        · intro W hSW
          go_simp
          all_goals with_reducible rfl
        refine wpAnyH_take (i := 2) (v := ?_) rfl (by kernel_rfl) (by kernel_rfl) (by kernel_rfl) (fun _ _ _ h => h) (Or.inl ⟨by kernel_rfl, ?_⟩) hS ?_
        rotate_left
        · intro W hSW
          go_simp
          all_goals with_reducible rfl
        refine wpAnyH_take (i := 3) (v := ?_) rfl (by kernel_rfl) (by kernel_rfl) (by kernel_rfl) (fun _ _ _ h => h) (Or.inl ⟨by kernel_rfl, ?_⟩) hS ?_
        rotate_left
        · intro W hSW
          go_simp
          all_goals with_reducible rfl
        refine wpAnyH_take (i := 4) (v := ?_) rfl (by kernel_rfl) (by kernel_rfl) (by kernel_rfl) (fun _ _ _ h => h) (Or.inl ⟨by kernel_rfl, ?_⟩) hS ?_
        rotate_left
        · intro W hSW
          have x0' := Turns.cell hSW x0 HNB.out
          have x1' := Turns.cell hSW x1 HNB.out
          have x2' := Turns.cell hSW x2 HNB.out
          go_simp
          all_goals with_reducible rfl
        refine wpAnyH_take (i := 5) (v := ?_) rfl (by kernel_rfl) (by kernel_rfl) (by kernel_rfl) (fun _ _ _ h => h) (Or.inl ⟨by kernel_rfl, ?_⟩) hS ?_
        rotate_left
        · intro W hSW
          go_simp
          all_goals with_reducible rfl
        refine wpAnyH_take (i := 6) (v := ?_) rfl (by kernel_rfl) (by kernel_rfl) (by kernel_rfl) (fun _ _ _ h => h) (Or.inl ⟨by kernel_rfl, ?_⟩) hS ?_
        rotate_left
        · intro W hSW
          go_simp
          all_goals with_reducible rfl
        refine wpAnyH_take (i := 7) (v := ?_) rfl (by kernel_rfl) (by kernel_rfl) (by kernel_rfl) (fun _ _ _ h => h) (Or.inl ⟨by kernel_rfl, ?_⟩) hS ?_
        rotate_left
        · intro W hSW
          go_simp
          all_goals with_reducible rfl
        refine wpAnyH_take (i := 8) (v := ?_) rfl (by kernel_rfl) (by kernel_rfl) (by kernel_rfl) (fun _ _ _ h => h) (Or.inl ⟨by kernel_rfl, ?_⟩) hS ?_
        rotate_left
        · intro W hSW
          go_simp
          all_goals with_reducible rfl
        refine wpAnyH_take (i := 9) (v := ?_) rfl (by kernel_rfl) (by kernel_rfl) (by kernel_rfl) (fun _ _ _ h => h) (Or.inl ⟨by kernel_rfl, ?_⟩) hS ?_
        rotate_left
        · intro W hSW
          have x0' := Turns.cell hSW x0 HNB.out
          have x1' := Turns.cell hSW x1 HNB.out
          have x2' := Turns.cell hSW x2 HNB.out
          go_simp
          all_goals with_reducible rfl
        refine wpAnyH_ready (rs := [10]) (by kernel_rfl) (by simp) ?_
        refine AllReadyH.cons rfl (fun K hK => ?_) AllReadyH.nil
        go_simp
        refine hK.out _ _ hS (fun hS => ?_)
        clear hK K
        refine wpAnyH_take (i := 11) (v := ?_) rfl (by kernel_rfl) (by kernel_rfl) (by kernel_rfl) (fun _ _ _ h => h) (Or.inl ⟨by kernel_rfl, ?_⟩) hS ?_
        rotate_left
        · intro W hSW
          go_simp
          all_goals with_reducible rfl
        refine wpAnyH_ready (rs := [12]) (by kernel_rfl) (by simp) ?_
        refine AllReadyH.cons rfl (fun K hK => ?_) AllReadyH.nil
        go_simp
        refine hK.out _ _ (hS.trans ((Turns.of_grown HGU.out).mono fun k _ e => Or.inl (by cases e; rfl))) (fun hS => ?_)
        clear hK K
        refine wpAnyH_done (by kernel_rfl) ?_ _
        have HO8 := Lib.hid ((HUP.out _ _ HOU.out HGU.out).congr (g := fun y => ((L.take (k + 1)).count y : Int)) fun y => (HCT.out y).symm)
        have HR8 := Lib.hid ((HRR.out.below (Below.refl _ _).drew))
        have HR9 := Lib.hid ((Turns.of_grown HGU.out).rd HR8.out fun a ha e => by cases ha; exact HNB.out (by cases e; rfl))
        clear hS x0 x1 x2 hlook hstore
        go_simp
        go_wp2
        go_roundw
        case rel => exact ⟨k + 1, by omega, by go_num, HO8.out, HR9.out⟩
        case measure => simp [intOf]; omega
      · obtain rfl : k = L.length := by omega
        have HL1 := Lib.hid ((hord.perm HPM0.out.symm).congr (g := fun y => (L.count y : Int)) fun y => by rw [List.take_length])
        clear hord hrr HRR hlt
        go_wp2
        go_loopw [9] (fun i wr => ∃ (k : Nat) (F : Nat → Prop), k ≤ l1.length ∧ i = .int .i64 (k : Int) ∧ Ord w q b F (l0 ++ l1.take k) (fun y => (L.count y : Int)) L.length wr) (fun i _ => l1.length - (intOf i).toNat)
        case atStart => exact ⟨0, _, Nat.zero_le _, rfl, HL1.out⟩
        case round =>
          obtain ⟨k, F, hk, rfl, hord⟩ := hrel
          have HORD := Lib.hid hord
          by_cases hlt : k < l1.length
          · have HIT := Lib.hid (items_any p1 c1 l1 _ (HR1.out.below hord.below) (by omega))
            clear hord
            go_wp2_with fail
            refine HIT.out.mono ?_
            rintro e w8 ⟨pd, cd, rfl, hod, hb8⟩
            obtain ⟨pd', cd', ex, hrd, -, -, -, -⟩ := own_rd hod
            obtain ⟨rfl, rfl⟩ : pd = pd' ∧ cd = cd' := by cases ex; exact ⟨rfl, rfl⟩
            obtain ⟨bd, od, rfl, -⟩ := hrd.addr (by rw [itCells_length]; omega)
            obtain ⟨x0, x1, x2⟩ := hrd.it k hlt
            have HO8 := Lib.hid (HORD.out.more hb8)
            have HTK := Lib.hid (HTA.out k hlt)
            have HLL := Lib.hid (show (l0 ++ l1.take k).length < 2000 from by simp; omega)
            generalize Qm.itAt l1 k = x at *
            obtain ⟨⟨t, r⟩, g⟩ := x
            have HPU := Lib.hid (qpush_any q F (l0 ++ l1.take k) t r g w8 HO8.out.qo HLL.out)
            dsimp only at x0 x1 x2
            clear hod hb8 ex hrd
            go_wp2_with fail
            refine HPU.out.mono ?_
            rintro e w9 ⟨rfl, hq9, ht9⟩
            have HO9 := Lib.hid ((HO8.out.called hq9 ht9).perm HTK.out.symm)
            clear hq9 ht9 x0 x1 x2
            go_wp2_with fail
            refine (num_any 0 _).mono ?_
            rintro e w10 ⟨rfl, rfl⟩
            go_wp2
            go_roundw
            case rel => exact ⟨k + 1, _, by omega, by go_num, HO9.out⟩
            case measure => simp [intOf]; omega
          · obtain rfl : k = l1.length := by omega
            have HO0 := Lib.hid (hord.perm (m := L) (by rw [HTL.out]))
            clear hord hlt HORD
            have hbl := HO0.out.cnt.lt
            have hwl := HO0.out.below.size
            have HFL := Lib.hid (fun k (hk : F k) => (HO0.out.flt k hk).2)
            have HLS := Lib.hid (Lst.new wr ((0, 0), 0) 40 wr.heap.size rfl)
            have HO1 := Lib.hid (HO0.out.more ((Below.refl _ _).alloc (Nat.le_refl _) (.cells #[.int .i64 0, .int .i64 0, .int .i64 0] 40)))
            dsimp only at *
            generalize hcc : wr.heap.size = c at *
            go_wp2
            go_loopw [11] (fun i wr => ∃ (k : Nat) (F : Nat → Prop) (l : List Qm.It) (x : Qm.It), k + l.length = L.length ∧ i = .int .i64 (k : Int) ∧ (∀ y, y ∈ l → y ∈ L) ∧ (0 < k → ∀ y, y ∈ l → ¬ Qm.ltI y x) ∧ ¬ F c ∧ Ord w q b F l (fun y => (l.count y : Int)) (L.length + k) wr ∧ Lst c x wr) (fun i _ => L.length - (intOf i).toNat)
            case atStart => exact ⟨0, F, L, ((0, 0), 0), by omega, rfl, fun _ h => h, fun h => absurd h (Nat.lt_irrefl 0), fun h => by have := HFL.out c h; omega, HO1.out, HLS.out⟩
            case round =>
              clear HLS HO1 HO0 HFL
              rename_i wr0 _ _ _ _ _ _
              obtain ⟨k, F, l, x, hkl, rfl, hmem, hle, hfc, hord, hlst⟩ := hrel
              have HORD := Lib.hid hord
              have HLST := Lib.hid hlst
              have HP := Lib.hid (qpop1 q F l wr hord.qo)
              have hcw : c < wr.heap.size := cell_lt hlst.c0
              have hz : w.heap.size ≤ wr.heap.size := hord.below.size
              clear hord hlst
              by_cases hlt : k < L.length
              · go_wp2_with fail
                refine HP.out.mono ?_
                rintro e w8 ⟨x', bb, m, rfl, hte, hq8, ht8⟩
                obtain ⟨hls, hpm, rfl⟩ : Qm.Least x' l ∧ (x' :: m).Perm l ∧ bb = true := by
                  rcases hte with ⟨h, -⟩ | h
                  · subst h; simp at hkl; omega
                  · exact h
                have HO8 := Lib.hid (HORD.out.called hq8 ht8)
                have HL8 := Lib.hid (HLST.out.turns ht8 hfc)
                have hz8 := ht8.size
                have HFC := Lib.hid (show ¬ ext F wr w8 c from fun hk => by
                  rcases hk with h | h
                  · exact hfc h
                  · omega)
                have HML := Lib.hid (show m.length + 1 = l.length from by rw [← hpm.length_eq]; rfl)
                have HMM := Lib.hid (show ∀ y, y ∈ m → y ∈ L from fun y hy => hmem y (hpm.mem_iff.1 (List.mem_cons_of_mem _ hy)))
                have HMX := Lib.hid (show ∀ y, y ∈ m → ¬ Qm.ltI y x' from fun y hy => hls.2 y (hpm.mem_iff.1 (List.mem_cons_of_mem _ hy)))
                have HXX := Lib.hid (show 0 < k → ¬ Qm.ltI x' x from fun h0 => hle h0 x' hls.1)
                have HWX := Lib.hid (HWF.out _ (hmem _ hls.1))
                have HCP := Lib.hid (count_pop hpm)
                have hc1 : (1 : Int) ≤ ((l.count x' : Nat) : Int) := by have := List.count_pos_iff.2 hls.1; omega
                have hc2 : ((l.count x' : Nat) : Int) ≤ 600 := by have := List.count_le_length (a := x') (l := l); omega
                have HX9 := Lib.hid (Lst.new w8 x' 40 w8.heap.size rfl)
                have HO9 := Lib.hid (HO8.out.more ((Below.refl _ _).alloc (Nat.le_refl _) (.cells #[.int .i64 x'.1.1, .int .i64 x'.1.2, .int .i64 x'.2] 40)))
                have HL9 := Lib.hid (HL8.out.more ((Below.refl _ _).alloc (Nat.le_refl _) (.cells #[.int .i64 x'.1.1, .int .i64 x'.1.2, .int .i64 x'.2] 40)))
                have hlook := HO9.out.cnt.look _ HWX.out
                have hb8 : b < w8.heap.size := HO8.out.cnt.lt
                have hwb := HO8.out.hb
                clear hte hq8 ht8 hls hpm hmem hle hfc HP HORD HLST
                generalize hcn : ((l.count x' : Nat) : Int) = cn at *
                obtain ⟨⟨t, r⟩, g⟩ := x'
                have HCN := Lib.hid hcn
                clear hcn
                obtain ⟨⟨t', r'⟩, g'⟩ := x
                unfold itB
                dsimp only [itA] at *
                have y0 := HL9.out.c0
                have y1 := HL9.out.c1
                have y2 := HL9.out.c2
                have x0 := HX9.out.c0
                have x1 := HX9.out.c1
                have x2 := HX9.out.c2
                dsimp only at x0 x1 x2 y0 y1 y2
                have hd1 : decide (cn < 1) = false := decide_eq_false (by omega)
                by_cases hk0 : k = 0
                · have dk : decide (0 < (k : Int)) = false := decide_eq_false (by omega)
                  go_wp2
                  clear x0 x1 x2 y0 y1 y2 hlook
                  have HOZ := Lib.hid (show Ord w q b (ext F wr w8) m (fun y => (l.count y : Int)) (L.length + k) (w8.alloc (.cells #[.int .i64 t, .int .i64 r, .int .i64 g] 40)) from HO9.out)
                  have HLZ := Lib.hid (show Lst c ((t', r'), g') (w8.alloc (.cells #[.int .i64 t, .int .i64 r, .int .i64 g] 40)) from HL9.out)
                  have HXZ := Lib.hid (show Lst w8.heap.size ((t, r), g) (w8.alloc (.cells #[.int .i64 t, .int .i64 r, .int .i64 g] 40)) from HX9.out)
                  generalize w8.alloc (.cells #[.int .i64 t, .int .i64 r, .int .i64 g] 40) = wz at *
                  clear HO8 HL8 HX9 HO9 HL9
                  have hod := HOZ.out.more (Below.refl _ _).drew
                  obtain ⟨D, kl, how, hkl, hup⟩ := hod.map _ HWX.out
                  have hlook := hod.cnt.look _ HWX.out
                  have HUP := Lib.hid hup
                  have HV := Lib.hid (show (Lit.int .i64 (cn - 1)).wf = true from i64_of (by omega) (by omega))
                  have hwr : IntKind.i64.wrap (cn - 1) = cn - 1 := wraps_i64 _ (by omega) (by omega)
                  obtain ⟨wu, hstore, hou, hgu⟩ := how.update lawIt Try.underlying63 (by unfold maxLen; omega) hkl (plainElem_int Try.underlying3 HV.out)
                  have HOU := Lib.hid hou
                  have HGU := Lib.hid hgu
                  have HNB := Lib.hid (show ¬ (w8.heap.size = b) from by omega)
                  rw [HCN.out] at hlook
                  dsimp only [itA] at hlook hstore
                  have x0 := HXZ.out.c0
                  have x1 := HXZ.out.c1
                  have x2 := HXZ.out.c2
                  dsimp only at x0 x1 x2
                  clear how hkl hup hod hou hgu
                  refine wp_region_held_drew (S := Turns (fun k => k = b) _) (by kernel_rfl) (turns_drew _ _) (fun hS => ?_)
                  refine wpAnyH_take (i := 0) (v := ?_) rfl (by kernel_rfl) (by kernel_rfl) (by kernel_rfl) (fun _ _ _ h => h) (Or.inl ⟨by kernel_rfl, ?_⟩) hS ?_
                  rotate_left
                  · intro W hSW
                    go_simp
                    all_goals with_reducible rfl
                  refine wpAnyH_take (i := 1) (v := ?_) rfl (by kernel_rfl) (by kernel_rfl) (by kernel_rfl) (fun _ _ _ h => h) (Or.inl ⟨by kernel_rfl, ?_⟩) hS ?_
                  rotate_left
                  · intro W hSW
                    have x0' := Turns.cell hSW x0 HNB.out
                    have x1' := Turns.cell hSW x1 HNB.out
                    have x2' := Turns.cell hSW x2 HNB.out
                    go_simp
                    all_goals with_reducible rfl
                  refine wpAnyH_take (i := 2) (v := ?_) rfl (by kernel_rfl) (by kernel_rfl) (by kernel_rfl) (fun _ _ _ h => h) (Or.inl ⟨by kernel_rfl, ?_⟩) hS ?_
                  rotate_left
                  · intro W hSW
                    go_simp
                    all_goals with_reducible rfl
                  refine wpAnyH_take (i := 3) (v := ?_) rfl (by kernel_rfl) (by kernel_rfl) (by kernel_rfl) (fun _ _ _ h => h) (Or.inl ⟨by kernel_rfl, ?_⟩) hS ?_
                  rotate_left
                  · intro W hSW
                    have x0' := Turns.cell hSW x0 HNB.out
                    have x1' := Turns.cell hSW x1 HNB.out
                    have x2' := Turns.cell hSW x2 HNB.out
                    go_simp
                    all_goals with_reducible rfl
                  refine wpAnyH_ready (rs := [4]) (by kernel_rfl) (by simp) ?_
                  refine AllReadyH.cons rfl (fun K hK => ?_) AllReadyH.nil
                  go_simp
                  refine hK.out _ _ hS (fun hS => ?_)
                  clear hK K
                  refine wpAnyH_take (i := 5) (v := ?_) rfl (by kernel_rfl) (by kernel_rfl) (by kernel_rfl) (fun _ _ _ h => h) (Or.inl ⟨by kernel_rfl, ?_⟩) hS ?_
                  rotate_left
                  · intro W hSW
                    go_simp
                    all_goals with_reducible rfl
                  refine wpAnyH_ready (rs := [6]) (by kernel_rfl) (by simp) ?_
                  refine AllReadyH.cons rfl (fun K hK => ?_) AllReadyH.nil
                  go_simp
                  refine hK.out _ _ (hS.trans ((Turns.of_grown HGU.out).mono fun k _ e => Or.inl (by cases e; rfl))) (fun hS => ?_)
                  clear hK K
                  refine wpAnyH_done (by kernel_rfl) ?_ _
                  have HO11 := Lib.hid ((HUP.out _ _ HOU.out HGU.out).congr (g := fun y => (m.count y : Int)) fun y => (HCP.out y).symm)
                  have HTU := Lib.hid (show Turns (fun k => k = b) wz wu from (turns_drew _ wz).trans ((Turns.of_grown HGU.out).mono fun k _ e => Or.inl (by cases e; rfl)))
                  have HL11 := Lib.hid (HLZ.out.turns HTU.out (show ¬ (c = b) from by omega))
                  have HX11 := Lib.hid (HXZ.out.turns HTU.out HNB.out)
                  have HL12 := Lib.hid (HL11.out.set ((t, r), g))
                  have HO12 := Lib.hid (HO11.out.turns (put3_turns wu c (.int .i64 t) (.int .i64 r) (.int .i64 g)) (by
                    rintro k rfl
                    exact ⟨by omega, HFC.out, by omega⟩))
                  clear hS x0 x1 x2 hlook hstore HUP HOU HOZ HLZ HXZ HGU
                  have x0 := HX11.out.c0
                  have x1 := HX11.out.c1
                  have x2 := HX11.out.c2
                  obtain ⟨r0, r1, r2, r3, r4, r5⟩ := res3 HL11.out.c0 HL11.out.c1 HL11.out.c2 (.int .i64 t) (.int .i64 r) (.int .i64 g)
                  have y0 := HL11.out.c0
                  have y1 := HL11.out.c1
                  have y2 := HL11.out.c2
                  have yf0 := HL11.out.fr 0
                  have yf1 := HL11.out.fr 1
                  have yf2 := HL11.out.fr 2
                  dsimp only at x0 x1 x2 y0 y1 y2
                  go_simp
                  go_wp2
                  go_roundw
                  case rel => exact ⟨k + 1, _, m, ((t, r), g), by have := HML.out; omega, by go_num, HMM.out, fun _ => HMX.out, HFC.out, HO12.out, HL12.out⟩
                  case measure => simp [intOf]; omega
                · have dk : decide (0 < (k : Int)) = true := decide_eq_true (by omega)
                  have hbf := HXX.out (by omega)
                  have hBF := before_any t r g t' r' g' (w8.alloc (.cells #[.int .i64 t, .int .i64 r, .int .i64 g] 40))
                  rw [decide_eq_false hbf] at hBF
                  have HBF := Lib.hid hBF
                  clear hBF hbf
                  go_wp2_with fail
                  refine HBF.out.mono ?_
                  rintro e wz ⟨rfl, hbz⟩
                  clear x0 x1 x2 y0 y1 y2 hlook
                  have HOZ := Lib.hid (HO9.out.more hbz)
                  have HLZ := Lib.hid (HL9.out.more hbz)
                  have HXZ := Lib.hid (HX9.out.more hbz)
                  clear hbz HO8 HL8 HX9 HO9 HL9 HBF
                  go_wp2
                  have hod := HOZ.out.more (Below.refl _ _).drew
                  obtain ⟨D, kl, how, hkl, hup⟩ := hod.map _ HWX.out
                  have hlook := hod.cnt.look _ HWX.out
                  have HUP := Lib.hid hup
                  have HV := Lib.hid (show (Lit.int .i64 (cn - 1)).wf = true from i64_of (by omega) (by omega))
                  have hwr : IntKind.i64.wrap (cn - 1) = cn - 1 := wraps_i64 _ (by omega) (by omega)
                  obtain ⟨wu, hstore, hou, hgu⟩ := how.update lawIt Try.underlying63 (by unfold maxLen; omega) hkl (plainElem_int Try.underlying3 HV.out)
                  have HOU := Lib.hid hou
                  have HGU := Lib.hid hgu
                  have HNB := Lib.hid (show ¬ (w8.heap.size = b) from by omega)
                  rw [HCN.out] at hlook
                  dsimp only [itA] at hlook hstore
                  have x0 := HXZ.out.c0
                  have x1 := HXZ.out.c1
                  have x2 := HXZ.out.c2
                  dsimp only at x0 x1 x2
                  clear how hkl hup hod hou hgu
                  refine wp_region_held_drew (S := Turns (fun k => k = b) _) (by kernel_rfl) (turns_drew _ _) (fun hS => ?_)
                  refine wpAnyH_take (i := 0) (v := ?_) rfl (by kernel_rfl) (by kernel_rfl) (by kernel_rfl) (fun _ _ _ h => h) (Or.inl ⟨by kernel_rfl, ?_⟩) hS ?_
                  rotate_left
                  · intro W hSW
                    go_simp
                    all_goals with_reducible rfl
                  refine wpAnyH_take (i := 1) (v := ?_) rfl (by kernel_rfl) (by kernel_rfl) (by kernel_rfl) (fun _ _ _ h => h) (Or.inl ⟨by kernel_rfl, ?_⟩) hS ?_
                  rotate_left
                  · intro W hSW
                    have x0' := Turns.cell hSW x0 HNB.out
                    have x1' := Turns.cell hSW x1 HNB.out
                    have x2' := Turns.cell hSW x2 HNB.out
                    go_simp
                    all_goals with_reducible rfl
                  refine wpAnyH_take (i := 2) (v := ?_) rfl (by kernel_rfl) (by kernel_rfl) (by kernel_rfl) (fun _ _ _ h => h) (Or.inl ⟨by kernel_rfl, ?_⟩) hS ?_
                  rotate_left
                  · intro W hSW
                    go_simp
                    all_goals with_reducible rfl
                  refine wpAnyH_take (i := 3) (v := ?_) rfl (by kernel_rfl) (by kernel_rfl) (by kernel_rfl) (fun _ _ _ h => h) (Or.inl ⟨by kernel_rfl, ?_⟩) hS ?_
                  rotate_left
                  · intro W hSW
                    have x0' := Turns.cell hSW x0 HNB.out
                    have x1' := Turns.cell hSW x1 HNB.out
                    have x2' := Turns.cell hSW x2 HNB.out
                    go_simp
                    all_goals with_reducible rfl
                  refine wpAnyH_ready (rs := [4]) (by kernel_rfl) (by simp) ?_
                  refine AllReadyH.cons rfl (fun K hK => ?_) AllReadyH.nil
                  go_simp
                  refine hK.out _ _ hS (fun hS => ?_)
                  clear hK K
                  refine wpAnyH_take (i := 5) (v := ?_) rfl (by kernel_rfl) (by kernel_rfl) (by kernel_rfl) (fun _ _ _ h => h) (Or.inl ⟨by kernel_rfl, ?_⟩) hS ?_
                  rotate_left
                  · intro W hSW
                    go_simp
                    all_goals with_reducible rfl
                  refine wpAnyH_ready (rs := [6]) (by kernel_rfl) (by simp) ?_
                  refine AllReadyH.cons rfl (fun K hK => ?_) AllReadyH.nil
                  go_simp
                  refine hK.out _ _ (hS.trans ((Turns.of_grown HGU.out).mono fun k _ e => Or.inl (by cases e; rfl))) (fun hS => ?_)
                  clear hK K
                  refine wpAnyH_done (by kernel_rfl) ?_ _
                  have HO11 := Lib.hid ((HUP.out _ _ HOU.out HGU.out).congr (g := fun y => (m.count y : Int)) fun y => (HCP.out y).symm)
                  have HTU := Lib.hid (show Turns (fun k => k = b) wz wu from (turns_drew _ wz).trans ((Turns.of_grown HGU.out).mono fun k _ e => Or.inl (by cases e; rfl)))
                  have HL11 := Lib.hid (HLZ.out.turns HTU.out (show ¬ (c = b) from by omega))
                  have HX11 := Lib.hid (HXZ.out.turns HTU.out HNB.out)
                  have HL12 := Lib.hid (HL11.out.set ((t, r), g))
                  have HO12 := Lib.hid (HO11.out.turns (put3_turns wu c (.int .i64 t) (.int .i64 r) (.int .i64 g)) (by
                    rintro k rfl
                    exact ⟨by omega, HFC.out, by omega⟩))
                  clear hS x0 x1 x2 hlook hstore HUP HOU HOZ HLZ HXZ HGU
                  have x0 := HX11.out.c0
                  have x1 := HX11.out.c1
                  have x2 := HX11.out.c2
                  obtain ⟨r0, r1, r2, r3, r4, r5⟩ := res3 HL11.out.c0 HL11.out.c1 HL11.out.c2 (.int .i64 t) (.int .i64 r) (.int .i64 g)
                  have y0 := HL11.out.c0
                  have y1 := HL11.out.c1
                  have y2 := HL11.out.c2
                  have yf0 := HL11.out.fr 0
                  have yf1 := HL11.out.fr 1
                  have yf2 := HL11.out.fr 2
                  dsimp only at x0 x1 x2 y0 y1 y2
                  go_simp
                  go_wp2
                  go_roundw
                  case rel => exact ⟨k + 1, _, m, ((t, r), g), by have := HML.out; omega, by go_num, HMM.out, fun _ => HMX.out, HFC.out, HO12.out, HL12.out⟩
                  case measure => simp [intOf]; omega
              · have hl0 : l = [] := List.eq_nil_of_length_eq_zero (by omega)
                subst hl0
                obtain rfl : k = L.length := by omega
                go_wp2_with fail
                refine HP.out.mono ?_
                rintro e w8 ⟨x', bb, m, rfl, hte, hq8, ht8⟩
                obtain ⟨rfl, rfl, rfl⟩ : m = [] ∧ x' = ((0, 0), 0) ∧ bb = false := by
                  rcases hte with ⟨-, h⟩ | ⟨h, -⟩
                  · exact h
                  · cases h.1
                have HO8 := Lib.hid (HORD.out.called hq8 ht8)
                have HO9 := Lib.hid (HO8.out.more ((Below.refl _ _).alloc (Nat.le_refl _) (.cells #[.int .i64 0, .int .i64 0, .int .i64 0] 40)))
                have HLE := Lib.hid (qlen_any HO9.out.qo)
                unfold itB
                dsimp only at *
                clear hte hq8 ht8 HP HORD HLST
                go_wp2_with fail
                refine HLE.out.mono ?_
                rintro e w10 ⟨rfl, rfl⟩
                have HE := Lib.hid HO9.out.below
                go_wp2
                go_ret
                exact ⟨rfl, HE.out⟩

end Go.Proofs.Ytmenlfgfhnnmgaa
