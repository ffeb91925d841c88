/-
  THE DOCUMENT's Before and Sort of siblings.
  No conditions but sizes.
-/
import Derived.Test.YtilkokhapcgolaaGreatRkSet
import Derived.Test.YtilkokhapcgolaaGreatSbCmp
import Derived.Test.YtilkokhapcgolaaGreatKRefCmp
import Derived.Test.YtilkokhapcgolaaGreatTKit
namespace Go.Proofs.YtilkokhapcgolaaGreat
open Go.RowKit

theorem sbK : RK 73 49 3 32 sbC where
  und := Tryz.underlying49
  elem := by kernel_rfl
  size := fun _ => by kernel_rfl
  info := by
    have h : (Tryz.prog.info? 73).map (fun i => (i.zero, i.size, i.bytes)) = some (some (.agg #[.string ⟨#[]⟩, .int .i64 0, .int .i64 0]), 3, 32) := by kernel_rfl
    obtain ⟨i, h0, h1, h2, h3⟩ := info_split h
    exact ⟨i, _, h0, h1, h2, h3, rfl⟩
  row := ⟨_, Tryz.underlying73⟩
  len := fun _ => rfl
  one := fun x u hu => by
    simp [sbC] at hu
    rcases hu with rfl | rfl | rfl <;> rfl
  pos := by decide
  small := by decide
theorem rd_newsb {w1 w : World} {B : Nat} (hS : Below B w1 w) (x : Sbm.Sib) (E : TypeId) : Rd (w.alloc (.cells #[.string x.1, .int .i64 x.2.1, .int .i64 x.2.2] E)) (some ⟨w.heap.size, 0, none⟩) ([x].flatMap sbC) := rd_new1 hS sbC x E
theorem run_buildS_rsb (W : World) (x : Sbm.Sib) : (Instr.buildSlice 49 1 #[(0, .agg (sbC x).toArray)]).run Tryz.prog W = .ok (.slice (some ⟨W.heap.size, 0, none⟩) 1 1) (W.alloc (.cells (sbC x).toArray 73)) := by kernel_rfl

set_option maxRecDepth 100000 in
set_option maxHeartbeats 2000000 in
theorem rbefore_any (a b : Sbm.Sib) (w : World) (ha : a.1.size ≤ 140737488355328) (hb : b.1.size ≤ 140737488355328) :
    Calls Tryz.prog 57 #[sbV a, sbV b] w fun e w' => e = .returned (.bool (decide (Sbm.ltB a b))) ∧ Below w.heap.size w w' := by
  obtain ⟨k, t, r⟩ := a
  obtain ⟨k', t', r'⟩ := b
  have HB := Lib.hid (show Below w.heap.size w ((w.alloc (.cells #[.string k, .int .i64 t, .int .i64 r] 73)).alloc (.cells #[.string k', .int .i64 t', .int .i64 r'] 73)) from ((Below.refl _ _).alloc (Nat.le_refl _) _).alloc (by simp) _)
  have HX := Lib.hid ((SbAt.start w (k, t, r) 73).alloc (.cells #[.string k', .int .i64 t', .int .i64 r'] 73))
  have HY := Lib.hid (by have h := SbAt.start (w.alloc (.cells #[.string k, .int .i64 t, .int .i64 r] 73)) (k', t', r') 73; rwa [show (w.alloc (.cells #[.string k, .int .i64 t, .int .i64 r] 73)).heap.size = w.heap.size + 1 from by simp] at h)
  have HC := Lib.hid (fun W => refCompare_any k k' W ha hb)
  clear ha hb
  unfold sbV
  dsimp only
  rcases key_cases k k' with ⟨h1, h2, h3⟩ | rfl | ⟨h1, h2, h3⟩
  · have HR := Lib.hid (show decide (Sbm.ltB (k, t, r) (k', t', r')) = true from decide_eq_true (Or.inl h2))
    rw [h1] at HC
    clear h1 h2 h3
    go_enter Tryz.func57, Tryz.ntmps57
    go_wp2_with fail
    refine (HC.out _).mono ?_
    rintro e w' ⟨rfl, hb⟩
    have HN := Lib.hid (HB.out.trans (hb.mono HB.out.size))
    clear hb
    go_wp2
    go_ret
    rw [HR.out]
    exact ⟨rfl, HN.out⟩
  · have hz : Lib.compareBytes k.data.toList k.data.toList = 0 := (Km.cmp_zero _ _).2 rfl
    rw [hz] at HC
    have HR := Lib.hid (show decide (Sbm.ltB (k, t, r) (k, t', r')) = decide (qcmpS t r t' r' < 0) from by
      rw [qcmpS_lt (t, r) (t', r')]
      refine decide_eq_decide.2 ⟨fun h => ?_, fun h => Or.inr ⟨rfl, h⟩⟩
      rcases h with h | ⟨-, h⟩
      · exact absurd h (Sbm.key_irrefl _)
      · exact h)
    have HS := Lib.hid (qrefCompare_any t r t' r')
    clear hz
    go_enter Tryz.func57, Tryz.ntmps57
    go_wp2_with fail
    refine (HC.out _).mono ?_
    rintro e w1 ⟨rfl, hb⟩
    have HN := Lib.hid (HB.out.trans (hb.mono HB.out.size))
    have x1 := (HX.out.kept hb).cell1
    have x2 := (HX.out.kept hb).cell2
    have y1 := (HY.out.kept hb).cell1
    have y2 := (HY.out.kept hb).cell2
    clear hb
    go_wp2_with fail
    refine (HS.out _).mono ?_
    rintro e w2 ⟨rfl, hg⟩
    generalize qcmpS t r t' r' = c at *
    have HG := Lib.hid (HN.out.trans (hg.mono HN.out.size))
    clear hg
    go_wp2
    go_ret
    rw [HR.out]
    exact ⟨rfl, HG.out⟩
  · have HR := Lib.hid (show decide (Sbm.ltB (k, t, r) (k', t', r')) = false from decide_eq_false fun h => by
      rcases h with h | ⟨h, -⟩
      · exact Sbm.key_asymm h h2
      · dsimp only at h
        subst h
        exact Sbm.key_irrefl _ h2)
    rw [h1] at HC
    clear h1 h2 h3
    go_enter Tryz.func57, Tryz.ntmps57
    go_wp2_with fail
    refine (HC.out _).mono ?_
    rintro e w' ⟨rfl, hb⟩
    have HN := Lib.hid (HB.out.trans (hb.mono HB.out.size))
    clear hb
    go_wp2
    go_ret
    rw [HR.out]
    exact ⟨rfl, HN.out⟩

theorem srt_ins {m : List Sbm.Sib} {x : Sbm.Sib} {n : Nat} (hm : Sbm.Srt m) (hlo : ∀ j, j < n → j < m.length → ¬ Sbm.ltB x (Sbm.sbOf m j)) (hhi : ∀ j, n ≤ j → j < m.length → ¬ Sbm.ltB (Sbm.sbOf m j) x) : Sbm.Srt ((m.take n ++ [x]) ++ m.drop n) := by
  unfold Sbm.Srt at *
  rw [List.append_assoc]
  refine List.pairwise_append.2 ⟨List.Pairwise.sublist (List.take_sublist n m) hm, List.pairwise_cons.2 ⟨fun y hy => ?_, List.Pairwise.sublist (List.drop_sublist n m) hm⟩, fun y hy z hz => ?_⟩
  · have hy2 : y ∈ m.drop n := hy
    obtain ⟨j, hj, rfl⟩ := List.getElem_of_mem hy2
    rw [List.getElem_drop, ← Sbm.sbOf_lt (by rw [List.length_drop] at hj; omega)]
    exact hhi (n + j) (by omega) (by rw [List.length_drop] at hj; omega)
  · obtain ⟨i, hi, rfl⟩ := List.getElem_of_mem hy
    rw [List.length_take] at hi
    rw [List.getElem_take]
    rcases List.mem_cons.1 hz with rfl | hz
    · rw [← Sbm.sbOf_lt (by omega)]
      exact hlo i (by omega) (by omega)
    · have hz2 : z ∈ m.drop n := hz
      obtain ⟨j, hj, rfl⟩ := List.getElem_of_mem hz2
      rw [List.length_drop] at hj
      rw [List.getElem_drop]
      exact List.pairwise_iff_getElem.1 hm i (n + j) (by omega) (by omega) (by omega)
theorem perm_ins {m l : List Sbm.Sib} {x : Sbm.Sib} {k n : Nat} (hp : m.Perm (l.take k)) (hx : l[k]? = some x) : ((m.take n ++ [x]) ++ m.drop n).Perm (l.take (k + 1)) := by
  obtain ⟨hk, he⟩ := List.getElem?_eq_some_iff.1 hx
  rw [List.take_succ_eq_append_getElem hk, he, List.append_assoc]
  have h1 : (m.take n ++ x :: m.drop n).Perm (x :: m) := by
    refine (List.perm_middle (l₁ := m.take n)).trans ?_
    rw [List.take_append_drop]
  exact h1.trans ((List.Perm.cons x hp).trans (List.perm_append_comm (l₁ := [x])))

set_option maxRecDepth 100000 in
set_option maxHeartbeats 8000000 in
theorem rsort_any (p : Option Addr) (c : Nat) (l : List Sbm.Sib) (w : World) (h : Rd w p (sbCells l)) (hl : l.length ≤ 1000) (hks : Keys 140737488355328 l) :
    Calls Tryz.prog 33 #[.slice p l.length c] w fun e w' => ∃ p' c' m, m.Perm l ∧ Sbm.Srt m ∧ e = .returned (.slice p' m.length c') ∧ Rd w' p' (sbCells m) ∧ Below w.heap.size w w' := by
  have HR := Lib.hid (show Rd w p (l.flatMap sbC) from h)
  have HKS := Lib.hid hks
  have HL := Lib.hid hl
  clear h hks
  go_enter Tryz.func33, Tryz.ntmps33
  go_wp2
  go_loopw [3, 4] (fun v i wr => ∃ (k : Nat) (m : List Sbm.Sib) (pm : Option Addr) (cm : Nat), i = .int .i64 (k : Int) ∧ k ≤ l.length ∧ m.Perm (l.take k) ∧ Sbm.Srt m ∧ v = .slice pm m.length cm ∧ wr.ownsRow w.heap.size 73 3 (.slice pm m.length cm) m.length (m.flatMap sbC) ∧ Below w.heap.size w wr) (fun _ i _ => l.length - (intOf i).toNat)
  case atStart => exact ⟨0, [], none, 0, rfl, Nat.zero_le _, List.Perm.nil, List.Pairwise.nil, rfl, World.ownsRow_nil _ _ _ _, Below.refl _ _⟩
  case round =>
    obtain ⟨k, m, pm, cm, rfl, hk, hp, hs, rfl, ho, hb⟩ := hrel
    obtain ⟨wo, hwo⟩ : ∃ x, x = wr := ⟨_, rfl⟩
    subst hwo
    have HB := Lib.hid hb
    have HP := Lib.hid hp
    have HSR := Lib.hid hs
    obtain ⟨hrd, hnm, hmc, -⟩ := own_rdK ho
    have HRM := Lib.hid hrd
    have HNM := Lib.hid hnm
    have HMC := Lib.hid hmc
    have HML := Lib.hid (show m.length ≤ 1000 from by rw [hp.length_eq, List.length_take]; omega)
    clear hb hp hs ho hrd hnm hmc
    by_cases hlt : k < l.length
    · obtain ⟨x, hx⟩ : ∃ x, l[k]? = some x := ⟨_, List.getElem?_eq_getElem hlt⟩
      have HX := Lib.hid hx
      have HKL := Lib.hid hlt
      have hk5 : k < 1000 := by omega
      obtain ⟨b, o, rfl, -⟩ := HR.out.addr (by rw [sbK.length]; omega)
      have HXS := Lib.hid (HKS.out x (List.mem_of_getElem? hx))
      have HKM := Lib.hid (show Keys 140737488355328 m from fun y hy => HKS.out y (List.mem_of_mem_take (HP.out.mem_iff.1 hy)))
      clear hx
      go_wp2
      go_loopw [5] (fun i wq => ∃ n : Nat, i = .int .i64 (n : Int) ∧ n ≤ m.length ∧ (∀ j, n ≤ j → j < m.length → Sbm.ltB x (Sbm.sbOf m j)) ∧ Below wo.heap.size wo wq) (fun i _ => (intOf i).toNat)
      case atStart => exact ⟨m.length, rfl, Nat.le_refl _, fun j h1 h2 => by omega, Below.refl _ _⟩
      case round =>
        obtain ⟨n, rfl, hn, hgt, hbq⟩ := hrel
        have HGT := Lib.hid hgt
        have HB2 := Lib.hid hbq
        have HNL := Lib.hid hn
        have HNC := Lib.hid (Nat.le_trans hn HMC.out)
        have HTL := Lib.hid (show (m.take n).length = n from by rw [List.length_take]; omega)
        have HDL := Lib.hid (show (m.drop n).length = m.length - n from List.length_drop)
        have hn5 : n ≤ 1000 := Nat.le_trans hn HML.out
        clear hgt hbq
        have HEND := Lib.hid (fun (hlo : ∀ j, j < n → j < m.length → ¬ Sbm.ltB x (Sbm.sbOf m j)) => And.intro (srt_ins HSR.out hlo (fun j h1 h2 h3 => Sbm.ltB_asymm (HGT.out j h1 h2) h3)) (perm_ins (n := n) HP.out HX.out))
        cases n with
        | zero =>
          have HE := Lib.hid (HEND.out (fun j h => absurd h (Nat.not_lt_zero _)))
          obtain ⟨m2, hm2⟩ : ∃ m2, (m.take 0 ++ [x]) ++ m.drop 0 = m2 := ⟨_, rfl⟩
          have HM2 := Lib.hid hm2
          have HS2 := Lib.hid (show Sbm.Srt m2 from by rw [← hm2]; exact HE.out.1)
          have HP2 := Lib.hid (show m2.Perm (l.take (k + 1)) from by rw [← hm2]; exact HE.out.2)
          clear hm2 HE HEND
          go_upto_region 6 with fail
          refine wp_region_held_drew (S := fun W => Below wr.heap.size wr W) (by kernel_rfl) (Below.drew (Below.refl _ _)) (fun hS => ?_)
          refine wpAnyH_take (i := 0) (v := ?_) rfl (by kernel_rfl) (by kernel_rfl) (by kernel_rfl) (fun _ _ _ h => h) (Or.inl ⟨by kernel_rfl, ?_⟩) hS ?_
          rotate_left
          · intro W hSW
            go_simp
            all_goals with_reducible rfl
          refine wpAnyH_take (i := 1) (v := ?_) rfl (by kernel_rfl) (by kernel_rfl) (by kernel_rfl) (fun _ _ _ h => h) (Or.inl ⟨by kernel_rfl, ?_⟩) hS ?_
          rotate_left
          · intro W hSW
            go_simp
            all_goals with_reducible rfl
          refine wpAnyH_take (i := 2) (v := ?_) rfl (by kernel_rfl) (by kernel_rfl) (by kernel_rfl) (fun _ _ _ h => h) (Or.inl ⟨by kernel_rfl, ?_⟩) hS ?_
          rotate_left
          · intro W hSW
            go_simp
            all_goals with_reducible rfl
          go_simp
          refine wpAnyH_take (i := 3) (v := undef) rfl (by kernel_rfl) (by kernel_rfl) (by kernel_rfl) (fun _ _ _ h => h) (Or.inr ⟨by kernel_rfl, rfl⟩) hS ?_
          go_simp
          refine wpAnyH_take (i := 4) (v := undef) rfl (by kernel_rfl) (by kernel_rfl) (by kernel_rfl) (fun _ _ _ h => h) (Or.inr ⟨by kernel_rfl, rfl⟩) hS ?_
          go_simp
          refine wpAnyH_take (i := 5) (v := undef) rfl (by kernel_rfl) (by kernel_rfl) (by kernel_rfl) (fun _ _ _ h => h) (Or.inr ⟨by kernel_rfl, rfl⟩) hS ?_
          go_simp
          refine wpAnyH_take (i := 6) (v := undef) rfl (by kernel_rfl) (by kernel_rfl) (by kernel_rfl) (fun _ _ _ h => h) (Or.inr ⟨by kernel_rfl, rfl⟩) hS ?_
          go_simp
          refine wpAnyH_take (i := 7) (v := undef) rfl (by kernel_rfl) (by kernel_rfl) (by kernel_rfl) (fun _ _ _ h => h) (Or.inr ⟨by kernel_rfl, rfl⟩) hS ?_
          go_simp
          refine wpAnyH_take (i := 8) (v := undef) rfl (by kernel_rfl) (by kernel_rfl) (by kernel_rfl) (fun _ _ _ h => h) (Or.inr ⟨by kernel_rfl, rfl⟩) hS ?_
          go_simp
          refine wpAnyH_take (i := 9) (v := undef) rfl (by kernel_rfl) (by kernel_rfl) (by kernel_rfl) (fun _ _ _ h => h) (Or.inr ⟨by kernel_rfl, rfl⟩) hS ?_
          go_simp
          refine wpAnyH_take (i := 10) (v := undef) rfl (by kernel_rfl) (by kernel_rfl) (by kernel_rfl) (fun _ _ _ h => h) (Or.inr ⟨by kernel_rfl, rfl⟩) hS ?_
          go_simp
          refine wpAnyH_take (i := 11) (v := undef) rfl (by kernel_rfl) (by kernel_rfl) (by kernel_rfl) (fun _ _ _ h => h) (Or.inr ⟨by kernel_rfl, rfl⟩) hS ?_
          go_simp
          refine wpAnyH_take (i := 12) (v := undef) rfl (by kernel_rfl) (by kernel_rfl) (by kernel_rfl) (fun _ _ _ h => h) (Or.inr ⟨by kernel_rfl, rfl⟩) hS ?_
          refine wpAnyH_take (i := 13) (v := ?_) rfl (by kernel_rfl) (by kernel_rfl) (by kernel_rfl) (fun _ _ _ h => h) (Or.inl ⟨by kernel_rfl, ?_⟩) hS ?_
          rotate_left
          · intro W hSW
            go_simp
            all_goals with_reducible rfl
          go_simp
          refine wpAnyH_done (by kernel_rfl) ?_ _
          go_simp
          generalize wr.drew = w6 at *
          replace HB2 := Lib.hid (HB2.out.trans (hS.mono HB2.out.size))
          clear hS
          go_upto_region 8 with fail
          refine wp_region_held_drew (S := fun W => Below w6.heap.size w6 W) (by kernel_rfl) (Below.drew (Below.refl _ _)) (fun hS => ?_)
          generalize w6.drew = wd at *
          refine wpAnyH_take (i := 1) (v := ?_) rfl (by kernel_rfl) (by kernel_rfl) (by kernel_rfl) (fun _ _ _ h => h) (Or.inl ⟨by kernel_rfl, ?_⟩) hS ?_
          rotate_left
          · intro W hSW
            go_simp
            all_goals with_reducible rfl
          refine wpAnyH_take (i := 2) (v := ?_) rfl (by kernel_rfl) (by kernel_rfl) (by kernel_rfl) (fun _ _ _ h => h) (Or.inl ⟨by kernel_rfl, ?_⟩) hS ?_
          rotate_left
          · intro W hSW
            go_simp
            all_goals with_reducible rfl
          go_simp
          refine wpAnyH_take (i := 3) (v := .slice pm 0 cm) rfl (by kernel_rfl) (by kernel_rfl) (by kernel_rfl) (fun _ _ _ h => h) (Or.inl ⟨by kernel_rfl, fun W hSW => sbK.take rfl rfl rfl HNC.out⟩) hS ?_
          refine wpAnyH_take (i := 5) (v := ?_) rfl (by kernel_rfl) (by kernel_rfl) (by kernel_rfl) (fun _ _ _ h => h) (Or.inl ⟨by kernel_rfl, ?_⟩) hS ?_
          rotate_left
          · intro W hSW
            go_simp
            all_goals with_reducible rfl
          refine wpAnyH_take (i := 6) (v := ?_) rfl (by kernel_rfl) (by kernel_rfl) (by kernel_rfl) (fun _ _ _ h => h) (Or.inl ⟨by kernel_rfl, ?_⟩) hS ?_
          rotate_left
          · intro W hSW
            go_simp
            all_goals with_reducible rfl
          refine wpAnyH_take (i := 7) (v := ?_) rfl (by kernel_rfl) (by kernel_rfl) (by kernel_rfl) (fun _ _ _ h => h) (Or.inl ⟨by kernel_rfl, ?_⟩) hS ?_
          rotate_left
          · intro W hSW
            go_simp
            all_goals with_reducible rfl
          go_simp
          refine wpAnyH_take (i := 8) (v := sbV x) rfl (by kernel_rfl) (by kernel_rfl) (by kernel_rfl) (fun _ _ _ h => h) (Or.inl ⟨by kernel_rfl, fun W hSW => sbK.load rfl rfl (HR.out.below (HB.out.trans ((HB2.out.trans (hSW.mono HB2.out.size)).mono HB.out.size))) HX.out⟩) hS ?_
          refine wpAnyH_take (i := 11) (v := ?_) rfl (by kernel_rfl) (by kernel_rfl) (by kernel_rfl) (fun _ _ _ h => h) (Or.inl ⟨by kernel_rfl, ?_⟩) hS ?_
          rotate_left
          · intro W hSW
            go_simp
            all_goals with_reducible rfl
          refine wpAnyH_take (i := 12) (v := ?_) rfl (by kernel_rfl) (by kernel_rfl) (by kernel_rfl) (fun _ _ _ h => h) (Or.inl ⟨by kernel_rfl, ?_⟩) hS ?_
          rotate_left
          · intro W hSW
            go_simp
            all_goals with_reducible rfl
          go_simp
          refine wpAnyH_take (i := 13) (v := .slice (drA 3 pm cm 0) (m.length - 0) (cm - 0)) rfl (by kernel_rfl) (by kernel_rfl) (by kernel_rfl) (fun _ _ _ h => h) (Or.inl ⟨by kernel_rfl, fun W hSW => sbK.dropE rfl rfl rfl HNL.out⟩) hS ?_
          go_simp
          refine wpAnyH_ready (rs := [0, 9]) (by kernel_rfl) (by simp) ?_
          refine AllReadyH.cons rfl (fun K hK => ?_) (AllReadyH.cons rfl (fun K hK => ?_) AllReadyH.nil)
          · go_simp
            have HE0 := Lib.hid (sbK.empty hS (Below.size hS))
            refine hK.out _ _ (Below.alloc hS (Below.size hS) _) (fun hS => ?_)
            clear hK K
            generalize wd.alloc (.cells #[] 73) = wa at *
            refine wpAnyH_ready (rs := [4, 9]) (by kernel_rfl) (by simp) ?_
            refine AllReadyH.cons rfl (fun K hK => ?_) (AllReadyH.cons rfl (fun K hK => ?_) AllReadyH.nil)
            · refine sbK.append (by kernel_rfl) _ _ rfl w6.heap.size [] (m.take 0) (m.take 0) (List.nil_append _) rfl HE0.out pm cm (by rw [HTL.out]; rfl) (sbK.rdTake (HRM.out.below (HB2.out.trans (hS.mono HB2.out.size))) 0) HNM.out (by have := HML.out; rw [HTL.out]; simp <;> omega) (Below.size hS) ?_
              intro p8 c8 w8 ho8 hg8
              have HB8 := Lib.hid (Below.grown hS hg8 (Below.size hS) (fun j hj => (World.ownsRow.lt HE0.out j hj).1))
              have HO2 := Lib.hid ho8
              clear ho8 hg8
              refine hK.out _ _ HB8.out (fun hS => ?_)
              clear hK K
              refine wpAnyH_ready (rs := [9]) (by kernel_rfl) (by simp) ?_
              refine AllReadyH.cons rfl (fun K hK => ?_) AllReadyH.nil
              refine step_of (by kernel_rfl) ?_
              refine wp_build1 _ rfl _ rfl (fun w => run_buildS_rsb w x) ?_
              have HR6 := Lib.hid (rd_newsb hS x 73)
              have HO7 := Lib.hid (World.ownsRow.alloc HO2.out (.cells #[.string x.1, .int .i64 x.2.1, .int .i64 x.2.2] 73))
              have SB6 := Lib.hid (show w8.heap.size < (w8.alloc (.cells #[.string x.1, .int .i64 x.2.1, .int .i64 x.2.2] 73)).heap.size from by simp)
              refine hK.out _ _ (Below.alloc hS (Below.size hS) _) (fun hS => ?_)
              clear hK K
              generalize w8.alloc (.cells #[.string x.1, .int .i64 x.2.1, .int .i64 x.2.2] 73) = wb at *
              refine wpAnyH_ready (rs := [10]) (by kernel_rfl) (by simp) ?_
              refine AllReadyH.cons rfl (fun K hK => ?_) AllReadyH.nil
              refine sbK.append (by kernel_rfl) _ _ rfl w6.heap.size (m.take 0) [x] (m.take 0 ++ [x]) rfl rfl HO7.out _ 1 rfl HR6.out (fun e => by cases e) (by have := HML.out; rw [HTL.out]; simp <;> omega) (Below.size hS) ?_
              intro p13 c13 w13 ho13 hg13
              have HB13 := Lib.hid (Below.grown hS hg13 (Below.size hS) (fun j hj => (World.ownsRow.lt HO7.out j hj).1))
              have HO13 := Lib.hid ho13
              clear ho13 hg13
              refine hK.out _ _ HB13.out (fun hS => ?_)
              clear hK K
              refine wpAnyH_ready (rs := [14]) (by kernel_rfl) (by simp) ?_
              refine AllReadyH.cons rfl (fun K hK => ?_) AllReadyH.nil
              refine sbK.append (by kernel_rfl) _ _ rfl w6.heap.size (m.take 0 ++ [x]) (m.drop 0) m2 HM2.out rfl HO13.out _ (cm - 0) (by rw [HDL.out]; rfl) (sbK.rdDrop (HRM.out.below (HB2.out.trans (hS.mono HB2.out.size))) 0 HMC.out) (drA_none HNM.out) (by have := HML.out; rw [List.length_append, HTL.out, HDL.out]; simp <;> omega) (Below.size hS) ?_
              intro p20 c20 w20 ho20 hg20
              have HB20 := Lib.hid (Below.grown hS hg20 (Below.size hS) (fun j hj => (World.ownsRow.lt HO13.out j hj).1))
              have HO20 := Lib.hid ho20
              clear ho20 hg20
              refine hK.out _ _ HB20.out (fun hS => ?_)
              clear hK K
              refine wpAnyH_take (i := 15) (v := ?_) rfl (by kernel_rfl) (by kernel_rfl) (by kernel_rfl) (fun _ _ _ h => h) (Or.inl ⟨by kernel_rfl, ?_⟩) hS ?_
              rotate_left
              · intro W hSW
                go_simp
                all_goals with_reducible rfl
              go_simp
              refine wpAnyH_done (by kernel_rfl) ?_ _
              go_simp
              have HN := Lib.hid hS
              clear hS
              go_wp2
              go_roundw
              case rel => exact ⟨k + 1, m2, p20, c20, by go_num, by have := HKL.out; omega, HP2.out, HS2.out, rfl, own_base HO20.out (fun g hg => Nat.le_trans (Nat.le_trans HB.out.size HB2.out.size) (World.ownsRow.lt HO20.out g hg).1), HB.out.trans ((HB2.out.trans (HN.out.mono HB2.out.size)).mono HB.out.size)⟩
              case measure => simp [intOf]; have := HKL.out; omega
            · refine step_of (by kernel_rfl) ?_
              refine wp_build1 _ rfl _ rfl (fun w => run_buildS_rsb w x) ?_
              have HR6 := Lib.hid (rd_newsb hS x 73)
              have HE1 := Lib.hid (World.ownsRow.alloc HE0.out (.cells #[.string x.1, .int .i64 x.2.1, .int .i64 x.2.2] 73))
              have HNB := Lib.hid (World.ownsRow.lt HE0.out)
              have SB6 := Lib.hid (show wa.heap.size < (wa.alloc (.cells #[.string x.1, .int .i64 x.2.1, .int .i64 x.2.2] 73)).heap.size from by simp)
              refine hK.out _ _ (Below.alloc hS (Below.size hS) _) (fun hS => ?_)
              clear hK K
              generalize wa.alloc (.cells #[.string x.1, .int .i64 x.2.1, .int .i64 x.2.2] 73) = wb at *
              refine wpAnyH_ready (rs := [4]) (by kernel_rfl) (by simp) ?_
              refine AllReadyH.cons rfl (fun K hK => ?_) AllReadyH.nil
              refine sbK.append (by kernel_rfl) _ _ rfl w6.heap.size [] (m.take 0) (m.take 0) (List.nil_append _) rfl HE1.out pm cm (by rw [HTL.out]; rfl) (sbK.rdTake (HRM.out.below (HB2.out.trans (hS.mono HB2.out.size))) 0) HNM.out (by have := HML.out; rw [HTL.out]; simp <;> omega) (Below.size hS) ?_
              intro p8 c8 w8 ho8 hg8
              have HR7 := Lib.hid (rd_grown hg8 HR6.out (fun a ha e => by obtain rfl := Option.some.inj ha; have h1 := (HNB.out _ e).2; exact Nat.lt_irrefl _ h1))
              have HB8 := Lib.hid (Below.grown hS hg8 (Below.size hS) (fun j hj => (World.ownsRow.lt HE1.out j hj).1))
              have HO2 := Lib.hid ho8
              clear ho8 hg8
              refine hK.out _ _ HB8.out (fun hS => ?_)
              clear hK K
              refine wpAnyH_ready (rs := [10]) (by kernel_rfl) (by simp) ?_
              refine AllReadyH.cons rfl (fun K hK => ?_) AllReadyH.nil
              refine sbK.append (by kernel_rfl) _ _ rfl w6.heap.size (m.take 0) [x] (m.take 0 ++ [x]) rfl rfl HO2.out _ 1 rfl HR7.out (fun e => by cases e) (by have := HML.out; rw [HTL.out]; simp <;> omega) (Below.size hS) ?_
              intro p13 c13 w13 ho13 hg13
              have HB13 := Lib.hid (Below.grown hS hg13 (Below.size hS) (fun j hj => (World.ownsRow.lt HO2.out j hj).1))
              have HO13 := Lib.hid ho13
              clear ho13 hg13
              refine hK.out _ _ HB13.out (fun hS => ?_)
              clear hK K
              refine wpAnyH_ready (rs := [14]) (by kernel_rfl) (by simp) ?_
              refine AllReadyH.cons rfl (fun K hK => ?_) AllReadyH.nil
              refine sbK.append (by kernel_rfl) _ _ rfl w6.heap.size (m.take 0 ++ [x]) (m.drop 0) m2 HM2.out rfl HO13.out _ (cm - 0) (by rw [HDL.out]; rfl) (sbK.rdDrop (HRM.out.below (HB2.out.trans (hS.mono HB2.out.size))) 0 HMC.out) (drA_none HNM.out) (by have := HML.out; rw [List.length_append, HTL.out, HDL.out]; simp <;> omega) (Below.size hS) ?_
              intro p20 c20 w20 ho20 hg20
              have HB20 := Lib.hid (Below.grown hS hg20 (Below.size hS) (fun j hj => (World.ownsRow.lt HO13.out j hj).1))
              have HO20 := Lib.hid ho20
              clear ho20 hg20
              refine hK.out _ _ HB20.out (fun hS => ?_)
              clear hK K
              refine wpAnyH_take (i := 15) (v := ?_) rfl (by kernel_rfl) (by kernel_rfl) (by kernel_rfl) (fun _ _ _ h => h) (Or.inl ⟨by kernel_rfl, ?_⟩) hS ?_
              rotate_left
              · intro W hSW
                go_simp
                all_goals with_reducible rfl
              go_simp
              refine wpAnyH_done (by kernel_rfl) ?_ _
              go_simp
              have HN := Lib.hid hS
              clear hS
              go_wp2
              go_roundw
              case rel => exact ⟨k + 1, m2, p20, c20, by go_num, by have := HKL.out; omega, HP2.out, HS2.out, rfl, own_base HO20.out (fun g hg => Nat.le_trans (Nat.le_trans HB.out.size HB2.out.size) (World.ownsRow.lt HO20.out g hg).1), HB.out.trans ((HB2.out.trans (HN.out.mono HB2.out.size)).mono HB.out.size)⟩
              case measure => simp [intOf]; have := HKL.out; omega
          · refine step_of (by kernel_rfl) ?_
            refine wp_build1 _ rfl _ rfl (fun w => run_buildS_rsb w x) ?_
            have HR6 := Lib.hid (rd_newsb hS x 73)
            have SB6 := Lib.hid (show wd.heap.size < (wd.alloc (.cells #[.string x.1, .int .i64 x.2.1, .int .i64 x.2.2] 73)).heap.size from by simp)
            refine hK.out _ _ (Below.alloc hS (Below.size hS) _) (fun hS => ?_)
            clear hK K
            generalize wd.alloc (.cells #[.string x.1, .int .i64 x.2.1, .int .i64 x.2.2] 73) = wa at *
            refine wpAnyH_ready (rs := [0]) (by kernel_rfl) (by simp) ?_
            refine AllReadyH.cons rfl (fun K hK => ?_) AllReadyH.nil
            go_simp
            have HE0 := Lib.hid (sbK.empty hS (Below.size hS))
            have HLT := Lib.hid (SB6.out)
            have HR7 := Lib.hid (HR6.out.below ((Below.refl _ _).alloc (Nat.le_refl _) (.cells #[] 73)))
            refine hK.out _ _ (Below.alloc hS (Below.size hS) _) (fun hS => ?_)
            clear hK K
            generalize wa.alloc (.cells #[] 73) = wb at *
            refine wpAnyH_ready (rs := [4]) (by kernel_rfl) (by simp) ?_
            refine AllReadyH.cons rfl (fun K hK => ?_) AllReadyH.nil
            refine sbK.append (by kernel_rfl) _ _ rfl w6.heap.size [] (m.take 0) (m.take 0) (List.nil_append _) rfl HE0.out pm cm (by rw [HTL.out]; rfl) (sbK.rdTake (HRM.out.below (HB2.out.trans (hS.mono HB2.out.size))) 0) HNM.out (by have := HML.out; rw [HTL.out]; simp <;> omega) (Below.size hS) ?_
            intro p8 c8 w8 ho8 hg8
            have HR8 := Lib.hid (rd_grown hg8 HR7.out (fun a ha e => by obtain rfl := Option.some.inj ha; have h1 := Option.some.inj e; have h2 := HLT.out; dsimp only at h1; omega))
            have HB8 := Lib.hid (Below.grown hS hg8 (Below.size hS) (fun j hj => (World.ownsRow.lt HE0.out j hj).1))
            have HO2 := Lib.hid ho8
            clear ho8 hg8
            refine hK.out _ _ HB8.out (fun hS => ?_)
            clear hK K
            refine wpAnyH_ready (rs := [10]) (by kernel_rfl) (by simp) ?_
            refine AllReadyH.cons rfl (fun K hK => ?_) AllReadyH.nil
            refine sbK.append (by kernel_rfl) _ _ rfl w6.heap.size (m.take 0) [x] (m.take 0 ++ [x]) rfl rfl HO2.out _ 1 rfl HR8.out (fun e => by cases e) (by have := HML.out; rw [HTL.out]; simp <;> omega) (Below.size hS) ?_
            intro p13 c13 w13 ho13 hg13
            have HB13 := Lib.hid (Below.grown hS hg13 (Below.size hS) (fun j hj => (World.ownsRow.lt HO2.out j hj).1))
            have HO13 := Lib.hid ho13
            clear ho13 hg13
            refine hK.out _ _ HB13.out (fun hS => ?_)
            clear hK K
            refine wpAnyH_ready (rs := [14]) (by kernel_rfl) (by simp) ?_
            refine AllReadyH.cons rfl (fun K hK => ?_) AllReadyH.nil
            refine sbK.append (by kernel_rfl) _ _ rfl w6.heap.size (m.take 0 ++ [x]) (m.drop 0) m2 HM2.out rfl HO13.out _ (cm - 0) (by rw [HDL.out]; rfl) (sbK.rdDrop (HRM.out.below (HB2.out.trans (hS.mono HB2.out.size))) 0 HMC.out) (drA_none HNM.out) (by have := HML.out; rw [List.length_append, HTL.out, HDL.out]; simp <;> omega) (Below.size hS) ?_
            intro p20 c20 w20 ho20 hg20
            have HB20 := Lib.hid (Below.grown hS hg20 (Below.size hS) (fun j hj => (World.ownsRow.lt HO13.out j hj).1))
            have HO20 := Lib.hid ho20
            clear ho20 hg20
            refine hK.out _ _ HB20.out (fun hS => ?_)
            clear hK K
            refine wpAnyH_take (i := 15) (v := ?_) rfl (by kernel_rfl) (by kernel_rfl) (by kernel_rfl) (fun _ _ _ h => h) (Or.inl ⟨by kernel_rfl, ?_⟩) hS ?_
            rotate_left
            · intro W hSW
              go_simp
              all_goals with_reducible rfl
            go_simp
            refine wpAnyH_done (by kernel_rfl) ?_ _
            go_simp
            have HN := Lib.hid hS
            clear hS
            go_wp2
            go_roundw
            case rel => exact ⟨k + 1, m2, p20, c20, by go_num, by have := HKL.out; omega, HP2.out, HS2.out, rfl, own_base HO20.out (fun g hg => Nat.le_trans (Nat.le_trans HB.out.size HB2.out.size) (World.ownsRow.lt HO20.out g hg).1), HB.out.trans ((HB2.out.trans (HN.out.mono HB2.out.size)).mono HB.out.size)⟩
            case measure => simp [intOf]; have := HKL.out; omega
        | succ n =>
          obtain ⟨y, hy⟩ : ∃ y, m[n]? = some y := ⟨_, List.getElem?_eq_getElem (by omega)⟩
          have HY := Lib.hid hy
          have HSO := Lib.hid (show Sbm.sbOf m n = y from by rw [Sbm.sbOf_lt (by omega)]; exact (List.getElem?_eq_some_iff.1 hy).2)
          have hwn : IntKind.i64.wrap (n : Int) = (n : Int) := wraps_i64 _ (by omega) (by omega)
          have hnm2 : n < m.length := by omega
          obtain ⟨b2, o2, rfl, -⟩ := HRM.out.addr (by rw [sbK.length]; omega)
          have HBF := Lib.hid (fun W => rbefore_any x y W HXS.out (HKM.out y (List.mem_of_getElem? hy)))
          have hn7 : (0 : Int) < (n : Int) + 1 := by omega
          rw [Int.natCast_add, show ((1 : Nat) : Int) = 1 from rfl] at *
          clear hy
          go_upto_region 6 with fail
          cases hd : decide (Sbm.ltB x y)
          · rw [hd] at HBF
            have HE := Lib.hid (HEND.out (fun j h1 h2 => by
              have h3 : ¬ Sbm.ltB x (Sbm.sbOf m n) := by rw [HSO.out]; exact of_decide_eq_false hd
              by_cases e : j = n
              · rw [e]; exact h3
              · have h4 : ¬ Sbm.ltB (Sbm.sbOf m n) (Sbm.sbOf m j) := by
                  rw [Sbm.sbOf_lt hnm2, Sbm.sbOf_lt h2]
                  exact List.pairwise_iff_getElem.1 HSR.out j n h2 hnm2 (by omega)
                exact Sbm.ltB_le h4 h3))
            obtain ⟨m2, hm2⟩ : ∃ m2, (m.take (n + 1) ++ [x]) ++ m.drop (n + 1) = m2 := ⟨_, rfl⟩
            have HM2 := Lib.hid hm2
            have HS2 := Lib.hid (show Sbm.Srt m2 from by rw [← hm2]; exact HE.out.1)
            have HP2 := Lib.hid (show m2.Perm (l.take (k + 1)) from by rw [← hm2]; exact HE.out.2)
            clear hm2 HE HEND hd
            refine wp_region_held_drew (S := fun W => Below wr.heap.size wr W) (by kernel_rfl) (Below.drew (Below.refl _ _)) (fun hS => ?_)
            refine wpAnyH_take (i := 0) (v := ?_) rfl (by kernel_rfl) (by kernel_rfl) (by kernel_rfl) (fun _ _ _ h => h) (Or.inl ⟨by kernel_rfl, ?_⟩) hS ?_
            rotate_left
            · intro W hSW
              go_simp
              all_goals with_reducible rfl
            refine wpAnyH_take (i := 1) (v := ?_) rfl (by kernel_rfl) (by kernel_rfl) (by kernel_rfl) (fun _ _ _ h => h) (Or.inl ⟨by kernel_rfl, ?_⟩) hS ?_
            rotate_left
            · intro W hSW
              go_simp
              all_goals with_reducible rfl
            refine wpAnyH_take (i := 2) (v := ?_) rfl (by kernel_rfl) (by kernel_rfl) (by kernel_rfl) (fun _ _ _ h => h) (Or.inl ⟨by kernel_rfl, ?_⟩) hS ?_
            rotate_left
            · intro W hSW
              go_simp
              all_goals with_reducible rfl
            refine wpAnyH_take (i := 3) (v := ?_) rfl (by kernel_rfl) (by kernel_rfl) (by kernel_rfl) (fun _ _ _ h => h) (Or.inl ⟨by kernel_rfl, ?_⟩) hS ?_
            rotate_left
            · intro W hSW
              go_simp
              all_goals with_reducible rfl
            go_simp
            refine wpAnyH_take (i := 4) (v := ?_) rfl (by kernel_rfl) (by kernel_rfl) (by kernel_rfl) (fun _ _ _ h => h) (Or.inl ⟨by kernel_rfl, ?_⟩) hS ?_
            rotate_left
            · intro W hSW
              go_simp
              all_goals with_reducible rfl
            refine wpAnyH_take (i := 5) (v := ?_) rfl (by kernel_rfl) (by kernel_rfl) (by kernel_rfl) (fun _ _ _ h => h) (Or.inl ⟨by kernel_rfl, ?_⟩) hS ?_
            rotate_left
            · intro W hSW
              go_simp
              all_goals with_reducible rfl
            go_simp
            refine wpAnyH_take (i := 6) (v := sbV x) rfl (by kernel_rfl) (by kernel_rfl) (by kernel_rfl) (fun _ _ _ h => h) (Or.inl ⟨by kernel_rfl, fun W hSW => sbK.load rfl rfl (HR.out.below (HB.out.trans ((HB2.out.trans (hSW.mono HB2.out.size)).mono HB.out.size))) HX.out⟩) hS ?_
            refine wpAnyH_take (i := 7) (v := ?_) rfl (by kernel_rfl) (by kernel_rfl) (by kernel_rfl) (fun _ _ _ h => h) (Or.inl ⟨by kernel_rfl, ?_⟩) hS ?_
            rotate_left
            · intro W hSW
              go_simp
              all_goals with_reducible rfl
            refine wpAnyH_take (i := 8) (v := ?_) rfl (by kernel_rfl) (by kernel_rfl) (by kernel_rfl) (fun _ _ _ h => h) (Or.inl ⟨by kernel_rfl, ?_⟩) hS ?_
            rotate_left
            · intro W hSW
              go_simp
              all_goals with_reducible rfl
            refine wpAnyH_take (i := 9) (v := ?_) rfl (by kernel_rfl) (by kernel_rfl) (by kernel_rfl) (fun _ _ _ h => h) (Or.inl ⟨by kernel_rfl, ?_⟩) hS ?_
            rotate_left
            · intro W hSW
              go_simp
              all_goals with_reducible rfl
            go_simp
            refine wpAnyH_take (i := 10) (v := ?_) rfl (by kernel_rfl) (by kernel_rfl) (by kernel_rfl) (fun _ _ _ h => h) (Or.inl ⟨by kernel_rfl, ?_⟩) hS ?_
            rotate_left
            · intro W hSW
              go_simp
              all_goals with_reducible rfl
            go_simp
            refine wpAnyH_take (i := 11) (v := sbV y) rfl (by kernel_rfl) (by kernel_rfl) (by kernel_rfl) (fun _ _ _ h => h) (Or.inl ⟨by kernel_rfl, fun W hSW => sbK.load rfl rfl (HRM.out.below (HB2.out.trans (hSW.mono HB2.out.size))) HY.out⟩) hS ?_
            go_simp
            refine wpAnyH_ready (rs := [12]) (by kernel_rfl) (by simp) ?_
            refine AllReadyH.cons rfl (fun K hK => ?_) AllReadyH.nil
            go_simp
            go_wp2_with ((go_at_call 57; refine (HBF.out _).mono ?_; rintro e wn ⟨rfl, hbn⟩))
            refine hK.out _ _ (hS.trans (hbn.mono hS.size)) (fun hS => ?_)
            clear hK K hbn
            refine wpAnyH_take (i := 13) (v := ?_) rfl (by kernel_rfl) (by kernel_rfl) (by kernel_rfl) (fun _ _ _ h => h) (Or.inl ⟨by kernel_rfl, ?_⟩) hS ?_
            rotate_left
            · intro W hSW
              go_simp
              all_goals with_reducible rfl
            go_simp
            refine wpAnyH_done (by kernel_rfl) ?_ _
            go_simp
            generalize wn = w6 at *
            replace HB2 := Lib.hid (HB2.out.trans (hS.mono HB2.out.size))
            clear hS
            go_upto_region 8 with fail
            refine wp_region_held_drew (S := fun W => Below w6.heap.size w6 W) (by kernel_rfl) (Below.drew (Below.refl _ _)) (fun hS => ?_)
            generalize w6.drew = wd at *
            refine wpAnyH_take (i := 1) (v := ?_) rfl (by kernel_rfl) (by kernel_rfl) (by kernel_rfl) (fun _ _ _ h => h) (Or.inl ⟨by kernel_rfl, ?_⟩) hS ?_
            rotate_left
            · intro W hSW
              go_simp
              all_goals with_reducible rfl
            refine wpAnyH_take (i := 2) (v := ?_) rfl (by kernel_rfl) (by kernel_rfl) (by kernel_rfl) (fun _ _ _ h => h) (Or.inl ⟨by kernel_rfl, ?_⟩) hS ?_
            rotate_left
            · intro W hSW
              go_simp
              all_goals with_reducible rfl
            go_simp
            refine wpAnyH_take (i := 3) (v := .slice (some ⟨b2, o2, none⟩) (n + 1) cm) rfl (by kernel_rfl) (by kernel_rfl) (by kernel_rfl) (fun _ _ _ h => h) (Or.inl ⟨by kernel_rfl, fun W hSW => sbK.take rfl rfl rfl HNC.out⟩) hS ?_
            refine wpAnyH_take (i := 5) (v := ?_) rfl (by kernel_rfl) (by kernel_rfl) (by kernel_rfl) (fun _ _ _ h => h) (Or.inl ⟨by kernel_rfl, ?_⟩) hS ?_
            rotate_left
            · intro W hSW
              go_simp
              all_goals with_reducible rfl
            refine wpAnyH_take (i := 6) (v := ?_) rfl (by kernel_rfl) (by kernel_rfl) (by kernel_rfl) (fun _ _ _ h => h) (Or.inl ⟨by kernel_rfl, ?_⟩) hS ?_
            rotate_left
            · intro W hSW
              go_simp
              all_goals with_reducible rfl
            refine wpAnyH_take (i := 7) (v := ?_) rfl (by kernel_rfl) (by kernel_rfl) (by kernel_rfl) (fun _ _ _ h => h) (Or.inl ⟨by kernel_rfl, ?_⟩) hS ?_
            rotate_left
            · intro W hSW
              go_simp
              all_goals with_reducible rfl
            go_simp
            refine wpAnyH_take (i := 8) (v := sbV x) rfl (by kernel_rfl) (by kernel_rfl) (by kernel_rfl) (fun _ _ _ h => h) (Or.inl ⟨by kernel_rfl, fun W hSW => sbK.load rfl rfl (HR.out.below (HB.out.trans ((HB2.out.trans (hSW.mono HB2.out.size)).mono HB.out.size))) HX.out⟩) hS ?_
            refine wpAnyH_take (i := 11) (v := ?_) rfl (by kernel_rfl) (by kernel_rfl) (by kernel_rfl) (fun _ _ _ h => h) (Or.inl ⟨by kernel_rfl, ?_⟩) hS ?_
            rotate_left
            · intro W hSW
              go_simp
              all_goals with_reducible rfl
            refine wpAnyH_take (i := 12) (v := ?_) rfl (by kernel_rfl) (by kernel_rfl) (by kernel_rfl) (fun _ _ _ h => h) (Or.inl ⟨by kernel_rfl, ?_⟩) hS ?_
            rotate_left
            · intro W hSW
              go_simp
              all_goals with_reducible rfl
            go_simp
            refine wpAnyH_take (i := 13) (v := .slice (drA 3 (some ⟨b2, o2, none⟩) cm (n + 1)) (m.length - (n + 1)) (cm - (n + 1))) rfl (by kernel_rfl) (by kernel_rfl) (by kernel_rfl) (fun _ _ _ h => h) (Or.inl ⟨by kernel_rfl, fun W hSW => sbK.dropE rfl rfl rfl HNL.out⟩) hS ?_
            go_simp
            refine wpAnyH_ready (rs := [0, 9]) (by kernel_rfl) (by simp) ?_
            refine AllReadyH.cons rfl (fun K hK => ?_) (AllReadyH.cons rfl (fun K hK => ?_) AllReadyH.nil)
            · go_simp
              have HE0 := Lib.hid (sbK.empty hS (Below.size hS))
              refine hK.out _ _ (Below.alloc hS (Below.size hS) _) (fun hS => ?_)
              clear hK K
              generalize wd.alloc (.cells #[] 73) = wa at *
              refine wpAnyH_ready (rs := [4, 9]) (by kernel_rfl) (by simp) ?_
              refine AllReadyH.cons rfl (fun K hK => ?_) (AllReadyH.cons rfl (fun K hK => ?_) AllReadyH.nil)
              · refine sbK.append (by kernel_rfl) _ _ rfl w6.heap.size [] (m.take (n + 1)) (m.take (n + 1)) (List.nil_append _) rfl HE0.out _ cm (by rw [HTL.out]; rfl) (sbK.rdTake (HRM.out.below (HB2.out.trans (hS.mono HB2.out.size))) (n + 1)) HNM.out (by have := HML.out; rw [HTL.out]; simp <;> omega) (Below.size hS) ?_
                intro p8 c8 w8 ho8 hg8
                have HB8 := Lib.hid (Below.grown hS hg8 (Below.size hS) (fun j hj => (World.ownsRow.lt HE0.out j hj).1))
                have HO2 := Lib.hid ho8
                clear ho8 hg8
                refine hK.out _ _ HB8.out (fun hS => ?_)
                clear hK K
                refine wpAnyH_ready (rs := [9]) (by kernel_rfl) (by simp) ?_
                refine AllReadyH.cons rfl (fun K hK => ?_) AllReadyH.nil
                refine step_of (by kernel_rfl) ?_
                refine wp_build1 _ rfl _ rfl (fun w => run_buildS_rsb w x) ?_
                have HR6 := Lib.hid (rd_newsb hS x 73)
                have HO7 := Lib.hid (World.ownsRow.alloc HO2.out (.cells #[.string x.1, .int .i64 x.2.1, .int .i64 x.2.2] 73))
                have SB6 := Lib.hid (show w8.heap.size < (w8.alloc (.cells #[.string x.1, .int .i64 x.2.1, .int .i64 x.2.2] 73)).heap.size from by simp)
                refine hK.out _ _ (Below.alloc hS (Below.size hS) _) (fun hS => ?_)
                clear hK K
                generalize w8.alloc (.cells #[.string x.1, .int .i64 x.2.1, .int .i64 x.2.2] 73) = wb at *
                refine wpAnyH_ready (rs := [10]) (by kernel_rfl) (by simp) ?_
                refine AllReadyH.cons rfl (fun K hK => ?_) AllReadyH.nil
                refine sbK.append (by kernel_rfl) _ _ rfl w6.heap.size (m.take (n + 1)) [x] (m.take (n + 1) ++ [x]) rfl rfl HO7.out _ 1 rfl HR6.out (fun e => by cases e) (by have := HML.out; rw [HTL.out]; simp <;> omega) (Below.size hS) ?_
                intro p13 c13 w13 ho13 hg13
                have HB13 := Lib.hid (Below.grown hS hg13 (Below.size hS) (fun j hj => (World.ownsRow.lt HO7.out j hj).1))
                have HO13 := Lib.hid ho13
                clear ho13 hg13
                refine hK.out _ _ HB13.out (fun hS => ?_)
                clear hK K
                refine wpAnyH_ready (rs := [14]) (by kernel_rfl) (by simp) ?_
                refine AllReadyH.cons rfl (fun K hK => ?_) AllReadyH.nil
                refine sbK.append (by kernel_rfl) _ _ rfl w6.heap.size (m.take (n + 1) ++ [x]) (m.drop (n + 1)) m2 HM2.out rfl HO13.out _ (cm - (n + 1)) (by rw [HDL.out]; rfl) (sbK.rdDrop (HRM.out.below (HB2.out.trans (hS.mono HB2.out.size))) (n + 1) HMC.out) (drA_none HNM.out) (by have := HML.out; rw [List.length_append, HTL.out, HDL.out]; simp <;> omega) (Below.size hS) ?_
                intro p20 c20 w20 ho20 hg20
                have HB20 := Lib.hid (Below.grown hS hg20 (Below.size hS) (fun j hj => (World.ownsRow.lt HO13.out j hj).1))
                have HO20 := Lib.hid ho20
                clear ho20 hg20
                refine hK.out _ _ HB20.out (fun hS => ?_)
                clear hK K
                refine wpAnyH_take (i := 15) (v := ?_) rfl (by kernel_rfl) (by kernel_rfl) (by kernel_rfl) (fun _ _ _ h => h) (Or.inl ⟨by kernel_rfl, ?_⟩) hS ?_
                rotate_left
                · intro W hSW
                  go_simp
                  all_goals with_reducible rfl
                go_simp
                refine wpAnyH_done (by kernel_rfl) ?_ _
                go_simp
                have HN := Lib.hid hS
                clear hS
                go_wp2
                go_roundw
                case rel => exact ⟨k + 1, m2, p20, c20, by go_num, by have := HKL.out; omega, HP2.out, HS2.out, rfl, own_base HO20.out (fun g hg => Nat.le_trans (Nat.le_trans HB.out.size HB2.out.size) (World.ownsRow.lt HO20.out g hg).1), HB.out.trans ((HB2.out.trans (HN.out.mono HB2.out.size)).mono HB.out.size)⟩
                case measure => simp [intOf]; have := HKL.out; omega
              · refine step_of (by kernel_rfl) ?_
                refine wp_build1 _ rfl _ rfl (fun w => run_buildS_rsb w x) ?_
                have HR6 := Lib.hid (rd_newsb hS x 73)
                have HE1 := Lib.hid (World.ownsRow.alloc HE0.out (.cells #[.string x.1, .int .i64 x.2.1, .int .i64 x.2.2] 73))
                have HNB := Lib.hid (World.ownsRow.lt HE0.out)
                have SB6 := Lib.hid (show wa.heap.size < (wa.alloc (.cells #[.string x.1, .int .i64 x.2.1, .int .i64 x.2.2] 73)).heap.size from by simp)
                refine hK.out _ _ (Below.alloc hS (Below.size hS) _) (fun hS => ?_)
                clear hK K
                generalize wa.alloc (.cells #[.string x.1, .int .i64 x.2.1, .int .i64 x.2.2] 73) = wb at *
                refine wpAnyH_ready (rs := [4]) (by kernel_rfl) (by simp) ?_
                refine AllReadyH.cons rfl (fun K hK => ?_) AllReadyH.nil
                refine sbK.append (by kernel_rfl) _ _ rfl w6.heap.size [] (m.take (n + 1)) (m.take (n + 1)) (List.nil_append _) rfl HE1.out _ cm (by rw [HTL.out]; rfl) (sbK.rdTake (HRM.out.below (HB2.out.trans (hS.mono HB2.out.size))) (n + 1)) HNM.out (by have := HML.out; rw [HTL.out]; simp <;> omega) (Below.size hS) ?_
                intro p8 c8 w8 ho8 hg8
                have HR7 := Lib.hid (rd_grown hg8 HR6.out (fun a ha e => by obtain rfl := Option.some.inj ha; have h1 := (HNB.out _ e).2; exact Nat.lt_irrefl _ h1))
                have HB8 := Lib.hid (Below.grown hS hg8 (Below.size hS) (fun j hj => (World.ownsRow.lt HE1.out j hj).1))
                have HO2 := Lib.hid ho8
                clear ho8 hg8
                refine hK.out _ _ HB8.out (fun hS => ?_)
                clear hK K
                refine wpAnyH_ready (rs := [10]) (by kernel_rfl) (by simp) ?_
                refine AllReadyH.cons rfl (fun K hK => ?_) AllReadyH.nil
                refine sbK.append (by kernel_rfl) _ _ rfl w6.heap.size (m.take (n + 1)) [x] (m.take (n + 1) ++ [x]) rfl rfl HO2.out _ 1 rfl HR7.out (fun e => by cases e) (by have := HML.out; rw [HTL.out]; simp <;> omega) (Below.size hS) ?_
                intro p13 c13 w13 ho13 hg13
                have HB13 := Lib.hid (Below.grown hS hg13 (Below.size hS) (fun j hj => (World.ownsRow.lt HO2.out j hj).1))
                have HO13 := Lib.hid ho13
                clear ho13 hg13
                refine hK.out _ _ HB13.out (fun hS => ?_)
                clear hK K
                refine wpAnyH_ready (rs := [14]) (by kernel_rfl) (by simp) ?_
                refine AllReadyH.cons rfl (fun K hK => ?_) AllReadyH.nil
                refine sbK.append (by kernel_rfl) _ _ rfl w6.heap.size (m.take (n + 1) ++ [x]) (m.drop (n + 1)) m2 HM2.out rfl HO13.out _ (cm - (n + 1)) (by rw [HDL.out]; rfl) (sbK.rdDrop (HRM.out.below (HB2.out.trans (hS.mono HB2.out.size))) (n + 1) HMC.out) (drA_none HNM.out) (by have := HML.out; rw [List.length_append, HTL.out, HDL.out]; simp <;> omega) (Below.size hS) ?_
                intro p20 c20 w20 ho20 hg20
                have HB20 := Lib.hid (Below.grown hS hg20 (Below.size hS) (fun j hj => (World.ownsRow.lt HO13.out j hj).1))
                have HO20 := Lib.hid ho20
                clear ho20 hg20
                refine hK.out _ _ HB20.out (fun hS => ?_)
                clear hK K
                refine wpAnyH_take (i := 15) (v := ?_) rfl (by kernel_rfl) (by kernel_rfl) (by kernel_rfl) (fun _ _ _ h => h) (Or.inl ⟨by kernel_rfl, ?_⟩) hS ?_
                rotate_left
                · intro W hSW
                  go_simp
                  all_goals with_reducible rfl
                go_simp
                refine wpAnyH_done (by kernel_rfl) ?_ _
                go_simp
                have HN := Lib.hid hS
                clear hS
                go_wp2
                go_roundw
                case rel => exact ⟨k + 1, m2, p20, c20, by go_num, by have := HKL.out; omega, HP2.out, HS2.out, rfl, own_base HO20.out (fun g hg => Nat.le_trans (Nat.le_trans HB.out.size HB2.out.size) (World.ownsRow.lt HO20.out g hg).1), HB.out.trans ((HB2.out.trans (HN.out.mono HB2.out.size)).mono HB.out.size)⟩
                case measure => simp [intOf]; have := HKL.out; omega
            · refine step_of (by kernel_rfl) ?_
              refine wp_build1 _ rfl _ rfl (fun w => run_buildS_rsb w x) ?_
              have HR6 := Lib.hid (rd_newsb hS x 73)
              have SB6 := Lib.hid (show wd.heap.size < (wd.alloc (.cells #[.string x.1, .int .i64 x.2.1, .int .i64 x.2.2] 73)).heap.size from by simp)
              refine hK.out _ _ (Below.alloc hS (Below.size hS) _) (fun hS => ?_)
              clear hK K
              generalize wd.alloc (.cells #[.string x.1, .int .i64 x.2.1, .int .i64 x.2.2] 73) = wa at *
              refine wpAnyH_ready (rs := [0]) (by kernel_rfl) (by simp) ?_
              refine AllReadyH.cons rfl (fun K hK => ?_) AllReadyH.nil
              go_simp
              have HE0 := Lib.hid (sbK.empty hS (Below.size hS))
              have HLT := Lib.hid (SB6.out)
              have HR7 := Lib.hid (HR6.out.below ((Below.refl _ _).alloc (Nat.le_refl _) (.cells #[] 73)))
              refine hK.out _ _ (Below.alloc hS (Below.size hS) _) (fun hS => ?_)
              clear hK K
              generalize wa.alloc (.cells #[] 73) = wb at *
              refine wpAnyH_ready (rs := [4]) (by kernel_rfl) (by simp) ?_
              refine AllReadyH.cons rfl (fun K hK => ?_) AllReadyH.nil
              refine sbK.append (by kernel_rfl) _ _ rfl w6.heap.size [] (m.take (n + 1)) (m.take (n + 1)) (List.nil_append _) rfl HE0.out _ cm (by rw [HTL.out]; rfl) (sbK.rdTake (HRM.out.below (HB2.out.trans (hS.mono HB2.out.size))) (n + 1)) HNM.out (by have := HML.out; rw [HTL.out]; simp <;> omega) (Below.size hS) ?_
              intro p8 c8 w8 ho8 hg8
              have HR8 := Lib.hid (rd_grown hg8 HR7.out (fun a ha e => by obtain rfl := Option.some.inj ha; have h1 := Option.some.inj e; have h2 := HLT.out; dsimp only at h1; omega))
              have HB8 := Lib.hid (Below.grown hS hg8 (Below.size hS) (fun j hj => (World.ownsRow.lt HE0.out j hj).1))
              have HO2 := Lib.hid ho8
              clear ho8 hg8
              refine hK.out _ _ HB8.out (fun hS => ?_)
              clear hK K
              refine wpAnyH_ready (rs := [10]) (by kernel_rfl) (by simp) ?_
              refine AllReadyH.cons rfl (fun K hK => ?_) AllReadyH.nil
              refine sbK.append (by kernel_rfl) _ _ rfl w6.heap.size (m.take (n + 1)) [x] (m.take (n + 1) ++ [x]) rfl rfl HO2.out _ 1 rfl HR8.out (fun e => by cases e) (by have := HML.out; rw [HTL.out]; simp <;> omega) (Below.size hS) ?_
              intro p13 c13 w13 ho13 hg13
              have HB13 := Lib.hid (Below.grown hS hg13 (Below.size hS) (fun j hj => (World.ownsRow.lt HO2.out j hj).1))
              have HO13 := Lib.hid ho13
              clear ho13 hg13
              refine hK.out _ _ HB13.out (fun hS => ?_)
              clear hK K
              refine wpAnyH_ready (rs := [14]) (by kernel_rfl) (by simp) ?_
              refine AllReadyH.cons rfl (fun K hK => ?_) AllReadyH.nil
              refine sbK.append (by kernel_rfl) _ _ rfl w6.heap.size (m.take (n + 1) ++ [x]) (m.drop (n + 1)) m2 HM2.out rfl HO13.out _ (cm - (n + 1)) (by rw [HDL.out]; rfl) (sbK.rdDrop (HRM.out.below (HB2.out.trans (hS.mono HB2.out.size))) (n + 1) HMC.out) (drA_none HNM.out) (by have := HML.out; rw [List.length_append, HTL.out, HDL.out]; simp <;> omega) (Below.size hS) ?_
              intro p20 c20 w20 ho20 hg20
              have HB20 := Lib.hid (Below.grown hS hg20 (Below.size hS) (fun j hj => (World.ownsRow.lt HO13.out j hj).1))
              have HO20 := Lib.hid ho20
              clear ho20 hg20
              refine hK.out _ _ HB20.out (fun hS => ?_)
              clear hK K
              refine wpAnyH_take (i := 15) (v := ?_) rfl (by kernel_rfl) (by kernel_rfl) (by kernel_rfl) (fun _ _ _ h => h) (Or.inl ⟨by kernel_rfl, ?_⟩) hS ?_
              rotate_left
              · intro W hSW
                go_simp
                all_goals with_reducible rfl
              go_simp
              refine wpAnyH_done (by kernel_rfl) ?_ _
              go_simp
              have HN := Lib.hid hS
              clear hS
              go_wp2
              go_roundw
              case rel => exact ⟨k + 1, m2, p20, c20, by go_num, by have := HKL.out; omega, HP2.out, HS2.out, rfl, own_base HO20.out (fun g hg => Nat.le_trans (Nat.le_trans HB.out.size HB2.out.size) (World.ownsRow.lt HO20.out g hg).1), HB.out.trans ((HB2.out.trans (HN.out.mono HB2.out.size)).mono HB.out.size)⟩
              case measure => simp [intOf]; have := HKL.out; omega
          · rw [hd] at HBF
            have HGN := Lib.hid (show ∀ j, n ≤ j → j < m.length → Sbm.ltB x (Sbm.sbOf m j) from fun j h1 h2 => by
              by_cases e : j = n
              · rw [e, HSO.out]; exact of_decide_eq_true hd
              · exact HGT.out j (by omega) h2)
            clear hd HEND
            refine wp_region_held_drew (S := fun W => Below wr.heap.size wr W) (by kernel_rfl) (Below.drew (Below.refl _ _)) (fun hS => ?_)
            refine wpAnyH_take (i := 0) (v := ?_) rfl (by kernel_rfl) (by kernel_rfl) (by kernel_rfl) (fun _ _ _ h => h) (Or.inl ⟨by kernel_rfl, ?_⟩) hS ?_
            rotate_left
            · intro W hSW
              go_simp
              all_goals with_reducible rfl
            refine wpAnyH_take (i := 1) (v := ?_) rfl (by kernel_rfl) (by kernel_rfl) (by kernel_rfl) (fun _ _ _ h => h) (Or.inl ⟨by kernel_rfl, ?_⟩) hS ?_
            rotate_left
            · intro W hSW
              go_simp
              all_goals with_reducible rfl
            refine wpAnyH_take (i := 2) (v := ?_) rfl (by kernel_rfl) (by kernel_rfl) (by kernel_rfl) (fun _ _ _ h => h) (Or.inl ⟨by kernel_rfl, ?_⟩) hS ?_
            rotate_left
            · intro W hSW
              go_simp
              all_goals with_reducible rfl
            refine wpAnyH_take (i := 3) (v := ?_) rfl (by kernel_rfl) (by kernel_rfl) (by kernel_rfl) (fun _ _ _ h => h) (Or.inl ⟨by kernel_rfl, ?_⟩) hS ?_
            rotate_left
            · intro W hSW
              go_simp
              all_goals with_reducible rfl
            go_simp
            refine wpAnyH_take (i := 4) (v := ?_) rfl (by kernel_rfl) (by kernel_rfl) (by kernel_rfl) (fun _ _ _ h => h) (Or.inl ⟨by kernel_rfl, ?_⟩) hS ?_
            rotate_left
            · intro W hSW
              go_simp
              all_goals with_reducible rfl
            refine wpAnyH_take (i := 5) (v := ?_) rfl (by kernel_rfl) (by kernel_rfl) (by kernel_rfl) (fun _ _ _ h => h) (Or.inl ⟨by kernel_rfl, ?_⟩) hS ?_
            rotate_left
            · intro W hSW
              go_simp
              all_goals with_reducible rfl
            go_simp
            refine wpAnyH_take (i := 6) (v := sbV x) rfl (by kernel_rfl) (by kernel_rfl) (by kernel_rfl) (fun _ _ _ h => h) (Or.inl ⟨by kernel_rfl, fun W hSW => sbK.load rfl rfl (HR.out.below (HB.out.trans ((HB2.out.trans (hSW.mono HB2.out.size)).mono HB.out.size))) HX.out⟩) hS ?_
            refine wpAnyH_take (i := 7) (v := ?_) rfl (by kernel_rfl) (by kernel_rfl) (by kernel_rfl) (fun _ _ _ h => h) (Or.inl ⟨by kernel_rfl, ?_⟩) hS ?_
            rotate_left
            · intro W hSW
              go_simp
              all_goals with_reducible rfl
            refine wpAnyH_take (i := 8) (v := ?_) rfl (by kernel_rfl) (by kernel_rfl) (by kernel_rfl) (fun _ _ _ h => h) (Or.inl ⟨by kernel_rfl, ?_⟩) hS ?_
            rotate_left
            · intro W hSW
              go_simp
              all_goals with_reducible rfl
            refine wpAnyH_take (i := 9) (v := ?_) rfl (by kernel_rfl) (by kernel_rfl) (by kernel_rfl) (fun _ _ _ h => h) (Or.inl ⟨by kernel_rfl, ?_⟩) hS ?_
            rotate_left
            · intro W hSW
              go_simp
              all_goals with_reducible rfl
            go_simp
            refine wpAnyH_take (i := 10) (v := ?_) rfl (by kernel_rfl) (by kernel_rfl) (by kernel_rfl) (fun _ _ _ h => h) (Or.inl ⟨by kernel_rfl, ?_⟩) hS ?_
            rotate_left
            · intro W hSW
              go_simp
              all_goals with_reducible rfl
            go_simp
            refine wpAnyH_take (i := 11) (v := sbV y) rfl (by kernel_rfl) (by kernel_rfl) (by kernel_rfl) (fun _ _ _ h => h) (Or.inl ⟨by kernel_rfl, fun W hSW => sbK.load rfl rfl (HRM.out.below (HB2.out.trans (hSW.mono HB2.out.size))) HY.out⟩) hS ?_
            go_simp
            refine wpAnyH_ready (rs := [12]) (by kernel_rfl) (by simp) ?_
            refine AllReadyH.cons rfl (fun K hK => ?_) AllReadyH.nil
            go_simp
            go_wp2_with ((go_at_call 57; refine (HBF.out _).mono ?_; rintro e wn ⟨rfl, hbn⟩))
            refine hK.out _ _ (hS.trans (hbn.mono hS.size)) (fun hS => ?_)
            clear hK K hbn
            refine wpAnyH_take (i := 13) (v := ?_) rfl (by kernel_rfl) (by kernel_rfl) (by kernel_rfl) (fun _ _ _ h => h) (Or.inl ⟨by kernel_rfl, ?_⟩) hS ?_
            rotate_left
            · intro W hSW
              go_simp
              all_goals with_reducible rfl
            go_simp
            refine wpAnyH_done (by kernel_rfl) ?_ _
            go_simp
            have HN := Lib.hid hS
            clear hS
            go_wp2
            go_roundw
            case rel => exact ⟨n, by go_num, by omega, HGN.out, HB2.out.trans (HN.out.mono HB2.out.size)⟩
            case measure => simp [intOf] <;> omega
    · obtain rfl : k = l.length := by omega
      have HE := Lib.hid (show ∃ p' c' m', m'.Perm l ∧ Sbm.Srt m' ∧ Ending.returned (.slice pm m.length cm) = .returned (.slice p' m'.length c') ∧ Rd wo p' (sbCells m') ∧ Below w.heap.size w wo from ⟨pm, cm, m, by have := HP.out; rwa [List.take_length] at this, HSR.out, rfl, HRM.out, HB.out⟩)
      go_wp2
      go_ret
      exact HE.out

end Go.Proofs.YtilkokhapcgolaaGreat
