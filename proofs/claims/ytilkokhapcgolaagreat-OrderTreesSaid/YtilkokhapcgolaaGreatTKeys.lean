/-
  maps.Keys, ranged over, at maps whose keys are stamps.
  No conditions.
-/
import Derived.Test.YtilkokhapcgolaaGreatTWay
namespace Go.Proofs.YtilkokhapcgolaaGreat
open Go.RowKit
open Tm (Sp Tr has put cut kids)
attribute [local go_sem] Oper.semAt_some

/-- between two rounds: what has come, what is left -/
structure KeyI (l : List (Qm.St × Value)) (J : List Qm.St → (Nat → Prop) → World → Prop) (Fp : Nat → Prop) (W0 : World) (r M : Nat) (pre : List Qm.St) (left : List (Qm.St × Value)) (F1 : Nat → Prop) (w : World) : Prop where
  all : (pre ++ left.map Prod.fst).Perm (l.map Prod.fst)
  inv : J pre F1 w
  it : SIt w r M l left
  fr : ¬ F1 r
  lr : W0.heap.size ≤ r
  turns : Turns (fun k => Fp k ∨ W0.heap.size ≤ k) W0 w
  grows : Grows Fp F1 W0
def Keyed1 (l : List (Qm.St × Value)) (J Jx : List Qm.St → (Nat → Prop) → World → Prop) (Fp : Nat → Prop) (W : World) (e : Ending) (W' : World) : Prop :=
  (∃ v, e = .returned v) ∧ ∃ Fp', Turns (fun k => Fp k ∨ W.heap.size ≤ k) W W' ∧ Grows Fp Fp' W ∧ ((∃ xs : List Qm.St, xs.Perm (l.map Prod.fst) ∧ J xs Fp' W') ∨ (∃ pre, (∃ rest, (pre ++ rest).Perm (l.map Prod.fst)) ∧ Jx pre Fp' W'))

set_option maxRecDepth 100000 in
set_option maxHeartbeats 8000000 in
theorem keysB1_seq {b0 M : Nat} {l : List (Qm.St × Value)} {F0 : Nat → Prop} (w : World) (h0 : AgAt w b0 #[.map (some M)]) (hm : SMap w M l) (k1 : ¬ F0 M) :
    SeqFp Tryz.prog 68 #[.pointer (some ⟨b0, 0, none⟩)] snV (fun xs => xs.Perm (l.map Prod.fst)) (fun pre => ∃ rest, (pre ++ rest).Perm (l.map Prod.fst)) F0 w := by
  intro l0 J Jx W Fp hW hFp hJ hlt hY hI0
  refine Calls.mono (R := Keyed1 l J Jx Fp W) ?_ fun e W' h => h
  have yb := AgAt.cell (AgAt.kept h0 hW) 0
  have HM := Lib.hid (hm.below hW)
  have HNM := Lib.hid (show ¬ Fp M ∧ M < W.heap.size from ⟨fun h => k1 (hFp _ hm.lt h), HM.out.lt⟩)
  have HJ := Lib.hid hJ
  have HLT := Lib.hid hlt
  have HY := Lib.hid hY
  have HI0 := Lib.hid hI0
  obtain ⟨o, hrg, hit⟩ := HM.out.range mtSet
  have HIT := Lib.hid hit
  have HBO := Lib.hid ((Below.refl W.heap.size W).alloc (Nat.le_refl _) o)
  have HK := Lib.hid (show KeyI l J Fp W W.heap.size M [] l Fp (W.alloc o) from ⟨by simp, HJ.out _ _ _ _ HI0.out (Turns.of_below HBO.out), HIT.out, fun h => Nat.lt_irrefl _ (HLT.out _ _ _ HI0.out _ h), Nat.le_refl _, Turns.of_below HBO.out, Grows.refl _ _⟩)
  clear h0 hm hW hFp hJ hlt hY hI0 k1 hit HIT HBO HM HI0
  simp only [List.append_toArray, List.cons_append, List.nil_append]
  go_enter Tryz.func68, Tryz.ntmps68
  go_wp2_with fail
  clear yb hrg
  generalize W.alloc o = w1 at *
  go_loopg [] (l.length + 1) (fun g wr => ∃ pre left F1, KeyI l J Fp W W.heap.size M pre left F1 wr ∧ left.length < g)
  case atStart => exact ⟨_, _, _, HK.out, Nat.lt_succ_self _⟩
  case round =>
    clear HK
    obtain ⟨pre, left, F1, hK, hlg⟩ := hrel
    obtain ⟨g1, rfl⟩ : ∃ g1, gk = g1 + 1 := ⟨gk - 1, by omega⟩
    have HK := Lib.hid hK
    have HLG := Lib.hid hlg
    clear hK hlg
    rcases HK.out.it.next 0 with ⟨h0, hnx⟩ | ⟨b, left', w2, hp, hnx, ht2, hit2, hen⟩
    · have HE := Lib.hid (show Keyed1 l J Jx Fp W (.returned (.tuple #[])) wr from by
        have h2 := HK.out.all
        rw [h0] at h2
        simp only [List.map_nil, List.append_nil] at h2
        exact ⟨⟨_, rfl⟩, F1, HK.out.turns, HK.out.grows, Or.inl ⟨pre, h2, HK.out.inv⟩⟩)
      clear HK HLG h0 HY
      go_wp2
      go_end0
      exact HE.out
    · have HP := Lib.hid (show ((pre ++ [b.1]) ++ left'.map Prod.fst).Perm (l.map Prod.fst) from by
        rw [List.append_assoc]
        exact (List.Perm.append_left pre (hp.map Prod.fst)).trans HK.out.all)
      have HLT2 := Lib.hid (show left'.length < g1 from by have h1 := hp.length_eq; have h2 := HLG.out; simp only [List.length_cons] at h1; omega)
      have HJ2 := Lib.hid (HJ.out _ _ _ _ HK.out.inv (ht2.mono fun k _ hk h => HK.out.fr (by rw [← hk]; exact h)))
      have HT2 := Lib.hid (show Turns (fun k => Fp k ∨ W.heap.size ≤ k) W w2 from HK.out.turns.trans (ht2.mono fun k _ hk => Or.inl (Or.inr (by rw [hk]; exact HK.out.lr))))
      have HIT2 := Lib.hid hit2
      clear hp ht2 hit2 HLG
      go_upto_region 3 with (refine wpList_store_newag stT rfl _ _ rfl rfl _ (A := #[.int .i64 b.1.1, .int .i64 b.1.2]) rfl rfl rfl (stA_one _ _) ?_; intro w3 hv3 hb3)
      clear hnx hen
      have HX := Lib.hid hv3
      replace HJ2 := Lib.hid (HJ.out _ _ _ _ HJ2.out (Turns.of_below hb3))
      replace HT2 := Lib.hid (HT2.out.trans (Turns.of_below hb3))
      replace HIT2 := Lib.hid (HIT2.out.below hb3)
      clear hv3 hb3
      obtain ⟨fn, tmps, assign, body, hyr, hR⟩ := HY.out pre b.1 F1 w3 HJ2.out ⟨_, HP.out⟩
      have HR := Lib.hid hR
      clear hR
      refine (wpIn_wide (n := 0)).1 ?_
      gi_wp2_with (refine wpListIn_load_ag stT rfl _ rfl _ rfl (A := #[.int .i64 b.1.1, .int .i64 b.1.2]) rfl HX.out ?_)
      refine ⟨rfl, HR.out.mono ?_⟩
      rintro e w4 ⟨F3, ht4, hg4, (⟨rfl, hj4⟩ | ⟨rfl, hj4⟩)⟩
      · have HK4 := Lib.hid (show KeyI l J Fp W W.heap.size M (pre ++ [b.1]) left' F3 w4 from
          ⟨HP.out, hj4, HIT2.out.turns ht4 HK.out.fr (fun h => (HK.out.grows _ h).elim HNM.out.1 fun h => by have := HNM.out.2; omega), fun h => (hg4 _ h).elim HK.out.fr fun h => by have := HIT2.out.ltR; omega, HK.out.lr,
           HT2.out.trans (ht4.mono fun k _ hk => Or.inl (HK.out.grows k hk)), fun k hk => (hg4 k hk).elim (HK.out.grows k) fun h => Or.inr (Nat.le_trans HT2.out.size h)⟩)
        clear HK HR ht4 hg4 hj4 hyr HJ2 HT2 HIT2 HP HX
        gi_wp2
        go_wp2
        go_roundg g1
        case rel => exact ⟨_, _, _, HK4.out, HLT2.out⟩
        case measure => omega
      · have HE := Lib.hid (show Keyed1 l J Jx Fp W (.returned (.tuple #[])) w4 from
          ⟨⟨_, rfl⟩, F3, HT2.out.trans (ht4.mono fun k _ hk => Or.inl (HK.out.grows k hk)), fun k hk => (hg4 k hk).elim (HK.out.grows k) fun h => Or.inr (Nat.le_trans HT2.out.size h), Or.inr ⟨_, ⟨_, HP.out⟩, hj4⟩⟩)
        clear HK HR ht4 hg4 hj4 hyr HJ2 HT2 HIT2 HP HX HY
        gi_wp2
        go_wp2
        go_end0
        exact HE.out

theorem keysB_any (m : Option Nat) (w : World) : Calls Tryz.prog 55 #[.map m] w fun e w' => e = .returned (.func (.func 68) #[] #[.pointer (some ⟨w.heap.size, 0, none⟩)]) ∧ AgAt w' w.heap.size #[.map m] ∧ Below w.heap.size w w' := by
  have HE := Lib.hid (show AgAt (w.alloc (.cells #[.map m] 87)) w.heap.size #[.map m] ∧ Below w.heap.size w (w.alloc (.cells #[.map m] 87)) from ⟨AgAt.new _ _ _, (Below.refl _ _).alloc (Nat.le_refl _) _⟩)
  go_enter Tryz.func55, Tryz.ntmps55
  go_wp2
  go_ret
  exact ⟨rfl, HE.out⟩

/-- at no map: nothing comes -/
theorem keysB1_nil {b0 : Nat} {F0 : Nat → Prop} (w : World) (h0 : AgAt w b0 #[.map none]) :
    SeqFp Tryz.prog 68 #[.pointer (some ⟨b0, 0, none⟩)] snV (fun xs => xs = []) (fun _ => False) F0 w := by
  intro l0 J Jx W Fp hW hFp hJ hlt hY hI0
  refine Calls.mono (R := fun e W' => (∃ v, e = .returned v) ∧ ∃ Fp', Turns (fun k => Fp k ∨ W.heap.size ≤ k) W W' ∧ Grows Fp Fp' W ∧ ((∃ xs, xs = [] ∧ J xs Fp' W') ∨ (∃ pre, False ∧ Jx pre Fp' W'))) ?_ fun e W' h => h
  have yb := AgAt.cell (AgAt.kept h0 hW) 0
  have hb := (Below.refl W.heap.size W).alloc (Nat.le_refl _) (.mapIter none 0 #[] 0)
  have HE := Lib.hid (show (∃ v, (Ending.returned (.tuple #[])) = .returned v) ∧ ∃ Fp', Turns (fun k => Fp k ∨ W.heap.size ≤ k) W (W.alloc (.mapIter none 0 #[] 0)) ∧ Grows Fp Fp' W ∧ ((∃ xs, xs = [] ∧ J xs Fp' (W.alloc (.mapIter none 0 #[] 0))) ∨ (∃ pre, False ∧ Jx pre Fp' (W.alloc (.mapIter none 0 #[] 0)))) from
    ⟨⟨_, rfl⟩, Fp, Turns.of_below hb, Grows.refl _ _, Or.inl ⟨[], rfl, hJ _ _ _ _ hI0 (Turns.of_below hb)⟩⟩)
  have hrg := run_range_nilMap (P := Tryz.prog) W 87 _ _ Tryz.underlying87
  have hnx : ∀ ty, (Instr.next (.pointer (some ⟨W.heap.size, 0, none⟩)) false ty).run Tryz.prog (W.alloc (.mapIter none 0 #[] 0)) = _ := fun ty => run_next_nilMap _ ty 0 0 #[]
  clear h0 hW hFp hJ hlt hY hI0 hb
  simp only [List.append_toArray, List.cons_append, List.nil_append]
  go_enter Tryz.func68, Tryz.ntmps68
  go_wp2_with fail
  go_loopg [] 1 (fun _ wr => wr = W.alloc (.mapIter none 0 #[] 0))
  case atStart => rfl
  case round =>
    subst hrel
    go_wp2
    go_end0
    exact HE.out
end Go.Proofs.YtilkokhapcgolaaGreat
