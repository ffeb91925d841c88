/-
  maps.Keys, ranged over, at maps whose keys are stamps.
  No conditions.
  ROWS OF STAMPS by the steps of a walk: one made, one loaded, one shorter; a map's update; where two worlds part.
  No conditions.
  WHAT LIES ASIDE: a node's master, or a master's nodes: reaches' two functions.
  No conditions but sizes.
-/
import Derived.Test.YthifdefjmfakgaaGreatTWay
import Derived.Test.YthifdefjmfakgaaGreatGrMem
import Derived.Test.YthifdefjmfakgaaGreatGK
import Derived.Test.YthifdefjmfakgaaGreatGX
namespace Go.Proofs.YthifdefjmfakgaaGreat
open Go.RowKit
open Tm (Sp Tr has put cut kids)
attribute [local go_sem] Oper.semAt_some

/-- between two rounds: what has come, what is left -/
structure KeyI (l : List (Qm.St × Value)) (J : List Qm.St → (Nat → Prop) → World → Prop) (Fp : Nat → Prop) (W0 : World) (r M : Nat) (pre : List Qm.St) (left : List (Qm.St × Value)) (F1 : Nat → Prop) (w : World) : Prop where
  all : (pre ++ left.map Prod.fst).Perm (l.map Prod.fst)
  inv : J pre F1 w
  it : SIt w r M l left
  fr : ¬ F1 r
  lr : W0.heap.size ≤ r
  turns : Turns (fun k => Fp k ∨ W0.heap.size ≤ k) W0 w
  grows : Grows Fp F1 W0
def Keyed1 (l : List (Qm.St × Value)) (J Jx : List Qm.St → (Nat → Prop) → World → Prop) (Fp : Nat → Prop) (W : World) (e : Ending) (W' : World) : Prop :=
  (∃ v, e = .returned v) ∧ ∃ Fp', Turns (fun k => Fp k ∨ W.heap.size ≤ k) W W' ∧ Grows Fp Fp' W ∧ ((∃ xs : List Qm.St, xs.Perm (l.map Prod.fst) ∧ J xs Fp' W') ∨ (∃ pre, (∃ rest, (pre ++ rest).Perm (l.map Prod.fst)) ∧ Jx pre Fp' W'))

set_option maxRecDepth 100000 in
set_option maxHeartbeats 8000000 in
theorem keysA1_seq {b0 M : Nat} {l : List (Qm.St × Value)} {F0 : Nat → Prop} (w : World) (h0 : AgAt w b0 #[.map (some M)]) (hm : SMap w M l) (k1 : ¬ F0 M) :
    SeqFp Tryz.prog 121 #[.pointer (some ⟨b0, 0, none⟩)] snV (fun xs => xs.Perm (l.map Prod.fst)) (fun pre => ∃ rest, (pre ++ rest).Perm (l.map Prod.fst)) F0 w := by
  intro l0 J Jx W Fp hW hFp hJ hlt hY hI0
  refine Calls.mono (R := Keyed1 l J Jx Fp W) ?_ fun e W' h => h
  have yb := AgAt.cell (AgAt.kept h0 hW) 0
  have HM := Lib.hid (hm.below hW)
  have HNM := Lib.hid (show ¬ Fp M ∧ M < W.heap.size from ⟨fun h => k1 (hFp _ hm.lt h), HM.out.lt⟩)
  have HJ := Lib.hid hJ
  have HLT := Lib.hid hlt
  have HY := Lib.hid hY
  have HI0 := Lib.hid hI0
  obtain ⟨o, hrg, hit⟩ := HM.out.range mtSpots
  have HIT := Lib.hid hit
  have HBO := Lib.hid ((Below.refl W.heap.size W).alloc (Nat.le_refl _) o)
  have HK := Lib.hid (show KeyI l J Fp W W.heap.size M [] l Fp (W.alloc o) from ⟨by simp, HJ.out _ _ _ _ HI0.out (Turns.of_below HBO.out), HIT.out, fun h => Nat.lt_irrefl _ (HLT.out _ _ _ HI0.out _ h), Nat.le_refl _, Turns.of_below HBO.out, Grows.refl _ _⟩)
  clear h0 hm hW hFp hJ hlt hY hI0 k1 hit HIT HBO HM HI0
  simp only [List.append_toArray, List.cons_append, List.nil_append]
  go_enter Tryz.func121, Tryz.ntmps121
  go_wp2_with fail
  clear yb hrg
  generalize W.alloc o = w1 at *
  go_loopg [] (l.length + 1) (fun g wr => ∃ pre left F1, KeyI l J Fp W W.heap.size M pre left F1 wr ∧ left.length < g)
  case atStart => exact ⟨_, _, _, HK.out, Nat.lt_succ_self _⟩
  case round =>
    clear HK
    obtain ⟨pre, left, F1, hK, hlg⟩ := hrel
    obtain ⟨g1, rfl⟩ : ∃ g1, gk = g1 + 1 := ⟨gk - 1, by omega⟩
    have HK := Lib.hid hK
    have HLG := Lib.hid hlg
    clear hK hlg
    rcases HK.out.it.next 0 with ⟨h0, hnx⟩ | ⟨b, left', w2, hp, hnx, ht2, hit2, hen⟩
    · have HE := Lib.hid (show Keyed1 l J Jx Fp W (.returned (.tuple #[])) wr from by
        have h2 := HK.out.all
        rw [h0] at h2
        simp only [List.map_nil, List.append_nil] at h2
        exact ⟨⟨_, rfl⟩, F1, HK.out.turns, HK.out.grows, Or.inl ⟨pre, h2, HK.out.inv⟩⟩)
      clear HK HLG h0 HY
      go_wp2
      go_end0
      exact HE.out
    · have HP := Lib.hid (show ((pre ++ [b.1]) ++ left'.map Prod.fst).Perm (l.map Prod.fst) from by
        rw [List.append_assoc]
        exact (List.Perm.append_left pre (hp.map Prod.fst)).trans HK.out.all)
      have HLT2 := Lib.hid (show left'.length < g1 from by have h1 := hp.length_eq; have h2 := HLG.out; simp only [List.length_cons] at h1; omega)
      have HJ2 := Lib.hid (HJ.out _ _ _ _ HK.out.inv (ht2.mono fun k _ hk h => HK.out.fr (by rw [← hk]; exact h)))
      have HT2 := Lib.hid (show Turns (fun k => Fp k ∨ W.heap.size ≤ k) W w2 from HK.out.turns.trans (ht2.mono fun k _ hk => Or.inl (Or.inr (by rw [hk]; exact HK.out.lr))))
      have HIT2 := Lib.hid hit2
      clear hp ht2 hit2 HLG
      go_upto_region 3 with (refine wpList_store_newag stT rfl _ _ rfl rfl _ (A := #[.int .i64 b.1.1, .int .i64 b.1.2]) rfl rfl rfl (stA_one _ _) ?_; intro w3 hv3 hb3)
      clear hnx hen
      have HX := Lib.hid hv3
      replace HJ2 := Lib.hid (HJ.out _ _ _ _ HJ2.out (Turns.of_below hb3))
      replace HT2 := Lib.hid (HT2.out.trans (Turns.of_below hb3))
      replace HIT2 := Lib.hid (HIT2.out.below hb3)
      clear hv3 hb3
      obtain ⟨fn, tmps, assign, body, hyr, hR⟩ := HY.out pre b.1 F1 w3 HJ2.out ⟨_, HP.out⟩
      have HR := Lib.hid hR
      clear hR
      refine (wpIn_wide (n := 0)).1 ?_
      gi_wp2_with (refine wpListIn_load_ag stT rfl _ rfl _ rfl (A := #[.int .i64 b.1.1, .int .i64 b.1.2]) rfl HX.out ?_)
      refine ⟨rfl, HR.out.mono ?_⟩
      rintro e w4 ⟨F3, ht4, hg4, (⟨rfl, hj4⟩ | ⟨rfl, hj4⟩)⟩
      · have HK4 := Lib.hid (show KeyI l J Fp W W.heap.size M (pre ++ [b.1]) left' F3 w4 from
          ⟨HP.out, hj4, HIT2.out.turns ht4 HK.out.fr (fun h => (HK.out.grows _ h).elim HNM.out.1 fun h => by have := HNM.out.2; omega), fun h => (hg4 _ h).elim HK.out.fr fun h => by have := HIT2.out.ltR; omega, HK.out.lr,
           HT2.out.trans (ht4.mono fun k _ hk => Or.inl (HK.out.grows k hk)), fun k hk => (hg4 k hk).elim (HK.out.grows k) fun h => Or.inr (Nat.le_trans HT2.out.size h)⟩)
        clear HK HR ht4 hg4 hj4 hyr HJ2 HT2 HIT2 HP HX
        gi_wp2
        go_wp2
        go_roundg g1
        case rel => exact ⟨_, _, _, HK4.out, HLT2.out⟩
        case measure => omega
      · have HE := Lib.hid (show Keyed1 l J Jx Fp W (.returned (.tuple #[])) w4 from
          ⟨⟨_, rfl⟩, F3, HT2.out.trans (ht4.mono fun k _ hk => Or.inl (HK.out.grows k hk)), fun k hk => (hg4 k hk).elim (HK.out.grows k) fun h => Or.inr (Nat.le_trans HT2.out.size h), Or.inr ⟨_, ⟨_, HP.out⟩, hj4⟩⟩)
        clear HK HR ht4 hg4 hj4 hyr HJ2 HT2 HIT2 HP HX HY
        gi_wp2
        go_wp2
        go_end0
        exact HE.out

set_option maxRecDepth 100000 in
set_option maxHeartbeats 8000000 in
theorem keysB1_seq {b0 M : Nat} {l : List (Qm.St × Value)} {F0 : Nat → Prop} (w : World) (h0 : AgAt w b0 #[.map (some M)]) (hm : SMap w M l) (k1 : ¬ F0 M) :
    SeqFp Tryz.prog 125 #[.pointer (some ⟨b0, 0, none⟩)] snV (fun xs => xs.Perm (l.map Prod.fst)) (fun pre => ∃ rest, (pre ++ rest).Perm (l.map Prod.fst)) F0 w := by
  intro l0 J Jx W Fp hW hFp hJ hlt hY hI0
  refine Calls.mono (R := Keyed1 l J Jx Fp W) ?_ fun e W' h => h
  have yb := AgAt.cell (AgAt.kept h0 hW) 0
  have HM := Lib.hid (hm.below hW)
  have HNM := Lib.hid (show ¬ Fp M ∧ M < W.heap.size from ⟨fun h => k1 (hFp _ hm.lt h), HM.out.lt⟩)
  have HJ := Lib.hid hJ
  have HLT := Lib.hid hlt
  have HY := Lib.hid hY
  have HI0 := Lib.hid hI0
  obtain ⟨o, hrg, hit⟩ := HM.out.range mtSet
  have HIT := Lib.hid hit
  have HBO := Lib.hid ((Below.refl W.heap.size W).alloc (Nat.le_refl _) o)
  have HK := Lib.hid (show KeyI l J Fp W W.heap.size M [] l Fp (W.alloc o) from ⟨by simp, HJ.out _ _ _ _ HI0.out (Turns.of_below HBO.out), HIT.out, fun h => Nat.lt_irrefl _ (HLT.out _ _ _ HI0.out _ h), Nat.le_refl _, Turns.of_below HBO.out, Grows.refl _ _⟩)
  clear h0 hm hW hFp hJ hlt hY hI0 k1 hit HIT HBO HM HI0
  simp only [List.append_toArray, List.cons_append, List.nil_append]
  go_enter Tryz.func125, Tryz.ntmps125
  go_wp2_with fail
  clear yb hrg
  generalize W.alloc o = w1 at *
  go_loopg [] (l.length + 1) (fun g wr => ∃ pre left F1, KeyI l J Fp W W.heap.size M pre left F1 wr ∧ left.length < g)
  case atStart => exact ⟨_, _, _, HK.out, Nat.lt_succ_self _⟩
  case round =>
    clear HK
    obtain ⟨pre, left, F1, hK, hlg⟩ := hrel
    obtain ⟨g1, rfl⟩ : ∃ g1, gk = g1 + 1 := ⟨gk - 1, by omega⟩
    have HK := Lib.hid hK
    have HLG := Lib.hid hlg
    clear hK hlg
    rcases HK.out.it.next 0 with ⟨h0, hnx⟩ | ⟨b, left', w2, hp, hnx, ht2, hit2, hen⟩
    · have HE := Lib.hid (show Keyed1 l J Jx Fp W (.returned (.tuple #[])) wr from by
        have h2 := HK.out.all
        rw [h0] at h2
        simp only [List.map_nil, List.append_nil] at h2
        exact ⟨⟨_, rfl⟩, F1, HK.out.turns, HK.out.grows, Or.inl ⟨pre, h2, HK.out.inv⟩⟩)
      clear HK HLG h0 HY
      go_wp2
      go_end0
      exact HE.out
    · have HP := Lib.hid (show ((pre ++ [b.1]) ++ left'.map Prod.fst).Perm (l.map Prod.fst) from by
        rw [List.append_assoc]
        exact (List.Perm.append_left pre (hp.map Prod.fst)).trans HK.out.all)
      have HLT2 := Lib.hid (show left'.length < g1 from by have h1 := hp.length_eq; have h2 := HLG.out; simp only [List.length_cons] at h1; omega)
      have HJ2 := Lib.hid (HJ.out _ _ _ _ HK.out.inv (ht2.mono fun k _ hk h => HK.out.fr (by rw [← hk]; exact h)))
      have HT2 := Lib.hid (show Turns (fun k => Fp k ∨ W.heap.size ≤ k) W w2 from HK.out.turns.trans (ht2.mono fun k _ hk => Or.inl (Or.inr (by rw [hk]; exact HK.out.lr))))
      have HIT2 := Lib.hid hit2
      clear hp ht2 hit2 HLG
      go_upto_region 3 with (refine wpList_store_newag stT rfl _ _ rfl rfl _ (A := #[.int .i64 b.1.1, .int .i64 b.1.2]) rfl rfl rfl (stA_one _ _) ?_; intro w3 hv3 hb3)
      clear hnx hen
      have HX := Lib.hid hv3
      replace HJ2 := Lib.hid (HJ.out _ _ _ _ HJ2.out (Turns.of_below hb3))
      replace HT2 := Lib.hid (HT2.out.trans (Turns.of_below hb3))
      replace HIT2 := Lib.hid (HIT2.out.below hb3)
      clear hv3 hb3
      obtain ⟨fn, tmps, assign, body, hyr, hR⟩ := HY.out pre b.1 F1 w3 HJ2.out ⟨_, HP.out⟩
      have HR := Lib.hid hR
      clear hR
      refine (wpIn_wide (n := 0)).1 ?_
      gi_wp2_with (refine wpListIn_load_ag stT rfl _ rfl _ rfl (A := #[.int .i64 b.1.1, .int .i64 b.1.2]) rfl HX.out ?_)
      refine ⟨rfl, HR.out.mono ?_⟩
      rintro e w4 ⟨F3, ht4, hg4, (⟨rfl, hj4⟩ | ⟨rfl, hj4⟩)⟩
      · have HK4 := Lib.hid (show KeyI l J Fp W W.heap.size M (pre ++ [b.1]) left' F3 w4 from
          ⟨HP.out, hj4, HIT2.out.turns ht4 HK.out.fr (fun h => (HK.out.grows _ h).elim HNM.out.1 fun h => by have := HNM.out.2; omega), fun h => (hg4 _ h).elim HK.out.fr fun h => by have := HIT2.out.ltR; omega, HK.out.lr,
           HT2.out.trans (ht4.mono fun k _ hk => Or.inl (HK.out.grows k hk)), fun k hk => (hg4 k hk).elim (HK.out.grows k) fun h => Or.inr (Nat.le_trans HT2.out.size h)⟩)
        clear HK HR ht4 hg4 hj4 hyr HJ2 HT2 HIT2 HP HX
        gi_wp2
        go_wp2
        go_roundg g1
        case rel => exact ⟨_, _, _, HK4.out, HLT2.out⟩
        case measure => omega
      · have HE := Lib.hid (show Keyed1 l J Jx Fp W (.returned (.tuple #[])) w4 from
          ⟨⟨_, rfl⟩, F3, HT2.out.trans (ht4.mono fun k _ hk => Or.inl (HK.out.grows k hk)), fun k hk => (hg4 k hk).elim (HK.out.grows k) fun h => Or.inr (Nat.le_trans HT2.out.size h), Or.inr ⟨_, ⟨_, HP.out⟩, hj4⟩⟩)
        clear HK HR ht4 hg4 hj4 hyr HJ2 HT2 HIT2 HP HX HY
        gi_wp2
        go_wp2
        go_end0
        exact HE.out

theorem keysA_any (m : Option Nat) (w : World) : Calls Tryz.prog 95 #[.map m] w fun e w' => e = .returned (.func (.func 121) #[] #[.pointer (some ⟨w.heap.size, 0, none⟩)]) ∧ AgAt w' w.heap.size #[.map m] ∧ Below w.heap.size w w' := by
  have HE := Lib.hid (show AgAt (w.alloc (.cells #[.map m] 131)) w.heap.size #[.map m] ∧ Below w.heap.size w (w.alloc (.cells #[.map m] 131)) from ⟨AgAt.new _ _ _, (Below.refl _ _).alloc (Nat.le_refl _) _⟩)
  go_enter Tryz.func95, Tryz.ntmps95
  go_wp2
  go_ret
  exact ⟨rfl, HE.out⟩

theorem keysB_any (m : Option Nat) (w : World) : Calls Tryz.prog 104 #[.map m] w fun e w' => e = .returned (.func (.func 125) #[] #[.pointer (some ⟨w.heap.size, 0, none⟩)]) ∧ AgAt w' w.heap.size #[.map m] ∧ Below w.heap.size w w' := by
  have HE := Lib.hid (show AgAt (w.alloc (.cells #[.map m] 136)) w.heap.size #[.map m] ∧ Below w.heap.size w (w.alloc (.cells #[.map m] 136)) from ⟨AgAt.new _ _ _, (Below.refl _ _).alloc (Nat.le_refl _) _⟩)
  go_enter Tryz.func104, Tryz.ntmps104
  go_wp2
  go_ret
  exact ⟨rfl, HE.out⟩

/-- at no map: nothing comes -/
theorem keysB1_nil {b0 : Nat} {F0 : Nat → Prop} (w : World) (h0 : AgAt w b0 #[.map none]) :
    SeqFp Tryz.prog 125 #[.pointer (some ⟨b0, 0, none⟩)] snV (fun xs => xs = []) (fun _ => False) F0 w := by
  intro l0 J Jx W Fp hW hFp hJ hlt hY hI0
  refine Calls.mono (R := fun e W' => (∃ v, e = .returned v) ∧ ∃ Fp', Turns (fun k => Fp k ∨ W.heap.size ≤ k) W W' ∧ Grows Fp Fp' W ∧ ((∃ xs, xs = [] ∧ J xs Fp' W') ∨ (∃ pre, False ∧ Jx pre Fp' W'))) ?_ fun e W' h => h
  have yb := AgAt.cell (AgAt.kept h0 hW) 0
  have hb := (Below.refl W.heap.size W).alloc (Nat.le_refl _) (.mapIter none 0 #[] 0)
  have HE := Lib.hid (show (∃ v, (Ending.returned (.tuple #[])) = .returned v) ∧ ∃ Fp', Turns (fun k => Fp k ∨ W.heap.size ≤ k) W (W.alloc (.mapIter none 0 #[] 0)) ∧ Grows Fp Fp' W ∧ ((∃ xs, xs = [] ∧ J xs Fp' (W.alloc (.mapIter none 0 #[] 0))) ∨ (∃ pre, False ∧ Jx pre Fp' (W.alloc (.mapIter none 0 #[] 0)))) from
    ⟨⟨_, rfl⟩, Fp, Turns.of_below hb, Grows.refl _ _, Or.inl ⟨[], rfl, hJ _ _ _ _ hI0 (Turns.of_below hb)⟩⟩)
  have hrg := run_range_nilMap (P := Tryz.prog) W 136 _ _ Tryz.underlying136
  have hnx : ∀ ty, (Instr.next (.pointer (some ⟨W.heap.size, 0, none⟩)) false ty).run Tryz.prog (W.alloc (.mapIter none 0 #[] 0)) = _ := fun ty => run_next_nilMap _ ty 0 0 #[]
  clear h0 hW hFp hJ hlt hY hI0 hb
  simp only [List.append_toArray, List.cons_append, List.nil_append]
  go_enter Tryz.func125, Tryz.ntmps125
  go_wp2_with fail
  go_loopg [] 1 (fun _ wr => wr = W.alloc (.mapIter none 0 #[] 0))
  case atStart => rfl
  case round =>
    subst hrel
    go_wp2
    go_end0
    exact HE.out
end Go.Proofs.YthifdefjmfakgaaGreat

namespace Go.Proofs.YthifdefjmfakgaaGreat
open Go.RowKit
open Tm (Sp Tr has put cut kids)

theorem wpList_updG {P : Program} {ops : Array Oper} {rest : List Oper} {o : Oper} {a : Act} {w w' : World} {Q : Exit → Act → World → Prop} (hgd : o.guard = none) (t : TypeId) (x y z : Operand) (ho : o.op = .mapUpdate t x y z) {u v n : Value} (hx : a.eval x = u) (hy : a.eval y = v) (hz : a.eval z = n)
    (hr : (Instr.mapUpdate t u v n).run P w = .ok () w') (h : wpList P ops Q rest (a.put o.dst undef) w') : wpList P ops Q (o :: rest) a w := by
  refine wpList_plain hgd fun K hK => ?_
  unfold Oper.wp execOp
  simp only [ho, hx, hy, hz, Sem.run_bind, Sem.run_pure, hr, Result.andThen_ok]
  exact hK _ _ h
theorem Rd.stG {w : World} {b o : Nat} {l : List Qm.St} (h : Rd w (some ⟨b, o, none⟩) (stCells l)) (i : Nat) (hi : i < l.length) : w.rangeAt b (o + i * 2) [.int .i64 (Qm.stOf l i).1, .int .i64 (Qm.stOf l i).2] := by
  intro j v hv
  obtain ⟨h0, h1⟩ := stCells_get l i hi
  rw [Nat.add_assoc]
  match j, hv with
  | 0, hv => exact h.cell (by rw [Nat.add_zero, h0]; exact hv)
  | 1, hv => exact h.cell (by rw [h1]; exact hv)
theorem wpList_load_stG {w : World} {ops : Array Oper} {rest : List Oper} {o : Oper} {a : Act} {Q : Exit → Act → World → Prop} (hgd : o.guard = none) (y : Operand) (ho : o.op = .load 35 y)
    (b s i : Nat) (hx : a.eval y = .pointer (some ⟨b, s + i * 2, none⟩)) (l : List Qm.St) (hrd : Rd w (some ⟨b, s, none⟩) (stCells l)) (hi : i < l.length)
    (h : wpList Tryz.prog ops Q rest (a.put o.dst (snV (Qm.stOf l i))) w) : wpList Tryz.prog ops Q (o :: rest) a w := by
  obtain ⟨d, hu⟩ := stT.und
  exact wpList_load_mid hgd _ y ho b (s + i * 2) hx [.int .i64 (Qm.stOf l i).1, .int .i64 (Qm.stOf l i).2] _ (hrd.stG i hi) hu rfl stT.size h
theorem stOf_getG {l : List Qm.St} {i : Nat} (h : i < l.length) : Qm.stOf l i = l[i] := by simp [Qm.stOf, List.getD, h]
theorem wpList_buildG {w : World} {ops : Array Oper} {rest : List Oper} {o : Oper} {a : Act} {Q : Exit → Act → World → Prop} (hgd : o.guard = none) (x : Operand) (ho : o.op = .buildSlice 36 1 #[(0, x)]) (s : Qm.St) (hx : a.eval x = snV s)
    (h : wpList Tryz.prog ops Q rest (a.put o.dst (.slice (some ⟨w.heap.size, 0, none⟩) 1 1)) (w.alloc (.cells (stA s) 35))) : wpList Tryz.prog ops Q (o :: rest) a w := by
  have hr : (Instr.buildSlice 36 1 #[(0, .agg #[.int .i64 s.1, .int .i64 s.2])]).run Tryz.prog w = .ok (.slice (some ⟨w.heap.size, 0, none⟩) 1 1) (w.alloc (.cells #[.int .i64 s.1, .int .i64 s.2] 35)) := by kernel_rfl
  refine wpList_value (by simp [Region.wanted, hgd]) ?_ h
  unfold execOp
  rw [show snV s = .agg #[.int .i64 s.1, .int .i64 s.2] from rfl] at hx
  simp only [ho, Sem.run_bind, Sem.run_pure, Result.andThen_ok, List.map_toArray, List.map_cons, List.map_nil, hx, hr]
theorem own_stG (w : World) (s : Qm.St) (B : Nat) (hB : B ≤ w.heap.size) : (w.alloc (.cells (stA s) 35)).ownsRow B 35 2 (.slice (some ⟨w.heap.size, 0, none⟩) 1 1) 1 (stCells [s]) :=
  ⟨rfl, Or.inr ⟨w.heap.size, 1, _, rfl, hB, heap_alloc_new w _, Nat.le_refl _, by unfold maxLen; omega, rfl, rfl⟩⟩
/-- a row's beginning -/
theorem own_takeG {w : World} {B k n m : Nat} {E : TypeId} {p : Option Addr} {c : Nat} {xs : List Value} (h : w.ownsRow B E k (.slice p n c) n xs) (hm : m ≤ n) (hp : p ≠ none) : w.ownsRow B E k (.slice p m c) m (xs.take (m * k)) := by
  obtain ⟨h1, h2 | ⟨g, cap, cur, hv, h3, h4, h5, h6, h7, h8⟩⟩ := h
  · cases h2.1; exact absurd rfl hp
  · cases hv
    have hmk : m * k ≤ n * k := Nat.mul_le_mul_right k hm
    refine ⟨by rw [List.length_take, h1, Nat.min_eq_left hmk], Or.inr ⟨g, c, cur, rfl, h3, h4, Nat.le_trans hm h5, h6, h7, ?_⟩⟩
    rw [← h8, List.take_take, Nat.min_eq_left hmk]
theorem stCells_takeG (l : List Qm.St) (m : Nat) : (stCells l).take (m * 2) = stCells (l.take m) := by
  induction l generalizing m with
  | nil => simp [stCells]
  | cons a l ih =>
    cases m with
    | zero => simp [stCells]
    | succ m =>
      have e : (m + 1) * 2 = m * 2 + 1 + 1 := by omega
      rw [e]
      simp only [stCells, List.flatMap_cons, List.take_succ_cons] at ih ⊢
      simp only [List.cons_append, List.nil_append, List.take_succ_cons]
      rw [ih m]
theorem stK : RK 35 36 2 16 (fun x : Qm.St => [Value.int .i64 x.1, .int .i64 x.2]) where
  und := Tryz.underlying36
  elem := by kernel_rfl
  size := fun _ => by kernel_rfl
  info := by
    have h : (Tryz.prog.info? 35).map (fun i => (i.zero, i.size, i.bytes)) = some (some (.agg #[.int .i64 0, .int .i64 0]), 2, 16) := by kernel_rfl
    cases hi : Tryz.prog.info? 35 with
    | none => rw [hi] at h; cases h
    | some i =>
      rw [hi] at h
      simp only [Option.map_some, Option.some.injEq, Prod.mk.injEq] at h
      exact ⟨i, _, rfl, h.1, h.2.1, h.2.2, rfl⟩
  row := ⟨_, Tryz.underlying35⟩
  len := fun _ => rfl
  one := fun x u hu => by
    simp only [List.mem_cons, List.not_mem_nil, or_false] at hu
    rcases hu with rfl | rfl <;> rfl
  pos := by decide
  small := by decide
theorem SeqFp.impG {α : Type} {P : Program} {gf : Nat} {lb : Array Value} {enc : α → Value} {S S' Sp Sp' : List α → Prop} {F0 : Nat → Prop} {w : World} (h : SeqFp P gf lb enc S Sp F0 w) (hS : ∀ xs, S xs → S' xs) (hP : ∀ xs, Sp xs → Sp' xs) : SeqFp P gf lb enc S' Sp' F0 w :=
  fun l J Jx W Fp hW hF hJ hlt hY h0 => (h l J Jx W Fp hW hF hJ hlt (fun pre x F1 W1 hj hs => hY pre x F1 W1 hj (hP _ hs)) h0).mono fun _ _ ⟨hv, F2, ht, hg, hr⟩ =>
    ⟨hv, F2, ht, hg, hr.imp (fun ⟨xs, h1, h2⟩ => ⟨xs, hS _ h1, h2⟩) fun ⟨pre, h1, h2⟩ => ⟨pre, hP _ h1, h2⟩⟩
end Go.Proofs.YthifdefjmfakgaaGreat

namespace Go.Proofs.YthifdefjmfakgaaGreat
open Go.RowKit
open Tm (Sp Tr has put cut kids)

/-- a row of its own, of those for which A holds -/
def Asided (A : Qm.St → Prop) (w : World) (e : Ending) (w' : World) : Prop :=
  ∃ v xs, (∀ y, y ∈ xs ↔ A y) ∧ xs.length ≤ 60 ∧ e = .returned v ∧ w'.ownsRow w.heap.size 35 2 v xs.length (stCells xs) ∧ Below w.heap.size w w'

set_option maxRecDepth 100000 in
set_option maxHeartbeats 4000000 in
theorem aside1_any {X : Gx} {χ : Nat → Nat} {g : Gm.G} {sb : Nat} (x : Qm.St) (w : World) (h : Core w X χ g) (hs : AgAt w sb #[ptV X.b]) (hx : StWf x) :
    Calls Tryz.prog 101 #[snV x, ptV sb] w (Asided (fun y => g.m x = some y) w) := by
  have hb := (Below.refl w.heap.size w).alloc (Nat.le_refl _) (.cells (stA x) 35)
  have HN := Lib.hid (AgAt.new w (stA x) 35)
  have HC := Lib.hid (h.kept hb)
  have HSB := Lib.hid (AgAt.kept hs hb)
  have HB := Lib.hid hb
  have HWN := Lib.hid hx
  clear h hb hs hx
  obtain ⟨ib, hib⟩ : ∃ b, b = (lookL X.L x).isSome := ⟨_, rfl⟩
  obtain ⟨va, hva⟩ : ∃ s, s = (lookL X.L x).getD (0, 0) := ⟨_, rfl⟩
  have HIB := Lib.hid hib
  have HVA := Lib.hid hva
  clear hib hva
  go_enter Tryz.func101, Tryz.ntmps101
  go_upto_region 1 with fail
  generalize w.alloc (.cells (stA x) 35) = w1 at *
  have hbd := Below.drew (Below.refl w1.heap.size w1)
  replace HC := Lib.hid (HC.out.kept hbd)
  replace HN := Lib.hid (AgAt.kept HN.out hbd)
  replace HSB := Lib.hid (AgAt.kept HSB.out hbd)
  replace HB := Lib.hid (HB.out.trans (hbd.mono HB.out.size))
  refine wp_region_held_drew (S := fun W => Below w1.drew.heap.size w1.drew W) (by kernel_rfl) (Below.refl _ _) (fun hS => ?_)
  clear hbd
  generalize w1.drew = wd at *
  refine wpAnyH_take (i := 0) (v := ?_) rfl (by kernel_rfl) (by kernel_rfl) (by kernel_rfl) (fun _ _ _ h => h) (Or.inl ⟨by kernel_rfl, ?_⟩) hS ?_
  rotate_left
  · intro W hSW
    have ys : W.cell? ⟨sb, 0, none⟩ = some (ptV X.b) := (AgAt.cell (AgAt.kept HSB.out hSW) 0).trans rfl
    go_simp
    all_goals with_reducible rfl
  refine wpAnyH_take (i := 1) (v := ?_) rfl (by kernel_rfl) (by kernel_rfl) (by kernel_rfl) (fun _ _ _ h => h) (Or.inl ⟨by kernel_rfl, ?_⟩) hS ?_
  rotate_left
  · intro W hSW
    go_simp
    all_goals with_reducible rfl
  refine wpAnyH_take (i := 2) (v := ?_) rfl (by kernel_rfl) (by kernel_rfl) (by kernel_rfl) (fun _ _ _ h => h) (Or.inl ⟨by kernel_rfl, ?_⟩) hS ?_
  rotate_left
  · intro W hSW
    go_simp
    all_goals with_reducible rfl
  refine wpAnyH_take (i := 3) (v := ?_) rfl (by kernel_rfl) (by kernel_rfl) (by kernel_rfl) (fun _ _ _ h => h) (Or.inl ⟨by kernel_rfl, ?_⟩) hS ?_
  rotate_left
  · intro W hSW
    have y := (HC.out.kept hSW).c3
    go_simp
    all_goals with_reducible rfl
  go_simp
  refine wpAnyH_take (i := 4) (v := snV x) rfl (by kernel_rfl) (by kernel_rfl) (by kernel_rfl) (fun _ _ _ h => h) (Or.inl ⟨by kernel_rfl, fun W hSW => exec_load_ag stT rfl rfl rfl (AgAt.kept HN.out hSW)⟩) hS ?_
  go_simp
  refine wpAnyH_take (i := 5) (v := .tuple #[snV va, .bool ib]) rfl (by kernel_rfl) (by kernel_rfl) (by kernel_rfl) (fun _ _ _ h => h) (Or.inl ⟨by kernel_rfl, fun W hSW => exec_lookup rfl rfl rfl (by rw [HIB.out, HVA.out]; exact (HC.out.kept hSW).ms.look1 _ HWN.out)⟩) hS ?_
  refine wpAnyH_take (i := 6) (v := ?_) rfl (by kernel_rfl) (by kernel_rfl) (by kernel_rfl) (fun _ _ _ h => h) (Or.inl ⟨by kernel_rfl, ?_⟩) hS ?_
  rotate_left
  · intro W hSW
    go_simp
    all_goals with_reducible rfl
  refine wpAnyH_take (i := 7) (v := ?_) rfl (by kernel_rfl) (by kernel_rfl) (by kernel_rfl) (fun _ _ _ h => h) (Or.inl ⟨by kernel_rfl, ?_⟩) hS ?_
  rotate_left
  · intro W hSW
    go_simp
    all_goals with_reducible rfl
  refine wpAnyH_take (i := 8) (v := ?_) rfl (by kernel_rfl) (by kernel_rfl) (by kernel_rfl) (fun _ _ _ h => h) (Or.inl ⟨by kernel_rfl, ?_⟩) hS ?_
  rotate_left
  · intro W hSW
    go_simp
    all_goals with_reducible rfl
  go_simp
  refine wpAnyH_ready (rs := [9]) (by kernel_rfl) (by simp) ?_
  refine AllReadyH.cons rfl (fun K hK => ?_) AllReadyH.nil
  have HS0 := Lib.hid hS
  go_simp
  have hba := (Below.refl wd.heap.size wd).alloc (Nat.le_refl _) (.cells #[.int .i64 0, .int .i64 0] 35)
  refine hK.out _ _ (hS.trans (hba.mono hS.size)) (fun hS => ?_)
  clear hK K hba
  refine wpAnyH_ready (rs := [10]) (by kernel_rfl) (by simp) ?_
  refine AllReadyH.cons rfl (fun K hK => ?_) AllReadyH.nil
  refine step_of (by kernel_rfl) ?_
  refine wp_store_newag stT _ _ rfl rfl _ (A := stA va) rfl rfl rfl (stA_one _ _) ?_
  intro w5 hv5 hb5
  have HV5 := Lib.hid hv5
  refine hK.out _ _ (HS0.out.trans (hb5.mono HS0.out.size)) (fun hS => ?_)
  clear hK K hv5 hb5
  refine wpAnyH_take (i := 11) (v := ?_) rfl (by kernel_rfl) (by kernel_rfl) (by kernel_rfl) (fun _ _ _ h => h) (Or.inl ⟨by kernel_rfl, ?_⟩) hS ?_
  rotate_left
  · intro W hSW
    go_simp
    all_goals with_reducible rfl
  go_simp
  refine wpAnyH_done (by kernel_rfl) ?_ _
  go_simp
  replace HB := Lib.hid (HB.out.trans (hS.mono HB.out.size))
  have HM := Lib.hid (fun y => HC.out.hm y)
  clear hS HS0 HC HSB HN
  cases ib with
  | false =>
    have HE := Lib.hid (show Asided (fun y => g.m x = some y) w (.returned (.slice none 0 0)) w5 from ⟨_, [], (fun y => by
      have h1 := HIB.out
      rw [HM.out] at h1
      cases e : g.m x with
      | none => exact ⟨fun h => (by cases h), fun h => (by have h2 : none = some y := h; cases h2)⟩
      | some m => rw [e] at h1; cases h1), Nat.zero_le _, rfl, World.ownsRow_nil _ _ _ _, HB.out⟩)
    clear HB HV5
    go_wp2
    go_ret
    exact HE.out
  | true =>
    have HE := Lib.hid (show Asided (fun y => g.m x = some y) w (.returned (.slice (some ⟨w5.heap.size, 0, none⟩) 1 1)) (w5.alloc (.cells (stA va) 35)) from ⟨_, [va], (fun y => by
      have h1 := HIB.out
      have h2 := HVA.out
      rw [HM.out] at h1 h2
      cases e : g.m x with
      | none => rw [e] at h1; cases h1
      | some m =>
        rw [e] at h2
        have h3 : va = m := h2
        rw [h3, List.mem_singleton]
        exact ⟨fun h => (by rw [h]), fun h => (by have h4 : some m = some y := h; cases h4; rfl)⟩), (show 1 ≤ 60 from by decide), rfl, own_stG w5 va _ HB.out.size, HB.out.trans ((Below.refl _ _).alloc HB.out.size _)⟩)
    clear HB
    go_wp2_with (first | (refine wpList_load_ag stT (by kernel_rfl) _ rfl _ rfl (A := stA va) rfl HV5.out ?_) | (refine wpList_buildG rfl _ rfl va rfl ?_))
    go_ret
    exact HE.out

set_option maxRecDepth 100000 in
set_option maxHeartbeats 4000000 in
theorem aside2_any {X : Gx} {χ : Nat → Nat} {g : Gm.G} {sb : Nat} (x : Qm.St) (w : World) (h : Core w X χ g) (hs : AgAt w sb #[ptV X.b]) (hx : StWf x) :
    Calls Tryz.prog 102 #[snV x, ptV sb] w (Asided (fun y => g.m y = some x) w) := by
  have hb := (Below.refl w.heap.size w).alloc (Nat.le_refl _) (.cells (stA x) 35)
  have HN := Lib.hid (AgAt.new w (stA x) 35)
  have HC := Lib.hid (h.kept hb)
  have HSB := Lib.hid (AgAt.kept hs hb)
  have HB := Lib.hid hb
  have HWN := Lib.hid hx
  clear h hb hs hx
  obtain ⟨ko, hko⟩ : ∃ b, kidOf X.D x = b := ⟨_, rfl⟩
  have HKO := Lib.hid hko
  obtain ⟨K, hK0⟩ : ∃ K : List Qm.St, (∀ y, y ∈ K ↔ g.m y = some x) ∧ K.Nodup ∧ ∀ c, ko = some c → ∃ d ∈ X.D, d.b = c ∧ d.l = K := by
    cases ko with
    | none => exact ⟨[], fun y => ⟨fun h => (by cases h), fun h => absurd ((HC.out.hm y).trans h) (HC.out.ms.kidNone hko y)⟩, List.nodup_nil, fun c h => (by cases h)⟩
    | some kb =>
      obtain ⟨c, h1, h2, h3, h4, -, h6⟩ := HC.out.ms.kidSome hko
      have h7 : c.l.Nodup := by
        have := h4.nd
        unfold nodesOf at this
        rw [List.map_map, show (Prod.fst ∘ fun n : Qm.St => (n, Value.agg #[])) = id from rfl, List.map_id] at this
        exact this
      exact ⟨c.l, fun y => by rw [h6 y, HC.out.hm], h7, fun c' hc' => ⟨c, h1, by rw [h3]; exact Option.some.inj hc', rfl⟩⟩
  have HKK := Lib.hid hK0
  have hlen : K.length ≤ 60 := by
    have h1 := Tm.len_le (b := X.L.map Prod.fst) hK0.2.1 fun y hy => by
      have h2 := (hK0.1 y).1 hy
      rw [← HC.out.hm] at h2
      exact List.mem_map.2 ⟨_, lookL_mem h2, rfl⟩
    rw [List.length_map] at h1
    have := HC.out.lenL
    have := HC.out.few
    omega
  have HKS := Lib.hid (show ∀ xs : List Qm.St, xs.Perm K → (∀ y, y ∈ xs ↔ g.m y = some x) ∧ xs.length ≤ 60 from fun xs hp => ⟨fun y => by rw [hp.mem_iff]; exact HKK.out.1 y, by rw [hp.length_eq]; exact hlen⟩)
  have HCOL := Lib.hid (fun (w1 : World) (hc : Core w1 X χ g) (b0 : Nat) (hu : AgAt w1 b0 #[.map ko]) => show Calls Tryz.prog 103 #[.func (.func 125) #[] #[.pointer (some ⟨b0, 0, none⟩)]] w1 (Collected (fun xs => xs.Perm K) w1) from by
    refine collect_any (gf := 125) (lb := #[.pointer (some ⟨b0, 0, none⟩)]) (Sp := fun pre => ∃ rest, (pre ++ rest).Perm K) w1 (enters_of Tryz.func125 (by kernel_rfl) rfl) ?_ (fun pre ⟨rest, hr⟩ => by have := hr.length_eq; rw [List.length_append] at this; omega)
    cases ko with
    | none =>
      have hk : K = [] := List.eq_nil_iff_forall_not_mem.2 fun y hy => HC.out.ms.kidNone HKO.out y ((HC.out.hm y).trans ((HKK.out.1 y).1 hy))
      exact (keysB1_nil w1 hu).impG (fun xs hx => by rw [hx, hk]) (fun _ h => h.elim)
    | some kb =>
      obtain ⟨d, hd, hdb, hdl⟩ := HKK.out.2.2 kb rfl
      have hm := hc.ms.inner d hd
      rw [hdb, hdl] at hm
      have hn : (nodesOf K).map Prod.fst = K := by unfold nodesOf; rw [List.map_map, show (Prod.fst ∘ fun n : Qm.St => (n, Value.agg #[])) = id from rfl, List.map_id]
      refine (keysB1_seq (F0 := fun k => w1.heap.size ≤ k) w1 hu hm (fun h => by have := hm.lt; have : w1.heap.size ≤ kb := h; omega)).impG (fun xs hx => ?_) (fun pre ⟨rest, hr⟩ => ⟨rest, ?_⟩)
      · rw [hn] at hx; exact hx
      · rw [hn] at hr; exact hr)
  clear hko hK0 hlen HKK
  go_enter Tryz.func102, Tryz.ntmps102
  go_upto_region 1 with fail
  generalize w.alloc (.cells (stA x) 35) = w1 at *
  have hbd := Below.drew (Below.refl w1.heap.size w1)
  replace HC := Lib.hid (HC.out.kept hbd)
  replace HN := Lib.hid (AgAt.kept HN.out hbd)
  replace HSB := Lib.hid (AgAt.kept HSB.out hbd)
  replace HB := Lib.hid (HB.out.trans (hbd.mono HB.out.size))
  refine wp_region_held_drew (S := fun W => Below w1.drew.heap.size w1.drew W) (by kernel_rfl) (Below.refl _ _) (fun hS => ?_)
  clear hbd
  generalize w1.drew = wd at *
  refine wpAnyH_take (i := 0) (v := ?_) rfl (by kernel_rfl) (by kernel_rfl) (by kernel_rfl) (fun _ _ _ h => h) (Or.inl ⟨by kernel_rfl, ?_⟩) hS ?_
  rotate_left
  · intro W hSW
    have ys : W.cell? ⟨sb, 0, none⟩ = some (ptV X.b) := (AgAt.cell (AgAt.kept HSB.out hSW) 0).trans rfl
    go_simp
    all_goals with_reducible rfl
  refine wpAnyH_take (i := 1) (v := ?_) rfl (by kernel_rfl) (by kernel_rfl) (by kernel_rfl) (fun _ _ _ h => h) (Or.inl ⟨by kernel_rfl, ?_⟩) hS ?_
  rotate_left
  · intro W hSW
    go_simp
    all_goals with_reducible rfl
  refine wpAnyH_take (i := 2) (v := ?_) rfl (by kernel_rfl) (by kernel_rfl) (by kernel_rfl) (fun _ _ _ h => h) (Or.inl ⟨by kernel_rfl, ?_⟩) hS ?_
  rotate_left
  · intro W hSW
    go_simp
    all_goals with_reducible rfl
  refine wpAnyH_take (i := 3) (v := ?_) rfl (by kernel_rfl) (by kernel_rfl) (by kernel_rfl) (fun _ _ _ h => h) (Or.inl ⟨by kernel_rfl, ?_⟩) hS ?_
  rotate_left
  · intro W hSW
    have y := (HC.out.kept hSW).c4
    go_simp
    all_goals with_reducible rfl
  go_simp
  refine wpAnyH_take (i := 4) (v := snV x) rfl (by kernel_rfl) (by kernel_rfl) (by kernel_rfl) (fun _ _ _ h => h) (Or.inl ⟨by kernel_rfl, fun W hSW => exec_load_ag stT rfl rfl rfl (AgAt.kept HN.out hSW)⟩) hS ?_
  go_simp
  refine wpAnyH_take (i := 5) (v := .map ko) rfl (by kernel_rfl) (by kernel_rfl) (by kernel_rfl) (fun _ _ _ h => h) (Or.inl ⟨by kernel_rfl, fun W hSW => exec_lookup rfl rfl rfl (((HC.out.kept hSW).ms.lookB _ HWN.out).trans (by rw [HKO.out]))⟩) hS ?_
  go_simp
  refine wpAnyH_ready (rs := [6]) (by kernel_rfl) (by simp) ?_
  refine AllReadyH.cons rfl (fun K hK => ?_) AllReadyH.nil
  go_simp
  go_wp2_with (go_at_call 104; refine (keysB_any ko _).mono ?_; rintro e wk ⟨rfl, hk0, hkb⟩)
  have HK0 := Lib.hid hk0
  have HKN := Lib.hid (show wd.heap.size < wk.heap.size from AgAt.lt hk0)
  refine hK.out _ _ (hS.trans (hkb.mono hS.size)) (fun hS => ?_)
  clear hK K hk0 hkb
  have HCO := Lib.hid (HCOL.out wk (HC.out.kept hS) _ HK0.out)
  refine wpAnyH_ready (rs := [7]) (by kernel_rfl) (by simp) ?_
  refine AllReadyH.cons rfl (fun K hK => ?_) AllReadyH.nil
  go_simp
  go_wp2_with (go_at_call 103; refine HCO.out.mono ?_; rintro e wc ⟨v, xs, hxs, rfl, hov, hcb⟩)
  have HE := Lib.hid (show Asided (fun y => g.m y = some x) w (.returned v) wc from ⟨v, xs, fun y => (HKS.out xs hxs).1 y, (HKS.out xs hxs).2, rfl, ownsRow_base hov (by have := HB.out.size; have := hS.size; omega), (HB.out.trans (hS.mono HB.out.size)).trans (hcb.mono (by have := HB.out.size; have := hS.size; omega))⟩)
  refine hK.out _ _ (hS.trans (hcb.mono hS.size)) (fun hS => ?_)
  clear hK K hov hcb hxs HCO
  refine wpAnyH_take (i := 8) (v := ?_) rfl (by kernel_rfl) (by kernel_rfl) (by kernel_rfl) (fun _ _ _ h => h) (Or.inl ⟨by kernel_rfl, ?_⟩) hS ?_
  rotate_left
  · intro W hSW
    go_simp
    all_goals with_reducible rfl
  go_simp
  refine wpAnyH_done (by kernel_rfl) ?_ _
  go_simp
  clear hS HB HC HCOL HKS
  go_wp2
  go_ret
  exact HE.out
end Go.Proofs.YthifdefjmfakgaaGreat
