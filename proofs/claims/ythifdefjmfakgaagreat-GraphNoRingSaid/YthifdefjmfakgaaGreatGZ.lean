/-
  Clone of a tree: a tree of its own, of the same nodes at the same spots.
  No conditions.
  maps.Equal of two trees' spots, where both tell the same.
  No conditions.
  Same of two trees that tell the same.
  No conditions.
-/
import Derived.Test.YthifdefjmfakgaaGreatTMove
namespace Go.Proofs.YthifdefjmfakgaaGreat
open Go.RowKit
open Tm (Sp Tr has put cut kids)

theorem perm_map_inv {α β : Type} (f : α → β) : ∀ {l : List α} {m : List β}, m.Perm (l.map f) → ∃ k : List α, m = k.map f ∧ k.Perm l
  | [], m, h => ⟨[], by simpa using h, List.Perm.refl _⟩
  | a :: l, m, h => by
    have hm : f a ∈ m := h.symm.mem_iff.1 (by simp)
    obtain ⟨s, t, rfl⟩ := List.append_of_mem hm
    have h2 : (s ++ t).Perm (l.map f) := (List.perm_middle.symm.trans h).cons_inv
    obtain ⟨k, hk, hp⟩ := perm_map_inv f h2
    obtain ⟨k1, k2, rfl, e1, e2⟩ := List.map_eq_append_iff.1 hk.symm
    exact ⟨k1 ++ a :: k2, by simp [e1, e2], List.perm_middle.trans (hp.cons a)⟩
theorem Tm.look_perm {T U : Tr} (nd : (T.map Prod.fst).Nodup) (h : U.Perm T) (n : Qm.St) : Tm.look U n = Tm.look T n := by
  have nu : (U.map Prod.fst).Nodup := (h.map Prod.fst).nodup_iff.2 nd
  cases e : Tm.look U n with
  | none =>
    cases e2 : Tm.look T n with
    | none => rfl
    | some s => exact absurd rfl (Tm.look_none.1 e _ (h.mem_iff.2 (Tm.look_mem e2)))
  | some s => exact (Tm.look_some nd (h.mem_iff.1 (Tm.look_mem e))).symm
/-- a copy under way: of U, what is left -/
structure ClI (w : World) (r M : Nat) (T : Tr) (P M1 M2 : Nat) (U left : Tr) (F : Nat → Prop) (wr : World) : Prop where
  all : (U ++ left).Perm T
  it : SIt wr r M (spots T) (spots left)
  lay : ∃ C, Lay wr P M1 M2 U C F
  fr : ¬ F r
  ge : ∀ k, F k → w.heap.size ≤ k
  bel : Below w.heap.size w wr
/-- what Clone leaves -/
def Cloned (T : Tr) (w : World) (e : Ending) (w' : World) : Prop :=
  ∃ P M1 M2 U C, e = .returned (.pointer (some ⟨P, 0, none⟩)) ∧ U.Perm T ∧ Lay w' P M1 M2 U C (fun k => w.heap.size ≤ k ∧ k < w'.heap.size) ∧ Below w.heap.size w w'

set_option maxRecDepth 100000 in
set_option maxHeartbeats 8000000 in
theorem clone_any {P M1 M2 : Nat} {T : Tr} {C : List Kid} {F : Nat → Prop} (w : World) (h : Lay w P M1 M2 T C F) (hpar : ∀ e ∈ T, StWf e.2.1) :
    Calls Tryz.prog 34 #[.pointer (some ⟨P, 0, none⟩)] w (Cloned T w) := by
  have HL := Lib.hid h
  have HPAR := Lib.hid hpar
  have HND := Lib.hid h.nd
  have HWF := Lib.hid h.wf
  have HM1 := Lib.hid (h.lt _ h.f1)
  clear h hpar
  go_enter Tryz.func34, Tryz.ntmps34
  go_wp2_with fail
  refine (ours_any _ HL.out).mono ?_
  rintro e w1 ⟨rfl, rfl⟩
  go_wp2_with fail
  refine (new_any w).mono ?_
  rintro e w1 ⟨P', N1, N2, rfl, hl1, hb1⟩
  have y0 := (HL.out.kept hb1).cell0
  obtain ⟨o, hrg, hit⟩ := (HL.out.kept hb1).spots.range mtSpots
  have hb2 := (Below.refl w1.heap.size w1).alloc (Nat.le_refl _) o
  have HRG := Lib.hid hb1.size
  have HK := Lib.hid (show ClI w w1.heap.size M1 T P' N1 N2 [] T (fun k => w.heap.size ≤ k ∧ k < w1.heap.size) (w1.alloc o) from
    ⟨List.Perm.refl _, hit, ⟨[], hl1.kept hb2⟩, fun h => Nat.lt_irrefl _ h.2, fun k hk => hk.1, hb1.trans (hb2.mono hb1.size)⟩)
  clear hl1 hb1 hit hb2
  go_wp2_with fail
  clear y0 hrg
  generalize w1.alloc o = w2 at *
  go_loopg [] (T.length + 1) (fun g wr => ∃ U left F1, ClI w w1.heap.size M1 T P' N1 N2 U left F1 wr ∧ left.length < g)
  case atStart => exact ⟨_, _, _, HK.out, Nat.lt_succ_self _⟩
  case round =>
    clear HK
    obtain ⟨U, left, F1, hK, hlg⟩ := hrel
    obtain ⟨g1, rfl⟩ : ∃ g1, gk = g1 + 1 := ⟨gk - 1, by omega⟩
    have HK := Lib.hid hK
    have HLG := Lib.hid hlg
    clear hK hlg
    rcases HK.out.it.next 0 with ⟨h0, hnx⟩ | ⟨b, left', w3, hp, hnx, ht2, hit2, hen⟩
    · have HE := Lib.hid (show Cloned T w (.returned (.pointer (some ⟨P', 0, none⟩))) wr from by
        have h1 : left = [] := by simpa [spots] using h0
        have h2 := HK.out.all
        rw [h1, List.append_nil] at h2
        obtain ⟨C', h3⟩ := HK.out.lay
        exact ⟨P', N1, N2, U, C', rfl, h2, h3.more (fun k hk => ⟨HK.out.ge k hk, h3.lt k hk⟩) (fun k hk => hk.2), HK.out.bel⟩)
      clear HK HLG h0
      go_wp2
      go_ret
      exact HE.out
    · obtain ⟨k, hk, hkp⟩ := perm_map_inv (fun e : Qm.St × Sp => (e.1, spV e.2)) hp
      cases k with
      | nil => cases hk
      | cons e left'' =>
        obtain ⟨n, s⟩ := e
        rw [List.map_cons, List.cons.injEq] at hk
        obtain ⟨rfl, rfl⟩ := hk
        have HLT2 := Lib.hid (show left''.length < g1 from by have h1 := hkp.length_eq; have h2 := HLG.out; simp only [List.length_cons] at h1; omega)
        have HP := Lib.hid (show ((U ++ [(n, s)]) ++ left'').Perm T from by
          rw [List.append_assoc]
          exact (List.Perm.append_left U hkp).trans HK.out.all)
        have HMEM := Lib.hid (show (n, s) ∈ T from HP.out.mem_iff.1 (by simp))
        have HNO := Lib.hid (show Tm.look U n = none from Tm.look_none.2 fun x hx hh => by
          have h1 : (((U ++ [(n, s)]) ++ left'').map Prod.fst).Nodup := (HP.out.map Prod.fst).nodup_iff.2 HND.out
          rw [List.map_append, List.map_append] at h1
          exact (List.nodup_append.1 (List.nodup_append.1 h1).1).2.2 x.1 (List.mem_map.2 ⟨x, hx, rfl⟩) n (by simp) hh)
        have HB2 := Lib.hid (show Below w.heap.size w w3 from HK.out.bel.trans (ht2.below (fun k _ hk => by rw [hk]; exact HRG.out) HK.out.bel.size))
        have HLAY := Lib.hid (show ∃ C, Lay w3 P' N1 N2 U C F1 from by
          obtain ⟨C', h3⟩ := HK.out.lay
          exact ⟨C', h3.turns ht2 fun k hk hh => HK.out.fr (by rw [← hh]; exact hk)⟩)
        have HIT2 := Lib.hid hit2
        clear hp hkp ht2 hit2 HLG
        have HZ1 := Lib.hid ((AgAt.new w3 #[.int .i64 0, .int .i64 0] 35).kept ((Below.refl _ _).alloc (Nat.le_refl _) (.cells (spA zS) 72)))
        have HZ2 := Lib.hid (show AgAt ((w3.alloc (.cells #[.int .i64 0, .int .i64 0] 35)).alloc (.cells (spA zS) 72)) (w3.heap.size + 1) (spA zS) from by
          have := AgAt.new (w3.alloc (.cells #[.int .i64 0, .int .i64 0] 35)) (spA zS) 72
          rw [show (w3.alloc (.cells #[.int .i64 0, .int .i64 0] 35)).heap.size = w3.heap.size + 1 from by simp] at this
          exact this)
        have HBZ := Lib.hid (show Below w3.heap.size w3 ((w3.alloc (.cells #[.int .i64 0, .int .i64 0] 35)).alloc (.cells (spA zS) 72)) from ((Below.refl _ _).alloc (Nat.le_refl _) _).alloc (by simp) _)
        go_upto_region 7 with (first | (refine wpList_store_ag stT rfl _ _ rfl _ rfl _ HZ1.out rfl rfl rfl (stA_one _ _) ?_; intro w4 hv4 hko4 hsz4 hbn4) | (refine wpList_store_ag spT rfl _ _ rfl _ rfl _ (HZ2.out.block (hko4 _ (Nat.succ_ne_self _))) rfl rfl rfl (spA_one _) ?_; intro w5 hv5 hko5 hsz5 hbn5))
        have HB5 := Lib.hid (hbn5 _ _ (hbn4 _ _ HBZ.out (Nat.le_refl _)) (Nat.le_succ _))
        have HV4 := Lib.hid (AgAt.block hv4 (hko5 _ (by omega)))
        have HV5 := Lib.hid hv5
        replace HB2 := Lib.hid (HB2.out.trans (HB5.out.mono HB2.out.size))
        replace HIT2 := Lib.hid (HIT2.out.below HB5.out)
        replace HLAY := Lib.hid (show ∃ C, Lay w5 P' N1 N2 U C F1 from by
          obtain ⟨C', h3⟩ := HLAY.out
          exact ⟨C', h3.kept HB5.out⟩)
        clear hv4 hv5 hko4 hko5 hsz4 hsz5 hbn4 hbn5 hen hnx HZ1 HZ2 HBZ HB5
        go_wp2_with (first | (refine wpList_load_ag stT rfl _ rfl _ rfl (A := #[.int .i64 n.1, .int .i64 n.2]) rfl HV4.out ?_) | (refine wpList_load_ag spT rfl _ rfl _ rfl (A := spA s) rfl HV5.out ?_))
        obtain ⟨C5, hL5⟩ := HLAY.out
        refine (lay_any n s w5 hL5 (HWF.out _ HMEM.out) (HPAR.out _ HMEM.out) HNO.out).mono ?_
        rintro e w6 ⟨rfl, C6, hl6, ht6⟩
        have HK6 := Lib.hid (show ClI w w1.heap.size M1 T P' N1 N2 (U ++ [(n, s)]) left'' (fun k => F1 k ∨ (w5.heap.size ≤ k ∧ k < w6.heap.size)) w6 from
          ⟨HP.out, HIT2.out.turns ht6 HK.out.fr (fun h => by have := HK.out.ge _ h; have := HM1.out; omega), ⟨C6, hl6⟩, fun h => h.elim HK.out.fr fun h => by have := HIT2.out.ltR; omega,
           fun k hk => hk.elim (HK.out.ge k) fun h => Nat.le_trans HB2.out.size h.1, HB2.out.trans (ht6.below (fun k _ hk => HK.out.ge k hk) HB2.out.size)⟩)
        clear HK HB2 HIT2 HLAY hl6 ht6 hL5 HP HMEM HNO HV4 HV5
        go_wp2
        go_roundg g1
        case rel => exact ⟨_, _, _, HK6.out, HLT2.out⟩
        case measure => omega
end Go.Proofs.YthifdefjmfakgaaGreat

namespace Go.Proofs.YthifdefjmfakgaaGreat
open Go.RowKit
open Tm (Sp Tr has put cut kids)
attribute [local go_sem] Oper.semAt_some

theorem exec_neq_sp {c : Act} {o : Oper} {x y : Operand} {ty : TypeId} (ho : o.op = .binOp .neq 72 x y ty) {w : World} (s : Sp) (hx : c.eval x = .agg (spA s)) (hy : c.eval y = .agg (spA s)) :
    (execOp c.eval o).run Tryz.prog w = .ok (.value (.bool false)) w := by
  obtain ⟨⟨a, b⟩, k⟩ := s
  unfold execOp
  simp only [ho, hx, hy, spA]
  go_simp

/-- a comparison under way -/
structure EqI (w : World) (r M1 M2 : Nat) (T U left : Tr) (wr : World) : Prop where
  sub : ∀ e ∈ left, e ∈ T
  it : SIt wr r M1 (spots T) (spots left)
  two : SMap wr M2 (spots U)
  bel : Below w.heap.size w wr

set_option maxRecDepth 100000 in
set_option maxHeartbeats 8000000 in
theorem equal_any {M1 M2 : Nat} {T U : Tr} (w : World) (h1 : SMap w M1 (spots T)) (h2 : SMap w M2 (spots U)) (ha : Tm.Alike T U) :
    Calls Tryz.prog 86 #[.map (some M1), .map (some M2)] w fun e w' => e = .returned (.bool true) ∧ Below w.heap.size w w' := by
  have hln1 := h1.len mtSpots 3
  have hln2 := h2.len mtSpots 3
  rw [show (spots T).length = T.length from by simp [spots]] at hln1
  rw [show (spots U).length = T.length from by simp [spots, ha.1]] at hln2
  obtain ⟨o, hrg, hit⟩ := h1.range mtSpots
  have hb2 := (Below.refl w.heap.size w).alloc (Nat.le_refl _) o
  have HND := Lib.hid (show (T.map Prod.fst).Nodup from by
    have := h1.nd
    unfold spots at this
    rwa [List.map_map] at this)
  have HWF := Lib.hid (fun e he => h1.wf (e.1, spV e.2) (List.mem_map.2 ⟨e, he, rfl⟩) : ∀ e ∈ T, StWf e.1)
  have HM2 := Lib.hid h2.lt
  have HA := Lib.hid ha.2
  have HK := Lib.hid (show EqI w w.heap.size M1 M2 T U T (w.alloc o) from ⟨fun _ h => h, hit, h2.below hb2, hb2⟩)
  clear h1 h2 ha hit hb2
  go_enter Tryz.func86, Tryz.ntmps86
  go_wp2_with fail
  clear hrg hln1 hln2
  generalize w.alloc o = w2 at *
  go_loopg [] (T.length + 1) (fun g wr => ∃ left, EqI w w.heap.size M1 M2 T U left wr ∧ left.length < g)
  case atStart => exact ⟨_, HK.out, Nat.lt_succ_self _⟩
  case round =>
    clear HK
    obtain ⟨left, hK, hlg⟩ := hrel
    obtain ⟨g1, rfl⟩ : ∃ g1, gk = g1 + 1 := ⟨gk - 1, by omega⟩
    have HK := Lib.hid hK
    have HLG := Lib.hid hlg
    clear hK hlg
    rcases HK.out.it.next 0 with ⟨h0, hnx⟩ | ⟨b, left', w3, hp, hnx, ht2, hit2, hen⟩
    · have HE := Lib.hid HK.out.bel
      clear HK HLG h0
      go_wp2
      go_ret
      exact ⟨rfl, HE.out⟩
    · obtain ⟨k, hk, hkp⟩ := perm_map_inv (fun e : Qm.St × Sp => (e.1, spV e.2)) hp
      cases k with
      | nil => cases hk
      | cons e left'' =>
        obtain ⟨n, s⟩ := e
        rw [List.map_cons, List.cons.injEq] at hk
        obtain ⟨rfl, rfl⟩ := hk
        have HLT2 := Lib.hid (show left''.length < g1 from by have h1 := hkp.length_eq; have h2 := HLG.out; simp only [List.length_cons] at h1; omega)
        have HMEM := Lib.hid (show (n, s) ∈ T from HK.out.sub _ (hkp.mem_iff.1 (by simp)))
        have HSUB := Lib.hid (show ∀ e ∈ left'', e ∈ T from fun e he => HK.out.sub _ (hkp.mem_iff.1 (List.mem_cons_of_mem _ he)))
        have HLK := Lib.hid (show lk (spots U) n = some (spV s) from by rw [lk_spots, ← HA.out, Tm.look_some HND.out HMEM.out]; rfl)
        have HB2 := Lib.hid (show Below w.heap.size w w3 from HK.out.bel.trans (ht2.below (fun k _ hk => by rw [hk]; exact Nat.le_refl _) HK.out.bel.size))
        have HS2 := Lib.hid (HK.out.two.turns ht2 (by have := HM2.out; omega))
        have HIT2 := Lib.hid hit2
        clear hp hkp ht2 hit2 HLG HK
        have HZ1 := Lib.hid ((AgAt.new w3 #[.int .i64 0, .int .i64 0] 35).kept ((Below.refl _ _).alloc (Nat.le_refl _) (.cells (spA zS) 72)))
        have HZ2 := Lib.hid (show AgAt ((w3.alloc (.cells #[.int .i64 0, .int .i64 0] 35)).alloc (.cells (spA zS) 72)) (w3.heap.size + 1) (spA zS) from by
          have := AgAt.new (w3.alloc (.cells #[.int .i64 0, .int .i64 0] 35)) (spA zS) 72
          rw [show (w3.alloc (.cells #[.int .i64 0, .int .i64 0] 35)).heap.size = w3.heap.size + 1 from by simp] at this
          exact this)
        have HBZ := Lib.hid (show Below w3.heap.size w3 ((w3.alloc (.cells #[.int .i64 0, .int .i64 0] 35)).alloc (.cells (spA zS) 72)) from ((Below.refl _ _).alloc (Nat.le_refl _) _).alloc (by simp) _)
        go_upto_region 6 with (first | (refine wpList_store_ag stT rfl _ _ rfl _ rfl _ HZ1.out rfl rfl rfl (stA_one _ _) ?_; intro w4 hv4 hko4 hsz4 hbn4) | (refine wpList_store_ag spT rfl _ _ rfl _ rfl _ (HZ2.out.block (hko4 _ (Nat.succ_ne_self _))) rfl rfl rfl (spA_one _) ?_; intro w5 hv5 hko5 hsz5 hbn5))
        have HB5 := Lib.hid (hbn5 _ _ (hbn4 _ _ HBZ.out (Nat.le_refl _)) (Nat.le_succ _))
        have HV4 := Lib.hid (AgAt.block hv4 (hko5 _ (by omega)))
        have HV5 := Lib.hid hv5
        replace HB2 := Lib.hid (HB2.out.trans (HB5.out.mono HB2.out.size))
        replace HIT2 := Lib.hid (HIT2.out.below HB5.out)
        replace HS2 := Lib.hid (HS2.out.below HB5.out)
        clear hv4 hv5 hko4 hko5 hsz4 hsz5 hbn4 hbn5 hen hnx HZ1 HZ2 HBZ HB5
        have HLO := Lib.hid (show (Instr.lookup 131 (.map (some M2)) (snV n) true).run Tryz.prog w5 = .ok (.tuple #[.agg (spA s), .bool true]) w5 from by
          rw [HS2.out.lookOk mtSpots n (HWF.out _ HMEM.out), HLK.out]; rfl)
        go_upto_region 7 with (first
          | (refine wpList_load_ag stT rfl _ rfl _ rfl (A := #[.int .i64 n.1, .int .i64 n.2]) rfl HV4.out ?_)
          | (refine wpList_value rfl (exec_lookup rfl rfl rfl HLO.out) ?_)
          | (refine wpList_store_newag spT rfl _ _ rfl rfl _ (A := spA s) rfl rfl rfl (spA_one _) ?_; intro w6 hv6 hb6))
        have HV6 := Lib.hid hv6
        replace HV5 := Lib.hid (AgAt.kept HV5.out hb6)
        have HK6 := Lib.hid (show EqI w w.heap.size M1 M2 T U left'' w6 from ⟨HSUB.out, HIT2.out.below hb6, HS2.out.below hb6, HB2.out.trans (hb6.mono HB2.out.size)⟩)
        clear HB2 HIT2 HS2 HLO HV4 HSUB HLK HMEM hv6 hb6
        go_wp2_with (first
          | (refine wpList_value rfl (exec_load_ag spT rfl rfl rfl HV5.out) ?_)
          | (refine wpList_value rfl (exec_load_ag spT rfl rfl rfl HV6.out) ?_)
          | (refine wpList_value rfl (exec_neq_sp rfl s rfl rfl) ?_))
        go_roundg g1
        case rel => exact ⟨_, HK6.out, HLT2.out⟩
        case measure => omega
end Go.Proofs.YthifdefjmfakgaaGreat

namespace Go.Proofs.YthifdefjmfakgaaGreat
open Go.RowKit
open Tm (Sp Tr has put cut kids)

set_option maxRecDepth 100000 in
set_option maxHeartbeats 8000000 in
theorem same_any {P M1 M2 P' N1 N2 : Nat} {T U : Tr} {C C' : List Kid} {F F' : Nat → Prop} (w : World) (h : Lay w P M1 M2 T C F) (h' : Lay w P' N1 N2 U C' F') (ha : Tm.Alike T U) :
    Calls Tryz.prog 44 #[.pointer (some ⟨P, 0, none⟩), .pointer (some ⟨P', 0, none⟩)] w fun e w' => e = .returned (.bool true) ∧ Below w.heap.size w w' := by
  have HL := Lib.hid h
  have HL2 := Lib.hid h'
  have HA := Lib.hid ha
  have HB := Lib.hid (Below.refl w.heap.size w)
  clear h h' ha
  go_enter Tryz.func44, Tryz.ntmps44
  go_upto_region 1 with fail
  have hbd := Below.drew (Below.refl w.heap.size w)
  replace HL := Lib.hid (HL.out.kept hbd)
  replace HL2 := Lib.hid (HL2.out.kept hbd)
  replace HB := Lib.hid (HB.out.trans (hbd.mono HB.out.size))
  refine wp_region_held_drew (S := fun W => Below w.drew.heap.size w.drew W) (by kernel_rfl) (Below.refl _ _) (fun hS => ?_)
  clear hbd
  generalize w.drew = wd at *
  refine wpAnyH_take (i := 0) (v := ?_) rfl (by kernel_rfl) (by kernel_rfl) (by kernel_rfl) (fun _ _ _ h => h) (Or.inl ⟨by kernel_rfl, ?_⟩) hS ?_
  rotate_left
  · intro W hSW
    go_simp
    all_goals with_reducible rfl
  go_simp
  refine wpAnyH_ready (rs := [1]) (by kernel_rfl) (by simp) ?_
  refine AllReadyH.cons rfl (fun K hK => ?_) AllReadyH.nil
  go_simp
  go_wp2_with ((go_at_call 68; refine (ours_any _ (HL.out.kept hS)).mono ?_; rintro e wn ⟨rfl, rfl⟩))
  refine hK.out _ _ hS (fun hS => ?_)
  clear hK K
  refine wpAnyH_take (i := 2) (v := ?_) rfl (by kernel_rfl) (by kernel_rfl) (by kernel_rfl) (fun _ _ _ h => h) (Or.inl ⟨by kernel_rfl, ?_⟩) hS ?_
  rotate_left
  · intro W hSW
    go_simp
    all_goals with_reducible rfl
  refine wpAnyH_take (i := 3) (v := ?_) rfl (by kernel_rfl) (by kernel_rfl) (by kernel_rfl) (fun _ _ _ h => h) (Or.inl ⟨by kernel_rfl, ?_⟩) hS ?_
  rotate_left
  · intro W hSW
    go_simp
    all_goals with_reducible rfl
  go_simp
  refine wpAnyH_ready (rs := [4]) (by kernel_rfl) (by simp) ?_
  refine AllReadyH.cons rfl (fun K hK => ?_) AllReadyH.nil
  go_simp
  go_wp2_with ((go_at_call 68; refine (ours_any _ (HL2.out.kept hS)).mono ?_; rintro e wn ⟨rfl, rfl⟩))
  refine hK.out _ _ hS (fun hS => ?_)
  clear hK K
  refine wpAnyH_take (i := 5) (v := ?_) rfl (by kernel_rfl) (by kernel_rfl) (by kernel_rfl) (fun _ _ _ h => h) (Or.inl ⟨by kernel_rfl, ?_⟩) hS ?_
  rotate_left
  · intro W hSW
    go_simp
    all_goals with_reducible rfl
  refine wpAnyH_take (i := 6) (v := ?_) rfl (by kernel_rfl) (by kernel_rfl) (by kernel_rfl) (fun _ _ _ h => h) (Or.inl ⟨by kernel_rfl, ?_⟩) hS ?_
  rotate_left
  · intro W hSW
    go_simp
    all_goals with_reducible rfl
  refine wpAnyH_take (i := 7) (v := ?_) rfl (by kernel_rfl) (by kernel_rfl) (by kernel_rfl) (fun _ _ _ h => h) (Or.inl ⟨by kernel_rfl, ?_⟩) hS ?_
  rotate_left
  · intro W hSW
    go_simp
    all_goals with_reducible rfl
  refine wpAnyH_take (i := 8) (v := ?_) rfl (by kernel_rfl) (by kernel_rfl) (by kernel_rfl) (fun _ _ _ h => h) (Or.inl ⟨by kernel_rfl, ?_⟩) hS ?_
  rotate_left
  · intro W hSW
    go_simp
    all_goals with_reducible rfl
  go_simp
  refine wpAnyH_take (i := 9) (v := ?_) rfl (by kernel_rfl) (by kernel_rfl) (by kernel_rfl) (fun _ _ _ h => h) (Or.inl ⟨by kernel_rfl, ?_⟩) hS ?_
  rotate_left
  · intro W hSW
    go_simp
    all_goals with_reducible rfl
  refine wpAnyH_take (i := 10) (v := ?_) rfl (by kernel_rfl) (by kernel_rfl) (by kernel_rfl) (fun _ _ _ h => h) (Or.inl ⟨by kernel_rfl, ?_⟩) hS ?_
  rotate_left
  · intro W hSW
    have y0 := (HL.out.kept hSW).cell0
    go_simp
    all_goals with_reducible rfl
  refine wpAnyH_take (i := 11) (v := ?_) rfl (by kernel_rfl) (by kernel_rfl) (by kernel_rfl) (fun _ _ _ h => h) (Or.inl ⟨by kernel_rfl, ?_⟩) hS ?_
  rotate_left
  · intro W hSW
    go_simp
    all_goals with_reducible rfl
  refine wpAnyH_take (i := 12) (v := ?_) rfl (by kernel_rfl) (by kernel_rfl) (by kernel_rfl) (fun _ _ _ h => h) (Or.inl ⟨by kernel_rfl, ?_⟩) hS ?_
  rotate_left
  · intro W hSW
    go_simp
    all_goals with_reducible rfl
  go_simp
  refine wpAnyH_take (i := 13) (v := ?_) rfl (by kernel_rfl) (by kernel_rfl) (by kernel_rfl) (fun _ _ _ h => h) (Or.inl ⟨by kernel_rfl, ?_⟩) hS ?_
  rotate_left
  · intro W hSW
    go_simp
    all_goals with_reducible rfl
  refine wpAnyH_take (i := 14) (v := ?_) rfl (by kernel_rfl) (by kernel_rfl) (by kernel_rfl) (fun _ _ _ h => h) (Or.inl ⟨by kernel_rfl, ?_⟩) hS ?_
  rotate_left
  · intro W hSW
    have y0 := (HL2.out.kept hSW).cell0
    go_simp
    all_goals with_reducible rfl
  go_simp
  refine wpAnyH_ready (rs := [15]) (by kernel_rfl) (by simp) ?_
  refine AllReadyH.cons rfl (fun K hK => ?_) AllReadyH.nil
  go_simp
  go_wp2_with ((go_at_call 86; refine (equal_any _ (HL.out.kept hS).spots (HL2.out.kept hS).spots HA.out).mono ?_; rintro e wn ⟨rfl, hbn⟩))
  refine hK.out _ _ (hS.trans (hbn.mono hS.size)) (fun hS => ?_)
  clear hK K hbn
  refine wpAnyH_take (i := 16) (v := ?_) rfl (by kernel_rfl) (by kernel_rfl) (by kernel_rfl) (fun _ _ _ h => h) (Or.inl ⟨by kernel_rfl, ?_⟩) hS ?_
  rotate_left
  · intro W hSW
    go_simp
    all_goals with_reducible rfl
  refine wpAnyH_take (i := 17) (v := ?_) rfl (by kernel_rfl) (by kernel_rfl) (by kernel_rfl) (fun _ _ _ h => h) (Or.inl ⟨by kernel_rfl, ?_⟩) hS ?_
  rotate_left
  · intro W hSW
    go_simp
    all_goals with_reducible rfl
  go_simp
  refine wpAnyH_done (by kernel_rfl) ?_ _
  go_simp
  have HN := Lib.hid (HB.out.trans (hS.mono HB.out.size))
  clear hS HL HL2 HA
  go_wp2
  go_ret
  exact ⟨rfl, HN.out⟩
end Go.Proofs.YthifdefjmfakgaaGreat
