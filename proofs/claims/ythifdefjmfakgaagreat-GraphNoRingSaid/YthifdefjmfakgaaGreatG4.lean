/-
  maps.Equal of two graphs' masters, where both tell the same.
  No conditions.
  TWO GRAPHS beside each other; Same of two that tell the same.
  No conditions but sizes.
-/
import Derived.Test.YthifdefjmfakgaaGreatGrAsk
import Derived.Test.YthifdefjmfakgaaGreatGZ
namespace Go.Proofs.YthifdefjmfakgaaGreat
open Go.RowKit
open Tm (Sp Tr has put cut kids)
attribute [local go_sem] Oper.semAt_some
/-- masters that tell the same -/
def AlikeL (T U : Lk) : Prop := T.length = U.length ∧ ∀ n, lookL T n = lookL U n
theorem alikeL_of {T U : Lk} (h1 : (T.map Prod.fst).Nodup) (h2 : (U.map Prod.fst).Nodup) (h : ∀ n, lookL T n = lookL U n) : AlikeL T U := by
  have half : ∀ {T U : Lk}, (T.map Prod.fst).Nodup → (∀ n, lookL T n = lookL U n) → T.length ≤ U.length := fun {T U} h1 h => by
    have h3 := Tm.len_le (b := U.map Prod.fst) h1 fun n hn => by
      obtain ⟨e, he, rfl⟩ := List.mem_map.1 hn
      have h4 := h e.1
      rw [lookL_some h1 (n := e.1) (m := e.2) he] at h4
      exact List.mem_map.2 ⟨(e.1, e.2), lookL_mem h4.symm, rfl⟩
    simpa using h3
  exact ⟨Nat.le_antisymm (half h1 h) (half h2 fun n => (h n).symm), h⟩

theorem exec_neq_st {c : Act} {o : Oper} {x y : Operand} {ty : TypeId} (ho : o.op = .binOp .neq 35 x y ty) {w : World} (s : Qm.St) (hx : c.eval x = .agg (stA s)) (hy : c.eval y = .agg (stA s)) :
    (execOp c.eval o).run Tryz.prog w = .ok (.value (.bool false)) w := by
  obtain ⟨a, b⟩ := s
  unfold execOp
  simp only [ho, hx, hy, stA]
  go_simp

/-- a comparison under way -/
structure EqL (w : World) (r M1 M2 : Nat) (T U left : Lk) (wr : World) : Prop where
  sub : ∀ e ∈ left, e ∈ T
  it : SIt wr r M1 (masts T) (masts left)
  two : SMap wr M2 (masts U)
  bel : Below w.heap.size w wr

set_option maxRecDepth 100000 in
set_option maxHeartbeats 8000000 in
theorem equalM_any {M1 M2 : Nat} {T U : Lk} (w : World) (h1 : SMap w M1 (masts T)) (h2 : SMap w M2 (masts U)) (ha : AlikeL T U) :
    Calls Tryz.prog 45 #[.map (some M1), .map (some M2)] w fun e w' => e = .returned (.bool true) ∧ Below w.heap.size w w' := by
  have hln1 := h1.len mtMast 3
  have hln2 := h2.len mtMast 3
  rw [show (masts T).length = T.length from by simp [masts]] at hln1
  rw [show (masts U).length = T.length from by simp [masts, ha.1]] at hln2
  obtain ⟨o, hrg, hit⟩ := h1.range mtMast
  have hb2 := (Below.refl w.heap.size w).alloc (Nat.le_refl _) o
  have HND := Lib.hid (show (T.map Prod.fst).Nodup from by
    have := h1.nd
    unfold masts at this
    rwa [List.map_map] at this)
  have HWF := Lib.hid (fun e he => h1.wf (e.1, snV e.2) (List.mem_map.2 ⟨e, he, rfl⟩) : ∀ e ∈ T, StWf e.1)
  have HM2 := Lib.hid h2.lt
  have HA := Lib.hid ha.2
  have HK := Lib.hid (show EqL w w.heap.size M1 M2 T U T (w.alloc o) from ⟨fun _ h => h, hit, h2.below hb2, hb2⟩)
  clear h1 h2 ha hit hb2
  go_enter Tryz.func45, Tryz.ntmps45
  go_wp2_with fail
  clear hrg hln1 hln2
  generalize w.alloc o = w2 at *
  go_loopg [] (T.length + 1) (fun g wr => ∃ left, EqL w w.heap.size M1 M2 T U left wr ∧ left.length < g)
  case atStart => exact ⟨_, HK.out, Nat.lt_succ_self _⟩
  case round =>
    clear HK
    obtain ⟨left, hK, hlg⟩ := hrel
    obtain ⟨g1, rfl⟩ : ∃ g1, gk = g1 + 1 := ⟨gk - 1, by omega⟩
    have HK := Lib.hid hK
    have HLG := Lib.hid hlg
    clear hK hlg
    rcases HK.out.it.next 0 with ⟨h0, hnx⟩ | ⟨b, left', w3, hp, hnx, ht2, hit2, hen⟩
    · have HE := Lib.hid HK.out.bel
      clear HK HLG h0
      go_wp2
      go_ret
      exact ⟨rfl, HE.out⟩
    · obtain ⟨k, hk, hkp⟩ := perm_map_inv (fun e : Qm.St × Qm.St => (e.1, snV e.2)) hp
      cases k with
      | nil => cases hk
      | cons e left'' =>
        obtain ⟨n, s⟩ := e
        rw [List.map_cons, List.cons.injEq] at hk
        obtain ⟨rfl, rfl⟩ := hk
        have HLT2 := Lib.hid (show left''.length < g1 from by have h1 := hkp.length_eq; have h2 := HLG.out; simp only [List.length_cons] at h1; omega)
        have HMEM := Lib.hid (show (n, s) ∈ T from HK.out.sub _ (hkp.mem_iff.1 (by simp)))
        have HSUB := Lib.hid (show ∀ e ∈ left'', e ∈ T from fun e he => HK.out.sub _ (hkp.mem_iff.1 (List.mem_cons_of_mem _ he)))
        have HLK := Lib.hid (show lk (masts U) n = some (snV s) from by rw [lk_masts, ← HA.out, lookL_some HND.out HMEM.out]; rfl)
        have HB2 := Lib.hid (show Below w.heap.size w w3 from HK.out.bel.trans (ht2.below (fun k _ hk => by rw [hk]; exact Nat.le_refl _) HK.out.bel.size))
        have HS2 := Lib.hid (HK.out.two.turns ht2 (by have := HM2.out; omega))
        have HIT2 := Lib.hid hit2
        clear hp hkp ht2 hit2 HLG HK
        have HZ1 := Lib.hid ((AgAt.new w3 #[.int .i64 0, .int .i64 0] 35).kept ((Below.refl _ _).alloc (Nat.le_refl _) (.cells (stA (0, 0)) 35)))
        have HZ2 := Lib.hid (show AgAt ((w3.alloc (.cells #[.int .i64 0, .int .i64 0] 35)).alloc (.cells (stA (0, 0)) 35)) (w3.heap.size + 1) (stA (0, 0)) from by
          have := AgAt.new (w3.alloc (.cells #[.int .i64 0, .int .i64 0] 35)) (stA (0, 0)) 35
          rw [show (w3.alloc (.cells #[.int .i64 0, .int .i64 0] 35)).heap.size = w3.heap.size + 1 from by simp] at this
          exact this)
        have HBZ := Lib.hid (show Below w3.heap.size w3 ((w3.alloc (.cells #[.int .i64 0, .int .i64 0] 35)).alloc (.cells (stA (0, 0)) 35)) from ((Below.refl _ _).alloc (Nat.le_refl _) _).alloc (by simp) _)
        go_upto_region 6 with (first | (refine wpList_store_ag stT rfl _ _ rfl _ rfl _ HZ1.out rfl rfl rfl (stA_one _ _) ?_; intro w4 hv4 hko4 hsz4 hbn4) | (refine wpList_store_ag stT rfl _ _ rfl _ rfl _ (HZ2.out.block (hko4 _ (Nat.succ_ne_self _))) rfl rfl rfl (stA_one _ _) ?_; intro w5 hv5 hko5 hsz5 hbn5))
        have HB5 := Lib.hid (hbn5 _ _ (hbn4 _ _ HBZ.out (Nat.le_refl _)) (Nat.le_succ _))
        have HV4 := Lib.hid (AgAt.block hv4 (hko5 _ (by omega)))
        have HV5 := Lib.hid hv5
        replace HB2 := Lib.hid (HB2.out.trans (HB5.out.mono HB2.out.size))
        replace HIT2 := Lib.hid (HIT2.out.below HB5.out)
        replace HS2 := Lib.hid (HS2.out.below HB5.out)
        clear hv4 hv5 hko4 hko5 hsz4 hsz5 hbn4 hbn5 hen hnx HZ1 HZ2 HBZ HB5
        have HLO := Lib.hid (show (Instr.lookup 89 (.map (some M2)) (snV n) true).run Tryz.prog w5 = .ok (.tuple #[.agg (stA s), .bool true]) w5 from by
          rw [HS2.out.lookOk mtMast n (HWF.out _ HMEM.out), HLK.out]; rfl)
        go_upto_region 7 with (first
          | (refine wpList_load_ag stT rfl _ rfl _ rfl (A := #[.int .i64 n.1, .int .i64 n.2]) rfl HV4.out ?_)
          | (refine wpList_value rfl (exec_lookup rfl rfl rfl HLO.out) ?_)
          | (refine wpList_store_newag stT rfl _ _ rfl rfl _ (A := stA s) rfl rfl rfl (stA_one _ _) ?_; intro w6 hv6 hb6))
        have HV6 := Lib.hid hv6
        replace HV5 := Lib.hid (AgAt.kept HV5.out hb6)
        have HK6 := Lib.hid (show EqL w w.heap.size M1 M2 T U left'' w6 from ⟨HSUB.out, HIT2.out.below hb6, HS2.out.below hb6, HB2.out.trans (hb6.mono HB2.out.size)⟩)
        clear HB2 HIT2 HS2 HLO HV4 HSUB HLK HMEM hv6 hb6
        go_wp2_with (first
          | (refine wpList_value rfl (exec_load_ag stT rfl rfl rfl HV5.out) ?_)
          | (refine wpList_value rfl (exec_load_ag stT rfl rfl rfl HV6.out) ?_)
          | (refine wpList_value rfl (exec_neq_st rfl s rfl rfl) ?_))
        go_roundg g1
        case rel => exact ⟨_, HK6.out, HLT2.out⟩
        case measure => omega
end Go.Proofs.YthifdefjmfakgaaGreat

namespace Go.Proofs.YthifdefjmfakgaaGreat
open Go.RowKit
open Tm (Sp Tr has put cut kids)

theorem alikeT_of {T U : Tr} (h1 : (T.map Prod.fst).Nodup) (h2 : (U.map Prod.fst).Nodup) (h : ∀ n, Tm.look T n = Tm.look U n) : Tm.Alike T U := by
  have half : ∀ {T U : Tr}, (T.map Prod.fst).Nodup → (U.map Prod.fst).Nodup → (∀ n, Tm.look T n = Tm.look U n) → T.length ≤ U.length := fun {T U} h1 _ h => by
    have h3 := Tm.len_le (b := U.map Prod.fst) h1 fun n hn => by
      obtain ⟨e, he, rfl⟩ := List.mem_map.1 hn
      have h4 := h e.1
      rw [Tm.look_some h1 (n := e.1) (s := e.2) he] at h4
      exact List.mem_map.2 ⟨(e.1, e.2), Tm.look_mem h4.symm, rfl⟩
    simpa using h3
  exact ⟨Nat.le_antisymm (half h1 h2 h) (half h2 h1 fun n => (h n).symm), h⟩
/-- what both have a colour for both share -/
def Aparts (χ χ' : Nat → Nat) : Prop := ∀ k, χ k ≠ 0 → χ' k ≠ 0 → χ k = 6 ∧ χ' k = 6
structure Two (w : World) (gg : Nat) (ops : List Pm.Wr) (χ : Nat → Nat) (hh : Nat) (ops' : List Pm.Wr) (χ' : Nat → Nat) : Prop where
  a : Gra w gg ops χ
  b : Gra w hh ops' χ'
  ap : Aparts χ χ'
  g0 : χ' gg = 0 ∨ χ' gg = 6
  h0 : χ hh = 0 ∨ χ hh = 6
theorem Gra.lts {w : World} {gg : Nat} {ops : List Pm.Wr} {χ : Nat → Nat} (h : Gra w gg ops χ) {k : Nat} (hk : χ k ≠ 0) : k < w.heap.size := by
  obtain ⟨⟨X, h1, h2, -⟩, -⟩ := h
  exact h2.lt k hk
theorem Two.swap {w : World} {gg hh : Nat} {ops ops' : List Pm.Wr} {χ χ' : Nat → Nat} (h : Two w gg ops χ hh ops' χ') : Two w hh ops' χ' gg ops χ := ⟨h.b, h.a, fun k h1 h2 => (h.ap k h2 h1).symm, h.h0, h.g0⟩
theorem Two.goes {w w' : World} {gg hh : Nat} {ops ops1 ops' : List Pm.Wr} {χ χ1 χ' : Nat → Nat} (h : Two w gg ops χ hh ops' χ') (ha : Gra w' gg ops1 χ1) (hg : Goes w χ w' χ1) : Two w' gg ops1 χ1 hh ops' χ' :=
  ⟨ha, h.b.turns hg.turns (fun k hk hf => by have := (h.ap k (by omega) hk).1; omega) (fun hf => by have := h.h0; omega), fun k h1 h2 => by
    have hl := h.b.lts h2
    rw [hg.keep k hl] at h1 ⊢
    exact h.ap k h1 h2, h.g0, by rw [hg.keep _ h.b.lt]; exact h.h0⟩
theorem Two.kept {w w' : World} {gg hh : Nat} {ops ops' : List Pm.Wr} {χ χ' : Nat → Nat} (h : Two w gg ops χ hh ops' χ') (hb : Below w.heap.size w w') : Two w' gg ops χ hh ops' χ' := ⟨h.a.kept hb, h.b.kept hb, h.ap, h.g0, h.h0⟩
/-- only blocks of the two turned -/
structure Goes2 (w : World) (χ χ' : Nat → Nat) (w' : World) (χ1 χ1' : Nat → Nat) : Prop where
  turns : Turns (fun k => (1 ≤ χ k ∧ χ k ≤ 5) ∨ (1 ≤ χ' k ∧ χ' k ≤ 5)) w w'
  keep : ∀ k, k < w.heap.size → χ1 k = χ k ∧ χ1' k = χ' k
theorem Goes2.of {w w1 w2 : World} {χ χ' χ1 χ1' : Nat → Nat} (h : Goes w χ w1 χ1) (k : Goes w1 χ' w2 χ1') : Goes2 w χ χ' w2 χ1 χ1' :=
  ⟨(h.turns.mono fun _ _ hk => Or.inl hk).trans (k.turns.mono fun _ _ hi => Or.inl (Or.inr hi)), fun i hi => ⟨h.keep i hi, k.keep i (Nat.lt_of_lt_of_le hi h.turns.size)⟩⟩
theorem Goes2.below {w w1 w2 : World} {χ χ' χ1 χ1' : Nat → Nat} (h : Goes2 w χ χ' w1 χ1 χ1') (hb : Below w1.heap.size w1 w2) : Goes2 w χ χ' w2 χ1 χ1' := ⟨h.turns.trans (Turns.of_below hb), h.keep⟩
/-- two looked at -/
def Left2 (gg : Nat) (ops : List Pm.Wr) (χ : Nat → Nat) (hh : Nat) (ops' : List Pm.Wr) (χ' : Nat → Nat) (w w' : World) : Prop := ∃ χ1 χ1', Two w' gg ops χ1 hh ops' χ1' ∧ Goes2 w χ χ' w' χ1 χ1'
set_option maxRecDepth 100000 in
set_option maxHeartbeats 4000000 in
theorem gsame_any {gg hh : Nat} {ops ops' : List Pm.Wr} {χ χ' : Nat → Nat} (w : World) (h : Two w gg ops χ hh ops' χ') (he : Gm.run ops' = Gm.run ops) : Calls Tryz.prog 15 #[ptV gg, ptV hh] w fun e w' => e = .returned (.bool true) ∧ Left2 gg ops χ hh ops' χ' w w' := by
  have HT := Lib.hid h
  have HQ := Lib.hid he
  obtain ⟨b0, hgb⟩ : ∃ b, AgAt w gg #[ptV b] := by
    obtain ⟨⟨X, h1, -⟩, -⟩ := h.a
    exact ⟨_, h1⟩
  obtain ⟨b1, hhb⟩ : ∃ b, AgAt w hh #[ptV b] := by
    obtain ⟨⟨X, h1, -⟩, -⟩ := h.b
    exact ⟨_, h1⟩
  have HGA := Lib.hid hgb
  have HGB := Lib.hid hhb
  clear h he hgb hhb
  go_enter Tryz.func15, Tryz.ntmps15
  go_wp2_with fail
  refine (gours_any _ HGA.out).mono ?_
  rintro e w1 ⟨rfl, rfl⟩
  go_wp2_with fail
  refine (gours_any _ HGB.out).mono ?_
  rintro e w1 ⟨rfl, rfl⟩
  go_wp2_with fail
  refine (gnow_any _ HT.out.a).mono ?_
  rintro e w2 ⟨X, χ1, rfl, hg, hf, hl, ho, ha, hgg, hgo⟩
  have ht0 : Two w2 gg ops χ1 hh ops' χ' := HT.out.goes (by rw [← ho]; exact gra_of hg hl ha (by rw [hgg]; exact HT.out.a.gz)) hgo
  go_wp2_with fail
  refine (gnow_any _ ht0.b).mono ?_
  rintro e w3 ⟨Y, χ2, rfl, kg, kf, kl, ko, ka, kgg, kgo⟩
  go_upto_region 4 with fail
  have ht1 := ht0
  have hbd := Below.drew (Below.refl w3.heap.size w3)
  have HCA := Lib.hid (show Core w3.drew X χ1 (Gm.run ops) from by
    have h1 : Core w2 X χ1 (Gm.run ops) := by rw [← ho]; exact hg.full hf
    exact (h1.turns kgo.turns (fun k hk hf => by have := (ht1.ap k hk (by omega)).2; omega)).kept hbd)
  have HCB := Lib.hid (show Core w3.drew Y χ2 (Gm.run ops) from by
    have h1 : Core w3 Y χ2 (Gm.run ops') := by rw [← ko]; exact kg.full kf
    rw [HQ.out] at h1
    exact h1.kept hbd)
  have HR := Lib.hid (show Left2 gg ops χ hh ops' χ' w w3.drew from ⟨χ1, χ2, (ht1.swap.goes (by rw [← ko]; exact gra_of kg kl ka (by rw [kgg]; exact ht1.b.gz)) kgo).swap.kept hbd, (Goes2.of hgo kgo).below hbd⟩)
  clear ht0 ht1 hbd hg hf hl ho ha hgg hgo kg kf kl ko ka kgg kgo HT HGA HGB HQ
  refine wp_region_held_drew (S := fun W => Below w3.drew.heap.size w3.drew W) (by kernel_rfl) (Below.refl _ _) (fun hS => ?_)
  generalize w3.drew = wd at *
  have HAT := Lib.hid (alikeT_of HCA.out.tk.nd HCB.out.tk.nd (fun n => by rw [HCA.out.hs, HCB.out.hs]))
  have HAL := Lib.hid (alikeL_of HCA.out.ms.nd HCB.out.ms.nd (fun n => by rw [HCA.out.hm, HCB.out.hm]))
  refine wpAnyH_take (i := 0) (v := ?_) rfl (by kernel_rfl) (by kernel_rfl) (by kernel_rfl) (fun _ _ _ h => h) (Or.inl ⟨by kernel_rfl, ?_⟩) hS ?_
  rotate_left
  · intro W hSW
    go_simp
    all_goals with_reducible rfl
  refine wpAnyH_take (i := 1) (v := ?_) rfl (by kernel_rfl) (by kernel_rfl) (by kernel_rfl) (fun _ _ _ h => h) (Or.inl ⟨by kernel_rfl, ?_⟩) hS ?_
  rotate_left
  · intro W hSW
    go_simp
    all_goals with_reducible rfl
  refine wpAnyH_take (i := 2) (v := ?_) rfl (by kernel_rfl) (by kernel_rfl) (by kernel_rfl) (fun _ _ _ h => h) (Or.inl ⟨by kernel_rfl, ?_⟩) hS ?_
  rotate_left
  · intro W hSW
    go_simp
    all_goals with_reducible rfl
  refine wpAnyH_take (i := 3) (v := ?_) rfl (by kernel_rfl) (by kernel_rfl) (by kernel_rfl) (fun _ _ _ h => h) (Or.inl ⟨by kernel_rfl, ?_⟩) hS ?_
  rotate_left
  · intro W hSW
    have y := (HCA.out.kept hSW).cP
    go_simp
    all_goals with_reducible rfl
  go_simp
  refine wpAnyH_take (i := 4) (v := ?_) rfl (by kernel_rfl) (by kernel_rfl) (by kernel_rfl) (fun _ _ _ h => h) (Or.inl ⟨by kernel_rfl, ?_⟩) hS ?_
  rotate_left
  · intro W hSW
    go_simp
    all_goals with_reducible rfl
  refine wpAnyH_take (i := 5) (v := ?_) rfl (by kernel_rfl) (by kernel_rfl) (by kernel_rfl) (fun _ _ _ h => h) (Or.inl ⟨by kernel_rfl, ?_⟩) hS ?_
  rotate_left
  · intro W hSW
    go_simp
    all_goals with_reducible rfl
  refine wpAnyH_take (i := 6) (v := ?_) rfl (by kernel_rfl) (by kernel_rfl) (by kernel_rfl) (fun _ _ _ h => h) (Or.inl ⟨by kernel_rfl, ?_⟩) hS ?_
  rotate_left
  · intro W hSW
    go_simp
    all_goals with_reducible rfl
  refine wpAnyH_take (i := 7) (v := ?_) rfl (by kernel_rfl) (by kernel_rfl) (by kernel_rfl) (fun _ _ _ h => h) (Or.inl ⟨by kernel_rfl, ?_⟩) hS ?_
  rotate_left
  · intro W hSW
    have y := (HCB.out.kept hSW).cP
    go_simp
    all_goals with_reducible rfl
  go_simp
  refine wpAnyH_ready (rs := [8]) (by kernel_rfl) (by simp) ?_
  refine AllReadyH.cons rfl (fun K hK => ?_) AllReadyH.nil
  go_simp
  go_wp2_with (go_at_call 44; refine (same_any _ (HCA.out.kept hS).tree (HCB.out.kept hS).tree HAT.out).mono ?_; rintro e w5 ⟨rfl, hb5⟩)
  refine hK.out _ _ (hS.trans (hb5.mono hS.size)) (fun hS => ?_)
  clear hK K hb5
  refine wpAnyH_take (i := 9) (v := ?_) rfl (by kernel_rfl) (by kernel_rfl) (by kernel_rfl) (fun _ _ _ h => h) (Or.inl ⟨by kernel_rfl, ?_⟩) hS ?_
  rotate_left
  · intro W hSW
    go_simp
    all_goals with_reducible rfl
  refine wpAnyH_take (i := 10) (v := ?_) rfl (by kernel_rfl) (by kernel_rfl) (by kernel_rfl) (fun _ _ _ h => h) (Or.inl ⟨by kernel_rfl, ?_⟩) hS ?_
  rotate_left
  · intro W hSW
    go_simp
    all_goals with_reducible rfl
  refine wpAnyH_take (i := 11) (v := ?_) rfl (by kernel_rfl) (by kernel_rfl) (by kernel_rfl) (fun _ _ _ h => h) (Or.inl ⟨by kernel_rfl, ?_⟩) hS ?_
  rotate_left
  · intro W hSW
    go_simp
    all_goals with_reducible rfl
  refine wpAnyH_take (i := 12) (v := ?_) rfl (by kernel_rfl) (by kernel_rfl) (by kernel_rfl) (fun _ _ _ h => h) (Or.inl ⟨by kernel_rfl, ?_⟩) hS ?_
  rotate_left
  · intro W hSW
    go_simp
    all_goals with_reducible rfl
  go_simp
  refine wpAnyH_take (i := 13) (v := ?_) rfl (by kernel_rfl) (by kernel_rfl) (by kernel_rfl) (fun _ _ _ h => h) (Or.inl ⟨by kernel_rfl, ?_⟩) hS ?_
  rotate_left
  · intro W hSW
    have y := (HCA.out.kept hSW).c3
    go_simp
    all_goals with_reducible rfl
  refine wpAnyH_take (i := 14) (v := ?_) rfl (by kernel_rfl) (by kernel_rfl) (by kernel_rfl) (fun _ _ _ h => h) (Or.inl ⟨by kernel_rfl, ?_⟩) hS ?_
  rotate_left
  · intro W hSW
    go_simp
    all_goals with_reducible rfl
  refine wpAnyH_take (i := 15) (v := ?_) rfl (by kernel_rfl) (by kernel_rfl) (by kernel_rfl) (fun _ _ _ h => h) (Or.inl ⟨by kernel_rfl, ?_⟩) hS ?_
  rotate_left
  · intro W hSW
    go_simp
    all_goals with_reducible rfl
  refine wpAnyH_take (i := 16) (v := ?_) rfl (by kernel_rfl) (by kernel_rfl) (by kernel_rfl) (fun _ _ _ h => h) (Or.inl ⟨by kernel_rfl, ?_⟩) hS ?_
  rotate_left
  · intro W hSW
    go_simp
    all_goals with_reducible rfl
  go_simp
  refine wpAnyH_take (i := 17) (v := ?_) rfl (by kernel_rfl) (by kernel_rfl) (by kernel_rfl) (fun _ _ _ h => h) (Or.inl ⟨by kernel_rfl, ?_⟩) hS ?_
  rotate_left
  · intro W hSW
    have y := (HCB.out.kept hSW).c3
    go_simp
    all_goals with_reducible rfl
  go_simp
  refine wpAnyH_ready (rs := [18]) (by kernel_rfl) (by simp) ?_
  refine AllReadyH.cons rfl (fun K hK => ?_) AllReadyH.nil
  go_simp
  go_wp2_with (go_at_call 45; refine (equalM_any _ (HCA.out.kept hS).ms.mast (HCB.out.kept hS).ms.mast HAL.out).mono ?_; rintro e w6 ⟨rfl, hb6⟩)
  refine hK.out _ _ (hS.trans (hb6.mono hS.size)) (fun hS => ?_)
  clear hK K hb6
  refine wpAnyH_take (i := 19) (v := ?_) rfl (by kernel_rfl) (by kernel_rfl) (by kernel_rfl) (fun _ _ _ h => h) (Or.inl ⟨by kernel_rfl, ?_⟩) hS ?_
  rotate_left
  · intro W hSW
    go_simp
    all_goals with_reducible rfl
  refine wpAnyH_take (i := 20) (v := ?_) rfl (by kernel_rfl) (by kernel_rfl) (by kernel_rfl) (fun _ _ _ h => h) (Or.inl ⟨by kernel_rfl, ?_⟩) hS ?_
  rotate_left
  · intro W hSW
    go_simp
    all_goals with_reducible rfl
  go_simp
  refine wpAnyH_done (by kernel_rfl) ?_ _
  go_simp
  have HE := Lib.hid (show Left2 gg ops χ hh ops' χ' w w6 from by
    obtain ⟨c1, c2, c3, c4⟩ := HR.out
    exact ⟨c1, c2, c3.kept hS, c4.below hS⟩)
  clear hS HCA HCB HAT HAL HR
  go_wp2
  go_ret
  exact ⟨rfl, HE.out⟩
end Go.Proofs.YthifdefjmfakgaaGreat
