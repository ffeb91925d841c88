/-
  A GRAPH's LOOKS: Has, Spot, Ref, Reaches.
  No conditions but sizes.
-/
import Derived.Test.YthifdefjmfakgaaGreatG3
import Derived.Test.YthifdefjmfakgaaGreatG9
namespace Go.Proofs.YthifdefjmfakgaaGreat
open Go.RowKit
open Tm (Sp Tr has put cut kids)

theorem wp_store_agG {t : TypeId} {n : Nat} {A : Array Value} {w : World} (V : AgT t n) {o : Oper} {a : Act} {K : Act → World → Prop} {Q : Exit → Act → World → Prop} (x y : Operand) (ho : o.op = .store t x y)
    (b : Nat) (hx : a.eval x = .pointer (some ⟨b, 0, none⟩)) (u : Array Value) (hv : AgAt w b u) (hy : a.eval y = .agg A) (hu : u.size = n) (hn : A.size = n) (h1 : A.all (·.oneCell') = true)
    (h : ∀ w' : World, AgAt w' b A → (∀ k, k ≠ b → w'.heap[k]? = w.heap[k]?) → w'.heap.size = w.heap.size → (∀ B w0, Below B w0 w → B ≤ b → Below B w0 w') → K (a.put o.dst undef) w') : Oper.wp Tryz.prog o a w K Q := by
  obtain ⟨T, hv⟩ := hv
  have hr : (storeVar t ⟨b, 0, none⟩ (.agg A)).run Tryz.prog w = .ok () (w.setRow b A) := run_storeVar_row w b T t u A hv (by rw [hn]; exact V.size) (by rw [hu, hn]) h1
  have hk : K (a.put o.dst undef) (w.setRow b A) := by
    refine h _ ⟨T, setRow_heap w b _ _ T _ hv⟩ (fun k hk => setRow_other w b k _ hk) (by simp) ?_
    intro B w0 hb hB
    exact hb.trans ⟨rfl, rfl, rfl, by simp, fun k hk => setRow_other w b k _ (by omega)⟩
  unfold Oper.wp execOp
  simp only [ho, hx, hy, Instr.storeAt, Instr.sureAddr, Sem.run_bind, Sem.run_pure, Result.andThen_ok, hr]
  exact hk

/-- what a call of now left -/
structure Nowd (gg : Nat) (ops : List Pm.Wr) (χ : Nat → Nat) (w w5 : World) (X : Gx) (χ1 : Nat → Nat) : Prop where
  core : Core w5 X χ1 (Gm.run ops)
  gra : Gra w5 gg ops χ1
  goes : Goes w χ w5 χ1
theorem nowd_of {gg : Nat} {ops : List Pm.Wr} {χ χ1 : Nat → Nat} {w w0 w5 : World} {X : Gx} (hb : Below w.heap.size w w0) (hz : χ gg = 0 ∨ χ gg = 6) (hg : Grf w5 X χ1) (hf : Full X) (hl : X.lk = 0) (ho : X.ops = ops) (ha : AgAt w5 gg #[ptV X.b]) (hgg : χ1 gg = χ gg) (hgo : Goes w0 χ w5 χ1) : Nowd gg ops χ w w5 X χ1 :=
  ⟨by rw [← ho]; exact hg.full hf, by rw [← ho]; exact gra_of hg hl ha (by rw [hgg]; exact hz), (Goes.of_below hb).trans hgo⟩
theorem Nowd.left {gg : Nat} {ops : List Pm.Wr} {χ χ1 : Nat → Nat} {w w5 : World} {X : Gx} (h : Nowd gg ops χ w w5 X χ1) : Left gg ops χ w w5 := ⟨χ1, h.gra, h.goes⟩
theorem Nowd.kept {gg : Nat} {ops : List Pm.Wr} {χ χ1 : Nat → Nat} {w w5 w6 : World} {X : Gx} (h : Nowd gg ops χ w w5 X χ1) (hb : Below w5.heap.size w5 w6) : Nowd gg ops χ w w6 X χ1 := ⟨h.core.kept hb, h.gra.kept hb, h.goes.trans (Goes.of_below hb)⟩
/-- .. and then a block of ours was turned -/
theorem Nowd.turned {gg : Nat} {ops : List Pm.Wr} {χ χ1 : Nat → Nat} {w w6 w7 : World} {X : Gx} {b : Nat} (h : Nowd gg ops χ w w6 X χ1) (hz : χ1 b = 0) (hbw : w.heap.size ≤ b) (hgg : gg < w.heap.size) (ht : Turns (fun k => k = b) w6 w7) : Nowd gg ops χ w w7 X χ1 :=
  ⟨h.core.turns ht fun k hk e => hk (by rw [show k = b from e]; exact hz), h.gra.turns ht (fun k hk e => hk (by rw [show k = b from e]; exact hz)) fun e => by have : gg = b := e; omega, h.goes.turns.trans (ht.mono fun k _ hk => Or.inr (by have : k = b := hk; omega)), h.goes.keep⟩
theorem turns_of_store {w6 w7 : World} {b : Nat} (hk : ∀ k, k ≠ b → w7.heap[k]? = w6.heap[k]?) (hs : w7.heap.size = w6.heap.size) (hb : ∀ B w0, Below B w0 w6 → B ≤ b → Below B w0 w7) : Turns (fun k => k = b) w6 w7 := by
  have h1 := hb 0 w6 ((Below.refl w6.heap.size w6).mono (Nat.zero_le _)) (Nat.zero_le _)
  exact ⟨h1.os, h1.tape, h1.output, by omega, fun k _ h => hk k h⟩
theorem Left.below {gg : Nat} {ops : List Pm.Wr} {χ : Nat → Nat} {w w1 w2 : World} (h : Left gg ops χ w w1) (hb : Below w1.heap.size w1 w2) : Left gg ops χ w w2 := by
  obtain ⟨χ2, k1, k2⟩ := h
  exact ⟨χ2, k1.kept hb, k2.trans (Goes.of_below hb)⟩

set_option maxRecDepth 100000 in
set_option maxHeartbeats 4000000 in
theorem ghas_any {gg : Nat} {ops : List Pm.Wr} {χ : Nat → Nat} (s : Qm.St) (w : World) (h : Gra w gg ops χ) (hn : StWf s) : Calls Tryz.prog 24 #[ptV gg, snV s] w fun e w' => e = .returned (.bool (Gm.has (Gm.run ops) s)) ∧ Left gg ops χ w w' := by
  have hb := ((Below.refl w.heap.size w).alloc (Nat.le_refl _) (.cells (stA s) 35)).drew
  have HC := Lib.hid (h.kept hb)
  have HN := Lib.hid ((AgAt.new w (stA s) 35).kept (Below.drew (Below.refl _ _)))
  have HB := Lib.hid hb
  have HZ := Lib.hid (show χ w.heap.size = 0 from by obtain ⟨⟨X, h1, h2, h3, h4⟩, -⟩ := h; exact h2.toCore.zero (Nat.le_refl _))
  have HGZ := Lib.hid h.gz
  have HWN := Lib.hid hn
  have hgb : ∃ b, AgAt (w.alloc (.cells (stA s) 35)).drew gg #[ptV b] := by
    obtain ⟨⟨X, h1, -⟩, -⟩ := h
    exact ⟨_, h1.kept hb⟩
  obtain ⟨b0, hgb⟩ := hgb
  have HGB := Lib.hid hgb
  obtain ⟨ib, hib⟩ : ∃ b, b = Gm.has (Gm.run ops) s := ⟨_, rfl⟩
  have HIB := Lib.hid hib
  have HHAS := Lib.hid (fun (W : World) (X : Gx) (χ : Nat → Nat) (hc : Core W X χ (Gm.run ops)) => show Calls Tryz.prog 61 #[.pointer (some ⟨X.P, 0, none⟩), snV s] W fun e w' => e = .returned (.bool ib) ∧ Below W.heap.size W w' from by
    rw [hib, ← hc.hasEq]; exact has_any _ W hc.tree HWN.out)
  rw [← hib]
  clear h hb hgb hn hib
  go_enter Tryz.func24, Tryz.ntmps24
  go_upto_region 1 with fail
  refine wp_region_held_drew (S := fun W => AgAt W w.heap.size (stA s)) (by kernel_rfl) HN.out (fun hS => ?_)
  clear HN
  generalize (w.alloc (.cells (stA s) 35)).drew = wd at *
  refine wpAnyH_take (i := 0) (v := ?_) rfl (by kernel_rfl) (by kernel_rfl) (by kernel_rfl) (fun _ _ _ h => h) (Or.inl ⟨by kernel_rfl, ?_⟩) hS ?_
  rotate_left
  · intro W hSW
    go_simp
    all_goals with_reducible rfl
  go_simp
  refine wpAnyH_ready (rs := [1]) (by kernel_rfl) (by simp) ?_
  refine AllReadyH.cons rfl (fun K hK => ?_) AllReadyH.nil
  go_simp
  go_wp2_with (go_at_call 30; refine (gours_any _ HGB.out).mono ?_; rintro e w1 ⟨rfl, rfl⟩)
  refine hK.out _ _ hS (fun hS => ?_)
  clear hK K
  refine wpAnyH_take (i := 2) (v := ?_) rfl (by kernel_rfl) (by kernel_rfl) (by kernel_rfl) (fun _ _ _ h => h) (Or.inl ⟨by kernel_rfl, ?_⟩) hS ?_
  rotate_left
  · intro W hSW
    go_simp
    all_goals with_reducible rfl
  refine wpAnyH_take (i := 3) (v := ?_) rfl (by kernel_rfl) (by kernel_rfl) (by kernel_rfl) (fun _ _ _ h => h) (Or.inl ⟨by kernel_rfl, ?_⟩) hS ?_
  rotate_left
  · intro W hSW
    go_simp
    all_goals with_reducible rfl
  go_simp
  refine wpAnyH_take (i := 8) (v := snV s) rfl (by kernel_rfl) (by kernel_rfl) (by kernel_rfl) (fun _ _ _ h => h) (Or.inl ⟨by kernel_rfl, fun W hSW => exec_load_ag stT rfl rfl rfl hSW⟩) hS ?_
  go_simp
  refine wpAnyH_ready (rs := [4]) (by kernel_rfl) (by simp) ?_
  refine AllReadyH.cons rfl (fun K hK => ?_) AllReadyH.nil
  go_simp
  go_wp2_with (go_at_call 31; refine (gnow_any _ HC.out).mono ?_; rintro e w5 ⟨X, χ1, rfl, hg, hf, hl, ho, ha, hgg, hgo⟩)
  have HND := Lib.hid (nowd_of HB.out HGZ.out hg hf hl ho ha hgg hgo)
  have y5 : w5.cell? ⟨X.b, 4, none⟩ = some (ptV X.P) := HND.out.core.cP
  have hs5 := hS.block (hgo.turns.block _ (AgAt.lt hS) (by rw [HZ.out]; decide))
  refine hK.out _ _ hs5 (fun hS => ?_)
  clear hK K hg hf hl ho ha hgg hgo hs5 HC HB HGZ HZ
  refine wpAnyH_take (i := 5) (v := ?_) rfl (by kernel_rfl) (by kernel_rfl) (by kernel_rfl) (fun _ _ _ h => h) (Or.inl ⟨by kernel_rfl, ?_⟩) hS ?_
  rotate_left
  · intro W hSW
    go_simp
    all_goals with_reducible rfl
  refine wpAnyH_take (i := 6) (v := ?_) rfl (by kernel_rfl) (by kernel_rfl) (by kernel_rfl) (fun _ _ _ h => h) (Or.inl ⟨by kernel_rfl, ?_⟩) hS ?_
  rotate_left
  · intro W hSW
    go_simp
    all_goals with_reducible rfl
  go_simp
  refine wpAnyH_ready (rs := [7]) (by kernel_rfl) (by simp) ?_
  refine AllReadyH.cons rfl (fun K hK => ?_) AllReadyH.nil
  go_simp
  refine hK.out _ _ hS (fun hS => ?_)
  clear hK K
  refine wpAnyH_ready (rs := [9]) (by kernel_rfl) (by simp) ?_
  refine AllReadyH.cons rfl (fun K hK => ?_) AllReadyH.nil
  go_simp
  go_wp2_with (go_at_call 61; refine (HHAS.out w5 X χ1 HND.out.core).mono ?_; rintro e w6 ⟨rfl, hb6⟩)
  have HE := Lib.hid (HND.out.left.below hb6)
  refine hK.out _ _ (AgAt.kept hS hb6) (fun hS => ?_)
  clear hK K hb6 y5 HND HHAS
  refine wpAnyH_take (i := 10) (v := ?_) rfl (by kernel_rfl) (by kernel_rfl) (by kernel_rfl) (fun _ _ _ h => h) (Or.inl ⟨by kernel_rfl, ?_⟩) hS ?_
  rotate_left
  · intro W hSW
    go_simp
    all_goals with_reducible rfl
  refine wpAnyH_take (i := 11) (v := ?_) rfl (by kernel_rfl) (by kernel_rfl) (by kernel_rfl) (fun _ _ _ h => h) (Or.inl ⟨by kernel_rfl, ?_⟩) hS ?_
  rotate_left
  · intro W hSW
    go_simp
    all_goals with_reducible rfl
  go_simp
  refine wpAnyH_done (by kernel_rfl) ?_ _
  go_simp
  clear hS HGB
  go_wp2
  go_ret
  exact ⟨rfl, HE.out⟩

set_option maxRecDepth 100000 in
set_option maxHeartbeats 4000000 in
theorem gspot_any {gg : Nat} {ops : List Pm.Wr} {χ : Nat → Nat} (s : Qm.St) (w : World) (h : Gra w gg ops χ) (hn : StWf s) : Calls Tryz.prog 22 #[ptV gg, snV s] w fun e w' => e = .returned (.tuple #[.agg (spA (((Gm.run ops).s s).getD zS)), .bool ((Gm.run ops).s s).isSome]) ∧ Left gg ops χ w w' := by
  have h1 : ∀ (w : World) (o : Obj), Below w.heap.size w (w.alloc o) := fun w o => (Below.refl _ _).alloc (Nat.le_refl _) _
  have hb := ((h1 w (.cells (stA s) 35)).trans ((h1 (w.alloc (.cells (stA s) 35)) (.cells #[.int .i64 0, .int .i64 0, .string ⟨#[]⟩] 72)).mono (by simp)))
  have HB0 := Lib.hid ((AgAt.new w (stA s) 35).kept (h1 _ (.cells #[.int .i64 0, .int .i64 0, .string ⟨#[]⟩] 72)))
  have HB1 := Lib.hid (show AgAt ((w.alloc (.cells (stA s) 35)).alloc (.cells #[.int .i64 0, .int .i64 0, .string ⟨#[]⟩] 72)) (w.heap.size + 1) #[.int .i64 0, .int .i64 0, .string ⟨#[]⟩] from by
    have := AgAt.new (w.alloc (.cells (stA s) 35)) #[.int .i64 0, .int .i64 0, .string ⟨#[]⟩] 72
    rw [show (w.alloc (.cells (stA s) 35)).heap.size = w.heap.size + 1 from by simp] at this
    exact this)
  have HC := Lib.hid (h.kept hb)
  have HB := Lib.hid hb
  have HZ := Lib.hid (show χ w.heap.size = 0 ∧ χ (w.heap.size + 1) = 0 from by obtain ⟨⟨X, h1, h2, h3, h4⟩, -⟩ := h; exact ⟨h2.toCore.zero (Nat.le_refl _), h2.toCore.zero (by omega)⟩)
  have HGZ := Lib.hid h.gz
  have HGL := Lib.hid h.lt
  have HWN := Lib.hid hn
  have hgb : ∃ b, AgAt ((w.alloc (.cells (stA s) 35)).alloc (.cells #[.int .i64 0, .int .i64 0, .string ⟨#[]⟩] 72)) gg #[ptV b] := by
    obtain ⟨⟨X, h1, -⟩, -⟩ := h
    exact ⟨_, h1.kept hb⟩
  obtain ⟨b0, hgb⟩ := hgb
  have HGB := Lib.hid hgb
  obtain ⟨ib, hib⟩ : ∃ b, b = ((Gm.run ops).s s).isSome := ⟨_, rfl⟩
  obtain ⟨va, hva⟩ : ∃ v, v = ((Gm.run ops).s s).getD zS := ⟨_, rfl⟩
  have HSPOT := Lib.hid (fun (W : World) (X : Gx) (χ : Nat → Nat) (hc : Core W X χ (Gm.run ops)) => show Calls Tryz.prog 60 #[.pointer (some ⟨X.P, 0, none⟩), snV s] W fun e w' => e = .returned (.tuple #[.agg (spA va), .bool ib]) ∧ Below W.heap.size W w' from by
    rw [hib, hva, ← hc.hs]; exact spot_any s W hc.tree HWN.out)
  rw [← hib, ← hva]
  clear h hb hgb hn hib hva h1
  go_enter Tryz.func22, Tryz.ntmps22
  go_upto_region 3 with (go_at_call 30; refine (gours_any _ HGB.out).mono ?_; rintro e w1 ⟨rfl, rfl⟩)
  generalize (w.alloc (.cells (stA s) 35)).alloc (.cells #[.int .i64 0, .int .i64 0, .string ⟨#[]⟩] 72) = w1 at *
  have hbd := Below.drew (Below.refl w1.heap.size w1)
  replace HC := Lib.hid (HC.out.kept hbd)
  replace HB0 := Lib.hid (AgAt.kept HB0.out hbd)
  replace HB1 := Lib.hid (AgAt.kept HB1.out hbd)
  replace HB := Lib.hid (HB.out.trans (hbd.mono HB.out.size))
  refine wp_region_held_drew (S := fun W => AgAt W w.heap.size (stA s)) (by kernel_rfl) HB0.out (fun hS => ?_)
  clear hbd HB0 HGB
  generalize w1.drew = wd at *
  refine wpAnyH_take (i := 0) (v := ?_) rfl (by kernel_rfl) (by kernel_rfl) (by kernel_rfl) (fun _ _ _ h => h) (Or.inl ⟨by kernel_rfl, ?_⟩) hS ?_
  rotate_left
  · intro W hSW
    go_simp
    all_goals with_reducible rfl
  go_simp
  refine wpAnyH_take (i := 5) (v := snV s) rfl (by kernel_rfl) (by kernel_rfl) (by kernel_rfl) (fun _ _ _ h => h) (Or.inl ⟨by kernel_rfl, fun W hSW => exec_load_ag stT rfl rfl rfl hSW⟩) hS ?_
  go_simp
  refine wpAnyH_ready (rs := [1]) (by kernel_rfl) (by simp) ?_
  refine AllReadyH.cons rfl (fun K hK => ?_) AllReadyH.nil
  go_simp
  go_wp2_with (go_at_call 31; refine (gnow_any _ HC.out).mono ?_; rintro e w5 ⟨X, χ1, rfl, hg, hf, hl, ho, ha, hgg, hgo⟩)
  have HND := Lib.hid (nowd_of HB.out HGZ.out hg hf hl ho ha hgg hgo)
  have y5 : w5.cell? ⟨X.b, 4, none⟩ = some (ptV X.P) := HND.out.core.cP
  have hs5 := hS.block (hgo.turns.block _ (AgAt.lt hS) (by rw [HZ.out.1]; decide))
  refine hK.out _ _ hs5 (fun hS => ?_)
  have HB5 := Lib.hid (HB1.out.block (hgo.turns.block _ (AgAt.lt HB1.out) (by rw [HZ.out.2]; decide)))
  have HZ5 := Lib.hid ((hgo.keep _ (AgAt.lt HB1.out)).trans HZ.out.2)
  have HSZ := Lib.hid (show w.heap.size < w.heap.size + 1 from by omega)
  clear hK K HB1 hg hf hl ho ha hgg hgo hs5 HC HB HGZ HZ
  refine wpAnyH_take (i := 2) (v := ?_) rfl (by kernel_rfl) (by kernel_rfl) (by kernel_rfl) (fun _ _ _ h => h) (Or.inl ⟨by kernel_rfl, ?_⟩) hS ?_
  rotate_left
  · intro W hSW
    go_simp
    all_goals with_reducible rfl
  refine wpAnyH_take (i := 3) (v := ?_) rfl (by kernel_rfl) (by kernel_rfl) (by kernel_rfl) (fun _ _ _ h => h) (Or.inl ⟨by kernel_rfl, ?_⟩) hS ?_
  rotate_left
  · intro W hSW
    go_simp
    all_goals with_reducible rfl
  go_simp
  refine wpAnyH_ready (rs := [4]) (by kernel_rfl) (by simp) ?_
  refine AllReadyH.cons rfl (fun K hK => ?_) AllReadyH.nil
  go_simp
  refine hK.out _ _ hS (fun hS => ?_)
  clear hK K
  refine wpAnyH_ready (rs := [6]) (by kernel_rfl) (by simp) ?_
  refine AllReadyH.cons rfl (fun K hK => ?_) AllReadyH.nil
  go_simp
  go_wp2_with (go_at_call 60; refine (HSPOT.out w5 X χ1 HND.out.core).mono ?_; rintro e w6 ⟨rfl, hb6⟩)
  have HE := Lib.hid (HND.out.kept hb6)
  have HB6 := Lib.hid (AgAt.kept HB5.out hb6)
  refine hK.out _ _ (AgAt.kept hS hb6) (fun hS => ?_)
  clear hK K hb6 y5 HND HSPOT HB5
  refine wpAnyH_take (i := 7) (v := ?_) rfl (by kernel_rfl) (by kernel_rfl) (by kernel_rfl) (fun _ _ _ h => h) (Or.inl ⟨by kernel_rfl, ?_⟩) hS ?_
  rotate_left
  · intro W hSW
    go_simp
    all_goals with_reducible rfl
  refine wpAnyH_take (i := 8) (v := ?_) rfl (by kernel_rfl) (by kernel_rfl) (by kernel_rfl) (fun _ _ _ h => h) (Or.inl ⟨by kernel_rfl, ?_⟩) hS ?_
  rotate_left
  · intro W hSW
    go_simp
    all_goals with_reducible rfl
  go_simp
  refine wpAnyH_ready (rs := [9]) (by kernel_rfl) (by simp) ?_
  refine AllReadyH.cons rfl (fun K hK => ?_) AllReadyH.nil
  refine step_of (by kernel_rfl) ?_
  refine wp_store_agG spT _ _ rfl _ rfl _ HB6.out rfl rfl rfl (spA_one _) ?_
  intro w7 hv7 hk7 hs7 hb7
  have HV7 := Lib.hid hv7
  have HE7 := Lib.hid ((HE.out.turned HZ5.out (by omega) HGL.out (turns_of_store hk7 hs7 hb7)).left)
  refine hK.out _ _ (AgAt.block hS (hk7 _ (by omega))) (fun hS => ?_)
  clear hK K hk7 hs7 hb7 HE HB6
  refine wpAnyH_take (i := 10) (v := ?_) rfl (by kernel_rfl) (by kernel_rfl) (by kernel_rfl) (fun _ _ _ h => h) (Or.inl ⟨by kernel_rfl, ?_⟩) hS ?_
  rotate_left
  · intro W hSW
    go_simp
    all_goals with_reducible rfl
  go_simp
  refine wpAnyH_done (by kernel_rfl) ?_ _
  go_simp
  clear hS
  go_wp2
  refine bodyPost_ret (results_two spT _ rfl rfl hv7 rfl rfl) rfl ?_
  exact ⟨rfl, HE7.out⟩
end Go.Proofs.YthifdefjmfakgaaGreat
