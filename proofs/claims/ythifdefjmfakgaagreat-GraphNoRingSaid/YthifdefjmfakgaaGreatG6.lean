/-
  now: all ops are tried, behind a lock.
  No conditions but sizes.
  A GRAPH's LOOKS: ours, find, Done, Count, Spot, Has, Ref, Reaches.
  No conditions but sizes.
-/
import Derived.Test.YthifdefjmfakgaaGreatG5
import Derived.Defers
import Derived.Test.YthifdefjmfakgaaGreatG9
namespace Go.Proofs.YthifdefjmfakgaaGreat
open Go.RowKit
open Tm (Sp Tr has put cut kids)

theorem rd_oneG (w : World) (v : Value) (T : TypeId) : Rd (w.alloc (.cells #[v] T)) (some ⟨w.heap.size, 0, none⟩) [v] := fun _ => ⟨_, 0, rfl, fun i u hu => by
  rw [Nat.zero_add, World.cell?_alloc_at _ _ _ _ rfl]
  rw [← hu]
  simp⟩
theorem wp_build_fn {w : World} {o : Oper} {a : Act} {K : Act → World → Prop} {Q : Exit → Act → World → Prop} (x : Operand) (ho : o.op = .buildSlice 99 1 #[(0, x)]) (u : Uk) (hx : a.eval x = Uk.val u)
    (h : K (a.put o.dst (.slice (some ⟨w.heap.size, 0, none⟩) 1 1)) (w.alloc (.cells #[Uk.val u] 106))) : Oper.wp Tryz.prog o a w K Q := by
  have hr : (Instr.buildSlice 99 1 #[(0, Uk.val u)]).run Tryz.prog w = .ok (.slice (some ⟨w.heap.size, 0, none⟩) 1 1) (w.alloc (.cells #[Uk.val u] 106)) := by
    cases u with
    | pass => kernel_rfl
    | cr b => kernel_rfl
    | mv b c s => kernel_rfl
    | pt b c s => kernel_rfl
  unfold Oper.wp execOp
  simp only [ho, Sem.run_bind, Sem.run_pure, Result.andThen_ok, List.map_toArray, List.map_cons, List.map_nil, hx, hr]
  exact h
theorem Grf.core' {w : World} {X : Gx} {χ : Nat → Nat} (h : Grf w X χ) {m : Nat} (hm : X.us.length = m) : Core w X χ (Gm.run (X.ops.take m)) := by rw [← hm]; exact h.toCore
theorem leaves_congrG {P : Program} {fn : Func} {t t' : Array Value} {R : Ending → World → Prop} (h : ∀ w, (results fn t).run P w = (results fn t').run P w) : ∀ (ds : List Deferred) (u : FrameMode) (w : World), Leaves P fn t R ds u w → Leaves P fn t' R ds u w
  | [], .returning, w => fun ⟨v, h1, h2⟩ => ⟨v, (h w).symm.trans h1, h2⟩
  | [], .panicking _, _ => fun h1 => h1
  | [], .run, _ => fun h1 => h1
  | d :: ds, u, w => fun ⟨h0, fv, cap, f, args, h1, h2, h3⟩ => ⟨h0, fv, cap, f, args, h1, h2, h3.mono fun e u' w' he => by
      cases e with
      | returned v => exact leaves_congrG h ds _ _ he
      | panicked chain => exact leaves_congrG h ds _ _ he
      | outgrown => exact he⟩
theorem hqNow {R : Ending → World → Prop} {v : Value} {d : Option Tmp} (hd : (d != some 2) = true) {c : List PanicEntry} {a : Act} {w : World} (h : bodyPostD Tryz.prog Tryz.f31 R (.panic c) (a.put d v) w) : bodyPostD Tryz.prog Tryz.f31 R (.panic c) a w := by
  cases d with
  | none => exact h
  | some d =>
    have hne : d ≠ 2 := fun e => by subst e; cases hd
    refine leaves_congrG (t := (a.put (some d) v).tmps) (fun W => ?_) _ _ _ h
    have h1 := fun t : Array Value => results_tmp (fn := Tryz.f31) (t := 2) rfl t Tryz.prog W
    rw [h1, h1]
    congr 1
    simp [Act.put, Array.getD_eq_getD_getElem?, hne]
/-- what now leaves: the state, all ops tried -/
def Nowed (X : Gx) (χ : Nat → Nat) (w : World) (e : Ending) (w' : World) : Prop := e = .returned (ptV X.b) ∧ ∃ X' χ', Grf w' X' χ' ∧ Like2 X X' ∧ X'.us.length = X.ls.length ∧ Goes w χ w' χ'

set_option maxRecDepth 100000 in
set_option maxHeartbeats 4000000 in
theorem now_any {X : Gx} {χ : Nat → Nat} {gg : Nat} (w : World) (h : Grf w X χ) (hk : X.lk = 0) (hg : AgAt w gg #[ptV X.b]) :
    Calls Tryz.prog 31 #[ptV gg] w (Nowed X χ w) := by
  have yg : w.cell? ⟨gg, 0, none⟩ = some (ptV X.b) := (AgAt.cell hg 0).trans rfl
  have y0 : w.cell? ⟨X.b, 0, none⟩ = some (.int .i32 0) := by have := h.cell 0; rw [this]; show some (Value.int .i32 X.lk) = _; rw [hk]
  have f0 : w.frozen? ⟨X.b, 0, none⟩ = false := h.free 0
  have HG0 := Lib.hid (h.setLk 1)
  have HS0 := Lib.hid (goes_set h.toCore 0 (.int .i32 1))
  have HK := Lib.hid hk
  clear h hk hg
  go_enter_defers Tryz.func31, Tryz.ntmps31
  go_wp2_with (go_at_call 65; refine (lock_any X.b _ y0 f0).mono ?_; rintro e w' ⟨rfl, rfl⟩)
  go_loopg [] (X.ls.length + 1) (fun gk wr => ∃ X1 χ1, Grf wr X1 χ1 ∧ Like2 { X with lk := 1 } X1 ∧ Goes w χ wr χ1 ∧ X.ls.length - X1.us.length < gk)
  case atStart => exact ⟨_, χ, HG0.out, Like2.refl _, HS0.out, by omega⟩
  case round =>
    clear HG0 HS0 yg y0 f0
    obtain ⟨X1, χ1, hG, hL, hgo, hlt⟩ := hrel
    obtain ⟨g1, rfl⟩ : ∃ g1, gk = g1 + 1 := ⟨gk - 1, by omega⟩
    have HL := Lib.hid hL
    have HGO := Lib.hid (And.intro hgo hlt)
    obtain ⟨m, hm⟩ : ∃ m, X1.us.length = m := ⟨_, rfl⟩
    obtain ⟨no, hno⟩ : ∃ no, no = X1.ls.length := ⟨_, rfl⟩
    obtain ⟨po, co, hpo, hpo0⟩ := own_sliceG hG.ro
    obtain ⟨pu, cu, hpu, -⟩ := own_sliceG hG.ru
    rw [← hno] at hpo hpo0
    rw [hm] at hpu
    have hb : X1.b = X.b := hL.b
    have hfew : m ≤ no ∧ no ≤ 60 := by rw [← hm, hno]; exact ⟨hG.fewer, hG.few⟩
    have HPO := Lib.hid hpo
    have HPU := Lib.hid hpu
    have HM := Lib.hid hm
    have HNO := Lib.hid hno
    have HBB := Lib.hid hb
    have HFEW := Lib.hid hfew
    have HLL := Lib.hid (show X1.ls.length = X.ls.length from congrArg List.length hL.ls)
    have hS0 : wr.drew.cell? ⟨X.b, 2, none⟩ = some (.slice po no co) ∧ wr.drew.cell? ⟨X.b, 3, none⟩ = some (.slice pu m cu) := by
      have hG2 := hG.kept (Below.drew (Below.refl wr.heap.size wr))
      rw [← hb, ← hpo, ← hpu]
      exact ⟨hG2.cO, hG2.cU⟩
    have HS0 := Lib.hid hS0
    have HG := Lib.hid hG
    clear hG hL hgo hlt hm hno hpo hpu hb hS0
    go_upto_region 4 with fail
    refine wp_region_held_drew (S := fun W => W.cell? ⟨X.b, 2, none⟩ = some (.slice po no co) ∧ W.cell? ⟨X.b, 3, none⟩ = some (.slice pu m cu)) (by kernel_rfl) HS0.out (fun hS => ?_)
    replace HG := Lib.hid (HG.out.kept (Below.drew (Below.refl wr.heap.size wr)))
    replace HGO := Lib.hid (And.intro (HGO.out.1.trans (Goes.of_below (Below.drew (Below.refl wr.heap.size wr)))) HGO.out.2)
    generalize wr.drew = wd at *
    refine wpAnyH_take (i := 0) (v := ?_) rfl (by kernel_rfl) (by kernel_rfl) (by kernel_rfl) (fun _ _ _ h => hqNow (by kernel_rfl) h) (Or.inl ⟨by kernel_rfl, ?_⟩) hS ?_
    rotate_left
    · intro W hSW
      go_simp
      all_goals with_reducible rfl
    refine wpAnyH_take (i := 1) (v := ?_) rfl (by kernel_rfl) (by kernel_rfl) (by kernel_rfl) (fun _ _ _ h => hqNow (by kernel_rfl) h) (Or.inl ⟨by kernel_rfl, ?_⟩) hS ?_
    rotate_left
    · intro W hSW
      go_simp
      all_goals with_reducible rfl
    refine wpAnyH_take (i := 2) (v := ?_) rfl (by kernel_rfl) (by kernel_rfl) (by kernel_rfl) (fun _ _ _ h => hqNow (by kernel_rfl) h) (Or.inl ⟨by kernel_rfl, ?_⟩) hS ?_
    rotate_left
    · intro W hSW
      go_simp
      all_goals with_reducible rfl
    refine wpAnyH_take (i := 3) (v := ?_) rfl (by kernel_rfl) (by kernel_rfl) (by kernel_rfl) (fun _ _ _ h => hqNow (by kernel_rfl) h) (Or.inl ⟨by kernel_rfl, ?_⟩) hS ?_
    rotate_left
    · intro W hSW
      have y := hSW.2
      go_simp
      all_goals with_reducible rfl
    go_simp
    refine wpAnyH_take (i := 4) (v := ?_) rfl (by kernel_rfl) (by kernel_rfl) (by kernel_rfl) (fun _ _ _ h => hqNow (by kernel_rfl) h) (Or.inl ⟨by kernel_rfl, ?_⟩) hS ?_
    rotate_left
    · intro W hSW
      go_simp
      all_goals with_reducible rfl
    refine wpAnyH_take (i := 5) (v := ?_) rfl (by kernel_rfl) (by kernel_rfl) (by kernel_rfl) (fun _ _ _ h => hqNow (by kernel_rfl) h) (Or.inl ⟨by kernel_rfl, ?_⟩) hS ?_
    rotate_left
    · intro W hSW
      go_simp
      all_goals with_reducible rfl
    refine wpAnyH_take (i := 6) (v := ?_) rfl (by kernel_rfl) (by kernel_rfl) (by kernel_rfl) (fun _ _ _ h => hqNow (by kernel_rfl) h) (Or.inl ⟨by kernel_rfl, ?_⟩) hS ?_
    rotate_left
    · intro W hSW
      go_simp
      all_goals with_reducible rfl
    refine wpAnyH_take (i := 7) (v := ?_) rfl (by kernel_rfl) (by kernel_rfl) (by kernel_rfl) (fun _ _ _ h => hqNow (by kernel_rfl) h) (Or.inl ⟨by kernel_rfl, ?_⟩) hS ?_
    rotate_left
    · intro W hSW
      go_simp
      all_goals with_reducible rfl
    go_simp
    refine wpAnyH_take (i := 8) (v := ?_) rfl (by kernel_rfl) (by kernel_rfl) (by kernel_rfl) (fun _ _ _ h => hqNow (by kernel_rfl) h) (Or.inl ⟨by kernel_rfl, ?_⟩) hS ?_
    rotate_left
    · intro W hSW
      have y := hSW.1
      go_simp
      all_goals with_reducible rfl
    refine wpAnyH_take (i := 9) (v := ?_) rfl (by kernel_rfl) (by kernel_rfl) (by kernel_rfl) (fun _ _ _ h => hqNow (by kernel_rfl) h) (Or.inl ⟨by kernel_rfl, ?_⟩) hS ?_
    rotate_left
    · intro W hSW
      go_simp
      all_goals with_reducible rfl
    refine wpAnyH_take (i := 10) (v := ?_) rfl (by kernel_rfl) (by kernel_rfl) (by kernel_rfl) (fun _ _ _ h => hqNow (by kernel_rfl) h) (Or.inl ⟨by kernel_rfl, ?_⟩) hS ?_
    rotate_left
    · intro W hSW
      go_simp
      all_goals with_reducible rfl
    go_simp
    refine wpAnyH_done (by kernel_rfl) ?_ _
    go_simp
    clear hS
    by_cases hlt : m < no
    · have d0 : decide (m < no) = true := decide_eq_true hlt
      obtain ⟨gb, hgb⟩ := hpo0 (by omega)
      subst hgb
      obtain ⟨el, hel⟩ : ∃ e, X1.ls[m]? = some e := ⟨_, List.getElem?_eq_getElem (by rw [← HNO.out]; exact hlt)⟩
      obtain ⟨x, lb⟩ := el
      have HLE := Lib.hid hel
      have hmem := List.mem_of_getElem? hel
      have HX := Lib.hid (show X1.ops[m]? = some x from by unfold Gx.ops; rw [List.getElem?_map, hel]; rfl)
      have hxo := HG.out.ops.ok x (List.mem_of_getElem? HX.out)
      have hm60 : m < 60 := by omega
      clear hel hpo0 hfew
      go_upto_region 5 with fail
      replace HG := Lib.hid (HG.out.kept (Below.drew (Below.refl wd.heap.size wd)))
      replace HGO := Lib.hid (And.intro (HGO.out.1.trans (Goes.of_below (Below.drew (Below.refl wd.heap.size wd)))) HGO.out.2)
      have HTRY := Lib.hid (show Calls Tryz.prog 67 #[ptV X.b, ptV lb] wd.drew (Tried X1 χ1 (Gm.run (X1.ops.take m)) x wd.drew) from by
        have h1 := try_any x wd.drew (HG.out.core' HM.out) (HG.out.ln _ hmem).2 (HG.out.ln _ hmem).1 hxo (ops_newG HG.out.ops HX.out) ⟨_, hmem, rfl⟩
        rwa [HBB.out] at h1)
      have HRU := Lib.hid (fun (w5 : World) (X5 : Gx) (χ5 : Nat → Nat) (wa : World) (hc : Core w5 X5 χ5 (Gm.aft (Gm.run (X1.ops.take m)) x)) (hl : Like X1 X5) (hba : Below w5.heap.size w5 wa) => show wa.ownsRow 0 106 1 (.slice pu m cu) m (X1.us.map Uk.val) from by
        have h1 := own_belowG hc.ru hba
        rw [hl.pu, hl.us, HPU.out, HM.out] at h1
        exact h1)
      have hS1 : wd.drew.cell? ⟨X.b, 2, none⟩ = some (.slice (some ⟨gb, 0, none⟩) no co) ∧ wd.drew.cell? ⟨X.b, 3, none⟩ = some (.slice pu m cu) ∧ wd.drew.cell? ⟨gb, m, none⟩ = some (ptV lb) := by
        refine ⟨?_, ?_, ?_⟩
        · rw [← HBB.out, ← HPO.out]; exact HG.out.cO
        · rw [← HBB.out, ← HPU.out]; exact HG.out.cU
        · have h1 := HG.out.ro
          rw [HPO.out, ← HNO.out] at h1
          exact own_1 h1 m _ (by rw [List.getElem?_map, HLE.out]; rfl)
      have HS1 := Lib.hid hS1
      clear hS1 hmem hxo
      refine wp_region_last_drew 22 (S := fun W => W.cell? ⟨X.b, 2, none⟩ = some (.slice (some ⟨gb, 0, none⟩) no co) ∧ W.cell? ⟨X.b, 3, none⟩ = some (.slice pu m cu) ∧ W.cell? ⟨gb, m, none⟩ = some (ptV lb)) (by kernel_rfl) HS1.out (fun hS => ?_)
      generalize wd.drew = we at *
      refine wpAnyL_take (i := 0) (v := ?_) rfl (by kernel_rfl) (by kernel_rfl) (by kernel_rfl) (fun _ _ _ h => hqNow (by kernel_rfl) h) (Or.inl ⟨by kernel_rfl, ?_⟩) hS (by kernel_rfl) ?_
      rotate_left
      · intro W hSW
        go_simp
        all_goals with_reducible rfl
      refine wpAnyL_take (i := 1) (v := ?_) rfl (by kernel_rfl) (by kernel_rfl) (by kernel_rfl) (fun _ _ _ h => hqNow (by kernel_rfl) h) (Or.inl ⟨by kernel_rfl, ?_⟩) hS (by kernel_rfl) ?_
      rotate_left
      · intro W hSW
        go_simp
        all_goals with_reducible rfl
      refine wpAnyL_take (i := 2) (v := ?_) rfl (by kernel_rfl) (by kernel_rfl) (by kernel_rfl) (fun _ _ _ h => hqNow (by kernel_rfl) h) (Or.inl ⟨by kernel_rfl, ?_⟩) hS (by kernel_rfl) ?_
      rotate_left
      · intro W hSW
        go_simp
        all_goals with_reducible rfl
      refine wpAnyL_take (i := 3) (v := ?_) rfl (by kernel_rfl) (by kernel_rfl) (by kernel_rfl) (fun _ _ _ h => hqNow (by kernel_rfl) h) (Or.inl ⟨by kernel_rfl, ?_⟩) hS (by kernel_rfl) ?_
      rotate_left
      · intro W hSW
        go_simp
        all_goals with_reducible rfl
      go_simp
      refine wpAnyL_take (i := 4) (v := ?_) rfl (by kernel_rfl) (by kernel_rfl) (by kernel_rfl) (fun _ _ _ h => hqNow (by kernel_rfl) h) (Or.inl ⟨by kernel_rfl, ?_⟩) hS (by kernel_rfl) ?_
      rotate_left
      · intro W hSW
        have y := hSW.2.1
        go_simp
        all_goals with_reducible rfl
      refine wpAnyL_take (i := 5) (v := ?_) rfl (by kernel_rfl) (by kernel_rfl) (by kernel_rfl) (fun _ _ _ h => hqNow (by kernel_rfl) h) (Or.inl ⟨by kernel_rfl, ?_⟩) hS (by kernel_rfl) ?_
      rotate_left
      · intro W hSW
        go_simp
        all_goals with_reducible rfl
      refine wpAnyL_take (i := 6) (v := ?_) rfl (by kernel_rfl) (by kernel_rfl) (by kernel_rfl) (fun _ _ _ h => hqNow (by kernel_rfl) h) (Or.inl ⟨by kernel_rfl, ?_⟩) hS (by kernel_rfl) ?_
      rotate_left
      · intro W hSW
        go_simp
        all_goals with_reducible rfl
      refine wpAnyL_take (i := 7) (v := ?_) rfl (by kernel_rfl) (by kernel_rfl) (by kernel_rfl) (fun _ _ _ h => hqNow (by kernel_rfl) h) (Or.inl ⟨by kernel_rfl, ?_⟩) hS (by kernel_rfl) ?_
      rotate_left
      · intro W hSW
        go_simp
        all_goals with_reducible rfl
      go_simp
      refine wpAnyL_take (i := 8) (v := ?_) rfl (by kernel_rfl) (by kernel_rfl) (by kernel_rfl) (fun _ _ _ h => hqNow (by kernel_rfl) h) (Or.inl ⟨by kernel_rfl, ?_⟩) hS (by kernel_rfl) ?_
      rotate_left
      · intro W hSW
        go_simp
        all_goals with_reducible rfl
      refine wpAnyL_take (i := 9) (v := ?_) rfl (by kernel_rfl) (by kernel_rfl) (by kernel_rfl) (fun _ _ _ h => hqNow (by kernel_rfl) h) (Or.inl ⟨by kernel_rfl, ?_⟩) hS (by kernel_rfl) ?_
      rotate_left
      · intro W hSW
        have y := hSW.1
        go_simp
        all_goals with_reducible rfl
      refine wpAnyL_take (i := 10) (v := ?_) rfl (by kernel_rfl) (by kernel_rfl) (by kernel_rfl) (fun _ _ _ h => hqNow (by kernel_rfl) h) (Or.inl ⟨by kernel_rfl, ?_⟩) hS (by kernel_rfl) ?_
      rotate_left
      · intro W hSW
        go_simp
        all_goals with_reducible rfl
      refine wpAnyL_take (i := 11) (v := ?_) rfl (by kernel_rfl) (by kernel_rfl) (by kernel_rfl) (fun _ _ _ h => hqNow (by kernel_rfl) h) (Or.inl ⟨by kernel_rfl, ?_⟩) hS (by kernel_rfl) ?_
      rotate_left
      · intro W hSW
        go_simp
        all_goals with_reducible rfl
      go_simp
      refine wpAnyL_take (i := 12) (v := ?_) rfl (by kernel_rfl) (by kernel_rfl) (by kernel_rfl) (fun _ _ _ h => hqNow (by kernel_rfl) h) (Or.inl ⟨by kernel_rfl, ?_⟩) hS (by kernel_rfl) ?_
      rotate_left
      · intro W hSW
        go_simp
        all_goals with_reducible rfl
      refine wpAnyL_take (i := 13) (v := ?_) rfl (by kernel_rfl) (by kernel_rfl) (by kernel_rfl) (fun _ _ _ h => hqNow (by kernel_rfl) h) (Or.inl ⟨by kernel_rfl, ?_⟩) hS (by kernel_rfl) ?_
      rotate_left
      · intro W hSW
        have y := hSW.2.1
        go_simp
        all_goals with_reducible rfl
      refine wpAnyL_take (i := 14) (v := ?_) rfl (by kernel_rfl) (by kernel_rfl) (by kernel_rfl) (fun _ _ _ h => hqNow (by kernel_rfl) h) (Or.inl ⟨by kernel_rfl, ?_⟩) hS (by kernel_rfl) ?_
      rotate_left
      · intro W hSW
        go_simp
        all_goals with_reducible rfl
      refine wpAnyL_take (i := 15) (v := ?_) rfl (by kernel_rfl) (by kernel_rfl) (by kernel_rfl) (fun _ _ _ h => hqNow (by kernel_rfl) h) (Or.inl ⟨by kernel_rfl, ?_⟩) hS (by kernel_rfl) ?_
      rotate_left
      · intro W hSW
        go_simp
        all_goals with_reducible rfl
      go_simp
      refine wpAnyL_take (i := 16) (v := ?_) rfl (by kernel_rfl) (by kernel_rfl) (by kernel_rfl) (fun _ _ _ h => hqNow (by kernel_rfl) h) (Or.inl ⟨by kernel_rfl, ?_⟩) hS (by kernel_rfl) ?_
      rotate_left
      · intro W hSW
        have y := hSW.2.2
        go_simp
        all_goals with_reducible rfl
      go_simp
      refine wpAnyL_ready (rs := [17]) (by kernel_rfl) (by simp) ?_
      refine AllReadyL.cons rfl (fun K hK => ?_) AllReadyL.nil
      go_simp
      go_wp2_with (go_at_call 67; refine HTRY.out.mono ?_; rintro e w5 ⟨u, X5, χ5, rfl, hc5, hl5, hg5, hu5⟩)
      have HT5 := Lib.hid (And.intro hc5 (And.intro hl5 (And.intro hg5 hu5)))
      have HS5 := Lib.hid (show w5.cell? ⟨X.b, 2, none⟩ = some (.slice (some ⟨gb, 0, none⟩) no co) ∧ w5.cell? ⟨X.b, 3, none⟩ = some (.slice pu m cu) from by
        have h1 := hc5.cO
        have h2 := hc5.cU
        rw [hl5.b, HBB.out] at h1 h2
        rw [hl5.po, HPO.out] at h1
        rw [hl5.pu, HPU.out] at h2
        exact ⟨h1, h2⟩)
      have HLN5 := Lib.hid (show w5.cell? ⟨gb, m, none⟩ = some (ptV lb) from by
        have h1 := hc5.ro
        rw [hl5.po, HPO.out, hl5.ls, ← HNO.out] at h1
        exact own_1 h1 m _ (by rw [List.getElem?_map, HLE.out]; rfl))
      refine hK.out _ _ ⟨HS5.out.1, HS5.out.2, HLN5.out⟩ (fun hS => ?_)
      clear hK K hc5 hl5 hg5 hu5
      refine wpAnyL_ready (rs := [18]) (by kernel_rfl) (by simp) ?_
      refine AllReadyL.cons rfl (fun K hK => ?_) AllReadyL.nil
      refine step_of (by kernel_rfl) ?_
      refine wp_build_fn _ rfl u rfl ?_
      have hba := (Below.refl w5.heap.size w5).alloc (Nat.le_refl _) (.cells #[Uk.val u] 106)
      have HBA := Lib.hid hba
      have HRA := Lib.hid (show Rd (w5.alloc (.cells #[Uk.val u] 106)) (some ⟨w5.heap.size, 0, none⟩) [Uk.val u] from rd_oneG w5 _ _)
      have HZA := Lib.hid (show w5.heap.size < (w5.alloc (.cells #[Uk.val u] 106)).heap.size from by simp)
      refine hK.out _ _ ⟨by rw [Below.cell hba (cell_lt hS.1)]; exact hS.1, by rw [Below.cell hba (cell_lt hS.2.1)]; exact hS.2.1, by rw [Below.cell hba (cell_lt hS.2.2)]; exact hS.2.2⟩ (fun hS => ?_)
      clear hK K hba
      generalize w5.alloc (.cells #[Uk.val u] 106) = wa at *
      refine wpAnyL_ready (rs := [19]) (by kernel_rfl) (by simp) ?_
      refine AllReadyL.cons rfl (fun K hK => ?_) AllReadyL.nil
      refine fnR.append rfl _ _ rfl (.slice pu m cu) m (X1.us.map Uk.val) rfl (HRU.out w5 X5 χ5 wa HT5.out.1 HT5.out.2.1 HBA.out) (some ⟨w5.heap.size, 0, none⟩) 1 1 [Uk.val u] rfl rfl HRA.out (fun h => by cases h) (fun v hv => by rw [List.mem_singleton.1 hv]; exact Uk.one u) (by omega) ?_
      intro p6 c6 w6 ho6 hg6 hn6
      have HP6 := Lib.hid (HG.out.push HM.out HX.out HT5.out.1 HT5.out.2.1 HT5.out.2.2.1 HT5.out.2.2.2 HBA.out ho6 (by rw [HPU.out]; exact hg6) (by rw [HPU.out]; exact hn6))
      have HT6 := Lib.hid (Turns.of_grown hg6)
      have HNB := Lib.hid (show (Value.slice pu m cu).ownBlock ≠ some X.b ∧ (Value.slice pu m cu).ownBlock ≠ some gb from by
        have h0 : ∀ k, (Value.slice pu m cu).ownBlock = some k → χ5 k = 3 := fun k hk => HT5.out.1.cu k (by rw [HT5.out.2.1.pu, HPU.out]; exact hk)
        constructor
        · intro e
          have h1 := h0 _ e
          rw [← HBB.out, ← HT5.out.2.1.b, HT5.out.1.cb] at h1
          cases h1
        · intro e
          have h1 := h0 _ e
          rw [HT5.out.1.co gb (by rw [HT5.out.2.1.po, HPO.out]; rfl)] at h1
          cases h1)
      refine hK.out _ _ ⟨HT6.out.cell hS.1 HNB.out.1, HT6.out.cell hS.2.1 HNB.out.1, HT6.out.cell hS.2.2 HNB.out.2⟩ (fun hS => ?_)
      have y6 := hS.2.1
      have f6 : w6.frozen? ⟨X.b, 3, none⟩ = false := by
        have h1 := HT5.out.1.at_
        rw [HT5.out.2.1.b, HBB.out] at h1
        exact AgAt.free (AgAt.block (AgAt.kept h1 HBA.out) (HT6.out.block _ (AgAt.lt (AgAt.kept h1 HBA.out)) HNB.out.1)) 3
      clear hK K ho6 hg6 hn6
      refine wpAnyL_ready (rs := [20]) (by kernel_rfl) (by simp) ?_
      refine AllReadyL.cons rfl (fun K hK => ?_) AllReadyL.nil
      go_simp
      refine hK.out _ _ hS (fun hS => ?_)
      clear hK K
      refine wpAnyL_take (i := 21) (v := ?_) rfl (by kernel_rfl) (by kernel_rfl) (by kernel_rfl) (fun _ _ _ h => hqNow (by kernel_rfl) h) (Or.inl ⟨by kernel_rfl, ?_⟩) hS (by kernel_rfl) ?_
      rotate_left
      · intro W hSW
        go_simp
        all_goals with_reducible rfl
      go_simp
      refine wpAnyL_ready (rs := [22]) (by kernel_rfl) (by simp) ?_
      refine AllReadyL.last rfl (fun K hK => ?_)
      go_simp
      refine hK.out _ _ ?_
      clear hK K hS y6 f6
      refine wpAnyL_done (by kernel_rfl) ?_ _
      go_simp
      obtain ⟨X7, χ7, hg7, hl7, hu7, hgo7⟩ := HP6.out
      rw [HBB.out] at hg7 hgo7
      have HN := Lib.hid (show ∃ X1 χ1, Grf (w6.setCell ⟨X.b, 3, none⟩ (.slice p6 (m + 1) c6)) X1 χ1 ∧ Like2 { X with lk := 1 } X1 ∧ Goes w χ (w6.setCell ⟨X.b, 3, none⟩ (.slice p6 (m + 1) c6)) χ1 ∧ X.ls.length - X1.us.length < g1 from
        ⟨X7, χ7, hg7, HL.out.trans hl7, HGO.out.1.trans hgo7, by
          have h1 := HGO.out.2
          have h2 := HM.out
          have h3 := HLL.out
          have h4 := HNO.out
          rw [hu7, List.length_append]
          simp only [List.length_cons, List.length_nil]
          omega⟩)
      clear hg7 hl7 hu7 hgo7 HP6 HG HT5
      go_wp2
      go_roundg g1
      case rel => exact HN.out
      case measure => omega
    · have hme : m = no := by omega
      have d0 : decide (m < no) = false := decide_eq_false hlt
      have y0 : wd.cell? ⟨X.b, 0, none⟩ = some (.int .i32 1) := by
        have h1 := HG.out.cell 0
        rw [HBB.out] at h1
        rw [h1]
        show some (Value.int .i32 X1.lk) = _
        rw [HL.out.lk]
      have f0 : wd.frozen? ⟨X.b, 0, none⟩ = false := by rw [← HBB.out]; exact HG.out.free 0
      have HE := Lib.hid (show Nowed X χ w (.returned (ptV X.b)) (wd.setCell ⟨X.b, 0, none⟩ (.int .i32 0)) from by
        have h1 := HG.out.setLk 0
        have h2 := goes_set HG.out.toCore 0 (.int .i32 0)
        rw [show (⟨X1.b, 0, none⟩ : Addr) = ⟨X.b, 0, none⟩ from by rw [HBB.out]] at h1 h2
        refine ⟨rfl, _, _, h1, ⟨HK.out.symm, HBB.out, HL.out.po, HL.out.ls⟩, ?_, HGO.out.1.trans h2⟩
        show X1.us.length = X.ls.length
        rw [HM.out, hme, HNO.out, HLL.out])
      clear HG HL HGO hlt
      go_wp2_with fail
      refine leaves_cons (f := 66) (args := #[ptV X.b]) (by simp) (by simp [go_sem]) ?_
      refine (unlock_any X.b .returning _ y0 f0).mono ?_
      rintro e u' w'' ⟨rfl, rfl, rfl⟩
      refine ⟨_, results_tmp (t := 2) rfl _ _ _, ?_⟩
      exact HE.out
end Go.Proofs.YthifdefjmfakgaaGreat

namespace Go.Proofs.YthifdefjmfakgaaGreat
open Go.RowKit
open Tm (Sp Tr has put cut kids)

/-- a graph: its box, its state -/
structure Gra (w : World) (gg : Nat) (ops : List Pm.Wr) (χ : Nat → Nat) : Prop where
  box : ∃ X, AgAt w gg #[ptV X.b] ∧ Grf w X χ ∧ X.lk = 0 ∧ X.ops = ops
  gz : χ gg = 0 ∨ χ gg = 6
theorem Gra.turns {w w' : World} {gg : Nat} {ops : List Pm.Wr} {χ : Nat → Nat} {G : Nat → Prop} (h : Gra w gg ops χ) (ht : Turns G w w') (hd : ∀ k, χ k ≠ 0 → ¬ G k) (hg : ¬ G gg) : Gra w' gg ops χ := by
  obtain ⟨⟨X, h1, h2, h3, h4⟩, h5⟩ := h
  exact ⟨⟨X, h1.block (ht.block _ (AgAt.lt h1) hg), h2.turns ht hd, h3, h4⟩, h5⟩
theorem Gra.kept {w w' : World} {gg : Nat} {ops : List Pm.Wr} {χ : Nat → Nat} (h : Gra w gg ops χ) (hb : Below w.heap.size w w') : Gra w' gg ops χ := h.turns (Turns.of_below (F := fun _ => False) hb) (fun _ _ h => h) fun h => h
theorem Gra.lt {w : World} {gg : Nat} {ops : List Pm.Wr} {χ : Nat → Nat} (h : Gra w gg ops χ) : gg < w.heap.size := by
  obtain ⟨⟨X, h1, -⟩, -⟩ := h
  exact AgAt.lt h1
theorem Gra.few {w : World} {gg : Nat} {ops : List Pm.Wr} {χ : Nat → Nat} (h : Gra w gg ops χ) : Gm.Ops ops ∧ ops.length ≤ 60 := by
  obtain ⟨⟨X, h1, h2, h3, rfl⟩, -⟩ := h
  exact ⟨h2.ops, by unfold Gx.ops; rw [List.length_map]; exact h2.few⟩
/-- .. with all ops tried -/
def Full (X : Gx) : Prop := X.us.length = X.ls.length
theorem Grf.full {w : World} {X : Gx} {χ : Nat → Nat} (h : Grf w X χ) (hf : Full X) : Core w X χ (Gm.run X.ops) := by
  have h1 := h.toCore
  rw [hf, List.take_of_length_le (by unfold Gx.ops; rw [List.length_map]; exact Nat.le_refl _)] at h1
  exact h1
/-- ops are the lines' -/
theorem like_ops {X X' : Gx} (h : Like2 X X') : X'.ops = X.ops := by unfold Gx.ops; rw [h.ls]
set_option maxRecDepth 100000 in
set_option maxHeartbeats 1000000 in
theorem gours_any {b gg : Nat} (w : World) (h : AgAt w gg #[ptV b]) : Calls Tryz.prog 30 #[ptV gg] w fun e w' => e = .returned (.bool true) ∧ w = w' := by
  have y : w.cell? ⟨gg, 0, none⟩ = some (ptV b) := (AgAt.cell h 0).trans rfl
  clear h
  go_enter Tryz.func30, Tryz.ntmps30
  go_wp2
  go_ret
  exact ⟨rfl, rfl⟩
/-- now, of a graph -/
theorem gnow_any {gg : Nat} {ops : List Pm.Wr} {χ : Nat → Nat} (w : World) (h : Gra w gg ops χ) :
    Calls Tryz.prog 31 #[ptV gg] w fun e w' => ∃ X χ', e = .returned (ptV X.b) ∧ Grf w' X χ' ∧ Full X ∧ X.lk = 0 ∧ X.ops = ops ∧ AgAt w' gg #[ptV X.b] ∧ χ' gg = χ gg ∧ Goes w χ w' χ' := by
  obtain ⟨⟨X, h1, h2, h3, h4⟩, h5⟩ := h
  refine (now_any w h2 h3 h1).mono ?_
  rintro e w' ⟨rfl, X', χ', k1, k2, k3, k4⟩
  refine ⟨X', χ', by rw [k2.b], k1, ?_, by rw [k2.lk, h3], (like_ops k2).trans h4, ?_, k4.keep _ (AgAt.lt h1), k4⟩
  · unfold Full; rw [k3, k2.ls]
  · rw [k2.b]
    exact h1.block (k4.turns.block _ (AgAt.lt h1) (by rcases h5 with h5 | h5 <;> rw [h5] <;> decide))
/-- a state found at a graph is a graph -/
theorem gra_of {w : World} {gg : Nat} {X : Gx} {χ : Nat → Nat} (h : Grf w X χ) (hl : X.lk = 0) (hg : AgAt w gg #[ptV X.b]) (hz : χ gg = 0 ∨ χ gg = 6) : Gra w gg X.ops χ := ⟨⟨X, hg, h, hl, rfl⟩, hz⟩

/-- n ops stand ahead of a stamp; is it there? -/
def Found (ops : List Pm.Wr) (s : Qm.St) (n : Nat) (b : Bool) : Prop := n ≤ ops.length ∧ (b = false → Gm.Spot ops s n ∧ Gm.there ops s = false) ∧ (b = true → ∃ x, ops[n]? = some x ∧ x.s = s)
theorem rising_stamps {ops : List Pm.Wr} (h : Gm.Ops ops) : Qm.Rising (ops.map fun x => x.s) := by
  unfold Qm.Rising
  rw [List.pairwise_map]
  exact h.up
theorem found_of {ops : List Pm.Wr} {s : Qm.St} {n : Nat} {b : Bool} (ho : Gm.Ops ops) (h : Placed (ops.map fun x => x.s) s n b) : Found ops s n b := by
  obtain ⟨h1, h2, h3, h4⟩ := h
  rw [List.length_map] at h1 h3 h4
  have hst : ∀ i (hi : i < ops.length), Qm.stOf (ops.map fun x => x.s) i = ops[i].s := fun i hi => by rw [Qm.stOf_lt (by rw [List.length_map]; exact hi), List.getElem_map]
  refine ⟨h1, fun hb => ?_, fun hb => ?_⟩
  · have hne : ¬ (n < ops.length ∧ Qm.stOf (ops.map fun x => x.s) n = s) := by rw [hb] at h4; exact of_decide_eq_false h4.symm
    have hlo : ∀ x ∈ ops.take n, Qm.ltS x.s s := fun x hx => by
      obtain ⟨i, hi, rfl⟩ := List.mem_take_iff_getElem.1 hx
      have h5 := h2 i (by omega)
      rwa [hst i (by omega)] at h5
    have hhi : ∀ x ∈ ops.drop n, Qm.ltS s x.s := fun x hx => by
      obtain ⟨i, hi, rfl⟩ := List.mem_drop_iff_getElem.1 hx
      have hn : n < ops.length := by omega
      have h6 : Qm.ltS s ops[n].s := by
        rcases Qm.ltS_tri ops[n].s s with h | h | h
        · exact absurd (by rw [hst n hn]; exact h) (h3 hn)
        · exact absurd ⟨hn, (hst n hn).trans h⟩ hne
        · exact h
      by_cases e : i = 0
      · subst e; exact h6
      · exact Qm.ltS_trans h6 ((List.pairwise_iff_getElem.1 ho.up) n (n + i) hn (by omega) (by omega))
    refine ⟨⟨h1, hlo, hhi⟩, ?_⟩
    cases e : Gm.there ops s with
    | false => rfl
    | true =>
      obtain ⟨x, hx, hs⟩ := Gm.there_iff.1 e
      rw [← List.take_append_drop n ops] at hx
      rcases List.mem_append.1 hx with hx | hx
      · have := hlo x hx; rw [hs] at this; exact absurd this (Qm.ltS_irrefl _)
      · have := hhi x hx; rw [hs] at this; exact absurd this (Qm.ltS_irrefl _)
  · rw [hb] at h4
    obtain ⟨k1, k2⟩ := of_decide_eq_true h4.symm
    exact ⟨ops[n], List.getElem?_eq_getElem k1, by rw [← hst n k1]; exact k2⟩
set_option maxRecDepth 100000 in
set_option maxHeartbeats 4000000 in
theorem find_any {X : Gx} {χ : Nat → Nat} {g : Gm.G} (s : Qm.St) (w : World) (h : Core w X χ g) :
    Calls Tryz.prog 38 #[ptV X.b, snV s] w fun e w' => ∃ n b, e = .returned (intB n b) ∧ Found X.ops s n b ∧ Below w.heap.size w w' := by
  have hb := (Below.refl w.heap.size w).alloc (Nat.le_refl _) (.cells (stA s) 35)
  have HC := Lib.hid (h.kept hb)
  have HN := Lib.hid (AgAt.new w (stA s) 35)
  have HB := Lib.hid hb
  obtain ⟨po, co, hpo, -⟩ := own_sliceG h.ro
  have HPO := Lib.hid hpo
  have HSE := Lib.hid (fun (W : World) (hc : Core W X χ g) => show Calls Tryz.prog 74 #[.slice po X.ls.length co, snV s, .func (.func 75) #[] #[]] W (Searched (X.ops.map fun x => x.s) s W) from by
    have h1 := lsearch_any po co X.ls (X.ops.map fun x => x.s) s.1 s.2 W (by unfold Gx.ops; rw [List.map_map]; rfl) ⟨by
      have h2 := hc.ro
      rw [HPO.out] at h2
      obtain ⟨p2, c2, hv, hrd, -⟩ := own_rd h2
      cases hv
      exact hrd, fun e he => (hc.ln e he).2⟩ (rising_stamps hc.ops) (by unfold Gx.ops; rw [List.length_map, List.length_map]; have := hc.few; omega)
    rw [show (X.ops.map fun x => x.s).length = X.ls.length from by unfold Gx.ops; rw [List.length_map, List.length_map]] at h1
    exact h1)
  clear h hb hpo
  go_enter Tryz.func38, Tryz.ntmps38
  go_upto_region 1 with fail
  generalize w.alloc (.cells (stA s) 35) = w1 at *
  have hbd := Below.drew (Below.refl w1.heap.size w1)
  replace HC := Lib.hid (HC.out.kept hbd)
  replace HN := Lib.hid (AgAt.kept HN.out hbd)
  replace HB := Lib.hid (HB.out.trans (hbd.mono HB.out.size))
  clear hbd
  refine wp_region_held_drew (S := fun W => Below w1.drew.heap.size w1.drew W) (by kernel_rfl) (Below.refl _ _) (fun hS => ?_)
  generalize w1.drew = wd at *
  refine wpAnyH_take (i := 0) (v := ?_) rfl (by kernel_rfl) (by kernel_rfl) (by kernel_rfl) (fun _ _ _ h => h) (Or.inl ⟨by kernel_rfl, ?_⟩) hS ?_
  rotate_left
  · intro W hSW
    go_simp
    all_goals with_reducible rfl
  refine wpAnyH_take (i := 1) (v := ?_) rfl (by kernel_rfl) (by kernel_rfl) (by kernel_rfl) (fun _ _ _ h => h) (Or.inl ⟨by kernel_rfl, ?_⟩) hS ?_
  rotate_left
  · intro W hSW
    go_simp
    all_goals with_reducible rfl
  refine wpAnyH_take (i := 2) (v := ?_) rfl (by kernel_rfl) (by kernel_rfl) (by kernel_rfl) (fun _ _ _ h => h) (Or.inl ⟨by kernel_rfl, ?_⟩) hS ?_
  rotate_left
  · intro W hSW
    go_simp
    all_goals with_reducible rfl
  refine wpAnyH_take (i := 3) (v := ?_) rfl (by kernel_rfl) (by kernel_rfl) (by kernel_rfl) (fun _ _ _ h => h) (Or.inl ⟨by kernel_rfl, ?_⟩) hS ?_
  rotate_left
  · intro W hSW
    have y := (HC.out.kept hSW).cO
    rw [HPO.out] at y
    go_simp
    all_goals with_reducible rfl
  go_simp
  refine wpAnyH_take (i := 4) (v := snV s) rfl (by kernel_rfl) (by kernel_rfl) (by kernel_rfl) (fun _ _ _ h => h) (Or.inl ⟨by kernel_rfl, fun W hSW => exec_load_ag stT rfl rfl rfl (AgAt.kept HN.out hSW)⟩) hS ?_
  go_simp
  refine wpAnyH_ready (rs := [5]) (by kernel_rfl) (by simp) ?_
  refine AllReadyH.cons rfl (fun K hK => ?_) AllReadyH.nil
  go_simp
  go_wp2_with (go_at_call 74; refine (HSE.out _ (HC.out.kept hS)).mono ?_; rintro e w5 ⟨n, b, rfl, hp5, hb5⟩)
  have HF := Lib.hid (found_of HC.out.ops hp5)
  refine hK.out _ _ (hS.trans (hb5.mono hS.size)) (fun hS => ?_)
  clear hK K hp5 hb5
  unfold intB
  refine wpAnyH_take (i := 6) (v := ?_) rfl (by kernel_rfl) (by kernel_rfl) (by kernel_rfl) (fun _ _ _ h => h) (Or.inl ⟨by kernel_rfl, ?_⟩) hS ?_
  rotate_left
  · intro W hSW
    go_simp
    all_goals with_reducible rfl
  refine wpAnyH_take (i := 7) (v := ?_) rfl (by kernel_rfl) (by kernel_rfl) (by kernel_rfl) (fun _ _ _ h => h) (Or.inl ⟨by kernel_rfl, ?_⟩) hS ?_
  rotate_left
  · intro W hSW
    go_simp
    all_goals with_reducible rfl
  refine wpAnyH_take (i := 8) (v := ?_) rfl (by kernel_rfl) (by kernel_rfl) (by kernel_rfl) (fun _ _ _ h => h) (Or.inl ⟨by kernel_rfl, ?_⟩) hS ?_
  rotate_left
  · intro W hSW
    go_simp
    all_goals with_reducible rfl
  refine wpAnyH_take (i := 9) (v := ?_) rfl (by kernel_rfl) (by kernel_rfl) (by kernel_rfl) (fun _ _ _ h => h) (Or.inl ⟨by kernel_rfl, ?_⟩) hS ?_
  rotate_left
  · intro W hSW
    go_simp
    all_goals with_reducible rfl
  go_simp
  refine wpAnyH_done (by kernel_rfl) ?_ _
  go_simp
  have HE := Lib.hid (show ∃ n' b', Ending.returned (.tuple #[.int .i64 (n : Int), .bool b]) = .returned (intB n' b') ∧ Found X.ops s n' b' ∧ Below w.heap.size w w5 from ⟨n, b, rfl, HF.out, HB.out.trans (hS.mono HB.out.size)⟩)
  clear hS HF HC HN HB HSE
  go_wp2
  go_ret2
  exact HE.out
end Go.Proofs.YthifdefjmfakgaaGreat
