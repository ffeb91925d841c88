/-
  The program's Spot, Add and Drop.
  No conditions but sizes.
-/
import Derived.Test.YthifdefjmfakgaaGreatGW
import Derived.Laws.ResultCell
namespace Go.Proofs.YthifdefjmfakgaaGreat
open Go.RowKit
open Tm (Sp Tr has put cut kids)

theorem results_two {t : TypeId} {n : Nat} {A : Array Value} {w : World} (V : AgT t n) {fn : Func} {p u : Tmp} (tmps : Array Value) {g : Nat} {v : Value} (h : fn.results = #[.cell p t, .tmp u]) (hn : A.size = n) (hv : AgAt w g A) (hp : tmps.getD p undef = .pointer (some ⟨g, 0, none⟩)) (hu : tmps.getD u undef = v) :
    (results fn tmps).run Tryz.prog w = .ok (.tuple #[.agg A, v]) w := by
  obtain ⟨T, hv⟩ := hv
  obtain ⟨d, hd⟩ := V.und
  rw [results_cell_tmp h, hp, hu]
  simp [asAddr, Result.andThen, run_loadVar_row w g T t _ (0, 0) _ hv hd rfl (by rw [hn]; exact V.size)]
theorem wp_store_ag {t : TypeId} {n : Nat} {A : Array Value} {w : World} (V : AgT t n) {o : Oper} {a : Act} {K : Act → World → Prop} {Q : Exit → Act → World → Prop} (x y : Operand) (ho : o.op = .store t x y)
    (b : Nat) (hx : a.eval x = .pointer (some ⟨b, 0, none⟩)) (u : Array Value) (hv : AgAt w b u) (hy : a.eval y = .agg A) (hu : u.size = n) (hn : A.size = n) (h1 : A.all (·.oneCell') = true)
    (h : ∀ w' : World, AgAt w' b A → (∀ k, k ≠ b → w'.heap[k]? = w.heap[k]?) → w'.heap.size = w.heap.size → (∀ B w0, Below B w0 w → B ≤ b → Below B w0 w') → K (a.put o.dst undef) w') : Oper.wp Tryz.prog o a w K Q := by
  obtain ⟨T, hv⟩ := hv
  have hr : (storeVar t ⟨b, 0, none⟩ (.agg A)).run Tryz.prog w = .ok () (w.setRow b A) := run_storeVar_row w b T t u A hv (by rw [hn]; exact V.size) (by rw [hu, hn]) h1
  have hk : K (a.put o.dst undef) (w.setRow b A) := by
    refine h _ ⟨T, setRow_heap w b _ _ T _ hv⟩ (fun k hk => setRow_other w b k _ hk) (by simp) ?_
    intro B w0 hb hB
    exact hb.trans ⟨rfl, rfl, rfl, by simp, fun k hk => setRow_other w b k _ (by omega)⟩
  unfold Oper.wp execOp
  simp only [ho, hx, hy, Instr.storeAt, Instr.sureAddr, Sem.run_bind, Sem.run_pure, Result.andThen_ok, hr]
  exact hk

/-- what an act leaves -/
def Acted (P M1 M2 : Nat) (F : Nat → Prop) (T' : Tr) (v : Value) (w : World) (e : Ending) (w' : World) : Prop :=
  e = .returned v ∧ ∃ C', Lay w' P M1 M2 T' C' (fun k => F k ∨ (w.heap.size ≤ k ∧ k < w'.heap.size)) ∧ Turns F w w'
section
variable {w w' : World} {P M1 M2 : Nat} {T : Tr} {C : List Kid} {F : Nat → Prop}
theorem Lay.wide (h : Lay w P M1 M2 T C F) (n : Nat) : Lay w P M1 M2 T C (fun k => F k ∨ (n ≤ k ∧ k < w.heap.size)) := h.more (fun _ hk => Or.inl hk) fun k hk => hk.elim (fun h1 => h.lt k h1) fun h1 => h1.2
theorem Acted.same {v : Value} (h : Lay w P M1 M2 T C F) (hb : Below w.heap.size w w') : Acted P M1 M2 F T v w (.returned v) w' := ⟨rfl, C, (h.kept hb).wide _, Turns.of_below hb⟩
theorem Acted.laid {n : Qm.St} {s : Sp} {v : Value} {w2 w3 : World} {e : Ending} (h : Lay w P M1 M2 T C F) (hb : Below w.heap.size w w2) (hl : Laid P M1 M2 T F n s w2 e w3) : Acted P M1 M2 F (put T n s) v w (.returned v) w3 := by
  obtain ⟨-, C', h2, ht⟩ := hl
  exact ⟨rfl, C', h2.more (fun k hk => hk.imp id fun h => ⟨Nat.le_trans hb.size h.1, h.2⟩) (fun k hk => hk.elim (fun h1 => Nat.lt_of_lt_of_le (h.lt k h1) (Nat.le_trans hb.size ht.size)) fun h => h.2), (Turns.of_below hb).trans (ht.mono fun k _ hk => Or.inl hk)⟩
end

set_option maxRecDepth 100000 in
set_option maxHeartbeats 4000000 in
theorem spot_any {P M1 M2 : Nat} {T : Tr} {C : List Kid} {F : Nat → Prop} (n : Qm.St) (w : World) (h : Lay w P M1 M2 T C F) (hn : StWf n) :
    Calls Tryz.prog 60 #[.pointer (some ⟨P, 0, none⟩), snV n] w fun e w' => e = .returned (.tuple #[.agg (spA ((Tm.look T n).getD zS)), .bool (Tm.look T n).isSome]) ∧ Below w.heap.size w w' := by
  have h1 : ∀ (w : World) (o : Obj), Below w.heap.size w (w.alloc o) := fun w o => (Below.refl _ _).alloc (Nat.le_refl _) _
  have hb := (h1 w (.cells #[.int .i64 n.1, .int .i64 n.2] 35)).trans ((h1 (w.alloc (.cells #[.int .i64 n.1, .int .i64 n.2] 35)) (.cells #[.int .i64 0, .int .i64 0, .string ⟨#[]⟩] 72)).mono (by simp))
  have HB0 := Lib.hid ((AgAt.new w #[.int .i64 n.1, .int .i64 n.2] 35).kept (h1 _ (.cells #[.int .i64 0, .int .i64 0, .string ⟨#[]⟩] 72)))
  have HB1 := Lib.hid (show AgAt ((w.alloc (.cells #[.int .i64 n.1, .int .i64 n.2] 35)).alloc (.cells #[.int .i64 0, .int .i64 0, .string ⟨#[]⟩] 72)) (w.heap.size + 1) #[.int .i64 0, .int .i64 0, .string ⟨#[]⟩] from by
    have := AgAt.new (w.alloc (.cells #[.int .i64 n.1, .int .i64 n.2] 35)) #[.int .i64 0, .int .i64 0, .string ⟨#[]⟩] 72
    rw [show (w.alloc (.cells #[.int .i64 n.1, .int .i64 n.2] 35)).heap.size = w.heap.size + 1 from by simp] at this
    exact this)
  have HL := Lib.hid (h.kept hb)
  have HT := Lib.hid hb
  have HWN := Lib.hid hn
  have HLT := Lib.hid h.lt
  obtain ⟨ib, hib⟩ : ∃ b, b = (Tm.look T n).isSome := ⟨_, rfl⟩
  obtain ⟨va, hva⟩ : ∃ s, s = (Tm.look T n).getD zS := ⟨_, rfl⟩
  have HIB := Lib.hid hib
  have HVA := Lib.hid hva
  clear h hb hn h1 hib hva
  go_enter Tryz.func60, Tryz.ntmps60
  go_wp2_with fail
  refine (ours_any _ HL.out).mono ?_
  rintro e w1 ⟨rfl, rfl⟩
  generalize (w.alloc (.cells #[.int .i64 n.1, .int .i64 n.2] 35)).alloc (.cells #[.int .i64 0, .int .i64 0, .string ⟨#[]⟩] 72) = w1 at *
  go_upto_region 3 with fail
  have hbd := Below.drew (Below.refl w1.heap.size w1)
  replace HL := Lib.hid (HL.out.kept hbd)
  replace HB0 := Lib.hid (AgAt.kept HB0.out hbd)
  replace HB1 := Lib.hid (AgAt.kept HB1.out hbd)
  replace HT := Lib.hid (HT.out.trans (hbd.mono HT.out.size))
  refine wp_region_held_drew (S := fun W => Below w1.drew.heap.size w1.drew W) (by kernel_rfl) (Below.refl _ _) (fun hS => ?_)
  clear hbd
  generalize w1.drew = wd at *
  refine wpAnyH_take (i := 0) (v := ?_) rfl (by kernel_rfl) (by kernel_rfl) (by kernel_rfl) (fun _ _ _ h => h) (Or.inl ⟨by kernel_rfl, ?_⟩) hS ?_
  rotate_left
  · intro W hSW
    go_simp
    all_goals with_reducible rfl
  refine wpAnyH_take (i := 1) (v := ?_) rfl (by kernel_rfl) (by kernel_rfl) (by kernel_rfl) (fun _ _ _ h => h) (Or.inl ⟨by kernel_rfl, ?_⟩) hS ?_
  rotate_left
  · intro W hSW
    go_simp
    all_goals with_reducible rfl
  refine wpAnyH_take (i := 2) (v := ?_) rfl (by kernel_rfl) (by kernel_rfl) (by kernel_rfl) (fun _ _ _ h => h) (Or.inl ⟨by kernel_rfl, ?_⟩) hS ?_
  rotate_left
  · intro W hSW
    go_simp
    all_goals with_reducible rfl
  refine wpAnyH_take (i := 3) (v := ?_) rfl (by kernel_rfl) (by kernel_rfl) (by kernel_rfl) (fun _ _ _ h => h) (Or.inl ⟨by kernel_rfl, ?_⟩) hS ?_
  rotate_left
  · intro W hSW
    have y0 := (HL.out.kept hSW).cell0
    go_simp
    all_goals with_reducible rfl
  go_simp
  refine wpAnyH_take (i := 4) (v := snV n) rfl (by kernel_rfl) (by kernel_rfl) (by kernel_rfl) (fun _ _ _ h => h) (Or.inl ⟨by kernel_rfl, fun W hSW => exec_load_ag stT rfl rfl rfl (AgAt.kept HB0.out hSW)⟩) hS ?_
  go_simp
  refine wpAnyH_take (i := 5) (v := .tuple #[.agg (spA va), .bool ib]) rfl (by kernel_rfl) (by kernel_rfl) (by kernel_rfl) (fun _ _ _ h => h) (Or.inl ⟨by kernel_rfl, fun W hSW => exec_lookup rfl rfl rfl (by rw [HIB.out, HVA.out]; exact (HL.out.kept hSW).look1 _ HWN.out)⟩) hS ?_
  refine wpAnyH_take (i := 6) (v := ?_) rfl (by kernel_rfl) (by kernel_rfl) (by kernel_rfl) (fun _ _ _ h => h) (Or.inl ⟨by kernel_rfl, ?_⟩) hS ?_
  rotate_left
  · intro W hSW
    go_simp
    all_goals with_reducible rfl
  refine wpAnyH_take (i := 7) (v := ?_) rfl (by kernel_rfl) (by kernel_rfl) (by kernel_rfl) (fun _ _ _ h => h) (Or.inl ⟨by kernel_rfl, ?_⟩) hS ?_
  rotate_left
  · intro W hSW
    go_simp
    all_goals with_reducible rfl
  refine wpAnyH_take (i := 8) (v := ?_) rfl (by kernel_rfl) (by kernel_rfl) (by kernel_rfl) (fun _ _ _ h => h) (Or.inl ⟨by kernel_rfl, ?_⟩) hS ?_
  rotate_left
  · intro W hSW
    go_simp
    all_goals with_reducible rfl
  go_simp
  refine wpAnyH_ready (rs := [9]) (by kernel_rfl) (by simp) ?_
  refine AllReadyH.cons rfl (fun K hK => ?_) AllReadyH.nil
  have HS0 := Lib.hid hS
  go_simp
  have hba := (Below.refl wd.heap.size wd).alloc (Nat.le_refl _) (.cells #[.int .i64 0, .int .i64 0, .string ⟨#[]⟩] 72)
  refine hK.out _ _ (hS.trans (hba.mono hS.size)) (fun hS => ?_)
  clear hK K hba
  refine wpAnyH_ready (rs := [10]) (by kernel_rfl) (by simp) ?_
  refine AllReadyH.cons rfl (fun K hK => ?_) AllReadyH.nil
  refine step_of (by kernel_rfl) ?_
  refine wp_store_newag spT _ _ rfl rfl _ (A := spA va) rfl rfl rfl (spA_one _) ?_
  intro w5 hv5 hb5
  have HV5 := Lib.hid hv5
  have HB5 := Lib.hid hb5
  refine hK.out _ _ (HS0.out.trans (hb5.mono HS0.out.size)) (fun hS => ?_)
  clear hK K hv5 hb5
  refine wpAnyH_take (i := 11) (v := ?_) rfl (by kernel_rfl) (by kernel_rfl) (by kernel_rfl) (fun _ _ _ h => h) (Or.inl ⟨by kernel_rfl, ?_⟩) hS ?_
  rotate_left
  · intro W hSW
    go_simp
    all_goals with_reducible rfl
  go_simp
  refine wpAnyH_done (by kernel_rfl) ?_ _
  go_simp
  replace HT := Lib.hid (HT.out.trans (hS.mono HT.out.size))
  have HR1 := Lib.hid (AgAt.kept HB1.out hS)
  have HW1 := Lib.hid (AgAt.lt HB1.out)
  clear hS HB5 HS0 HL HB0 HB1
  go_wp2_with (first | (refine wpList_load_ag spT (by kernel_rfl) _ rfl _ rfl (A := spA va) rfl HV5.out ?_) | (refine wpList_store_ag spT rfl _ _ rfl _ rfl _ HR1.out rfl rfl rfl (spA_one _) ?_; intro w6 hv6 hko6 hsz6 hbn6))
  refine bodyPost_ret (results_two spT _ rfl rfl hv6 rfl rfl) rfl ?_
  rw [HIB.out, HVA.out]
  exact ⟨rfl, hbn6 _ _ HT.out (by omega)⟩

set_option maxRecDepth 100000 in
set_option maxHeartbeats 8000000 in
theorem add_any {P M1 M2 : Nat} {T : Tr} {C : List Kid} {F : Nat → Prop} (n : Qm.St) (s : Sp) (w : World) (h : Lay w P M1 M2 T C F) (hn : StWf n) (hs : StWf s.1) (hk : s.2.size ≤ 140737488355328) :
    Calls Tryz.prog 139 #[.pointer (some ⟨P, 0, none⟩), snV n, spV s] w (Acted P M1 M2 F (Tm.addT T n s).1 (.int .i64 (Tm.addT T n s).2) w) := by
  have h1 : ∀ (w : World) (o : Obj), Below w.heap.size w (w.alloc o) := fun w o => (Below.refl _ _).alloc (Nat.le_refl _) _
  have hb := (h1 w (.cells #[.int .i64 n.1, .int .i64 n.2] 35)).trans ((h1 (w.alloc (.cells #[.int .i64 n.1, .int .i64 n.2] 35)) (.cells (spA s) 72)).mono (by simp))
  have HB0 := Lib.hid ((AgAt.new w #[.int .i64 n.1, .int .i64 n.2] 35).kept (h1 _ (.cells (spA s) 72)))
  have HB1 := Lib.hid (show AgAt ((w.alloc (.cells #[.int .i64 n.1, .int .i64 n.2] 35)).alloc (.cells (spA s) 72)) (w.heap.size + 1) (spA s) from by
    have := AgAt.new (w.alloc (.cells #[.int .i64 n.1, .int .i64 n.2] 35)) (spA s) 72
    rw [show (w.alloc (.cells #[.int .i64 n.1, .int .i64 n.2] 35)).heap.size = w.heap.size + 1 from by simp] at this
    exact this)
  have HL := Lib.hid (h.kept hb)
  have HT := Lib.hid hb
  have HWN := Lib.hid hn
  have HLT := Lib.hid h.lt
  obtain ⟨ib, hib⟩ : ∃ b, b = (Tm.look T n).isSome := ⟨_, rfl⟩
  obtain ⟨va, hva⟩ : ∃ s, s = (Tm.look T n).getD zS := ⟨_, rfl⟩
  have HIB := Lib.hid hib
  have HVA := Lib.hid hva
  have HWS := Lib.hid hs
  have HKY := Lib.hid hk
  obtain ⟨nb, hnb⟩ : ∃ b, b = okNode n.1 n.2 := ⟨_, rfl⟩
  obtain ⟨rb, hrb⟩ : ∃ b, b = Tm.rightSp s := ⟨_, rfl⟩
  obtain ⟨pb, hhb⟩ : ∃ b, b = has T s.1 := ⟨_, rfl⟩
  have HNB := Lib.hid hnb
  have HRB := Lib.hid hrb
  have HHB := Lib.hid hhb
  have HR1 := Lib.hid (fun (k1 : (Tm.okN n && Tm.rightSp s) = false) W (hW : Below w.heap.size w W) => show Acted P M1 M2 F (Tm.addT T n s).1 (.int .i64 (Tm.addT T n s).2) w (.returned (.int .i64 1)) W from by
    unfold Tm.addT; rw [if_pos k1]; exact Acted.same h hW)
  have HR4 := Lib.hid (fun (k1 : ¬ (Tm.okN n && Tm.rightSp s) = false) (k2 : (Tm.look T n).isSome = true) W (hW : Below w.heap.size w W) => show Acted P M1 M2 F (Tm.addT T n s).1 (.int .i64 (Tm.addT T n s).2) w (.returned (.int .i64 4)) W from by
    unfold Tm.addT; rw [if_neg k1, if_pos k2]; exact Acted.same h hW)
  have HR3 := Lib.hid (fun (k1 : ¬ (Tm.okN n && Tm.rightSp s) = false) (k2 : (Tm.look T n).isSome = false) (k3 : has T s.1 = false) W (hW : Below w.heap.size w W) => show Acted P M1 M2 F (Tm.addT T n s).1 (.int .i64 (Tm.addT T n s).2) w (.returned (.int .i64 3)) W from by
    unfold Tm.addT; rw [if_neg k1, if_neg (by rw [k2]; simp), if_pos k3]; exact Acted.same h hW)
  have HR7 := Lib.hid (fun (k1 : ¬ (Tm.okN n && Tm.rightSp s) = false) (k2 : (Tm.look T n).isSome = false) (k3 : has T s.1 = true) (k4 : 65536 ≤ T.length) W (hW : Below w.heap.size w W) => show Acted P M1 M2 F (Tm.addT T n s).1 (.int .i64 (Tm.addT T n s).2) w (.returned (.int .i64 7)) W from by
    unfold Tm.addT; rw [if_neg k1, if_neg (by rw [k2]; simp), if_neg (by rw [k3]; simp), if_pos k4]; exact Acted.same h hW)
  have HR0 := Lib.hid (fun (k1 : ¬ (Tm.okN n && Tm.rightSp s) = false) (k2 : (Tm.look T n).isSome = false) (k3 : has T s.1 = true) (k4 : ¬ 65536 ≤ T.length) w2 (hW : Below w.heap.size w w2) e W (hl : Laid P M1 M2 T F n s w2 e W) => show Acted P M1 M2 F (Tm.addT T n s).1 (.int .i64 (Tm.addT T n s).2) w (.returned (.int .i64 0)) W from by
    unfold Tm.addT; rw [if_neg k1, if_neg (by rw [k2]; simp), if_neg (by rw [k3]; simp), if_neg k4]; exact Acted.laid h hW hl)
  clear h hb hn hs hk h1 hib hva hnb hrb hhb
  go_enter Tryz.func139, Tryz.ntmps139
  go_wp2_with fail
  refine (ours_any _ HL.out).mono ?_
  rintro e w1 ⟨rfl, rfl⟩
  generalize (w.alloc (.cells #[.int .i64 n.1, .int .i64 n.2] 35)).alloc (.cells (spA s) 72) = w1 at *
  go_wp2_with (refine wpList_load_ag stT (by kernel_rfl) _ rfl _ rfl (A := #[.int .i64 n.1, .int .i64 n.2]) rfl HB0.out ?_)
  refine (onode_any _ _ _).mono ?_
  rw [← HNB.out]
  rintro e w2 ⟨rfl, hb2⟩
  replace HL := Lib.hid (HL.out.kept hb2)
  replace HB0 := Lib.hid (AgAt.kept HB0.out hb2)
  replace HB1 := Lib.hid (AgAt.kept HB1.out hb2)
  replace HT := Lib.hid (HT.out.trans (hb2.mono HT.out.size))
  clear hb2
  cases nb with
  | false =>
    have HE := Lib.hid (HR1.out (by rw [show Tm.okN n = okNode n.1 n.2 from rfl, ← HNB.out]; rfl) _ HT.out)
    clear HL HB0 HB1 HT
    go_wp2
    go_ret
    exact HE.out
  | true =>
    go_wp2_with (refine wpList_load_ag spT (by kernel_rfl) _ rfl _ rfl (A := spA s) rfl HB1.out ?_)
    refine (rightSp_any s _ HKY.out).mono ?_
    rw [← HRB.out]
    rintro e w3 ⟨rfl, hb3⟩
    replace HL := Lib.hid (HL.out.kept hb3)
    replace HB0 := Lib.hid (AgAt.kept HB0.out hb3)
    replace HB1 := Lib.hid (AgAt.kept HB1.out hb3)
    replace HT := Lib.hid (HT.out.trans (hb3.mono HT.out.size))
    clear hb3
    cases rb with
    | false =>
      have HE := Lib.hid (HR1.out (by rw [← HRB.out, Bool.and_false]) _ HT.out)
      clear HL HB0 HB1 HT
      go_wp2
      go_ret
      exact HE.out
    | true =>
      replace HR1 := Lib.hid (show ¬ (Tm.okN n && Tm.rightSp s) = false from by rw [show Tm.okN n = okNode n.1 n.2 from rfl, ← HNB.out, ← HRB.out]; simp)
      go_upto_region 3 with fail
      have hbd := Below.drew (Below.refl w3.heap.size w3)
      replace HL := Lib.hid (HL.out.kept hbd)
      replace HB0 := Lib.hid (AgAt.kept HB0.out hbd)
      replace HB1 := Lib.hid (AgAt.kept HB1.out hbd)
      replace HT := Lib.hid (HT.out.trans (hbd.mono HT.out.size))
      refine wp_region_held_drew (S := fun W => Below w3.drew.heap.size w3.drew W) (by kernel_rfl) (Below.refl _ _) (fun hS => ?_)
      clear hbd
      generalize w3.drew = wd at *
      refine wpAnyH_take (i := 0) (v := ?_) rfl (by kernel_rfl) (by kernel_rfl) (by kernel_rfl) (fun _ _ _ h => h) (Or.inl ⟨by kernel_rfl, ?_⟩) hS ?_
      rotate_left
      · intro W hSW
        go_simp
        all_goals with_reducible rfl
      refine wpAnyH_take (i := 1) (v := ?_) rfl (by kernel_rfl) (by kernel_rfl) (by kernel_rfl) (fun _ _ _ h => h) (Or.inl ⟨by kernel_rfl, ?_⟩) hS ?_
      rotate_left
      · intro W hSW
        go_simp
        all_goals with_reducible rfl
      refine wpAnyH_take (i := 2) (v := ?_) rfl (by kernel_rfl) (by kernel_rfl) (by kernel_rfl) (fun _ _ _ h => h) (Or.inl ⟨by kernel_rfl, ?_⟩) hS ?_
      rotate_left
      · intro W hSW
        go_simp
        all_goals with_reducible rfl
      refine wpAnyH_take (i := 3) (v := ?_) rfl (by kernel_rfl) (by kernel_rfl) (by kernel_rfl) (fun _ _ _ h => h) (Or.inl ⟨by kernel_rfl, ?_⟩) hS ?_
      rotate_left
      · intro W hSW
        have y0 := (HL.out.kept hSW).cell0
        go_simp
        all_goals with_reducible rfl
      go_simp
      refine wpAnyH_take (i := 4) (v := snV n) rfl (by kernel_rfl) (by kernel_rfl) (by kernel_rfl) (fun _ _ _ h => h) (Or.inl ⟨by kernel_rfl, fun W hSW => exec_load_ag stT rfl rfl rfl (AgAt.kept HB0.out hSW)⟩) hS ?_
      go_simp
      refine wpAnyH_take (i := 5) (v := .tuple #[.agg (spA va), .bool ib]) rfl (by kernel_rfl) (by kernel_rfl) (by kernel_rfl) (fun _ _ _ h => h) (Or.inl ⟨by kernel_rfl, fun W hSW => exec_lookup rfl rfl rfl (by rw [HIB.out, HVA.out]; exact (HL.out.kept hSW).look1 _ HWN.out)⟩) hS ?_
      refine wpAnyH_take (i := 6) (v := ?_) rfl (by kernel_rfl) (by kernel_rfl) (by kernel_rfl) (fun _ _ _ h => h) (Or.inl ⟨by kernel_rfl, ?_⟩) hS ?_
      rotate_left
      · intro W hSW
        go_simp
        all_goals with_reducible rfl
      refine wpAnyH_take (i := 7) (v := ?_) rfl (by kernel_rfl) (by kernel_rfl) (by kernel_rfl) (fun _ _ _ h => h) (Or.inl ⟨by kernel_rfl, ?_⟩) hS ?_
      rotate_left
      · intro W hSW
        go_simp
        all_goals with_reducible rfl
      refine wpAnyH_take (i := 8) (v := ?_) rfl (by kernel_rfl) (by kernel_rfl) (by kernel_rfl) (fun _ _ _ h => h) (Or.inl ⟨by kernel_rfl, ?_⟩) hS ?_
      rotate_left
      · intro W hSW
        go_simp
        all_goals with_reducible rfl
      go_simp
      refine wpAnyH_ready (rs := [9]) (by kernel_rfl) (by simp) ?_
      refine AllReadyH.cons rfl (fun K hK => ?_) AllReadyH.nil
      have HS0 := Lib.hid hS
      go_simp
      have hba := (Below.refl wd.heap.size wd).alloc (Nat.le_refl _) (.cells #[.int .i64 0, .int .i64 0, .string ⟨#[]⟩] 72)
      refine hK.out _ _ (hS.trans (hba.mono hS.size)) (fun hS => ?_)
      clear hK K hba
      refine wpAnyH_ready (rs := [10]) (by kernel_rfl) (by simp) ?_
      refine AllReadyH.cons rfl (fun K hK => ?_) AllReadyH.nil
      refine step_of (by kernel_rfl) ?_
      refine wp_store_newag spT _ _ rfl rfl _ (A := spA va) rfl rfl rfl (spA_one _) ?_
      intro w5 hv5 hb5
      have HV5 := Lib.hid hv5
      have HB5 := Lib.hid hb5
      refine hK.out _ _ (HS0.out.trans (hb5.mono HS0.out.size)) (fun hS => ?_)
      clear hK K hv5 hb5
      refine wpAnyH_take (i := 11) (v := ?_) rfl (by kernel_rfl) (by kernel_rfl) (by kernel_rfl) (fun _ _ _ h => h) (Or.inl ⟨by kernel_rfl, ?_⟩) hS ?_
      rotate_left
      · intro W hSW
        go_simp
        all_goals with_reducible rfl
      go_simp
      refine wpAnyH_done (by kernel_rfl) ?_ _
      go_simp
      replace HL := Lib.hid (HL.out.kept hS)
      replace HB0 := Lib.hid (AgAt.kept HB0.out hS)
      replace HB1 := Lib.hid (AgAt.kept HB1.out hS)
      replace HT := Lib.hid (HT.out.trans (hS.mono HT.out.size))
      clear hS HB5 HS0 HV5 HVA
      cases ib with
      | true =>
        have HE := Lib.hid (HR4.out HR1.out HIB.out.symm _ HT.out)
        clear HL HB0 HB1 HT
        go_wp2
        go_ret
        exact HE.out
      | false =>
        go_wp2_with (refine wpList_load_part stT rfl _ rfl _ 0 rfl [.int .i64 s.1.1, .int .i64 s.1.2] rfl HB1.out spPar ?_)
        refine (has_any s.1 _ HL.out HWS.out).mono ?_
        rw [← HHB.out]
        rintro e w6 ⟨rfl, hb6⟩
        replace HL := Lib.hid (HL.out.kept hb6)
        replace HB0 := Lib.hid (AgAt.kept HB0.out hb6)
        replace HB1 := Lib.hid (AgAt.kept HB1.out hb6)
        replace HT := Lib.hid (HT.out.trans (hb6.mono HT.out.size))
        clear hb6
        cases pb with
        | false =>
          have HE := Lib.hid (HR3.out HR1.out HIB.out.symm HHB.out.symm _ HT.out)
          clear HL HB0 HB1 HT
          go_wp2
          go_ret
          exact HE.out
        | true =>
          have y0 := HL.out.cell0
          have hln := HL.out.spots.len mtSpots 3
          by_cases h7 : 65536 ≤ T.length
          · have HE := Lib.hid (HR7.out HR1.out HIB.out.symm HHB.out.symm h7 _ HT.out)
            have d0 : decide (65536 ≤ (((Go.Proofs.YthifdefjmfakgaaGreat.spots T).length : Nat) : Int)) = true := decide_eq_true (by unfold Go.Proofs.YthifdefjmfakgaaGreat.spots; rw [List.length_map]; omega)
            clear HL HB0 HB1 HT h7
            go_wp2
            go_ret
            exact HE.out
          · have d0 : decide (65536 ≤ (((Go.Proofs.YthifdefjmfakgaaGreat.spots T).length : Nat) : Int)) = false := decide_eq_false (by unfold Go.Proofs.YthifdefjmfakgaaGreat.spots; rw [List.length_map]; omega)
            have HLAY := Lib.hid (lay_any n s _ HL.out HWN.out HWS.out (by have := HIB.out; simpa using this.symm))
            have HR0 := Lib.hid (HR0.out HR1.out HIB.out.symm HHB.out.symm h7 _ HT.out)
            clear HL HT h7
            go_wp2_with (first | (refine wpList_load_ag stT (by kernel_rfl) _ rfl _ rfl (A := #[.int .i64 n.1, .int .i64 n.2]) rfl HB0.out ?_) | (refine wpList_load_ag spT (by kernel_rfl) _ rfl _ rfl (A := spA s) rfl HB1.out ?_))
            refine HLAY.out.mono ?_
            intro e w8 h8
            have HE := Lib.hid (HR0.out _ _ h8)
            obtain ⟨rfl, -⟩ := h8
            clear HLAY
            go_wp2
            go_ret
            exact HE.out

set_option maxRecDepth 100000 in
set_option maxHeartbeats 8000000 in
theorem drop_any {P M1 M2 : Nat} {T : Tr} {C : List Kid} {F : Nat → Prop} (n : Qm.St) (w : World) (h : Lay w P M1 M2 T C F) (hn : StWf n) (hsw : ∀ s, Tm.look T n = some s → StWf s.1) :
    Calls Tryz.prog 141 #[.pointer (some ⟨P, 0, none⟩), snV n] w (Acted P M1 M2 F (Tm.dropT T n).1 (.tuple #[.agg (spA (Tm.dropT T n).2.1), .int .i64 (Tm.dropT T n).2.2]) w) := by
  have h1 : ∀ (w : World) (o : Obj), Below w.heap.size w (w.alloc o) := fun w o => (Below.refl _ _).alloc (Nat.le_refl _) _
  have hb := (h1 w (.cells #[.int .i64 n.1, .int .i64 n.2] 35)).trans ((h1 (w.alloc (.cells #[.int .i64 n.1, .int .i64 n.2] 35)) (.cells #[.int .i64 0, .int .i64 0, .string ⟨#[]⟩] 72)).mono (by simp))
  have HB0 := Lib.hid ((AgAt.new w #[.int .i64 n.1, .int .i64 n.2] 35).kept (h1 _ (.cells #[.int .i64 0, .int .i64 0, .string ⟨#[]⟩] 72)))
  have HB1 := Lib.hid (show AgAt ((w.alloc (.cells #[.int .i64 n.1, .int .i64 n.2] 35)).alloc (.cells #[.int .i64 0, .int .i64 0, .string ⟨#[]⟩] 72)) (w.heap.size + 1) #[.int .i64 0, .int .i64 0, .string ⟨#[]⟩] from by
    have := AgAt.new (w.alloc (.cells #[.int .i64 n.1, .int .i64 n.2] 35)) #[.int .i64 0, .int .i64 0, .string ⟨#[]⟩] 72
    rw [show (w.alloc (.cells #[.int .i64 n.1, .int .i64 n.2] 35)).heap.size = w.heap.size + 1 from by simp] at this
    exact this)
  have HL := Lib.hid (h.kept hb)
  have HT := Lib.hid hb
  have HWN := Lib.hid hn
  have HLT := Lib.hid h.lt
  obtain ⟨ib, hib⟩ : ∃ b, b = (Tm.look T n).isSome := ⟨_, rfl⟩
  obtain ⟨va, hva⟩ : ∃ s, s = (Tm.look T n).getD zS := ⟨_, rfl⟩
  have HIB := Lib.hid hib
  have HVA := Lib.hid hva
  have HSW := Lib.hid hsw
  have HR3 := Lib.hid (fun (k2 : (Tm.look T n).isSome = false) W (hW : Below w.heap.size w W) => show Acted P M1 M2 F (Tm.dropT T n).1 (.tuple #[.agg (spA (Tm.dropT T n).2.1), .int .i64 (Tm.dropT T n).2.2]) w (.returned (.tuple #[.agg (spA zS), .int .i64 3])) W from by
    rw [Option.isSome_eq_false_iff, Option.isNone_iff_eq_none] at k2
    unfold Tm.dropT; rw [k2]; exact Acted.same h hW)
  have HR4 := Lib.hid (fun (k2 : (Tm.look T n).isSome = true) (k3 : kids T n ≠ []) W (hW : Below w.heap.size w W) => show Acted P M1 M2 F (Tm.dropT T n).1 (.tuple #[.agg (spA (Tm.dropT T n).2.1), .int .i64 (Tm.dropT T n).2.2]) w (.returned (.tuple #[.agg (spA zS), .int .i64 4])) W from by
    obtain ⟨s, hs⟩ := Option.isSome_iff_exists.1 k2
    unfold Tm.dropT; rw [hs]; dsimp only; rw [if_neg k3]; exact Acted.same h hW)
  have HR0 := Lib.hid (fun (k2 : (Tm.look T n).isSome = true) (k3 : kids T n = []) w2 (hW : Below w.heap.size w w2) e w3 (hl : Lifted P M1 M2 T F n w2 e w3) W (hb : Turns (fun k => k = w.heap.size + 1) w3 W) => show Acted P M1 M2 F (Tm.dropT T n).1 (.tuple #[.agg (spA (Tm.dropT T n).2.1), .int .i64 (Tm.dropT T n).2.2]) w (.returned (.tuple #[.agg (spA ((Tm.look T n).getD zS)), .int .i64 0])) W from by
    obtain ⟨s, hs⟩ := Option.isSome_iff_exists.1 k2
    obtain ⟨-, C', h2, ht⟩ := hl
    unfold Tm.dropT; rw [hs]; dsimp only; rw [if_pos k3]
    have h3 := h2.turns hb fun k hk hh => by have := h.lt k hk; omega
    exact ⟨rfl, C', h3.wide _, (Turns.of_below hW).trans ((ht.mono fun k _ hk => Or.inl hk).trans (hb.mono fun k _ hk => Or.inl (Or.inr (by omega))))⟩)
  clear h hb hn hsw h1 hib hva
  go_enter Tryz.func141, Tryz.ntmps141
  go_wp2_with fail
  refine (ours_any _ HL.out).mono ?_
  rintro e w1 ⟨rfl, rfl⟩
  generalize (w.alloc (.cells #[.int .i64 n.1, .int .i64 n.2] 35)).alloc (.cells #[.int .i64 0, .int .i64 0, .string ⟨#[]⟩] 72) = w1 at *
  go_upto_region 3 with fail
  have hbd := Below.drew (Below.refl w1.heap.size w1)
  replace HL := Lib.hid (HL.out.kept hbd)
  replace HB0 := Lib.hid (AgAt.kept HB0.out hbd)
  replace HB1 := Lib.hid (AgAt.kept HB1.out hbd)
  replace HT := Lib.hid (HT.out.trans (hbd.mono HT.out.size))
  refine wp_region_held_drew (S := fun W => AgAt W P #[.map (some M1), .map (some M2)] ∧ AgAt W w.heap.size #[.int .i64 n.1, .int .i64 n.2] ∧ SMap W M1 (spots T)) (by kernel_rfl) ⟨HL.out.at_, HB0.out, HL.out.spots⟩ (fun hS => ?_)
  clear hbd
  generalize w1.drew = wd at *
  refine wpAnyH_take (i := 0) (v := ?_) rfl (by kernel_rfl) (by kernel_rfl) (by kernel_rfl) (fun _ _ _ h => h) (Or.inl ⟨by kernel_rfl, ?_⟩) hS ?_
  rotate_left
  · intro W hSW
    go_simp
    all_goals with_reducible rfl
  refine wpAnyH_take (i := 1) (v := ?_) rfl (by kernel_rfl) (by kernel_rfl) (by kernel_rfl) (fun _ _ _ h => h) (Or.inl ⟨by kernel_rfl, ?_⟩) hS ?_
  rotate_left
  · intro W hSW
    go_simp
    all_goals with_reducible rfl
  refine wpAnyH_take (i := 2) (v := ?_) rfl (by kernel_rfl) (by kernel_rfl) (by kernel_rfl) (fun _ _ _ h => h) (Or.inl ⟨by kernel_rfl, ?_⟩) hS ?_
  rotate_left
  · intro W hSW
    go_simp
    all_goals with_reducible rfl
  refine wpAnyH_take (i := 3) (v := ?_) rfl (by kernel_rfl) (by kernel_rfl) (by kernel_rfl) (fun _ _ _ h => h) (Or.inl ⟨by kernel_rfl, ?_⟩) hS ?_
  rotate_left
  · intro W hSW
    have y0 : W.cell? ⟨P, 0, none⟩ = some (.map (some M1)) := by rw [AgAt.cell hSW.1 0]; rfl
    go_simp
    all_goals with_reducible rfl
  go_simp
  refine wpAnyH_take (i := 4) (v := snV n) rfl (by kernel_rfl) (by kernel_rfl) (by kernel_rfl) (fun _ _ _ h => h) (Or.inl ⟨by kernel_rfl, fun W hSW => exec_load_ag stT rfl rfl rfl hSW.2.1⟩) hS ?_
  go_simp
  refine wpAnyH_take (i := 5) (v := .tuple #[.agg (spA va), .bool ib]) rfl (by kernel_rfl) (by kernel_rfl) (by kernel_rfl) (fun _ _ _ h => h) (Or.inl ⟨by kernel_rfl, fun W hSW => exec_lookup rfl rfl rfl ((hSW.2.2.lookOk mtSpots n HWN.out).trans (by rw [lk_spots, HIB.out, HVA.out]; cases Tm.look T n <;> rfl))⟩) hS ?_
  refine wpAnyH_take (i := 6) (v := ?_) rfl (by kernel_rfl) (by kernel_rfl) (by kernel_rfl) (fun _ _ _ h => h) (Or.inl ⟨by kernel_rfl, ?_⟩) hS ?_
  rotate_left
  · intro W hSW
    go_simp
    all_goals with_reducible rfl
  refine wpAnyH_take (i := 7) (v := ?_) rfl (by kernel_rfl) (by kernel_rfl) (by kernel_rfl) (fun _ _ _ h => h) (Or.inl ⟨by kernel_rfl, ?_⟩) hS ?_
  rotate_left
  · intro W hSW
    go_simp
    all_goals with_reducible rfl
  refine wpAnyH_take (i := 8) (v := ?_) rfl (by kernel_rfl) (by kernel_rfl) (by kernel_rfl) (fun _ _ _ h => h) (Or.inl ⟨by kernel_rfl, ?_⟩) hS ?_
  rotate_left
  · intro W hSW
    go_simp
    all_goals with_reducible rfl
  go_simp
  refine wpAnyH_ready (rs := [9]) (by kernel_rfl) (by simp) ?_
  refine AllReadyH.cons rfl (fun K hK => ?_) AllReadyH.nil
  refine step_of (by kernel_rfl) ?_
  refine wp_store_ag spT _ _ rfl _ rfl _ HB1.out (A := spA va) rfl rfl rfl (spA_one _) ?_
  intro w5 hv5 hko5 hsz5 hbn5
  have hbn := hbn5
  have ht5 := stored_turns hko5 hsz5 hbn5
  have HV5 := Lib.hid hv5
  replace HL := Lib.hid (HL.out.turns ht5 fun k hk h => by have := HLT.out k hk; omega)
  replace HB0 := Lib.hid (AgAt.block HB0.out (hko5 _ (by omega)))
  replace HT := Lib.hid (hbn5 _ _ HT.out (by omega))
  refine hK.out _ _ ⟨AgAt.block hS.1 (hko5 _ (by have := HLT.out _ HL.out.fP; omega)), AgAt.block hS.2.1 (hko5 _ (by omega)), hS.2.2.block (hko5 _ (by have := HLT.out _ HL.out.f1; omega))⟩ (fun hS => ?_)
  clear hK K hv5 hko5 hsz5 hbn5 ht5 hbn
  refine wpAnyH_take (i := 10) (v := ?_) rfl (by kernel_rfl) (by kernel_rfl) (by kernel_rfl) (fun _ _ _ h => h) (Or.inl ⟨by kernel_rfl, ?_⟩) hS ?_
  rotate_left
  · intro W hSW
    go_simp
    all_goals with_reducible rfl
  go_simp
  refine wpAnyH_done (by kernel_rfl) ?_ _
  go_simp
  clear hS HB1
  cases ib with
  | false =>
    have HE := Lib.hid (HR3.out HIB.out.symm)
    clear HL HB0
    go_wp2_with (refine wpList_store_ag spT rfl _ _ rfl _ rfl _ HV5.out (A := spA zS) rfl rfl rfl (spA_one _) ?_; intro w6 hv6 hko6 hsz6 hbn6)
    refine bodyPost_ret (results_two spT _ rfl rfl hv6 rfl rfl) rfl ?_
    exact HE.out _ (hbn6 _ _ HT.out (by omega))
  | true =>
    obtain ⟨ko, hko⟩ : ∃ k, k = kidOf C n := ⟨_, rfl⟩
    have HKO := Lib.hid hko
    clear hko
    cases ko with
    | some kb =>
      go_upto_region 6 with fail
      have hbd := Below.drew (Below.refl w5.heap.size w5)
      replace HL := Lib.hid (HL.out.kept hbd)
      replace HB0 := Lib.hid (AgAt.kept HB0.out hbd)
      replace HV5 := Lib.hid (AgAt.kept HV5.out hbd)
      replace HT := Lib.hid (HT.out.trans (hbd.mono HT.out.size))
      refine wp_region_held_drew (S := fun W => Below w5.drew.heap.size w5.drew W) (by kernel_rfl) (Below.refl _ _) (fun hS => ?_)
      clear hbd
      obtain ⟨kc, -, -, -, hk1, hk2, hk3⟩ := HL.out.kidSome HKO.out.symm
      have HLN := Lib.hid (fun W (hW : Below w5.drew.heap.size w5.drew W) => (hk1.below hW).len mtSet 3)
      have HD0 := Lib.hid (show 0 < (nodesOf kc.l).length from by unfold nodesOf; rw [List.length_map]; have := List.length_pos_iff.2 hk2; omega)
      have HE := Lib.hid (HR4.out HIB.out.symm (fun hh => hk2 (by rw [hh] at hk3; exact hk3.eq_nil)))
      clear hk1 hk2 hk3
      generalize w5.drew = w5 at *
      refine wpAnyH_take (i := 0) (v := ?_) rfl (by kernel_rfl) (by kernel_rfl) (by kernel_rfl) (fun _ _ _ h => h) (Or.inl ⟨by kernel_rfl, ?_⟩) hS ?_
      rotate_left
      · intro W hSW
        go_simp
        all_goals with_reducible rfl
      refine wpAnyH_take (i := 1) (v := ?_) rfl (by kernel_rfl) (by kernel_rfl) (by kernel_rfl) (fun _ _ _ h => h) (Or.inl ⟨by kernel_rfl, ?_⟩) hS ?_
      rotate_left
      · intro W hSW
        go_simp
        all_goals with_reducible rfl
      refine wpAnyH_take (i := 2) (v := ?_) rfl (by kernel_rfl) (by kernel_rfl) (by kernel_rfl) (fun _ _ _ h => h) (Or.inl ⟨by kernel_rfl, ?_⟩) hS ?_
      rotate_left
      · intro W hSW
        go_simp
        all_goals with_reducible rfl
      refine wpAnyH_take (i := 3) (v := ?_) rfl (by kernel_rfl) (by kernel_rfl) (by kernel_rfl) (fun _ _ _ h => h) (Or.inl ⟨by kernel_rfl, ?_⟩) hS ?_
      rotate_left
      · intro W hSW
        have y1 := (HL.out.kept hSW).cell1
        go_simp
        all_goals with_reducible rfl
      go_simp
      refine wpAnyH_take (i := 4) (v := snV n) rfl (by kernel_rfl) (by kernel_rfl) (by kernel_rfl) (fun _ _ _ h => h) (Or.inl ⟨by kernel_rfl, fun W hSW => exec_load_ag stT rfl rfl rfl (AgAt.kept HB0.out hSW)⟩) hS ?_
      go_simp
      refine wpAnyH_take (i := 5) (v := .map (some kb)) rfl (by kernel_rfl) (by kernel_rfl) (by kernel_rfl) (fun _ _ _ h => h) (Or.inl ⟨by kernel_rfl, fun W hSW => exec_lookup rfl rfl rfl (((HL.out.kept hSW).lookB n HWN.out).trans (by rw [← HKO.out]))⟩) hS ?_
      refine wpAnyH_take (i := 6) (v := ?_) rfl (by kernel_rfl) (by kernel_rfl) (by kernel_rfl) (fun _ _ _ h => h) (Or.inl ⟨by kernel_rfl, ?_⟩) hS ?_
      rotate_left
      · intro W hSW
        have hln := HLN.out W hSW
        go_simp
        all_goals with_reducible rfl
      refine wpAnyH_take (i := 7) (v := ?_) rfl (by kernel_rfl) (by kernel_rfl) (by kernel_rfl) (fun _ _ _ h => h) (Or.inl ⟨by kernel_rfl, ?_⟩) hS ?_
      rotate_left
      · intro W hSW
        have d0 := HD0.out
        go_simp
        all_goals with_reducible rfl
      go_simp
      refine wpAnyH_done (by kernel_rfl) ?_ _
      go_simp
      clear hS HL HB0
      go_wp2_with (refine wpList_store_ag spT rfl _ _ rfl _ rfl _ HV5.out (A := spA zS) rfl rfl rfl (spA_one _) ?_; intro w6 hv6 hko6 hsz6 hbn6)
      refine bodyPost_ret (results_two spT _ rfl rfl hv6 rfl rfl) rfl ?_
      exact HE.out _ (hbn6 _ _ HT.out (by omega))
    | none =>
      go_upto_region 6 with fail
      have hbd := Below.drew (Below.refl w5.heap.size w5)
      replace HL := Lib.hid (HL.out.kept hbd)
      replace HB0 := Lib.hid (AgAt.kept HB0.out hbd)
      replace HV5 := Lib.hid (AgAt.kept HV5.out hbd)
      replace HT := Lib.hid (HT.out.trans (hbd.mono HT.out.size))
      refine wp_region_held_drew (S := fun W => Below w5.drew.heap.size w5.drew W) (by kernel_rfl) (Below.refl _ _) (fun hS => ?_)
      clear hbd
      have HLN := Lib.hid (fun W (_ : Below w5.drew.heap.size w5.drew W) => len_none (w := W) mtSet 3)
      have HD0 := Lib.hid (show decide ((0 : Int) < 0) = false from rfl)
      have HE := Lib.hid (HR0.out HIB.out.symm (HL.out.kidNone HKO.out.symm))
      have HLI := Lib.hid (show Calls Tryz.prog 161 #[.pointer (some ⟨P, 0, none⟩), snV n, .agg (spA va)] w5.drew (Lifted P M1 M2 T F n w5.drew) from by
        obtain ⟨s, hs⟩ := Option.isSome_iff_exists.1 HIB.out.symm
        have : va = s := by rw [HVA.out, hs]; rfl
        subst this
        exact lift_any n va _ HL.out (HSW.out va hs) hs)
      generalize w5.drew = w5 at *
      refine wpAnyH_take (i := 0) (v := ?_) rfl (by kernel_rfl) (by kernel_rfl) (by kernel_rfl) (fun _ _ _ h => h) (Or.inl ⟨by kernel_rfl, ?_⟩) hS ?_
      rotate_left
      · intro W hSW
        go_simp
        all_goals with_reducible rfl
      refine wpAnyH_take (i := 1) (v := ?_) rfl (by kernel_rfl) (by kernel_rfl) (by kernel_rfl) (fun _ _ _ h => h) (Or.inl ⟨by kernel_rfl, ?_⟩) hS ?_
      rotate_left
      · intro W hSW
        go_simp
        all_goals with_reducible rfl
      refine wpAnyH_take (i := 2) (v := ?_) rfl (by kernel_rfl) (by kernel_rfl) (by kernel_rfl) (fun _ _ _ h => h) (Or.inl ⟨by kernel_rfl, ?_⟩) hS ?_
      rotate_left
      · intro W hSW
        go_simp
        all_goals with_reducible rfl
      refine wpAnyH_take (i := 3) (v := ?_) rfl (by kernel_rfl) (by kernel_rfl) (by kernel_rfl) (fun _ _ _ h => h) (Or.inl ⟨by kernel_rfl, ?_⟩) hS ?_
      rotate_left
      · intro W hSW
        have y1 := (HL.out.kept hSW).cell1
        go_simp
        all_goals with_reducible rfl
      go_simp
      refine wpAnyH_take (i := 4) (v := snV n) rfl (by kernel_rfl) (by kernel_rfl) (by kernel_rfl) (fun _ _ _ h => h) (Or.inl ⟨by kernel_rfl, fun W hSW => exec_load_ag stT rfl rfl rfl (AgAt.kept HB0.out hSW)⟩) hS ?_
      go_simp
      refine wpAnyH_take (i := 5) (v := .map (none)) rfl (by kernel_rfl) (by kernel_rfl) (by kernel_rfl) (fun _ _ _ h => h) (Or.inl ⟨by kernel_rfl, fun W hSW => exec_lookup rfl rfl rfl (((HL.out.kept hSW).lookB n HWN.out).trans (by rw [← HKO.out]))⟩) hS ?_
      refine wpAnyH_take (i := 6) (v := ?_) rfl (by kernel_rfl) (by kernel_rfl) (by kernel_rfl) (fun _ _ _ h => h) (Or.inl ⟨by kernel_rfl, ?_⟩) hS ?_
      rotate_left
      · intro W hSW
        have hln := HLN.out W hSW
        go_simp
        all_goals with_reducible rfl
      refine wpAnyH_take (i := 7) (v := ?_) rfl (by kernel_rfl) (by kernel_rfl) (by kernel_rfl) (fun _ _ _ h => h) (Or.inl ⟨by kernel_rfl, ?_⟩) hS ?_
      rotate_left
      · intro W hSW
        have d0 := HD0.out
        go_simp
        all_goals with_reducible rfl
      go_simp
      refine wpAnyH_done (by kernel_rfl) ?_ _
      go_simp
      clear hS HL
      go_wp2_with (first | (refine wpList_load_ag stT (by kernel_rfl) _ rfl _ rfl (A := #[.int .i64 n.1, .int .i64 n.2]) rfl HB0.out ?_) | (refine wpList_load_ag spT (by kernel_rfl) _ rfl _ rfl (A := spA va) rfl HV5.out ?_))
      refine HLI.out.mono ?_
      intro e w6 h6
      have HQ := Lib.hid (fun w7 (hb : Turns (fun k => k = w.heap.size + 1) w6 w7) => HE.out w5 HT.out _ _ h6 w7 hb)
      obtain ⟨rfl, _, -, ht6⟩ := h6
      have HV6 := Lib.hid (AgAt.block HV5.out (ht6.block _ (AgAt.lt HV5.out) fun h => by have := HLT.out _ h; omega))
      clear HLI ht6
      go_wp2_with (first | (refine wpList_load_ag spT (by kernel_rfl) _ rfl _ rfl (A := spA va) rfl HV6.out ?_) | (refine wpList_store_ag spT rfl _ _ rfl _ rfl _ HV6.out (A := spA va) rfl rfl rfl (spA_one _) ?_; intro w7 hv7 hko7 hsz7 hbn7))
      refine bodyPost_ret (results_two spT _ rfl rfl hv7 rfl rfl) rfl ?_
      rw [HVA.out]
      exact HQ.out _ (stored_turns hko7 hsz7 hbn7)
end Go.Proofs.YthifdefjmfakgaaGreat
