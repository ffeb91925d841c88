/-
  ROWS COLLECTED out of a function that is ranged over: slices.AppendSeq, slices.Collect.
  No conditions but sizes.
-/
import Derived.Test.YtilkokhapcgolaaGreatTUp
import Derived.Maps.AppendAt
namespace Go.Proofs.YtilkokhapcgolaaGreat
open Go.RowKit
open Tm (Sp Tr has put cut kids)
attribute [local go_sem] Oper.semAt_some

section
variable {F : Fence} {nf : Nat} {ops : Array Oper} {rest : List Oper} {o : Oper} {a : Act} {w : World} {Q : Exit → Act → World → Prop}
theorem wpListIn_store_ag {t : TypeId} {n : Nat} {A : Array Value} (V : AgT t n) (hgd : o.guard = none) (x y : Operand) (ho : o.op = .store t x y)
    (b : Nat) (hx : a.eval x = .pointer (some ⟨b, 0, none⟩)) (u : Array Value) (hv : AgAt w b u) (hy : a.eval y = .agg A) (hu : u.size = n) (hn : A.size = n) (h1 : A.all (·.oneCell') = true)
    (h : ∀ w' : World, AgAt w' b A → (∀ k, k ≠ b → w'.heap[k]? = w.heap[k]?) → w'.heap.size = w.heap.size → (∀ B w0, Below B w0 w → B ≤ b → Below B w0 w') → wpListIn F nf Tryz.prog ops Q rest (a.put o.dst undef) w') : wpListIn F nf Tryz.prog ops Q (o :: rest) a w := by
  obtain ⟨T, hv⟩ := hv
  have hr : (storeVar t ⟨b, 0, none⟩ (.agg A)).run Tryz.prog w = .ok () (w.setRow b A) := run_storeVar_row w b T t u A hv (by rw [hn]; exact V.size) (by rw [hu, hn]) h1
  refine wpListIn_skipped (w' := w.setRow b A) (by simp [Region.wanted, hgd]) (by rw [ho]; intro c hc; cases hc) (by simp [Oper.about, ho]) ?_ ?_
  · unfold execOp
    simp only [ho, hx, hy, Instr.storeAt, Instr.sureAddr, Sem.run_bind, Sem.run_pure, Result.andThen_ok, hr]
  · refine h _ ⟨T, setRow_heap w b _ _ T _ hv⟩ (fun k hk => setRow_other w b k _ hk) (by simp) ?_
    intro B w0 hb hB
    exact hb.trans ⟨rfl, rfl, rfl, by simp, fun k hk => setRow_other w b k _ (by omega)⟩
theorem wpListIn_store_newag {t : TypeId} {n : Nat} {A : Array Value} (V : AgT t n) {T : TypeId} (hgd : o.guard = none) (x y : Operand) (ho : o.op = .store t x y)
    (hx : a.eval x = .pointer (some ⟨w.heap.size, 0, none⟩)) (u : Array Value) (hy : a.eval y = .agg A) (hu : u.size = n) (hn : A.size = n) (h1 : A.all (·.oneCell') = true)
    (h : ∀ w' : World, AgAt w' w.heap.size A → Below w.heap.size w w' → wpListIn F nf Tryz.prog ops Q rest (a.put o.dst undef) w') : wpListIn F nf Tryz.prog ops Q (o :: rest) a (w.alloc (.cells u T)) :=
  wpListIn_store_ag V hgd x y ho w.heap.size hx u ⟨T, heap_alloc_new w _⟩ hy hu hn h1 fun w' hv _ _ hb => h w' hv (hb _ _ ((Below.refl _ _).alloc (Nat.le_refl _) _) (Nat.le_refl _))
theorem run_build_st (w : World) (t r : Int) : (Instr.buildSlice 74 1 #[(0, .agg #[.int .i64 t, .int .i64 r])]).run Tryz.prog w = .ok (.slice (some ⟨w.heap.size, 0, none⟩) 1 1) (w.alloc (.cells #[.int .i64 t, .int .i64 r] 24)) := by kernel_rfl
theorem wpListIn_build_st (x : Operand) (hgd : o.guard = none) (ho : o.op = .buildSlice 74 1 #[(0, x)]) (t r : Int) (hx : a.eval x = .agg #[.int .i64 t, .int .i64 r])
    (h : wpListIn F nf Tryz.prog ops Q rest (a.put o.dst (.slice (some ⟨w.heap.size, 0, none⟩) 1 1)) (w.alloc (.cells #[.int .i64 t, .int .i64 r] 24))) : wpListIn F nf Tryz.prog ops Q (o :: rest) a w := by
  refine wpListIn_value (by simp [Region.wanted, hgd]) (by rw [ho]; intro c hc; cases hc) (by simp [Oper.about, ho]) ?_ h
  unfold execOp
  simp only [ho, Sem.run_bind, Sem.run_pure, Result.andThen_ok, List.map_toArray, List.map_cons, List.map_nil, hx, run_build_st]
theorem wpListIn_append_k {P : Program} (hgd : o.guard = none) (s x : Operand) (t : TypeId)
    (ho : o.op = .call { callee := .builtin .append, args := #[s, x], argTypes := #[t, t] })
    (base : Nat) (e : TypeId) (i : TypeInfo) (z : Value) (k bytes : Nat) (ht : P.underlying t = some (.slice e)) (hi : P.info? e = some i) (hz : i.zero = some z)
    (hsize : i.size = k) (hk0 : 0 < k) (hby : i.bytes = bytes) (hb1 : bytes ≤ 1000) (hzs : z.cells.size = k)
    (v : Value) (n : Nat) (xs : List Value) (hs : a.eval s = v) (hown : w.ownsRow base e k v n xs)
    (p : Option Addr) (m c : Nat) (us : List Value) (hx : a.eval x = .slice p m c) (hus : us.length = m * k) (hrd : Rd w p us) (hpn : p = none → c = 0) (h1 : ∀ u ∈ us, u.oneCell' = true)
    (hsz : n + m ≤ 1000000) (hbase : base ≤ w.heap.size)
    (h : ∀ p' c' w', w'.ownsRow base e k (.slice p' (n + m) c') (n + m) (xs ++ us) → w.grownBy w' v.ownBlock → (∀ g, (Value.slice p' (n + m) c').ownBlock = some g → v.ownBlock = some g ∨ w.heap.size ≤ g) → wpListIn F nf P ops Q rest (a.put o.dst (.slice p' (n + m) c')) w') : wpListIn F nf P ops Q (o :: rest) a w := by
  obtain ⟨v', w', hr, h2, h3, h4⟩ := run_append_k (P := P) w base t o.type e i z k bytes ht hi hz hsize hk0 hby (by omega) hzs v n xs hown p m c us hus hrd hpn h1
    (Nat.le_trans (Nat.mul_le_mul hsz hb1) (by decide)) (by unfold maxLen; omega) hbase
  obtain ⟨p', c', rfl, -⟩ := own_rd h2
  refine wpListIn_value (w' := w') (by simp [Region.wanted, hgd]) (by rw [ho]; intro c hc; cases hc) (by simp [Oper.about, ho, resolve, Target.leads, Sem.run_pure]) ?_ (h p' c' w' h2 h3 h4)
  unfold execOp
  simp only [ho, resolve, invoke, builtin, Sem.run_bind, Sem.run_pure, Result.andThen_ok, List.map_toArray, List.map_cons, List.map_nil, hs, hx, hr]
end
theorem oinfo_st : (Tryz.prog.info? 24).map (fun i => (i.zero, i.size, i.bytes)) = some (some (.agg #[.int .i64 0, .int .i64 0]), 2, 16) := by kernel_rfl
theorem st2_one (a b : Int) : ∀ u ∈ [Value.int .i64 a, .int .i64 b], u.oneCell' = true := by
  intro v hv
  simp only [List.mem_cons, List.not_mem_nil, or_false] at hv
  rcases hv with rfl | rfl <;> rfl
theorem Rd_new2 (w : World) (a b : Int) : Rd (w.alloc (.cells #[.int .i64 a, .int .i64 b] 24)) (some ⟨w.heap.size, 0, none⟩) [.int .i64 a, .int .i64 b] := fun _ =>
  ⟨w.heap.size, 0, rfl, fun i u hu => by
    have h := AgAt.cell (AgAt.new w #[.int .i64 a, .int .i64 b] 24) i
    rw [Nat.zero_add, h]
    rw [List.getElem?_toArray]
    exact hu⟩
theorem ownsRow_base {w : World} {B B' : Nat} {e : TypeId} {k n : Nat} {v : Value} {xs : List Value} (h : w.ownsRow B e k v n xs) (hB : B' ≤ B) : w.ownsRow B' e k v n xs := by
  refine ⟨h.1, ?_⟩
  rcases h.2 with h2 | ⟨g, cap, cur, hv, hg, r⟩
  · exact Or.inl h2
  · exact Or.inr ⟨g, cap, cur, hv, Nat.le_trans hB hg, r⟩
/-- a row is under way in box B -/
def Col (B : Nat) (pre : List Qm.St) (Fp : Nat → Prop) (W : World) : Prop :=
  ∃ v, W.cell? ⟨B, 0, none⟩ = some v ∧ W.frozen? ⟨B, 0, none⟩ = false ∧ W.ownsRow (B + 1) 24 2 v pre.length (stCells pre) ∧ ∀ k, Fp k ↔ k = B ∨ v.ownBlock = some k
theorem Col.stable {B : Nat} (pre : List Qm.St) (Fp : Nat → Prop) (W W' : World) (h : Col B pre Fp W) (ht : Turns (fun k => ¬ Fp k) W W') : Col B pre Fp W' := by
  obtain ⟨v, hc, hf, ho, hfp⟩ := h
  exact ⟨v, ht.cell hc fun h => h ((hfp B).2 (Or.inl rfl)), (ht.frozen (p := ⟨B, 0, none⟩) (cell_lt hc) fun h => h ((hfp B).2 (Or.inl rfl))).trans hf, ht.own ho fun g hg h => h ((hfp g).2 (Or.inr hg)), hfp⟩
theorem Col.lt {B : Nat} (pre : List Qm.St) (Fp : Nat → Prop) (W : World) (h : Col B pre Fp W) : ∀ k, Fp k → k < W.heap.size := by
  obtain ⟨v, hc, hf, ho, hfp⟩ := h
  intro k hk
  rcases (hfp k).1 hk with h | h
  · rw [h]; exact cell_lt hc
  · exact (World.ownsRow.lt ho k h).2
/-- what is collected: all of it, in new memory -/
def Collected (S : List Qm.St → Prop) (w : World) (e : Ending) (w' : World) : Prop :=
  ∃ v xs, S xs ∧ e = .returned v ∧ w'.ownsRow w.heap.size 24 2 v xs.length (stCells xs) ∧ Below w.heap.size w w'

set_option maxRecDepth 100000 in
set_option maxHeartbeats 4000000 in
theorem appendSeq_any {gf : Nat} {lb : Array Value} {S Sp : List Qm.St → Prop} (w : World) (eg : ∀ args w, (callFunc gf args).run Tryz.prog w = .ok (.enter gf args) w) (hseq : SeqFp Tryz.prog gf lb snV S Sp (fun k => w.heap.size ≤ k) w) (hlen : ∀ pre, Sp pre → pre.length ≤ 1000000) :
    Calls Tryz.prog 88 #[.slice none 0 0, .func (.func gf) #[] lb] w (Collected S w) := by
  obtain ⟨i0, hi0, hz00, hz1, hz22⟩ := info_parts oinfo_st
  refine callsIn_wide.1 (callsIn_of_wp_marks (n := 0) Tryz.func88 rfl trivial ?_ rfl)
  simp only [Tryz.ntmps88, List.size_toArray, List.length_cons, List.length_nil, Nat.reduceAdd, Nat.reduceSub, Array.replicate_succ, Array.replicate_zero, List.push_toArray, List.append_toArray, List.nil_append, List.cons_append]
  have hb0 : Below w.heap.size w (w.alloc (.cells #[.slice none 0 0] 74)) := (Below.refl _ w).alloc (Nat.le_refl _) _
  gi_wp2
  have hcol : Col w.heap.size [] (fun k => k = w.heap.size) (w.alloc (.cells #[.slice none 0 0] 74)) := by
    have h := AgAt.new w #[.slice none 0 0] 74
    exact ⟨_, h.cell 0, h.free 0, World.ownsRow_nil _ _ _ _, fun k => ⟨Or.inl, fun h => h.elim id fun h => by cases h⟩⟩
  refine wp_rangeFunc_fp (gf := gf) (lb := lb) rfl eg (hseq.later hb0) (Col w.heap.size) (fun _ _ _ _ => False) Col.stable (fun _ _ _ _ _ h _ => h) Col.lt (F := fun k => k = w.heap.size) (fun k hk => by omega) hcol ?round ?done ?stop
  case round =>
    rintro l pre x Fp W ⟨v, hc, hf, ho, hfp⟩ hsp hnl hll
    have hz0 := hlen _ hsp
    have hBW : w.heap.size < W.heap.size := cell_lt hc
    have hlB : l ≠ w.heap.size := fun h => hnl ((hfp l).2 (Or.inl h))
    gi_wp2_with (refine wpListIn_store_newag stT rfl _ _ rfl rfl _ (A := #[.int .i64 x.1, .int .i64 x.2]) rfl rfl rfl (stA_one _ _) ?_; intro w1 hv1 hb1)
    refine ⟨Turns.of_below hb1, ?_⟩
    intro W2 ht2 hz2
    have h01 : Turns (fun k => k = l) W W2 := (Turns.of_below hb1).trans (ht2.mono fun k _ hk => Or.inl hk)
    have hc2 : W2.cell? ⟨w.heap.size, 0, none⟩ = some v := h01.cell hc fun h => hlB h.symm
    have hf2 : W2.frozen? ⟨w.heap.size, 0, none⟩ = false := (h01.frozen (p := ⟨w.heap.size, 0, none⟩) hBW fun h => hlB h.symm).trans hf
    have ho2 := h01.own ho fun g hg h => hnl ((hfp l).2 (Or.inr (by rw [← h]; exact hg)))
    have hx2 : AgAt W2 W.heap.size #[.int .i64 x.1, .int .i64 x.2] := AgAt.block hv1 (ht2.block _ (AgAt.lt hv1) (by omega))
    have hWW : W.heap.size < W2.heap.size := AgAt.lt hx2
    clear hz2
    have hal : Turns (fun _ => False) W2 (W2.alloc (.cells #[.int .i64 x.1, .int .i64 x.2] 24)) := Turns.of_below ((Below.refl _ W2).alloc (Nat.le_refl _) _)
    have hne : v.ownBlock ≠ some w.heap.size := fun h => by have := (World.ownsRow.lt ho w.heap.size h).1; omega
    gi_wp2_with (first
      | (refine wpListIn_load_ag stT rfl _ rfl _ rfl (A := #[.int .i64 x.1, .int .i64 x.2]) rfl hx2 ?_)
      | (refine wpListIn_build_st _ rfl rfl x.1 x.2 rfl ?_)
      | (refine wpListIn_append_k rfl _ _ 74 rfl (w.heap.size + 1) 24 i0 _ 2 16 Tryz.underlying74 hi0 hz00 hz1 (by decide) hz22 (by decide) rfl v pre.length (stCells pre) rfl (World.ownsRow.alloc ho2 _) _ 1 1 [.int .i64 x.1, .int .i64 x.2] rfl rfl (Rd_new2 W2 x.1 x.2) (fun h => by cases h) (st2_one _ _) (by simp only [List.length_append, List.length_cons, List.length_nil] at hz0; omega) (by simp; omega) ?_
         intro p' c' w4 ho4 hg4 hw4
         have hcB : w4.cell? ⟨w.heap.size, 0, none⟩ = some v := ((Turns.of_grown hg4).cell (p := ⟨w.heap.size, 0, none⟩) (hal.cell hc2 fun h => h) fun h => hne h)
         have hfB : w4.frozen? ⟨w.heap.size, 0, none⟩ = false := ((Turns.of_grown hg4).frozen (p := ⟨w.heap.size, 0, none⟩) (by simp; omega) fun h => hne h).trans ((hal.frozen (p := ⟨w.heap.size, 0, none⟩) (cell_lt hc2) fun h => h).trans hf2)))
    refine ⟨fun k => k = w.heap.size ∨ (Value.slice p' (pre.length + 1) c').ownBlock = some k, ?_, ?_, _, ?_, ?_, ?_, fun _ => Iff.rfl⟩
    · refine (Turns.of_below ((Below.refl _ W2).alloc (Nat.le_refl _) _)).trans (((Turns.of_grown hg4).mono fun k _ hk => Or.inl (Or.inl ((hfp k).2 (Or.inr hk)))).trans ((set_turns w.heap.size w4 0 _).mono fun k _ hk => Or.inl (Or.inl (Or.inl ((hfp k).2 (Or.inl hk))))))
    · rintro k (hk | hk)
      · exact Or.inl ((hfp k).2 (Or.inl hk))
      · rcases hw4 k hk with h | h
        · exact Or.inl ((hfp k).2 (Or.inr h))
        · exact Or.inr (by simp at h; omega)
    · exact World.cell?_setCell_same' _ _ _ (by rw [hcB]; rfl)
    · rw [World.frozen?_setCell]; exact hfB
    · have : (pre ++ [x]).length = pre.length + 1 := by simp
      rw [this, stCells_append]
      refine (set_turns w.heap.size w4 0 _).own ho4 fun g hg h => ?_
      subst h
      rcases hw4 _ hg with h | h
      · exact hne h
      · simp at h; omega
  case done =>
    rintro D xs Fp W hS ⟨v, hc, hf, ho, hfp⟩ ht hg hD hDl hDn
    gi_wp2
    refine ⟨by simp, .inl ⟨_, _, rfl, run_takeDeferred hD, ?_⟩⟩
    refine ⟨_, results_tmp rfl _ _ _, v, xs, hS, rfl, ?_, ?_⟩
    · exact ((putObj_turns W D (.deferred none)).own ho fun g hg h => hDn ((hfp D).2 (Or.inr (by rw [← h]; exact hg))))|> fun h => ownsRow_base h (Nat.le_succ _)
    · exact ((hb0.trans ((ht.below (B := w.heap.size) (fun k _ hk => by omega) (by simp)))).trans ((putObj_turns W D (.deferred none)).below (B := w.heap.size) (fun k _ hk => by simp at hDl; omega) (Nat.le_trans (by simp) ht.size)))
  case stop =>
    rintro D c pre Fp W _ h
    exact h.elim

theorem collect_any {gf : Nat} {lb : Array Value} {S Sp : List Qm.St → Prop} (w : World) (eg : ∀ args w, (callFunc gf args).run Tryz.prog w = .ok (.enter gf args) w) (hseq : SeqFp Tryz.prog gf lb snV S Sp (fun k => w.heap.size ≤ k) w) (hlen : ∀ pre, Sp pre → pre.length ≤ 1000000) :
    Calls Tryz.prog 66 #[.func (.func gf) #[] lb] w (Collected S w) := by
  have HA := Lib.hid (appendSeq_any w eg hseq hlen)
  clear eg hseq hlen
  go_enter Tryz.func66, Tryz.ntmps66
  go_wp2_with fail
  refine HA.out.mono ?_
  rintro e w1 ⟨v, xs, h1, rfl, h2⟩
  have HE := Lib.hid (show Collected S w (.returned v) w1 from ⟨v, xs, h1, rfl, h2⟩)
  clear h1 h2 HA
  go_wp2
  go_ret
  exact HE.out
end Go.Proofs.YtilkokhapcgolaaGreat
