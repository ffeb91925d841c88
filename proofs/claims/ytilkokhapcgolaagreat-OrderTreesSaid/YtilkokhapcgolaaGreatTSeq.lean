/-
  A RANGE OVER A FUNCTION, BY FOOTPRINTS: the rounds turn what is theirs (Fp) and what is new, the function that is ranged over turns anything else that is its own, cells too.
  No conditions.
-/
import Derived.Test.YtilkokhapcgolaaGreatTKit
import Derived.RangeFuncNested
import Derived.RangeFuncCalls
import Derived.RangeFuncLeaves
import Derived.RangeFuncOne
import Derived.OwnWalkIn
import Derived.TacticsInMore
namespace Go.Proofs.YtilkokhapcgolaaGreat
open Go.RowKit

/-- what is theirs grows by what is new alone -/
def Grows (F F' : Nat → Prop) (W : World) : Prop := ∀ k, F' k → F k ∨ W.heap.size ≤ k
theorem Grows.refl (F : Nat → Prop) (W : World) : Grows F F W := fun _ h => Or.inl h
theorem Grows.trans {F F' F'' : Nat → Prop} {W W' : World} (h : Grows F F' W) (h' : Grows F' F'' W') (hs : W.heap.size ≤ W'.heap.size) : Grows F F'' W := fun k hk => (h' k hk).elim (h k) fun hk => Or.inr (Nat.le_trans hs hk)
theorem Turns.join {F F' : Nat → Prop} {a b c : World} (h : Turns F a b) (k : Turns F' b c) (hg : Grows F F' a) : Turns F a c := h.trans (k.mono fun i _ hi => hg i hi)
/-- WHAT A FUNCTION THAT IS RANGED OVER PROMISES: S: all have come; Sp: a part has come, and a round said 'no more' -/
def SeqFp {α : Type} (P : Program) (gf : Nat) (lb : Array Value) (enc : α → Value) (S Sp : List α → Prop) (F0 : Nat → Prop) (w : World) : Prop :=
  ∀ (l : Nat) (J Jx : List α → (Nat → Prop) → World → Prop) (W : World) (Fp : Nat → Prop), Below w.heap.size w W → (∀ k, k < w.heap.size → Fp k → F0 k) →
    (∀ pre Fp W W', J pre Fp W → Turns (fun k => ¬ Fp k) W W' → J pre Fp W') →
    (∀ pre Fp W, J pre Fp W → ∀ k, Fp k → k < W.heap.size) →
    (∀ pre x Fp W1, J pre Fp W1 → Sp (pre ++ [x]) → YieldAt Fence.wide 0 P l #[enc x] W1 fun e W' =>
      ∃ Fp', Turns Fp W1 W' ∧ Grows Fp Fp' W1 ∧ ((e = .returned (.bool true) ∧ J (pre ++ [x]) Fp' W') ∨ (e = .returned (.bool false) ∧ Jx (pre ++ [x]) Fp' W'))) →
    J [] Fp W →
    Calls P gf (#[.func (.yield l) #[] #[]] ++ lb) W fun e W' => (∃ v, e = .returned v) ∧ ∃ Fp', Turns (fun k => Fp k ∨ W.heap.size ≤ k) W W' ∧ Grows Fp Fp' W ∧ ((∃ xs, S xs ∧ J xs Fp' W') ∨ (∃ pre, Sp pre ∧ Jx pre Fp' W'))
theorem SeqFp.later {α : Type} {P : Program} {gf : Nat} {lb : Array Value} {enc : α → Value} {S Sp : List α → Prop} {F0 : Nat → Prop} {w w' : World} (h : SeqFp P gf lb enc S Sp F0 w) (hb : Below w.heap.size w w') : SeqFp P gf lb enc S Sp F0 w' :=
  fun l J Jx W Fp hW hF => h l J Jx W Fp (hb.trans (hW.mono hb.size)) fun k hk => hF k (Nat.lt_of_lt_of_le hk hb.size)
/-- how the body of a round may be left -/
def fpPost {α : Type} (I : List α → (Nat → Prop) → World → Prop) (Ix : Code → List α → (Nat → Prop) → World → Prop) (xs : List α) (Fp : Nat → Prop) (n : Nat) (W : World) : Exit → Act → World → Prop
  | .normal, _, W' => ∃ Fp', Turns (fun k => Fp k ∨ n ≤ k) W W' ∧ (∀ k, Fp' k → Fp k ∨ n ≤ k) ∧ I xs Fp' W'
  | .ret, _, W' => ∃ Fp', Turns (fun k => Fp k ∨ n ≤ k) W W' ∧ (∀ k, Fp' k → Fp k ∨ n ≤ k) ∧ Ix .ret xs Fp' W'
  | .exit id, _, W' => ∃ Fp', Turns (fun k => Fp k ∨ n ≤ k) W W' ∧ (∀ k, Fp' k → Fp k ∨ n ≤ k) ∧ Ix (.exit id) xs Fp' W'
  | .goto t, _, W' => ∃ Fp', Turns (fun k => Fp k ∨ n ≤ k) W W' ∧ (∀ k, Fp' k → Fp k ∨ n ≤ k) ∧ Ix (.goto t) xs Fp' W'
  | .panic _, _, _ => False
  | .outgrown, _, _ => False
theorem putObj_turns (w : World) (r : Nat) (o : Obj) : Turns (fun k => k = r) w (w.putObj r o) := ⟨rfl, rfl, rfl, by simp, fun _ _ hk => World.putObj_heap_other hk⟩

theorem wp_rangeFunc_fp {P : Program} {α : Type} {g : Operand} {p : Tmp} {assign body : Code} {Q : Exit → Act → World → Prop} {a : Act} {w : World}
    {gf : Nat} {lb : Array Value} (hg : a.eval g = .func (.func gf) #[] lb) (eg : ∀ args w, (callFunc gf args).run P w = .ok (.enter gf args) w)
    {enc : α → Value} {S Sp : List α → Prop} {F0 : Nat → Prop} (hseq : SeqFp P gf lb enc S Sp F0 w)
    (I : List α → (Nat → Prop) → World → Prop) (Ix : Code → List α → (Nat → Prop) → World → Prop)
    (hI : ∀ pre Fp W W', I pre Fp W → Turns (fun k => ¬ Fp k) W W' → I pre Fp W') (hIx : ∀ c pre Fp W W', Ix c pre Fp W → Turns (fun k => ¬ Fp k) W W' → Ix c pre Fp W')
    (hlt : ∀ pre Fp W, I pre Fp W → ∀ k, Fp k → k < W.heap.size)
    {F : Nat → Prop} (hF : ∀ k, F k → F0 k) (h0 : I [] F w)
    (hround : ∀ (l : Nat) (pre : List α) (x : α) (Fp : Nat → Prop) (W : World), I pre Fp W → Sp (pre ++ [x]) → ¬ Fp l → l < W.heap.size →
      assign.wpIn (Fence.wide.inRound l) 0 P (Exit.then (fun a₁ W₁ => Turns Fp W W₁ ∧ ∀ W₂, Turns (fun k => k = l) W₁ W₂ → W₂.heap.size = W₁.heap.size →
        body.wpIn (Fence.wide.inRound l) 0 P (fpPost I Ix (pre ++ [x]) Fp W.heap.size W₂) a₁ W₂) (fun _ _ _ => False)) { tmps := a.tmps.setIfInBounds p (enc x), defers := [] } W)
    (hdone : ∀ (D : Nat) (xs : List α) (Fp : Nat → Prop) (W : World), S xs → I xs Fp W → Turns F w W → Grows F Fp w → W.heap[D]? = some (.deferred (some [])) → w.heap.size ≤ D → ¬ Fp D → Q .normal { a with defers := { target := .collected D, args := #[] } :: a.defers } W)
    (hstop : ∀ (D : Nat) (c : Code) (pre : List α) (Fp : Nat → Prop) (W : World), Sp pre → Ix c pre Fp W → Turns F w W → Grows F Fp w → W.heap[D]? = some (.deferred (some [])) → w.heap.size ≤ D → ¬ Fp D → c.wpIn Fence.wide 0 P Q { a with defers := { target := .collected D, args := #[] } :: a.defers } W) :
    (Code.rangeFunc g #[p] assign body).wpIn Fence.wide 0 P Q a w := by
  refine wpIn_rangeFunc ?_
  intro fn hfn
  have hFl : ∀ k, F k → k < w.heap.size := hlt _ _ _ h0
  obtain ⟨rec, hrec⟩ : ∃ rec : LoopState → Option Code → Loop, rec = fun st pe => { state := st, pending := pe, fn, tmps := a.tmps, params := #[p], assign, body, defers := w.heap.size } := ⟨_, rfl⟩
  obtain ⟨W1, hW1⟩ : ∃ W1, (w.alloc (.deferred (some []))).alloc (.loop (rec .ready none)) = W1 := ⟨_, rfl⟩
  have hL1 : W1.heap[w.heap.size + 1]? = some (.loop (rec .ready none)) := by
    rw [← hW1]; have := World.alloc_heap_new (w.alloc (.deferred (some []))) (.loop (rec .ready none)); rwa [World.size_alloc] at this
  have hK1 : W1.heap[w.heap.size]? = some (.deferred (some [])) := by
    rw [← hW1]; exact (Below.heap_alloc _ _ _ (by simp)).trans (World.alloc_heap_new w _)
  have hb1 : Below w.heap.size w W1 := by
    rw [← hW1]; exact ((Below.refl _ w).alloc (Nat.le_refl _) _).alloc (by simp) _
  have hI1 : I [] F W1 := hI _ _ _ _ h0 (Turns.of_below hb1)
  have hz1 : W1.heap.size = w.heap.size + 2 := by rw [← hW1]; simp
  refine ⟨w.heap.size + 1, [{ target := .collected w.heap.size, args := #[] }], W1, { target := .fn (.func gf) lb, args := #[.func (.yield (w.heap.size + 1)) #[] #[]] }, W1, gf,
    #[.func (.yield (w.heap.size + 1)) #[] #[]] ++ lb, W1, ?_, ?_, fun _ _ => trivial, ?_, fun h => (by simp [Fence.wide] at h), ?_⟩
  · rw [← hW1, hrec]; exact run_enterLoop_outer _ _ _ _ _
  · simp only [resolve, hg]
    simp [go_sem]
  · simp [invoke, go_sem, eg]
  · have hnl : ∀ {Fp : Nat → Prop}, Grows F Fp W1 → ¬ Fp (w.heap.size + 1) := fun hgr h => by
      rcases hgr _ h with h | h
      · have := hFl _ h; omega
      · omega
    have hnd : ∀ {Fp : Nat → Prop}, Grows F Fp W1 → ¬ Fp w.heap.size := fun hgr h => by
      rcases hgr _ h with h | h
      · have := hFl _ h; omega
      · omega
    refine callsIn_wide.2 ((hseq (w.heap.size + 1)
      (fun pre Fp' W => ∃ Fp, (∀ k, Fp' k ↔ Fp k ∨ k = w.heap.size + 1 ∨ k = w.heap.size) ∧ Grows F Fp W1 ∧ I pre Fp W ∧ W.heap[w.heap.size + 1]? = some (.loop (rec .ready none)) ∧ W.heap[w.heap.size]? = some (.deferred (some [])))
      (fun pre Fp' W => ∃ Fp c, (∀ k, Fp' k ↔ Fp k ∨ k = w.heap.size + 1 ∨ k = w.heap.size) ∧ Grows F Fp W1 ∧ Ix c pre Fp W ∧ W.heap[w.heap.size + 1]? = some (.loop (rec .done (some c))) ∧ W.heap[w.heap.size]? = some (.deferred (some [])))
      W1 (fun k => F k ∨ k = w.heap.size + 1 ∨ k = w.heap.size) hb1 ?_ ?_ ?_ ?_ ⟨F, fun _ => Iff.rfl, Grows.refl _ _, hI1, hL1, hK1⟩).mono ?_)
    · rintro k hk (h | h | h)
      · exact hF k h
      · omega
      · omega
    · rintro pre Fp' W W' ⟨Fp, hfp, hgr, hi, hl, hd⟩ ht
      refine ⟨Fp, hfp, hgr, hI _ _ _ _ hi (ht.mono fun k _ hk h => hk ((hfp k).2 (Or.inl h))), ?_, ?_⟩
      · rw [ht.block _ (Array.getElem?_eq_some_iff.1 hl).1 (fun h => h ((hfp _).2 (Or.inr (Or.inl rfl))))]; exact hl
      · rw [ht.block _ (Array.getElem?_eq_some_iff.1 hd).1 (fun h => h ((hfp _).2 (Or.inr (Or.inr rfl))))]; exact hd
    · rintro pre Fp' W ⟨Fp, hfp, hgr, hi, hl, hd⟩ k hk
      rcases (hfp k).1 hk with h | h | h
      · exact hlt _ _ _ hi k h
      · rw [h]; exact (Array.getElem?_eq_some_iff.1 hl).1
      · rw [h]; exact (Array.getElem?_eq_some_iff.1 hd).1
    · rintro pre x Fp' W ⟨Fp, hfp, hgr, hi, hl, hd⟩ hsp
      have hll : w.heap.size + 1 < W.heap.size := (Array.getElem?_eq_some_iff.1 hl).1
      have hdl : w.heap.size < W.heap.size := by omega
      have hy := run_yield (P := P) (args := #[enc x]) hl (by rw [hrec]; rfl)
      rw [hrec] at hy
      refine ⟨fn, _, assign, body, hy, roundIn_of_wpIn hfn ?_⟩
      have hr := hround (w.heap.size + 1) pre x Fp W hi hsp (hnl hgr) hll
      have htm : ((#[p] : Array Tmp).zip #[enc x]).foldl (fun tmps (y : Tmp × Value) => tmps.setIfInBounds y.1 y.2) a.tmps = a.tmps.setIfInBounds p (enc x) := by simp
      rw [← htm] at hr
      refine wpIn_mono hr ?_
      rintro e a1 w1 he
      cases e with
      | normal =>
        obtain ⟨ht1, hbody⟩ := he
        have hl1 : w1.heap[w.heap.size + 1]? = some (.loop (rec .ready none)) := by rw [ht1.block _ hll (hnl hgr)]; exact hl
        have hd1 : w1.heap[w.heap.size]? = some (.deferred (some [])) := by rw [ht1.block _ hdl (hnd hgr)]; exact hd
        have hll1 := (Array.getElem?_eq_some_iff.1 hl1).1
        refine ⟨_, run_beginRound hl1 (by rw [hrec]), ?_⟩
        have hl2 : (w1.putObj (w.heap.size + 1) (.loop { rec .ready none with state := .busy })).heap[w.heap.size + 1]? = some (.loop { rec .ready none with state := .busy }) := World.putObj_heap_same hll1
        have hd2 : (w1.putObj (w.heap.size + 1) (.loop { rec .ready none with state := .busy })).heap[w.heap.size]? = some (.deferred (some [])) := (World.putObj_heap_other (by omega)).trans hd1
        refine wpIn_mono (hbody _ (putObj_turns _ _ _) (by simp)) ?_
        have fin : ∀ (jump : Option Code) (W3 : World) (Fp3 : Nat → Prop), Turns (fun k => Fp k ∨ W.heap.size ≤ k) (w1.putObj (w.heap.size + 1) (.loop { rec .ready none with state := .busy })) W3 → (∀ k, Fp3 k → Fp k ∨ W.heap.size ≤ k) →
            (Instr.endRound (w.heap.size + 1) jump).run P W3 = .ok (.bool jump.isNone) (W3.putObj (w.heap.size + 1) (.loop (rec (if jump.isNone then .ready else .done) jump))) ∧
            (W3.putObj (w.heap.size + 1) (.loop (rec (if jump.isNone then .ready else .done) jump))).heap[w.heap.size + 1]? = some (.loop (rec (if jump.isNone then .ready else .done) jump)) ∧
            (W3.putObj (w.heap.size + 1) (.loop (rec (if jump.isNone then .ready else .done) jump))).heap[w.heap.size]? = some (.deferred (some [])) ∧
            Turns Fp' W (W3.putObj (w.heap.size + 1) (.loop (rec (if jump.isNone then .ready else .done) jump))) ∧ Grows F Fp3 W1 ∧ Turns (fun k => ¬ Fp3 k) W3 (W3.putObj (w.heap.size + 1) (.loop (rec (if jump.isNone then .ready else .done) jump))) := fun jump W3 Fp3 ht3 hg3 => by
          have hno : ¬ (Fp (w.heap.size + 1) ∨ W.heap.size ≤ w.heap.size + 1) := fun h => h.elim (hnl hgr) fun h => by omega
          have hno2 : ¬ (Fp w.heap.size ∨ W.heap.size ≤ w.heap.size) := fun h => h.elim (hnd hgr) fun h => by omega
          have hl3 : W3.heap[w.heap.size + 1]? = some (.loop { rec .ready none with state := .busy }) := by rw [ht3.block _ (by simpa using hll1) hno]; exact hl2
          have hd3 : W3.heap[w.heap.size]? = some (.deferred (some [])) := by rw [ht3.block _ (Array.getElem?_eq_some_iff.1 hd2).1 hno2]; exact hd2
          have h := run_endRound (P := P) jump hl3
          have hgr3 : Grows F Fp3 W1 := fun k hk => (hg3 k hk).elim (hgr k) fun h => Or.inr (by omega)
          rw [hrec] at h ⊢
          refine ⟨h, World.putObj_heap_same (Array.getElem?_eq_some_iff.1 hl3).1, (World.putObj_heap_other (by omega)).trans hd3, ?_, hgr3, (putObj_turns _ _ _).mono fun k _ hk hk3 => hnl hgr3 (hk ▸ hk3)⟩
          refine (ht1.mono (G := Fp') fun k _ hk => (hfp k).2 (Or.inl hk)).trans (((putObj_turns w1 (w.heap.size + 1) _).mono fun k _ hk => Or.inl ((hfp k).2 (Or.inr (Or.inl hk)))).trans ((ht3.mono fun k _ hk => ?_).trans ((putObj_turns W3 (w.heap.size + 1) _).mono fun k _ hk => Or.inl (Or.inl (Or.inl ((hfp k).2 (Or.inr (Or.inl hk))))))))
          rcases hk with hk | hk
          · exact Or.inl (Or.inl ((hfp k).2 (Or.inl hk)))
          · exact Or.inl (Or.inr hk)
        have out : ∀ (v : Bool) (jump : Option Code) (W3 : World) (Fp3 : Nat → Prop), v = jump.isNone → Turns (fun k => Fp k ∨ W.heap.size ≤ k) (w1.putObj (w.heap.size + 1) (.loop { rec .ready none with state := .busy })) W3 → (∀ k, Fp3 k → Fp k ∨ W.heap.size ≤ k) →
            Grows Fp' (fun k => Fp3 k ∨ k = w.heap.size + 1 ∨ k = w.heap.size) W := fun v jump W3 Fp3 _ _ hg3 k hk => by
          rcases hk with hk | hk | hk
          · exact (hg3 k hk).imp (fun h => (hfp k).2 (Or.inl h)) id
          · exact Or.inl ((hfp k).2 (Or.inr (Or.inl hk)))
          · exact Or.inl ((hfp k).2 (Or.inr (Or.inr hk)))
        rintro e a3 W3 hp
        cases e with
        | normal =>
          obtain ⟨Fp3, ht3, hg3, hi3⟩ := hp
          obtain ⟨hrun, hl4, hd4, ht4, hgr3, hst⟩ := fin none W3 Fp3 ht3 hg3
          exact ⟨_, _, hrun, fun k => Fp3 k ∨ k = w.heap.size + 1 ∨ k = w.heap.size, ht4, out true none W3 Fp3 rfl ht3 hg3, Or.inl ⟨rfl, Fp3, fun _ => Iff.rfl, hgr3, hI _ _ _ _ hi3 hst, hl4, hd4⟩⟩
        | ret =>
          obtain ⟨Fp3, ht3, hg3, hi3⟩ := hp
          obtain ⟨hrun, hl4, hd4, ht4, hgr3, hst⟩ := fin (some .ret) W3 Fp3 ht3 hg3
          exact ⟨_, _, hrun, fun k => Fp3 k ∨ k = w.heap.size + 1 ∨ k = w.heap.size, ht4, out false (some .ret) W3 Fp3 rfl ht3 hg3, Or.inr ⟨rfl, Fp3, .ret, fun _ => Iff.rfl, hgr3, hIx _ _ _ _ _ hi3 hst, hl4, hd4⟩⟩
        | exit id =>
          obtain ⟨Fp3, ht3, hg3, hi3⟩ := hp
          obtain ⟨hrun, hl4, hd4, ht4, hgr3, hst⟩ := fin (some (.exit id)) W3 Fp3 ht3 hg3
          exact ⟨_, _, hrun, fun k => Fp3 k ∨ k = w.heap.size + 1 ∨ k = w.heap.size, ht4, out false (some (.exit id)) W3 Fp3 rfl ht3 hg3, Or.inr ⟨rfl, Fp3, .exit id, fun _ => Iff.rfl, hgr3, hIx _ _ _ _ _ hi3 hst, hl4, hd4⟩⟩
        | goto t =>
          obtain ⟨Fp3, ht3, hg3, hi3⟩ := hp
          obtain ⟨hrun, hl4, hd4, ht4, hgr3, hst⟩ := fin (some (.goto t)) W3 Fp3 ht3 hg3
          exact ⟨_, _, hrun, fun k => Fp3 k ∨ k = w.heap.size + 1 ∨ k = w.heap.size, ht4, out false (some (.goto t)) W3 Fp3 rfl ht3 hg3, Or.inr ⟨rfl, Fp3, .goto t, fun _ => Iff.rfl, hgr3, hIx _ _ _ _ _ hi3 hst, hl4, hd4⟩⟩
        | panic ch => exact hp.elim
        | outgrown => exact hp.elim
      | exit id => exact he.elim
      | goto t => exact he.elim
      | ret => exact he.elim
      | panic ch => exact he.elim
      | outgrown => exact he.elim
    · rintro e W2 ⟨⟨v, rfl⟩, Fp2, ht2, -, h⟩
      have htt : ∀ (Fp : Nat → Prop) (o : Obj), Turns F w (W2.putObj (w.heap.size + 1) o) := fun Fp o => by
        refine (Turns.of_below (F := F) hb1).trans ((ht2.mono fun k _ hk => ?_).trans ((putObj_turns W2 (w.heap.size + 1) o).mono fun k _ hk => Or.inl (Or.inr (by omega))))
        rcases hk with (hk | hk | hk) | hk
        · exact Or.inl hk
        · exact Or.inr (by omega)
        · exact Or.inr (by omega)
        · exact Or.inr (by omega)
      rcases h with ⟨xs, hS, Fp, hfp, hgr, hi, hl, hd⟩ | ⟨pre, hSp, Fp, c, hfp, hgr, hi, hl, hd⟩
      · refine ⟨none, _, by have := run_endLoop (P := P) hl (by rw [hrec]; simp); rw [hrec] at this; exact this, hdone w.heap.size xs Fp _ hS (hI _ _ _ _ hi ((putObj_turns _ _ _).mono fun k _ hk hk3 => hnl hgr (by rw [← hk]; exact hk3))) (htt Fp _) (fun k hk => (hgr k hk).imp id fun h => by omega) ((World.putObj_heap_other (by omega)).trans hd) (Nat.le_refl _) (hnd hgr)⟩
      · refine ⟨some c, _, by have := run_endLoop (P := P) hl (by rw [hrec]; simp); rw [hrec] at this; exact this, hstop w.heap.size c pre Fp _ hSp (hIx _ _ _ _ _ hi ((putObj_turns _ _ _).mono fun k _ hk hk3 => hnl hgr (by rw [← hk]; exact hk3))) (htt Fp _) (fun k hk => (hgr k hk).imp id fun h => by omega) ((World.putObj_heap_other (by omega)).trans hd) (Nat.le_refl _) (hnd hgr)⟩
end Go.Proofs.YtilkokhapcgolaaGreat
