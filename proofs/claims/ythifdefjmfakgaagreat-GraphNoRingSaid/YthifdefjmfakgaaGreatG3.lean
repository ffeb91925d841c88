/-
  A GRAPH's LOOKS: Count, Done.
  No conditions but sizes.
  New: an empty graph.
  No conditions.
  MANY OPS INSERTED one after another, plainly: what the row holds, and that it does not hang on their order.
  No conditions.
-/
import Derived.Test.YthifdefjmfakgaaGreatG6
import Derived.Test.YthifdefjmfakgaaGreatGrPut
namespace Go.Proofs.YthifdefjmfakgaaGreat
open Go.RowKit
open Tm (Sp Tr has put cut kids)

/-- the op of a stamp is there and was done -/
def Gm.Did (ops : List Pm.Wr) (s : Qm.St) : Prop := ∃ i x, ops[i]? = some x ∧ x.s = s ∧ (Gm.tryG (Gm.run (ops.take i)) x).isSome = true
theorem Gm.one_at {ops : List Pm.Wr} (h : Gm.Ops ops) {i j : Nat} {x y : Pm.Wr} (hx : ops[i]? = some x) (hy : ops[j]? = some y) (he : x.s = y.s) : i = j := by
  obtain ⟨hi, rfl⟩ := List.getElem?_eq_some_iff.1 hx
  obtain ⟨hj, rfl⟩ := List.getElem?_eq_some_iff.1 hy
  have hp := List.pairwise_iff_getElem.1 h.up
  rcases Nat.lt_trichotomy i j with h1 | h1 | h1
  · have := hp i j hi hj h1; rw [he] at this; exact absurd this (Qm.ltS_irrefl _)
  · exact h1
  · have := hp j i hj hi h1; rw [he] at this; exact absurd this (Qm.ltS_irrefl _)
theorem Gm.did_at {ops : List Pm.Wr} (h : Gm.Ops ops) {i : Nat} {x : Pm.Wr} (hx : ops[i]? = some x) : Gm.Did ops x.s ↔ (Gm.tryG (Gm.run (ops.take i)) x).isSome = true := by
  constructor
  · rintro ⟨j, y, hy, he, hd⟩
    have h1 := Gm.one_at h hy hx he
    subst h1
    rw [hx] at hy
    cases hy
    exact hd
  · intro hd
    exact ⟨i, x, hx, rfl, hd⟩
theorem Gm.did_not {ops : List Pm.Wr} {s : Qm.St} (h : Gm.there ops s = false) : ¬ Gm.Did ops s := by
  rintro ⟨i, x, hx, he, -⟩
  rw [Gm.there_iff.2 ⟨x, List.mem_of_getElem? hx, he⟩] at h
  cases h
/-- is an undo one? -/
def Uk.some : Uk → Bool
  | .pass => false
  | _ => true
theorem UkOk.did {w : World} {χ : Nat → Nat} {g : Gm.G} {x : Pm.Wr} {u : Uk} (h : UkOk w χ g x u) : (Gm.tryG g x).isSome = u.some := by
  cases u with
  | pass => rw [show Gm.tryG g x = none from h]; rfl
  | cr b =>
    obtain ⟨h1, -⟩ := h
    unfold Gm.tryG
    rw [if_pos h1]
    rfl
  | mv b c was => exact h.2.1
  | pt b c was => exact h.2.1
/-- a look leaves the graph -/
def Left (gg : Nat) (ops : List Pm.Wr) (χ : Nat → Nat) (w w' : World) : Prop := ∃ χ', Gra w' gg ops χ' ∧ Goes w χ w' χ'
set_option maxRecDepth 100000 in
set_option maxHeartbeats 1000000 in
theorem gcount_any {gg : Nat} {ops : List Pm.Wr} {χ : Nat → Nat} (w : World) (h : Gra w gg ops χ) : Calls Tryz.prog 14 #[ptV gg] w fun e w' => e = .returned (.int .i64 (ops.length : Int)) ∧ w = w' := by
  obtain ⟨⟨X, h1, h2, h3, h4⟩, -⟩ := h
  have HG := Lib.hid h1
  have y : w.cell? ⟨gg, 0, none⟩ = some (ptV X.b) := (AgAt.cell h1 0).trans rfl
  obtain ⟨po, co, hpo, -⟩ := own_sliceG h2.ro
  have hlen : ops.length = X.ls.length := by rw [← h4]; unfold Gx.ops; rw [List.length_map]
  have y2 : w.cell? ⟨X.b, 2, none⟩ = some (.slice po ops.length co) := by rw [hlen, ← hpo]; exact h2.cO
  clear h1 h2 h3 h4 hpo hlen
  go_enter Tryz.func14, Tryz.ntmps14
  go_wp2_with (go_at_call 30; refine (gours_any _ HG.out).mono ?_; rintro e w1 ⟨rfl, rfl⟩)
  go_ret
  exact ⟨rfl, rfl⟩
set_option maxRecDepth 100000 in
set_option maxHeartbeats 4000000 in
theorem gdone_any {gg : Nat} {ops : List Pm.Wr} {χ : Nat → Nat} (s : Qm.St) (w : World) (h : Gra w gg ops χ) : Calls Tryz.prog 20 #[ptV gg, snV s] w fun e w' => ∃ b, e = .returned (.bool b) ∧ (b = true ↔ Gm.Did ops s) ∧ Left gg ops χ w w' := by
  have hb := (Below.refl w.heap.size w).alloc (Nat.le_refl _) (.cells (stA s) 35)
  have HC := Lib.hid (h.kept hb)
  have HN := Lib.hid (AgAt.new w (stA s) 35)
  have HB := Lib.hid hb
  have HZ := Lib.hid (show χ w.heap.size = 0 from by obtain ⟨⟨X, h1, h2, h3, h4⟩, -⟩ := h; exact h2.toCore.zero (Nat.le_refl _))
  have HO := Lib.hid h.few
  have HGZ := Lib.hid h.gz
  have hgb : ∃ b, AgAt (w.alloc (.cells (stA s) 35)) gg #[ptV b] := by
    obtain ⟨⟨X, h1, -⟩, -⟩ := h
    exact ⟨_, h1.kept hb⟩
  obtain ⟨b0, hgb⟩ := hgb
  have HGB := Lib.hid hgb
  clear h hb hgb
  go_enter Tryz.func20, Tryz.ntmps20
  go_upto_region 4 with (first | (go_at_call 30; refine (gours_any _ HGB.out).mono ?_; rintro e w1 ⟨rfl, rfl⟩) | (go_at_call 31; refine (gnow_any _ HC.out).mono ?_; rintro e w1 ⟨X, χ1, rfl, hg, hf, hl, ho, ha, hgg, hgo⟩))
  have HG := Lib.hid hg
  have HF := Lib.hid (And.intro hf ho)
  have HL := Lib.hid (show Left gg ops χ w w1 from ⟨χ1, by rw [← ho]; exact gra_of hg hl ha (by rw [hgg]; exact HGZ.out), (Goes.of_below HB.out).trans hgo⟩)
  replace HN := Lib.hid (HN.out.block (hgo.turns.block _ (AgAt.lt HN.out) (by rw [HZ.out]; decide)))
  clear hg hf hl ho ha hgg hgo HC HB HGB HZ HGZ
  go_upto_region 5 with (first | (refine wpList_load_ag stT (by kernel_rfl) _ rfl _ rfl (A := stA s) rfl HN.out ?_) | (go_at_call 38; refine (find_any s w1 HG.out.toCore).mono ?_; rintro e w4 ⟨n, b, rfl, hf4, hb4⟩; unfold intB))
  rw [HF.out.2] at hf4
  replace HG := Lib.hid (HG.out.kept hb4)
  have HE := Lib.hid (show Left gg ops χ w w4 from by
    obtain ⟨χ2, k1, k2⟩ := HL.out
    exact ⟨χ2, k1.kept hb4, k2.trans (Goes.of_below hb4)⟩)
  clear hb4 HL HN
  cases b with
  | false =>
    have HR := Lib.hid (show ∃ b, Ending.returned (.bool false) = .returned (.bool b) ∧ (b = true ↔ Gm.Did ops s) ∧ Left gg ops χ w w4 from ⟨false, rfl, ⟨fun h => (by cases h), fun h => absurd h (Gm.did_not (hf4.2.1 rfl).2)⟩, HE.out⟩)
    clear hf4 HE HG HF HO
    go_wp2
    go_ret
    exact HR.out
  | true =>
    obtain ⟨x, hx, hxs⟩ := hf4.2.2 rfl
    have hnl : n < X.ls.length := by
      have h1 := (List.getElem?_eq_some_iff.1 hx).1
      rw [← HF.out.2] at h1
      unfold Gx.ops at h1
      rwa [List.length_map] at h1
    have hnu : n < X.us.length := by rw [HF.out.1]; exact hnl
    obtain ⟨u, hu⟩ : ∃ u, X.us[n]? = some u := ⟨_, List.getElem?_eq_getElem hnu⟩
    have hdid : (Gm.Did ops s ↔ u.some = true) := by
      have h1 := Gm.did_at HO.out.1 hx
      rw [hxs] at h1
      have h2 := (HG.out.un n u x hu (by rw [HF.out.2]; exact hx)).did
      rw [HF.out.2] at h2
      rw [h1, h2]
    obtain ⟨pu, cu, hpu, hpu0⟩ := own_sliceG HG.out.ru
    obtain ⟨gb, hgb⟩ := hpu0 (by omega)
    subst hgb
    have y3 : w4.cell? ⟨X.b, 3, none⟩ = some (.slice (some ⟨gb, 0, none⟩) X.us.length cu) := by rw [← hpu]; exact HG.out.cU
    have y4 : w4.cell? ⟨gb, n, none⟩ = some (Uk.val u) := by
      have h1 := HG.out.ru
      rw [hpu] at h1
      exact own_1 h1 n _ (by rw [List.getElem?_map, hu]; rfl)
    have hn60 : n < 60 := by have := HG.out.few; omega
    have HR := Lib.hid (show ∃ b, Ending.returned (.bool u.some) = .returned (.bool b) ∧ (b = true ↔ Gm.Did ops s) ∧ Left gg ops χ w w4 from ⟨_, rfl, hdid.symm, HE.out⟩)
    have d4 : decide ((n : Int) < (X.us.length : Int)) = true := decide_eq_true (by omega)
    clear hf4 HE HG HF HO hx hxs hu hdid hpu hnl hpu0
    cases u with
    | pass =>
      have hnn : ∀ W, Sem.run Tryz.prog (binOp BinOp.neq 106 Value.nilFunc Value.nilFunc) W = .ok (.bool false) W := fun W => by kernel_rfl
      have y4' : w4.cell? ⟨gb, n, none⟩ = some .nilFunc := y4
      clear y4
      go_wp2
      go_ret
      exact HR.out
    | cr b1 =>
      have hnn : ∀ W, Sem.run Tryz.prog (binOp BinOp.neq 106 (Uk.val (.cr b1)) Value.nilFunc) W = .ok (.bool true) W := fun W => by kernel_rfl
      simp only [Uk.val] at hnn y4
      go_wp2
      go_ret
      exact HR.out
    | mv b1 c1 was =>
      have hnn : ∀ W, Sem.run Tryz.prog (binOp BinOp.neq 106 (Uk.val (.mv b1 c1 was)) Value.nilFunc) W = .ok (.bool true) W := fun W => by kernel_rfl
      simp only [Uk.val] at hnn y4
      go_wp2
      go_ret
      exact HR.out
    | pt b1 c1 was =>
      have hnn : ∀ W, Sem.run Tryz.prog (binOp BinOp.neq 106 (Uk.val (.pt b1 c1 was)) Value.nilFunc) W = .ok (.bool true) W := fun W => by kernel_rfl
      simp only [Uk.val] at hnn y4
      go_wp2
      go_ret
      exact HR.out
end Go.Proofs.YthifdefjmfakgaaGreat

namespace Go.Proofs.YthifdefjmfakgaaGreat
open Go.RowKit
open Tm (Sp Tr has put cut kids)

/-- what New leaves: a graph in blocks of its own -/
def GNewed (w : World) (e : Ending) (w' : World) : Prop := ∃ gg χ, e = .returned (ptV gg) ∧ Gra w' gg [] χ ∧ Below w.heap.size w w' ∧ (∀ k, χ k ≠ 0 → w.heap.size ≤ k) ∧ w.heap.size ≤ gg ∧ χ gg = 0
/-- the state's cells, new -/
def newCs (P a b : Nat) : Array Value := #[.int .i32 0, .int .u32 0, .slice none 0 0, .slice none 0 0, ptV P, .map (some a), .map (some b)]
def newX (w1 : World) (P M1 M2 : Nat) : Gx := ⟨0, w1.heap.size + 1 + 1, .slice none 0 0, [], .slice none 0 0, [], P, M1, M2, [], [], w1.heap.size, w1.heap.size + 1, [], []⟩
def newC (w w1 : World) : Nat → Nat := fun k => if k < w.heap.size then 0 else if k < w1.heap.size then 4 else if k < w1.heap.size + 1 + 1 then 5 else if k = w1.heap.size + 1 + 1 then 1 else 0
theorem new_core {w w1 : World} {P M1 M2 : Nat} (h : Lay w1 P M1 M2 [] [] (fun k => w.heap.size ≤ k ∧ k < w1.heap.size)) (hz : w.heap.size ≤ w1.heap.size) (w5 : World)
    (h5 : w5 = (((w1.alloc (.map #[] 0)).alloc (.map #[] 0)).alloc (.cells (newCs P w1.heap.size (w1.heap.size + 1)) 101)).alloc (.cells #[ptV (w1.heap.size + 1 + 1)] 83)) :
    Gra w5 (w1.heap.size + 1 + 1 + 1) [] (newC w w1) ∧ Below w1.heap.size w1 w5 := by
  have h1 : ∀ (w : World) (o : Obj), (w.alloc o).heap.size = w.heap.size + 1 := fun w o => by simp
  have b1 : ∀ (w : World) (o : Obj), Below w.heap.size w (w.alloc o) := fun w o => (Below.refl _ _).alloc (Nat.le_refl _) _
  have k1 := SMap.made w1
  have k2 := SMap.made (w1.alloc (.map #[] 0))
  have k3 := AgAt.new ((w1.alloc (.map #[] 0)).alloc (.map #[] 0)) (newCs P w1.heap.size (w1.heap.size + 1)) 101
  have k4 := AgAt.new (((w1.alloc (.map #[] 0)).alloc (.map #[] 0)).alloc (.cells (newCs P w1.heap.size (w1.heap.size + 1)) 101)) #[ptV (w1.heap.size + 1 + 1)] 83
  have hsz : w5.heap.size = w1.heap.size + 1 + 1 + 1 + 1 := by rw [h5]; simp only [h1]
  have hb : Below w1.heap.size w1 w5 := by
    rw [h5]
    exact (b1 _ _).trans (((b1 _ _).mono (by simp)).trans (((b1 _ _).mono (by simp; omega)).trans ((b1 _ _).mono (by simp; omega))))
  simp only [h1] at k2 k3 k4
  rw [← h5] at k4
  have k3' : AgAt w5 (w1.heap.size + 1 + 1) (newCs P w1.heap.size (w1.heap.size + 1)) := by rw [h5]; exact k3.kept (b1 _ _)
  have k2' : SMap w5 (w1.heap.size + 1) [] := by rw [h5]; exact (k2.below (b1 _ _)).below (b1 _ _)
  have k1' : SMap w5 w1.heap.size [] := by rw [h5]; exact ((k1.below (b1 _ _)).below (b1 _ _)).below (b1 _ _)
  have hc4 : ∀ k, newC w w1 k = 4 ↔ w.heap.size ≤ k ∧ k < w1.heap.size := fun k => by unfold newC; repeat' split
                                                                                      all_goals omega
  have hc5 : ∀ k, newC w w1 k = 5 ↔ w1.heap.size ≤ k ∧ k < w1.heap.size + 1 + 1 := fun k => by unfold newC; repeat' split
                                                                                               all_goals omega
  have hlt : ∀ k, newC w w1 k ≠ 0 → k < w5.heap.size := fun k hk => by
    rw [hsz]
    unfold newC at hk
    repeat' split at hk
    all_goals omega
  have hl5 : Lay w5 P M1 M2 [] [] (fun k => newC w w1 k = 4) := (h.kept hb).more (fun k hk => (hc4 k).2 hk) fun k hk => hlt k (by rw [hk]; decide)
  have hms : Ms w5 w1.heap.size (w1.heap.size + 1) [] [] (fun k => newC w w1 k = 5) :=
    ⟨⟨k1', k2', fun _ h => (by cases h), (hc5 _).2 (by omega), (hc5 _).2 (by omega), fun _ h => (by cases h), by omega, fun _ h => (by cases h), List.nodup_nil, fun k hk => hlt k (by rw [hk]; decide)⟩, fun _ h => (by cases h), fun _ _ h => (by cases h)⟩
  have hcb : newC w w1 (w1.heap.size + 1 + 1) = 1 := by
    unfold newC
    repeat' split
    all_goals omega
  have hcore : Core w5 (newX w1 P M1 M2) (newC w w1) (Gm.run []) :=
    ⟨hlt, k3', hcb, ⟨rfl, Or.inl ⟨rfl, rfl⟩⟩, fun _ h => (by cases h), ⟨rfl, Or.inl ⟨rfl, rfl⟩⟩, fun _ h => (by cases h), hl5, hms, fun _ h => (by cases h), Tm.Ok.nil, fun _ => rfl, fun _ => rfl, Gm.Good.nil, Gm.Ops.nil, Nat.zero_le _, fun _ h => (by cases h)⟩
  refine ⟨⟨⟨newX w1 P M1 M2, k4, ⟨hcore, Nat.le_refl _, fun i u x hu _ => ?_⟩, rfl, rfl⟩, Or.inl ?_⟩, hb⟩
  · cases hu
  · unfold newC
    repeat' split
    all_goals omega
set_option maxRecDepth 100000 in
set_option maxHeartbeats 4000000 in
theorem gnew_any (w : World) : Calls Tryz.prog 8 #[] w (GNewed w) := by
  have HTN := Lib.hid (new_any w)
  have hmm := @run_makeMap Tryz.prog
  go_enter Tryz.func8, Tryz.ntmps8
  go_wp2_with fail
  refine HTN.out.mono ?_
  rintro e w1 ⟨P, M1, M2, rfl, hl, hb⟩
  have HC := Lib.hid (new_core hl hb.size)
  have HB := Lib.hid hb
  clear hl hb HTN
  go_wp2
  go_ret
  obtain ⟨h1, h2⟩ := HC.out _ rfl
  refine ⟨_, newC w w1, rfl, h1, HB.out.trans (h2.mono HB.out.size), fun k hk => ?_, by have := HB.out.size; omega, ?_⟩
  · unfold newC at hk
    split at hk
    · exact absurd rfl hk
    · omega
  · have := HB.out.size
    unfold newC
    repeat' split
    all_goals omega
end Go.Proofs.YthifdefjmfakgaaGreat

namespace Go.Proofs.YthifdefjmfakgaaGreat.Gm
open Go.Proofs.YthifdefjmfakgaaGreat

def insAll (l : List Pm.Wr) : List Pm.Wr := l.foldl insO []
theorem insAll_snoc (l : List Pm.Wr) (w : Pm.Wr) : insAll (l ++ [w]) = insO (insAll l) w := by simp [insAll, List.foldl_append]
theorem Ops.insO {ops : List Pm.Wr} (h : Ops ops) (w : Pm.Wr) : Ops (insO ops w) := by
  by_cases he : insE ops w = 0
  · obtain ⟨h1, h2⟩ := insE_ok.1 he
    unfold Gm.insO
    rw [if_pos he]
    exact h.ins h1 (place_spot h.up h2)
  · rw [insO_bad he]; exact h
theorem insO_len (ops : List Pm.Wr) (w : Pm.Wr) : (insO ops w).length ≤ ops.length + 1 := by
  by_cases he : insE ops w = 0
  · unfold insO
    rw [if_pos he, insAt_length]
    exact Nat.le_refl _
  · rw [insO_bad he]; omega
theorem ops_all (l : List Pm.Wr) : Ops (insAll l) := by
  refine snoc_ind (P := fun l => Ops (insAll l)) Ops.nil (fun l w ih => ?_) l
  rw [insAll_snoc]
  exact ih.insO w
theorem len_all (l : List Pm.Wr) : (insAll l).length ≤ l.length := by
  refine snoc_ind (P := fun l => (insAll l).length ≤ l.length) (Nat.le_refl _) (fun l w ih => ?_) l
  rw [insAll_snoc, List.length_append]
  have := insO_len (insAll l) w
  simp only [List.length_cons, List.length_nil]
  omega
/-- where no two have one stamp -/
def Lone (l : List Pm.Wr) : Prop := l.Pairwise fun a b => a.s ≠ b.s
theorem Lone.of {l : List Pm.Wr} (h : ∀ (i j : Nat) (a b : Pm.Wr), j < i → l[i]? = some a → l[j]? = some b → a.s ≠ b.s) : Lone l := by
  unfold Lone
  rw [List.pairwise_iff_getElem]
  intro i j hi hj hij e
  exact h j i _ _ hij (List.getElem?_eq_getElem hj) (List.getElem?_eq_getElem hi) e.symm
end Go.Proofs.YthifdefjmfakgaaGreat.Gm
