/-
  A GRAPH IN MEMORY: its state's block, the rows of its lines and of what takes them back, its tree, its masters and their nodes; each block has a colour: whose it is.
  No conditions but sizes.
-/
import Derived.Test.YthifdefjmfakgaaGreatTActs
import Derived.Test.YthifdefjmfakgaaGreatG1
import Derived.Test.YthifdefjmfakgaaGreatGI
namespace Go.Proofs.YthifdefjmfakgaaGreat
open Go.RowKit
open Tm (Sp Tr has put cut kids)

theorem mtMast : MapT 89 35 (snV (0, 0)) := ⟨Tryz.underlying89, fun _ => by kernel_rfl⟩
/-- masters -/
abbrev Lk := List (Qm.St × Qm.St)
def lookL (L : Lk) (n : Qm.St) : Option Qm.St := (L.find? fun e => e.1 == n).map (·.2)
def cutL (L : Lk) (n : Qm.St) : Lk := L.filter fun e => !(e.1 == n)
def masts (L : Lk) : List (Qm.St × Value) := L.map fun e => (e.1, snV e.2)
theorem lk_masts (L : Lk) (n : Qm.St) : lk (masts L) n = (lookL L n).map snV := lk_map snV L n
theorem lookL_mem {L : Lk} {n m : Qm.St} (h : lookL L n = some m) : (n, m) ∈ L := by
  unfold lookL at h
  obtain ⟨e, he, rfl⟩ := Option.map_eq_some_iff.1 h
  have h1 := List.find?_some he
  have h2 := List.mem_of_find?_eq_some he
  have h3 : e.1 = n := by simpa using h1
  subst h3
  exact h2
theorem lookL_some {L : Lk} (nd : (L.map Prod.fst).Nodup) {n m : Qm.St} (h : (n, m) ∈ L) : lookL L n = some m := by
  cases e : lookL L n with
  | none =>
    unfold lookL at e
    rw [Option.map_eq_none_iff, List.find?_eq_none] at e
    exact absurd (e _ h) (by simp)
  | some k =>
    have h2 := lookL_mem e
    have h3 : (n, k) = (n, m) := one_of nd h2 h rfl
    rw [Prod.mk.injEq] at h3
    rw [h3.2]
theorem lookL_cut {L : Lk} {n m : Qm.St} : lookL (cutL L n) m = if m = n then none else lookL L m := by
  by_cases h : m = n
  · subst h
    rw [if_pos rfl]
    unfold lookL cutL
    rw [Option.map_eq_none_iff, List.find?_eq_none]
    intro e he
    have := (List.mem_filter.1 he).2
    simpa using this
  · rw [if_neg h]
    unfold lookL cutL
    rw [List.find?_filter]
    congr 2
    funext e
    by_cases h2 : e.1 = m
    · simp [h2, h]
    · simp [h2]
theorem lookL_put {L : Lk} {n k m : Qm.St} (h : lookL L n = none) : lookL (L ++ [(n, k)]) m = if m = n then some k else lookL L m := by
  unfold lookL at h ⊢
  rw [List.find?_append]
  by_cases e : m = n
  · subst e
    rw [if_pos rfl]
    rw [Option.map_eq_none_iff] at h
    rw [h]
    simp
  · rw [if_neg e]
    have h2 : List.find? (fun e : Qm.St × Qm.St => e.1 == m) [(n, k)] = none := by
      rw [List.find?_eq_none]
      intro x hx
      rw [List.mem_singleton.1 hx]
      simp
      exact fun h => e h.symm
    rw [h2, Option.or_none]
/-- the masters' memory: two maps, a map for each master; all of it in F -/
structure Mm (w : World) (M3 M4 : Nat) (L : Lk) (D : List Kid) (F : Nat → Prop) : Prop where
  mast : SMap w M3 (masts L)
  inst : SMap w M4 (belows D)
  inner : ∀ c ∈ D, SMap w c.b (nodesOf c.l)
  f3 : F M3
  f4 : F M4
  fK : ∀ c ∈ D, F c.b
  ne : M3 ≠ M4
  kne : ∀ c ∈ D, c.b ≠ M3 ∧ c.b ≠ M4
  knd : (D.map Kid.b).Nodup
  lt : ∀ k, F k → k < w.heap.size
/-- .. which tells of each master its nodes -/
structure Ms (w : World) (M3 M4 : Nat) (L : Lk) (D : List Kid) (F : Nat → Prop) : Prop extends Mm w M3 M4 L D F where
  full : ∀ c ∈ D, c.l ≠ [] ∧ ∀ n, n ∈ c.l ↔ lookL L n = some c.p
  all : ∀ n m, lookL L n = some m → ∃ c ∈ D, c.p = m
section
variable {w w' : World} {M3 M4 : Nat} {L : Lk} {D : List Kid} {F G : Nat → Prop}
theorem Mm.turns (h : Mm w M3 M4 L D F) (ht : Turns G w w') (hd : ∀ k, F k → ¬ G k) : Mm w' M3 M4 L D F :=
  ⟨h.mast.turns ht (hd _ h.f3), h.inst.turns ht (hd _ h.f4), fun c hc => (h.inner c hc).turns ht (hd _ (h.fK c hc)), h.f3, h.f4, h.fK, h.ne, h.kne, h.knd, fun k hk => Nat.lt_of_lt_of_le (h.lt k hk) ht.size⟩
theorem Mm.kept (h : Mm w M3 M4 L D F) (hb : Below w.heap.size w w') : Mm w' M3 M4 L D F := h.turns (Turns.of_below (F := fun _ => False) hb) fun _ _ h => h
theorem Mm.more (h : Mm w M3 M4 L D F) (hm : ∀ k, F k → G k) (hl : ∀ k, G k → k < w.heap.size) : Mm w M3 M4 L D G := ⟨h.mast, h.inst, h.inner, hm _ h.f3, hm _ h.f4, fun c hc => hm _ (h.fK c hc), h.ne, h.kne, h.knd, hl⟩
theorem Ms.turns (h : Ms w M3 M4 L D F) (ht : Turns G w w') (hd : ∀ k, F k → ¬ G k) : Ms w' M3 M4 L D F := ⟨h.toMm.turns ht hd, h.full, h.all⟩
theorem Ms.kept (h : Ms w M3 M4 L D F) (hb : Below w.heap.size w w') : Ms w' M3 M4 L D F := h.turns (Turns.of_below (F := fun _ => False) hb) fun _ _ h => h
theorem Ms.more (h : Ms w M3 M4 L D F) (hm : ∀ k, F k → G k) (hl : ∀ k, G k → k < w.heap.size) : Ms w M3 M4 L D G := ⟨h.toMm.more hm hl, h.full, h.all⟩
theorem Mm.nd (h : Mm w M3 M4 L D F) : (L.map Prod.fst).Nodup := by
  have := h.mast.nd
  unfold masts at this
  rwa [List.map_map] at this
theorem Mm.wf (h : Mm w M3 M4 L D F) : ∀ e ∈ L, StWf e.1 := fun e he => h.mast.wf (e.1, snV e.2) (List.mem_map.2 ⟨e, he, rfl⟩)
theorem Mm.cnd (h : Mm w M3 M4 L D F) : (D.map Kid.p).Nodup := by
  have := h.inst.nd
  unfold belows at this
  rwa [List.map_map] at this
theorem Mm.look1 (h : Mm w M3 M4 L D F) (n : Qm.St) (hn : StWf n) :
    (Instr.lookup 89 (.map (some M3)) (snV n) true).run Tryz.prog w = .ok (.tuple #[snV ((lookL L n).getD (0, 0)), .bool (lookL L n).isSome]) w := by
  rw [h.mast.lookOk mtMast n hn, lk_masts]
  cases lookL L n <;> rfl
theorem Mm.look0 (h : Mm w M3 M4 L D F) (n : Qm.St) (hn : StWf n) :
    (Instr.lookup 89 (.map (some M3)) (snV n) false).run Tryz.prog w = .ok (snV ((lookL L n).getD (0, 0))) w := by
  rw [h.mast.look mtMast n hn, lk_masts]
  cases lookL L n <;> rfl
theorem Mm.lookB (h : Mm w M3 M4 L D F) (n : Qm.St) (hn : StWf n) :
    (Instr.lookup 90 (.map (some M4)) (snV n) false).run Tryz.prog w = .ok (.map (kidOf D n)) w := by
  rw [h.inst.look mtBelow n hn, lk_belows]
theorem Ms.kidNone (h : Ms w M3 M4 L D F) {p : Qm.St} (hk : kidOf D p = none) (n : Qm.St) : lookL L n ≠ some p := fun hn => by
  obtain ⟨c, hc, h2⟩ := h.all n p hn
  exact kidOf_none hk c hc h2
theorem Ms.kidSome (h : Ms w M3 M4 L D F) {p : Qm.St} {b : Nat} (hk : kidOf D p = some b) : ∃ c ∈ D, c.p = p ∧ c.b = b ∧ SMap w b (nodesOf c.l) ∧ c.l ≠ [] ∧ ∀ n, n ∈ c.l ↔ lookL L n = some p := by
  obtain ⟨c, hc, rfl, rfl⟩ := kidOf_some hk
  exact ⟨c, hc, rfl, rfl, h.inner c hc, (h.full c hc).1, (h.full c hc).2⟩
end

/-! ### lines, and what takes them back -/
def lnL (x : Pm.Wr) : List Value := [.int .i64 x.s.1, .int .i64 x.s.2] ++ opL x.x none 0
def lnA (x : Pm.Wr) : Array Value := (lnL x).toArray
abbrev ptV (b : Nat) : Value := .pointer (some ⟨b, 0, none⟩)
inductive Uk
  | pass
  | cr (b : Nat)
  | mv (b c : Nat) (was : Sp)
  | pt (b c : Nat) (was : Qm.St)
def Uk.val : Uk → Value
  | pass => .nilFunc
  | cr b => .func (.func 140) #[] #[ptV b]
  | mv b c _ => .func (.func 143) #[] #[ptV b, ptV c]
  | pt b c _ => .func (.func 144) #[] #[ptV b, ptV c]
abbrev stA (n : Qm.St) : Array Value := #[.int .i64 n.1, .int .i64 n.2]
/-- what takes an op back that was tried at g -/
def UkOk (w : World) (χ : Nat → Nat) (g : Gm.G) (x : Pm.Wr) : Uk → Prop
  | .pass => Gm.tryG g x = none
  | .cr b => x.x.k = 1 ∧ χ b = 6 ∧ AgAt w b (stA x.s)
  | .mv b c was => x.x.k = 2 ∧ (Gm.tryG g x).isSome = true ∧ χ b = 6 ∧ χ c = 6 ∧ AgAt w b (stA (Gm.node x.x)) ∧ AgAt w c (spA was) ∧ g.s (Gm.node x.x) = some was
  | .pt b c was => x.x.k = 5 ∧ (Gm.tryG g x).isSome = true ∧ χ b = 6 ∧ χ c = 6 ∧ AgAt w b (stA (Gm.node x.x)) ∧ AgAt w c (stA was) ∧ (g.m (Gm.node x.x)).getD (0, 0) = was
theorem UkOk.keep {w w' : World} {χ χ' : Nat → Nat} {g : Gm.G} {x : Pm.Wr} {u : Uk} (h : UkOk w χ g x u) (hb : ∀ k, χ k = 6 → χ' k = 6 ∧ w'.heap[k]? = w.heap[k]?) : UkOk w' χ' g x u := by
  cases u with
  | pass => exact h
  | cr b => exact ⟨h.1, (hb b h.2.1).1, h.2.2.block (hb b h.2.1).2⟩
  | mv b c was => obtain ⟨h1, h2, h3, h4, h5, h6, h7⟩ := h; exact ⟨h1, h2, (hb b h3).1, (hb c h4).1, h5.block (hb b h3).2, h6.block (hb c h4).2, h7⟩
  | pt b c was => obtain ⟨h1, h2, h3, h4, h5, h6, h7⟩ := h; exact ⟨h1, h2, (hb b h3).1, (hb c h4).1, h5.block (hb b h3).2, h6.block (hb c h4).2, h7⟩
/-- where a graph lies, what it holds -/
structure Gx where
  lk : Int
  b : Nat
  po : Value
  ls : List (Pm.Wr × Nat)
  pu : Value
  us : List Uk
  P : Nat
  M1 : Nat
  M2 : Nat
  T : Tr
  C : List Kid
  M3 : Nat
  M4 : Nat
  L : Lk
  D : List Kid
def Gx.ops (X : Gx) : List Pm.Wr := X.ls.map Prod.fst
def Gx.cells (X : Gx) : Array Value := #[.int .i32 X.lk, .int .u32 0, X.po, X.pu, ptV X.P, .map (some X.M3), .map (some X.M4)]
/-- a state of a graph, whose tree and masters are g's -/
structure Core (w : World) (X : Gx) (χ : Nat → Nat) (g : Gm.G) : Prop where
  lt : ∀ k, χ k ≠ 0 → k < w.heap.size
  at_ : AgAt w X.b X.cells
  cb : χ X.b = 1
  ro : w.ownsRow 0 104 1 X.po X.ls.length (X.ls.map fun e => ptV e.2)
  co : ∀ k, X.po.ownBlock = some k → χ k = 2
  ru : w.ownsRow 0 106 1 X.pu X.us.length (X.us.map Uk.val)
  cu : ∀ k, X.pu.ownBlock = some k → χ k = 3
  tree : Lay w X.P X.M1 X.M2 X.T X.C (fun k => χ k = 4)
  ms : Ms w X.M3 X.M4 X.L X.D (fun k => χ k = 5)
  ln : ∀ e ∈ X.ls, χ e.2 = 6 ∧ AgAt w e.2 (lnA e.1)
  tk : Tm.Ok X.T
  hs : ∀ n, Tm.look X.T n = g.s n
  hm : ∀ n, lookL X.L n = g.m n
  good : Gm.Good g
  ops : Gm.Ops X.ops
  few : X.ls.length ≤ 60
  dom : ∀ n, (g.s n).isSome = true → ∃ e ∈ X.ls, e.1.s = n
/-- only a graph's own blocks turn; the colours of the others stay -/
structure Goes (w : World) (χ : Nat → Nat) (w' : World) (χ' : Nat → Nat) : Prop where
  turns : Turns (fun k => 1 ≤ χ k ∧ χ k ≤ 5) w w'
  keep : ∀ k, k < w.heap.size → χ' k = χ k
theorem Goes.refl (w : World) (χ : Nat → Nat) : Goes w χ w χ := ⟨Turns.refl _ _, fun _ _ => rfl⟩
theorem Goes.trans {w w1 w2 : World} {χ χ1 χ2 : Nat → Nat} (h : Goes w χ w1 χ1) (k : Goes w1 χ1 w2 χ2) : Goes w χ w2 χ2 :=
  ⟨h.turns.trans (k.turns.mono fun i hi hf => by
    by_cases hl : i < w.heap.size
    · rw [h.keep i hl] at hf; exact Or.inl hf
    · exact Or.inr (by omega)), fun i hi => (k.keep i (Nat.lt_of_lt_of_le hi h.turns.size)).trans (h.keep i hi)⟩
theorem Goes.of_below {w w' : World} {χ : Nat → Nat} (h : Below w.heap.size w w') : Goes w χ w' χ := ⟨Turns.of_below h, fun _ _ => rfl⟩
section
variable {w w' : World} {X : Gx} {χ χ' : Nat → Nat} {g g' : Gm.G} {G : Nat → Prop}
theorem Core.turns (h : Core w X χ g) (ht : Turns G w w') (hd : ∀ k, χ k ≠ 0 → ¬ G k) : Core w' X χ g :=
  ⟨fun k hk => Nat.lt_of_lt_of_le (h.lt k hk) ht.size, h.at_.block (ht.block _ h.at_.lt (hd _ (by rw [h.cb]; decide))), h.cb, ht.own h.ro fun k hk => hd k (by rw [h.co k hk]; decide), h.co, ht.own h.ru fun k hk => hd k (by rw [h.cu k hk]; decide), h.cu,
   h.tree.turns ht fun k hk => hd k (by rw [hk]; decide), h.ms.turns ht fun k hk => hd k (by rw [hk]; decide), fun e he => ⟨(h.ln e he).1, (h.ln e he).2.block (ht.block _ (h.ln e he).2.lt (hd _ (by rw [(h.ln e he).1]; decide)))⟩,
   h.tk, h.hs, h.hm, h.good, h.ops, h.few, h.dom⟩
theorem Core.kept (h : Core w X χ g) (hb : Below w.heap.size w w') : Core w' X χ g := h.turns (Turns.of_below (F := fun _ => False) hb) fun _ _ h => h
/-- blocks that had no colour get one -/
theorem Core.recol (h : Core w X χ g) (hk : ∀ k, χ k ≠ 0 → χ' k = χ k) (hl : ∀ k, χ' k ≠ 0 → k < w.heap.size) : Core w X χ' g :=
  ⟨hl, h.at_, (hk _ (by rw [h.cb]; decide)).trans h.cb, h.ro, fun k hk' => (hk _ (by rw [h.co k hk']; decide)).trans (h.co k hk'), h.ru, fun k hk' => (hk _ (by rw [h.cu k hk']; decide)).trans (h.cu k hk'),
   h.tree.more (fun k hk' => (hk _ (by rw [hk']; decide)).trans hk') fun k hk' => hl k (by rw [hk']; decide), h.ms.more (fun k hk' => (hk _ (by rw [hk']; decide)).trans hk') fun k hk' => hl k (by rw [hk']; decide),
   fun e he => ⟨(hk _ (by rw [(h.ln e he).1]; decide)).trans (h.ln e he).1, (h.ln e he).2⟩, h.tk, h.hs, h.hm, h.good, h.ops, h.few, h.dom⟩
/-- the new blocks' colour -/
def grown (χ : Nat → Nat) (w w' : World) (c : Nat) : Nat → Nat := fun k => if k < w.heap.size then χ k else if k < w'.heap.size then c else 0
theorem grown_old (h : ∀ k, χ k ≠ 0 → k < w.heap.size) {c k : Nat} (hk : χ k ≠ 0) : grown χ w w' c k = χ k := if_pos (h k hk)
theorem grown_lt (hz : w.heap.size ≤ w'.heap.size) {c k : Nat} (hk : grown χ w w' c k ≠ 0) : k < w'.heap.size := by
  unfold grown at hk
  split at hk
  · omega
  · split at hk
    · assumption
    · exact absurd rfl hk
theorem grown_new {c k : Nat} (h1 : w.heap.size ≤ k) (h2 : k < w'.heap.size) : grown χ w w' c k = c := by
  unfold grown
  rw [if_neg (by omega), if_pos h2]
theorem Core.len (h : Core w X χ g) : X.T.length ≤ X.ls.length := by
  have h1 := Tm.len_le (b := X.ls.map fun e => e.1.s) h.tk.nd fun n hn => by
    obtain ⟨e, he, rfl⟩ := List.mem_map.1 hn
    obtain ⟨x, hx, hxs⟩ := h.dom e.1 (by rw [← h.hs, Tm.look_some h.tk.nd (n := e.1) (s := e.2) he]; rfl)
    exact List.mem_map.2 ⟨x, hx, hxs⟩
  simpa using h1
theorem Core.lenL (h : Core w X χ g) : X.L.length ≤ X.ls.length := by
  have h1 := Tm.len_le (b := X.ls.map fun e => e.1.s) h.ms.nd fun n hn => by
    obtain ⟨e, he, rfl⟩ := List.mem_map.1 hn
    obtain ⟨x, hx, hxs⟩ := h.dom e.1 (h.good.mas e.1 e.2 (by rw [← h.hm, lookL_some h.ms.nd (n := e.1) (m := e.2) he])).1
    exact List.mem_map.2 ⟨x, hx, hxs⟩
  simpa using h1
theorem okN_wf {n : Qm.St} (h : Tm.okN n = true) : StWf n := by
  unfold Tm.okN okNode at h
  rw [Bool.and_eq_true] at h
  have := rightB_yes h.1
  exact ⟨i64wf (by omega) (by omega), i64wf (by omega) (by omega)⟩
theorem place_wf {n : Qm.St} (h : okPlace n.1 n.2 = true) : StWf n := by
  unfold okPlace at h
  rw [Bool.or_eq_true, Bool.or_eq_true] at h
  rcases h with (h | h) | h
  · exact okN_wf (n := n) h
  · unfold isZ at h
    rw [Bool.and_eq_true, beq_iff_eq, beq_iff_eq] at h
    unfold StWf
    rw [h.1, h.2]
    decide
  · unfold isT at h
    rw [Bool.and_eq_true, beq_iff_eq, beq_iff_eq] at h
    unfold StWf
    rw [h.1, h.2]
    decide
theorem rightSp_wf {s : Sp} (h : Tm.rightSp s = true) : StWf s.1 ∧ s.2.size ≤ 140737488355328 := by
  unfold Tm.rightSp at h
  rw [Bool.and_eq_true] at h
  refine ⟨place_wf h.1, ?_⟩
  have h2 : 1 ≤ s.2.data.toList.length ∧ s.2.data.toList.length ≤ 24 ∧ _ := of_decide_eq_true h.2
  have h3 := h2.2.1
  rw [Array.length_toList] at h3
  have : s.2.size = s.2.data.size := rfl
  omega
theorem Core.par (h : Core w X χ g) : ∀ e ∈ X.T, StWf e.2.1 := fun e he => (rightSp_wf (h.tk.sp e he)).1
theorem Core.hasEq (h : Core w X χ g) (p : Qm.St) : Tm.has X.T p = Gm.has g p := by unfold Tm.has Gm.has; rw [h.hs]
/-- the tree turned -/
theorem Core.tree' (h : Core w X χ g) {T' : Tr} {C' : List Kid} (hl : Lay w' X.P X.M1 X.M2 T' C' (fun k => χ k = 4 ∨ (w.heap.size ≤ k ∧ k < w'.heap.size))) (ht : Turns (fun k => χ k = 4) w w') (tk : Tm.Ok T')
    (hs : ∀ n, Tm.look T' n = g'.s n) (hm : g'.m = g.m) (good : Gm.Good g') (dom : ∀ n, (g'.s n).isSome = true → ∃ e ∈ X.ls, e.1.s = n) : Core w' { X with T := T', C := C' } (grown χ w w' 4) g' := by
  have hz := ht.size
  have ho : ∀ k, χ k ≠ 0 → grown χ w w' 4 k = χ k := fun k hk => grown_old h.lt hk
  have hx : ∀ k, χ k ≠ 0 → χ k ≠ 4 → w'.heap[k]? = w.heap[k]? := fun k hk h4 => ht.block k (h.lt k hk) h4
  refine ⟨fun k hk => grown_lt hz hk, h.at_.block (hx _ (by rw [h.cb]; decide) (by rw [h.cb]; decide)), (ho _ (by rw [h.cb]; decide)).trans h.cb, ht.own h.ro fun k hk => by rw [h.co k hk]; decide, fun k hk => (ho _ (by rw [h.co k hk]; decide)).trans (h.co k hk),
    ht.own h.ru fun k hk => by rw [h.cu k hk]; decide, fun k hk => (ho _ (by rw [h.cu k hk]; decide)).trans (h.cu k hk), hl.more (fun k hk => ?_) (fun k hk => grown_lt hz (by rw [hk]; decide)),
    (h.ms.turns ht fun k hk => by rw [hk]; decide).more (fun k hk => (ho _ (by rw [hk]; decide)).trans hk) (fun k hk => grown_lt hz (by rw [hk]; decide)),
    fun e he => ⟨(ho _ (by rw [(h.ln e he).1]; decide)).trans (h.ln e he).1, (h.ln e he).2.block (hx _ (by rw [(h.ln e he).1]; decide) (by rw [(h.ln e he).1]; decide))⟩, tk, hs, fun n => by rw [hm]; exact h.hm n, good, h.ops, h.few, dom⟩
  rcases hk with hk | hk
  · exact (ho k (by rw [hk]; decide)).trans hk
  · exact grown_new hk.1 hk.2
/-- the masters turned -/
theorem Core.ms' (h : Core w X χ g) {L' : Lk} {D' : List Kid} (hl : Ms w' X.M3 X.M4 L' D' (fun k => χ k = 5 ∨ (w.heap.size ≤ k ∧ k < w'.heap.size))) (ht : Turns (fun k => χ k = 5) w w')
    (hm : ∀ n, lookL L' n = g'.m n) (hs : g'.s = g.s) (good : Gm.Good g') : Core w' { X with L := L', D := D' } (grown χ w w' 5) g' := by
  have hz := ht.size
  have ho : ∀ k, χ k ≠ 0 → grown χ w w' 5 k = χ k := fun k hk => grown_old h.lt hk
  have hx : ∀ k, χ k ≠ 0 → χ k ≠ 5 → w'.heap[k]? = w.heap[k]? := fun k hk h4 => ht.block k (h.lt k hk) h4
  refine ⟨fun k hk => grown_lt hz hk, h.at_.block (hx _ (by rw [h.cb]; decide) (by rw [h.cb]; decide)), (ho _ (by rw [h.cb]; decide)).trans h.cb, ht.own h.ro fun k hk => by rw [h.co k hk]; decide, fun k hk => (ho _ (by rw [h.co k hk]; decide)).trans (h.co k hk),
    ht.own h.ru fun k hk => by rw [h.cu k hk]; decide, fun k hk => (ho _ (by rw [h.cu k hk]; decide)).trans (h.cu k hk), (h.tree.turns ht fun k hk => by rw [hk]; decide).more (fun k hk => (ho _ (by rw [hk]; decide)).trans hk) (fun k hk => grown_lt hz (by rw [hk]; decide)),
    hl.more (fun k hk => ?_) (fun k hk => grown_lt hz (by rw [hk]; decide)),
    fun e he => ⟨(ho _ (by rw [(h.ln e he).1]; decide)).trans (h.ln e he).1, (h.ln e he).2.block (hx _ (by rw [(h.ln e he).1]; decide) (by rw [(h.ln e he).1]; decide))⟩, h.tk, fun n => by rw [hs]; exact h.hs n, hm, good, h.ops, h.few, fun n hn => h.dom n (by rw [← hs]; exact hn)⟩
  rcases hk with hk | hk
  · exact (ho k (by rw [hk]; decide)).trans hk
  · exact grown_new hk.1 hk.2
theorem goes_grown {c d : Nat} (ht : Turns (fun k => χ k = c) w w') (h1 : 1 ≤ c) (h5 : c ≤ 5) : Goes w χ w' (grown χ w w' d) := ⟨ht.mono fun k _ hk => by rw [hk]; exact ⟨h1, h5⟩, fun k hk => if_pos hk⟩
/-- cells of the state -/
theorem Core.cell (h : Core w X χ g) (i : Nat) : w.cell? ⟨X.b, i, none⟩ = X.cells[i]? := AgAt.cell h.at_ i
theorem Core.free (h : Core w X χ g) (i : Nat) : w.frozen? ⟨X.b, i, none⟩ = false := AgAt.free h.at_ i
theorem Core.cP (h : Core w X χ g) : w.cell? ⟨X.b, 4, none⟩ = some (ptV X.P) := (h.cell 4).trans rfl
theorem Core.c3 (h : Core w X χ g) : w.cell? ⟨X.b, 5, none⟩ = some (.map (some X.M3)) := (h.cell 5).trans rfl
theorem Core.c4 (h : Core w X χ g) : w.cell? ⟨X.b, 6, none⟩ = some (.map (some X.M4)) := (h.cell 6).trans rfl
theorem Core.cO (h : Core w X χ g) : w.cell? ⟨X.b, 2, none⟩ = some X.po := (h.cell 2).trans rfl
theorem Core.cU (h : Core w X χ g) : w.cell? ⟨X.b, 3, none⟩ = some X.pu := (h.cell 3).trans rfl
end
/-- a graph between its calls -/
structure Grf (w : World) (X : Gx) (χ : Nat → Nat) : Prop extends Core w X χ (Gm.run (X.ops.take X.us.length)) where
  fewer : X.us.length ≤ X.ls.length
  un : ∀ i u x, X.us[i]? = some u → X.ops[i]? = some x → UkOk w χ (Gm.run (X.ops.take i)) x u
theorem Grf.turns {w w' : World} {X : Gx} {χ : Nat → Nat} {G : Nat → Prop} (h : Grf w X χ) (ht : Turns G w w') (hd : ∀ k, χ k ≠ 0 → ¬ G k) : Grf w' X χ :=
  ⟨h.toCore.turns ht hd, h.fewer, fun i u x hu hx => (h.un i u x hu hx).keep fun k hk => ⟨hk, ht.block k (h.lt k (by rw [hk]; decide)) (hd k (by rw [hk]; decide))⟩⟩
theorem Grf.kept {w w' : World} {X : Gx} {χ : Nat → Nat} (h : Grf w X χ) (hb : Below w.heap.size w w') : Grf w' X χ := h.turns (Turns.of_below (F := fun _ => False) hb) fun _ _ h => h
end Go.Proofs.YthifdefjmfakgaaGreat
