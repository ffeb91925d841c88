/-
  READING, whatever the reader's error is: numbers, stamps, texts, values, the Path, On.
  No conditions but sizes.
  READING, whatever the reader's error is: values, On, the Path.
  No conditions but sizes.
  READING a Path: as many stamps as its count says, until an error.
  Conditions: at most 10^12 bytes are left, or the count is at most 10^12.
  THE LAW's HELPERS: Own (an op of the program's, its Path copied), long.
  No conditions but sizes.
-/
import Derived.Test.YthifdefjmfakgaaGreatH7
namespace Go.Proofs.YthifdefjmfakgaaGreat
open Go.RowKit

/-- a reader that has s left -/
def RdS (w : World) (B b : Nat) (s : RS) : Prop := Rdr w B b s.1 s.2
theorem RdS.kept {w w' : World} {B b : Nat} {s : RS} (h : RdS w B b s) (hb : Below w.heap.size w w') : RdS w' B b s := Rdr.kept h hb
theorem RdS.lt {w : World} {B b : Nat} {s : RS} (h : RdS w B b s) : b < w.heap.size := Rdr.lt h
theorem RdS.len {w : World} {B b : Nat} {s : RS} (h : RdS w B b s) : s.1.length ≤ 4611686018427387904 := h.2.2.2.2.2.1

end Go.Proofs.YthifdefjmfakgaaGreat

namespace Go.Proofs.YthifdefjmfakgaaGreat
open Go.RowKit

end Go.Proofs.YthifdefjmfakgaaGreat

namespace Go.Proofs.YthifdefjmfakgaaGreat
open Go.RowKit

section
variable {P : Program}
end
theorem oinfo_st : (Tryz.prog.info? 35).map (fun i => (i.zero, i.size, i.bytes)) = some (some (.agg #[.int .i64 0, .int .i64 0]), 2, 16) := by kernel_rfl
/-- a row of the call's own, from block B on -/
def OwnP (w : World) (B : Nat) (v : Value) (l : List Qm.St) : Prop := w.ownsRow B 35 2 v l.length (stCells l)
theorem OwnP.below {w w' : World} {B : Nat} {v : Value} {l : List Qm.St} (h : OwnP w B v l) (hb : Below w.heap.size w w') : OwnP w' B v l := World.ownsRow.kept (row := none) h ⟨hb.os, hb.tape, hb.output, hb.size, fun k hk _ => hb.block k hk⟩ (by cases hv : v.ownBlock <;> simp)
theorem OwnP.only {w w' : World} {B b : Nat} {v : Value} {l : List Qm.St} (h : OwnP w B v l) (ho : Only b w w') (hb : b < B) : OwnP w' B v l :=
  World.ownsRow.kept (row := some b) h ho (by
    cases hv : v.ownBlock with
    | none => simp
    | some g => have := (World.ownsRow.lt h g hv).1; simp; omega)
theorem OwnP.grown {w w' : World} {B : Nat} {v : Value} {l : List Qm.St} (h : OwnP w B v l) (hg : w.grownBy w' v.ownBlock) (hB : B ≤ w.heap.size) : Below B w w' :=
  ⟨hg.os, hg.tape, hg.output, hg.size, fun k hk => hg.block k (by omega) (by
    intro e
    have := (World.ownsRow.lt h k e.symm).1
    omega)⟩
theorem OwnP.nil (w : World) (B : Nat) : OwnP w B (.slice none 0 0) [] := World.ownsRow_nil w B 35 2

end Go.Proofs.YthifdefjmfakgaaGreat

namespace Go.Proofs.YthifdefjmfakgaaGreat
open Go.RowKit

/-- append of elements of k cells, in a region that draws, however many there is room for -/
theorem step_append_kL {P : Program} {w : World} {ops : Array Oper} {o : Oper} {a : Act} {K : Act → World → Prop} {Q : Exit → Act → World → Prop} {E : Prop} (hgd : o.guard = none) (s x : Operand) (t : TypeId)
    (ho : o.op = .call { callee := .builtin .append, args := #[s, x], argTypes := #[t, t] })
    (base : Nat) (e : TypeId) (i : TypeInfo) (z : Value) (k bytes : Nat) (ht : P.underlying t = some (.slice e)) (hi : P.info? e = some i) (hz : i.zero = some z)
    (hsize : i.size = k) (hk0 : 0 < k) (hby : i.bytes = bytes) (hb1 : bytes ≤ 1000) (hzs : z.cells.size = k)
    (v : Value) (n : Nat) (xs : List Value) (hs : a.eval s = v) (hown : w.ownsRow base e k v n xs)
    (p : Option Addr) (m c : Nat) (us : List Value) (hx : a.eval x = .slice p m c) (hus : us.length = m * k) (hrd : Rd w p us) (hpn : p = none → c = 0) (h1 : ∀ u ∈ us, u.oneCell' = true)
    (hsz : n + m ≤ 10000) (hbase : base ≤ w.heap.size)
    (h : ∀ p' c' w', w'.ownsRow base e k (.slice p' (n + m) c') (n + m) (xs ++ us) → w.grownBy w' v.ownBlock → K (a.put o.dst (.slice p' (n + m) c')) w') :
    if Region.wanted o (yielded ops a.tmps) = true then Oper.wp P o a w K Q else E := by
  have hw : Region.wanted o (yielded ops a.tmps) = true := by simp [Region.wanted, hgd]
  rw [if_pos hw]
  obtain ⟨v', w', hr, h2, h3, h4⟩ := run_append_k (P := P) w base t o.type e i z k bytes ht hi hz hsize hk0 hby (by omega) hzs v n xs hown p m c us hus hrd hpn h1
    (Nat.le_trans (Nat.mul_le_mul hsz hb1) (by decide)) (by unfold maxLen; omega) hbase
  obtain ⟨p', c', rfl, -⟩ := own_rd h2
  unfold Oper.wp execOp
  simp only [ho, resolve, invoke, builtin, Sem.run_bind, Sem.run_pure, Result.andThen_ok, List.map_toArray, List.map_cons, List.map_nil, hs, hx, hr]
  exact h p' c' w' h2 h3
/-- a whole op into a block of its own, in a region that draws -/
theorem step_store_op {t : TypeId} (V : OT t) {w : World} {ops : Array Oper} {o : Oper} {a : Act} {K : Act → World → Prop} {Q : Exit → Act → World → Prop} {E : Prop} (hgd : o.guard = none) (x y : Operand) (ho : o.op = .store t x y)
    (b : Nat) (hx : a.eval x = .pointer (some ⟨b, 0, none⟩)) (T : TypeId) (u : Array Value) (hv : w.heap[b]? = some (.cells u T (0, 0))) (hu : u.size = 12) (v : Opp) (q : Option Addr) (c : Nat) (hy : a.eval y = .agg (opA v q c))
    (h : ∀ w' : World, OpAt w' b v q c → (∀ k, k ≠ b → w'.heap[k]? = w.heap[k]?) → w'.heap.size = w.heap.size → (∀ B w0, Below B w0 w → B ≤ b → Below B w0 w') → K (a.put o.dst undef) w') :
    if Region.wanted o (yielded ops a.tmps) = true then Oper.wp Tryz.prog o a w K Q else E := by
  have hw : Region.wanted o (yielded ops a.tmps) = true := by simp [Region.wanted, hgd]
  rw [if_pos hw]
  have hr := run_storeVar_op V w b T u (opA v q c) hv hu rfl (opA_one _ _ _)
  have hk : K (a.put o.dst undef) (w.setRow b (opA v q c)) := by
    refine h _ ⟨T, setRow_heap w b _ _ T _ hv⟩ (fun k hk => setRow_other w b k _ hk) (by simp) ?_
    intro B w0 hb hB
    exact hb.trans ⟨rfl, rfl, rfl, by simp, fun k hk => setRow_other w b k _ (by omega)⟩
  unfold Oper.wp execOp
  simp only [ho, hx, hy, Instr.storeAt, Instr.sureAddr, Sem.run_bind, Sem.run_pure, Result.andThen_ok, hr]
  exact hk

/-- what Own's region keeps: the box X, a result's block of twelve cells, the Path -/
structure OwS (w0 : World) (X : Nat) (x : Opp) (q : Option Addr) (c : Nat) (W : World) : Prop where
  hX : w0.heap.size ≤ X
  op : OpAt W X x q c
  res : ∃ A T, W.heap[X + 1]? = some (.cells A T (0, 0)) ∧ A.size = 12
  pa : Pa w0 x q c
  below : Below w0.heap.size w0 W
theorem OwS.kept {w0 W W' : World} {X : Nat} {x : Opp} {q : Option Addr} {c : Nat} (h : OwS w0 X x q c W) (hb : Below W.heap.size W W') : OwS w0 X x q c W' := by
  obtain ⟨h0, h1, ⟨A, T, h2, h3⟩, h4, h5⟩ := h
  exact ⟨h0, h1.kept hb, ⟨A, T, by rw [hb.block _ (Array.getElem?_eq_some_iff.1 h2).1]; exact h2, h3⟩, h4, h5.trans (hb.mono h5.size)⟩
theorem OwS.paw {w0 W : World} {X : Nat} {x : Opp} {q : Option Addr} {c : Nat} (h : OwS w0 X x q c W) : Pa W x q c := h.pa.kept h.below
theorem OwS.lt {w0 W : World} {X : Nat} {x : Opp} {q : Option Addr} {c : Nat} (h : OwS w0 X x q c W) : X + 1 < W.heap.size := by
  obtain ⟨A, T, h2, -⟩ := h.res
  exact (Array.getElem?_eq_some_iff.1 h2).1
theorem OwS.stored {w0 W W' : World} {X : Nat} {x y : Opp} {q q' : Option Addr} {c c' : Nat} (h : OwS w0 X x q c W) (hv : OpAt W' (X + 1) y q' c') (hko : ∀ k, k ≠ X + 1 → W'.heap[k]? = W.heap[k]?) (hbn : ∀ B w1, Below B w1 W → B ≤ X + 1 → Below B w1 W') : OwS w0 X x q c W' := by
  obtain ⟨T, hT⟩ := hv
  exact ⟨h.hX, h.op.block (hko X (by omega)), ⟨_, T, hT, rfl⟩, h.pa, hbn _ _ h.below (by have := h.hX; omega)⟩
theorem OwnP.paStored {w w' : World} {B R : Nat} {x : Opp} {p : Option Addr} {c : Nat} (h : OwnP w B (.slice p x.path.length c) x.path) (hR : R < B) (hko : ∀ k, k ≠ R → w'.heap[k]? = w.heap[k]?) : Pa w' x p c := by
  obtain ⟨p', c', e, h1, h2, -, h3, h4⟩ := own_rd h
  cases e
  refine ⟨fun h0 => ?_, h3, h2⟩
  obtain ⟨b', o', rfl, hc⟩ := h1 h0
  have := (h4 _ rfl).1
  exact ⟨b', o', rfl, fun i u hu => by rw [World.cell?_of_block (w := w) (hko b' (by simp only at this; omega))]; exact hc i u hu⟩
theorem OwS.start (w : World) (x : Opp) (q : Option Addr) (c : Nat) (ha : Pa w x q c) (A : Array Value) (hA : A = opA Opp.zero none 0) : OwS w w.heap.size x q c (((w.alloc (.cells (opA x q c) 40)).alloc (.cells A 43)).drew) := by
  refine OwS.kept (W := (w.alloc (.cells (opA x q c) 40)).alloc (.cells A 43)) ?_ (Below.drew (Below.refl _ _))
  subst hA
  have h1 : ∀ (w : World) (o : Obj), Below w.heap.size w (w.alloc o) := fun w o => (Below.refl _ _).alloc (Nat.le_refl _) _
  have e1 : (w.alloc (.cells (opA x q c) 40)).heap.size = w.heap.size + 1 := by simp
  have k := heap_alloc_new (w.alloc (.cells (opA x q c) 40)) (.cells (opA Opp.zero none 0) 43)
  rw [e1] at k
  exact ⟨Nat.le_refl _, (OpAt.new w x q c _).kept (h1 _ _), ⟨_, _, k, rfl⟩, ha, (h1 _ _).trans ((h1 _ _).mono (by simp))⟩
/-- the same, with where its Path lies -/
def OwnedN (w : World) (x : Opp) (e : Ending) (w' : World) : Prop := ∃ q c, e = .returned (.agg (opA x q c)) ∧ Pa w' x q c ∧ Below w.heap.size w w' ∧ (∀ a, q = some a → w.heap.size ≤ a.block)

set_option maxRecDepth 100000 in
set_option maxHeartbeats 4000000 in
theorem ownN_any (x : Opp) (q : Option Addr) (c : Nat) (w : World) (ha : Pa w x q c) (hl : x.path.length ≤ 5000) : Calls Tryz.prog 11 #[.agg (opA x q c)] w (OwnedN w x) := by
  obtain ⟨i0, hi, hz0, hz1, hz2⟩ := info_parts oinfo_st
  have HST := Lib.hid (OwS.start w x q c ha #[.int .i64 0, .int .i64 0, .int .i64 0, .int .i64 0, .int .i64 0, .string ⟨#[]⟩, .slice none 0 0, .int .i64 0, .int .i64 0, .int .i64 0, .string ⟨#[]⟩, .bool false] rfl)
  clear ha
  go_enter Tryz.func11, Tryz.ntmps11
  go_upto_region 1 with fail
  refine wp_region_held_drew (S := OwS w w.heap.size x q c) (by kernel_rfl) HST.out (fun hS => ?_)
  clear HST
  generalize ((w.alloc (.cells (opA x q c) 40)).alloc (.cells #[.int .i64 0, .int .i64 0, .int .i64 0, .int .i64 0, .int .i64 0, .string ⟨#[]⟩, .slice none 0 0, .int .i64 0, .int .i64 0, .int .i64 0, .string ⟨#[]⟩, .bool false] 43)).drew = W0 at *
  have HS0 := Lib.hid hS
  refine wpAnyH_take (i := 0) (v := ?_) rfl (by kernel_rfl) (by kernel_rfl) (by kernel_rfl) (fun _ _ _ h => h) (Or.inl ⟨by kernel_rfl, ?_⟩) hS ?_
  rotate_left
  · intro W hSW
    go_simp
    all_goals with_reducible rfl
  refine wpAnyH_take (i := 1) (v := ?_) rfl (by kernel_rfl) (by kernel_rfl) (by kernel_rfl) (fun _ _ _ h => h) (Or.inl ⟨by kernel_rfl, ?_⟩) hS ?_
  rotate_left
  · intro W hSW
    obtain ⟨x0, x1, x2, x3, x4, x5, x6, x7, x8, x9, x10, x11⟩ := hSW.op.cells
    go_simp
    all_goals with_reducible rfl
  refine wpAnyH_take (i := 2) (v := ?_) rfl (by kernel_rfl) (by kernel_rfl) (by kernel_rfl) (fun _ _ _ h => h) (Or.inl ⟨by kernel_rfl, ?_⟩) hS ?_
  rotate_left
  · intro W hSW
    go_simp
    all_goals with_reducible rfl
  refine wpAnyH_take (i := 3) (v := ?_) rfl (by kernel_rfl) (by kernel_rfl) (by kernel_rfl) (fun _ _ _ h => h) (Or.inl ⟨by kernel_rfl, ?_⟩) hS ?_
  rotate_left
  · intro W hSW
    obtain ⟨x0, x1, x2, x3, x4, x5, x6, x7, x8, x9, x10, x11⟩ := hSW.op.cells
    go_simp
    all_goals with_reducible rfl
  go_simp
  refine wpAnyH_take (i := 4) (v := ?_) rfl (by kernel_rfl) (by kernel_rfl) (by kernel_rfl) (fun _ _ _ h => h) (Or.inl ⟨by kernel_rfl, ?_⟩) hS ?_
  rotate_left
  · intro W hSW
    go_simp
    all_goals with_reducible rfl
  refine wpAnyH_take (i := 5) (v := ?_) rfl (by kernel_rfl) (by kernel_rfl) (by kernel_rfl) (fun _ _ _ h => h) (Or.inl ⟨by kernel_rfl, ?_⟩) hS ?_
  rotate_left
  · intro W hSW
    obtain ⟨x0, x1, x2, x3, x4, x5, x6, x7, x8, x9, x10, x11⟩ := hSW.op.cells
    go_simp
    all_goals with_reducible rfl
  refine wpAnyH_take (i := 6) (v := ?_) rfl (by kernel_rfl) (by kernel_rfl) (by kernel_rfl) (fun _ _ _ h => h) (Or.inl ⟨by kernel_rfl, ?_⟩) hS ?_
  rotate_left
  · intro W hSW
    go_simp
    all_goals with_reducible rfl
  refine wpAnyH_take (i := 7) (v := ?_) rfl (by kernel_rfl) (by kernel_rfl) (by kernel_rfl) (fun _ _ _ h => h) (Or.inl ⟨by kernel_rfl, ?_⟩) hS ?_
  rotate_left
  · intro W hSW
    obtain ⟨x0, x1, x2, x3, x4, x5, x6, x7, x8, x9, x10, x11⟩ := hSW.op.cells
    go_simp
    all_goals with_reducible rfl
  go_simp
  refine wpAnyH_take (i := 9) (v := ?_) rfl (by kernel_rfl) (by kernel_rfl) (by kernel_rfl) (fun _ _ _ h => h) (Or.inl ⟨by kernel_rfl, ?_⟩) hS ?_
  rotate_left
  · intro W hSW
    go_simp
    all_goals with_reducible rfl
  refine wpAnyH_take (i := 10) (v := ?_) rfl (by kernel_rfl) (by kernel_rfl) (by kernel_rfl) (fun _ _ _ h => h) (Or.inl ⟨by kernel_rfl, ?_⟩) hS ?_
  rotate_left
  · intro W hSW
    obtain ⟨x0, x1, x2, x3, x4, x5, x6, x7, x8, x9, x10, x11⟩ := hSW.op.cells
    go_simp
    all_goals with_reducible rfl
  refine wpAnyH_take (i := 12) (v := ?_) rfl (by kernel_rfl) (by kernel_rfl) (by kernel_rfl) (fun _ _ _ h => h) (Or.inl ⟨by kernel_rfl, ?_⟩) hS ?_
  rotate_left
  · intro W hSW
    go_simp
    all_goals with_reducible rfl
  refine wpAnyH_take (i := 13) (v := ?_) rfl (by kernel_rfl) (by kernel_rfl) (by kernel_rfl) (fun _ _ _ h => h) (Or.inl ⟨by kernel_rfl, ?_⟩) hS ?_
  rotate_left
  · intro W hSW
    obtain ⟨x0, x1, x2, x3, x4, x5, x6, x7, x8, x9, x10, x11⟩ := hSW.op.cells
    go_simp
    all_goals with_reducible rfl
  go_simp
  refine wpAnyH_take (i := 14) (v := ?_) rfl (by kernel_rfl) (by kernel_rfl) (by kernel_rfl) (fun _ _ _ h => h) (Or.inl ⟨by kernel_rfl, ?_⟩) hS ?_
  rotate_left
  · intro W hSW
    go_simp
    all_goals with_reducible rfl
  refine wpAnyH_take (i := 15) (v := ?_) rfl (by kernel_rfl) (by kernel_rfl) (by kernel_rfl) (fun _ _ _ h => h) (Or.inl ⟨by kernel_rfl, ?_⟩) hS ?_
  rotate_left
  · intro W hSW
    obtain ⟨x0, x1, x2, x3, x4, x5, x6, x7, x8, x9, x10, x11⟩ := hSW.op.cells
    go_simp
    all_goals with_reducible rfl
  refine wpAnyH_take (i := 16) (v := ?_) rfl (by kernel_rfl) (by kernel_rfl) (by kernel_rfl) (fun _ _ _ h => h) (Or.inl ⟨by kernel_rfl, ?_⟩) hS ?_
  rotate_left
  · intro W hSW
    go_simp
    all_goals with_reducible rfl
  refine wpAnyH_take (i := 17) (v := ?_) rfl (by kernel_rfl) (by kernel_rfl) (by kernel_rfl) (fun _ _ _ h => h) (Or.inl ⟨by kernel_rfl, ?_⟩) hS ?_
  rotate_left
  · intro W hSW
    obtain ⟨x0, x1, x2, x3, x4, x5, x6, x7, x8, x9, x10, x11⟩ := hSW.op.cells
    go_simp
    all_goals with_reducible rfl
  go_simp
  refine wpAnyH_ready (rs := [8]) (by kernel_rfl) (by simp) ?_
  refine AllReadyH.cons rfl (fun K hK => ?_) AllReadyH.nil
  go_simp
  refine hK.out _ _ (hS.kept ((Below.refl _ _).alloc (Nat.le_refl _) _)) (fun hS => ?_)
  clear hK K
  refine wpAnyH_ready (rs := [11]) (by kernel_rfl) (by simp) ?_
  refine AllReadyH.cons rfl (fun K hK => ?_) AllReadyH.nil
  refine step_append_kL (by kernel_rfl) _ _ 36 rfl W0.heap.size 35 i0 _ 2 16 Tryz.underlying36 hi hz0 hz1 (by decide) hz2 (by decide) rfl _ 0 [] rfl (World.ownsRow_lit (base := W0.heap.size) (e := 35) (size := 2) W0 #[] 0 (Nat.le_refl _) (by simp [maxLen]) (by simp)) _ x.path.length c (stCells x.path) rfl (by rw [stCells_length]) hS.paw.rd hS.pa.nil stCells_one (by omega) (by simp) ?_
  intro p2 c2 w2 ho2 hg2
  rw [Nat.zero_add, List.nil_append] at ho2
  have HS2 := Lib.hid (HS0.out.kept (Below.grown ((Below.refl W0.heap.size W0).alloc (Nat.le_refl _) (.cells #[] 35)) hg2 (by simp) (fun k hk => by cases hk; exact Nat.le_refl _)))
  have HO2 := Lib.hid (show OwnP w2 W0.heap.size (.slice p2 x.path.length c2) x.path from ho2)
  have HNW := Lib.hid (show ∀ a, p2 = some a → w.heap.size ≤ a.block from by
    obtain ⟨p', c', e, -, -, -, -, h4⟩ := own_rd HO2.out
    cases e
    intro a ha
    have := (h4 a ha).1
    have := HS0.out.below.size
    omega)
  clear ho2 hg2
  refine hK.out _ _ HS2.out (fun hS => ?_)
  clear hK K hS
  rw [Nat.zero_add]
  refine wpAnyH_take (i := 18) (v := ?_) rfl (by kernel_rfl) (by kernel_rfl) (by kernel_rfl) (fun _ _ _ h => h) (Or.inl ⟨by kernel_rfl, ?_⟩) HS2.out ?_
  rotate_left
  · intro W hSW
    go_simp
    all_goals with_reducible rfl
  obtain ⟨A, TT, hA, hAs⟩ := HS2.out.res
  go_simp
  refine wpAnyH_ready (rs := [19]) (by kernel_rfl) (by simp) ?_
  refine AllReadyH.cons rfl (fun K hK => ?_) AllReadyH.nil
  refine step_store_op otP (by kernel_rfl) _ _ rfl (w.heap.size + 1) rfl TT A hA hAs x p2 c2 rfl ?_
  intro w3 hv3 hko hsz hbn
  have HS3 := Lib.hid (HS2.out.stored hv3 hko hbn)
  have HP3 := Lib.hid (HO2.out.paStored HS0.out.lt hko)
  clear hko hsz hbn
  refine hK.out _ _ HS3.out (fun hS => ?_)
  clear hK K hS
  refine wpAnyH_done (by kernel_rfl) ?_ _
  go_simp
  go_wp2
  exact bodyPost_ret (results_op otP _ rfl hv3 rfl) rfl ⟨p2, c2, rfl, HP3.out, HS3.out.below, HNW.out⟩
end Go.Proofs.YthifdefjmfakgaaGreat
