/-
  THE NAME of a path's register: what overrideOf answers.
  No conditions.
  REGISTERS in memory: New, ours, and the looks Value, Marked, Over, Flag; no registers, and those that nobody made.
  No conditions but that words hold a name's numbers.
-/
import Derived.Test.YtcenmkcencdlcaaPrReg
import Derived.Laws.CopyOwn
import Derived.Test.YtcenmkcencdlcaaPrSame
namespace Go.Proofs.Ytcenmkcencdlcaa
open Go.RowKit

theorem run_copy_any {P : Program} (w : World) (dT sT ty elem : TypeId) (k g off dLen dCap : Nat) (sp : Option Addr) (sLen sCap : Nat) (cur : List Value) (t : TypeId) (cs : List Value)
    (hu : P.underlying dT = some (.slice elem)) (hs : (P.info? elem).map (·.size) = some k)
    (hg : w.heap[g]? = some (.cells cur.toArray t (0, 0))) (hn : cs.length = Nat.min sLen dLen * k)
    (hsrc : ∀ j v, cs[j]? = some v → ∃ ad, sp = some ad ∧ w.cell? (ad.add j) = some v) (hfit : off + cs.length ≤ cur.length) (h1 : ∀ v ∈ cs, v.oneCell' = true) :
    (Builtin.copy_ #[dT, sT] ty #[.slice (some ⟨g, off, none⟩) dLen dCap, .slice sp sLen sCap]).run P w =
      .ok (goInt (Nat.min sLen dLen)) (w.setRow g (splice cur off cs).toArray) := by
  have hst := run_storeCells_at P g off t cs 0 cur.toArray w hg (by simpa using hfit) h1
  have e0 : (cur.toArray.toList.take (off + 0) ++ cs ++ cur.toArray.toList.drop (off + 0 + cs.length)).toArray = (splice cur off cs).toArray := by simp [splice]
  rw [e0] at hst
  cases hq : P.info? elem with
  | none => simp [hq] at hs
  | some i =>
    have hi : i.size = k := by simpa [hq] using hs
    cases sp with
    | none =>
      obtain rfl : cs = [] := by
        cases cs with
        | nil => rfl
        | cons v T => obtain ⟨ad, e, -⟩ := hsrc 0 v rfl; cases e
      simp [Builtin.copy_, run_underlying hu, Builtin.lenOf, Builtin.firstCells, sizeOf, typeInfo, hq, hst]
    | some a =>
      have hl := run_loadCells_list (P := P) w a cs (fun j v hv => by obtain ⟨ad, e, h⟩ := hsrc j v hv; cases e; exact h)
      simp [Builtin.copy_, run_underlying hu, Builtin.lenOf, Builtin.firstCells, sizeOf, typeInfo, hq, hi, ← hn, hl, hst]

theorem stCells_flat (l : List Qm.St) : stCells l = (Pm.flat l).map fun i => Value.int .i64 i := by
  induction l with
  | nil => rfl
  | cons a l ih =>
    have e1 : stCells (a :: l) = [.int .i64 a.1, .int .i64 a.2] ++ stCells l := by simp [stCells]
    have e2 : Pm.flat (a :: l) = [a.1, a.2] ++ Pm.flat l := by simp [Pm.flat]
    rw [e1, e2, ih, List.map_append]
    rfl
/-- the cells ahead of the copy -/
def ovC (n : Qm.St) (p k : Int) : List Value := [.int .i64 n.1, .int .i64 n.2, .int .i64 p, .int .i64 0, .int .i64 0, .int .i64 0, .int .i64 0, .int .i64 0, .int .i64 0, .int .i64 0, .int .i64 0, .int .i64 0, .int .i64 0, .int .i64 0, .int .i64 0, .int .i64 0, .int .i64 0, .int .i64 0, .int .i64 0, .int .i64 k]
theorem ovC_name (n : Qm.St) (l : List Qm.St) (p : Int) : splice (ovC n p l.length) 3 (stCells (l.take 8)) = (Pm.nameO n l p).map fun i => Value.int .i64 i := by
  have e : ovC n p l.length = [.int .i64 n.1, .int .i64 n.2, .int .i64 p] ++ (List.replicate 16 (.int .i64 0) ++ [.int .i64 (l.length : Int)]) := rfl
  unfold splice
  have t3 : ∀ T : List Value, List.take 3 ([.int .i64 n.1, .int .i64 n.2, .int .i64 p] ++ T) = [.int .i64 n.1, .int .i64 n.2, .int .i64 p] := fun T => rfl
  have d3 : ∀ T : List Value, List.drop 3 ([.int .i64 n.1, .int .i64 n.2, .int .i64 p] ++ T) = T := fun T => rfl
  rw [e, t3, ← List.drop_drop, d3]
  unfold Pm.nameO Pm.pad
  rw [List.map_append, List.map_append, List.map_append, ← stCells_flat, List.map_replicate]
  have h2 : (stCells (l.take 8)).length = 2 * (l.take 8).length := by rw [stCells_length, Nat.mul_comm]
  have h3 : 2 * (l.take 8).length ≤ 16 := by rw [List.length_take]; omega
  rw [h2, List.drop_append_of_le_length (by simpa using h3), List.drop_replicate]
  simp
theorem ovC_one (n : Qm.St) (p k : Int) : (ovC n p k).toArray.all (·.oneCell') = true := all_oneCell_toArray (cs := ovC n p k) (by
  intro v hv
  unfold ovC at hv
  simp only [List.mem_cons, List.not_mem_nil, or_false] at hv
  rcases hv with rfl | rfl | rfl | rfl | rfl | rfl | rfl | rfl | rfl | rfl | rfl | rfl | rfl | rfl | rfl | rfl | rfl | rfl | rfl | rfl <;> rfl)
theorem nmO_size (n : Qm.St) (l : List Qm.St) (p : Int) : ((Pm.nameO n l p).map fun i => Value.int .i64 i).toArray.size = 20 := by
  rw [List.size_toArray, List.length_map, Pm.nameO_length]

set_option maxRecDepth 100000 in
set_option maxHeartbeats 2000000 in
theorem overOf_any (n : Qm.St) (q : Option Addr) (l : List Qm.St) (c : Nat) (p : Int) (w : World) (h : Rd w q (stCells l)) :
    Calls Try.prog 32 #[.agg #[.int .i64 n.1, .int .i64 n.2], .slice q l.length c, .int .i64 p] w fun e w' => e = .returned (kV (Pm.nameO n l p)) ∧ Below w.heap.size w w' := by
  obtain ⟨n1, n2⟩ := n
  have HR := Lib.hid h
  obtain ⟨A, hA⟩ : ∃ A, A = ((Pm.nameO (n1, n2) l p).map fun i => Value.int .i64 i).toArray := ⟨_, rfl⟩
  have HSZ := Lib.hid (show A.size = 20 from by rw [hA]; exact nmO_size _ _ _)
  have HON := Lib.hid (show A.all (·.oneCell') = true from by rw [hA]; exact kV_one _)
  rw [show kV (Pm.nameO (n1, n2) l p) = .agg A from by rw [hA]]
  have HAE := Lib.hid hA
  clear hA
  have HS := Lib.hid ((AgAt.new w #[.int .i64 n1, .int .i64 n2] 32).kept ((Below.refl _ _).alloc (Nat.le_refl _) (.cells (ovC (0, 0) 0 0).toArray 73)))
  have HO := Lib.hid (AgAt.new (w.alloc (.cells #[.int .i64 n1, .int .i64 n2] 32)) (ovC (0, 0) 0 0).toArray 73)
  rw [World.size_alloc] at HO
  have HB := Lib.hid (((Below.refl w.heap.size w).alloc (Nat.le_refl _) (.cells #[.int .i64 n1, .int .i64 n2] 32)).alloc (by simp) (.cells (ovC (0, 0) 0 0).toArray 73))
  clear h
  have HZ := Lib.hid (AgAt.new ((w.alloc (.cells #[.int .i64 n1, .int .i64 n2] 32)).alloc (.cells (ovC (0, 0) 0 0).toArray 73)) (ovC (0, 0) 0 0).toArray 73)
  rw [World.size_alloc, World.size_alloc] at HZ
  have HBZ := Lib.hid (HB.out.alloc (B := w.heap.size) (by simp; omega) (.cells (ovC (0, 0) 0 0).toArray 73))
  replace HO := Lib.hid (HO.out.kept ((Below.refl _ _).alloc (Nat.le_refl _) (.cells (ovC (0, 0) 0 0).toArray 73)))
  go_enter Try.func32, Try.ntmps32
  go_upto_region 2 with (refine wpList_store_ag oA rfl _ _ rfl _ rfl _ HZ.out rfl rfl rfl (ovC_one (n1, n2) p l.length) ?_; intro w3 hv3 hko3 hsz3 hbn3)
  have hb3 := hbn3 _ _ HBZ.out (by omega)
  obtain ⟨T3, hg3⟩ := hv3
  have hcp := fun ty => run_copy_any (P := Try.prog) w3 23 23 ty 32 2 (w.heap.size + 1 + 1) 3 8 8 q l.length c (ovC (n1, n2) p l.length) T3 (stCells (l.take 8)) Try.underlying23 (by kernel_rfl) hg3 (by rw [stCells_length, List.length_take, Nat.min_comm])
    (fun j v hv => by
      obtain ⟨hj, -⟩ := List.getElem?_eq_some_iff.1 hv
      rw [stCells_length, List.length_take] at hj
      obtain ⟨b, o, rfl, hc⟩ := HR.out (by rw [stCells_length]; omega)
      refine ⟨⟨b, o, none⟩, rfl, ?_⟩
      have h1 : (stCells l)[j]? = some v := by
        have e : stCells l = stCells (l.take 8) ++ stCells (l.drop 8) := by rw [← stCells_append, List.take_append_drop]
        rw [e, List.getElem?_append_left (by rw [stCells_length, List.length_take]; exact hj)]
        exact hv
      have h2 := cell_lt (hc j v h1)
      rw [Go.WideShapes.add_plain, World.cell?_of_block (w := w) (hb3.block b h2)]
      exact hc j v h1)
    (by rw [stCells_length, List.length_take]; show 3 + _ ≤ 20; omega) stCells_one
  rw [ovC_name, ← HAE.out] at hcp
  have hg4 := setRow_heap w3 (w.heap.size + 1 + 1) _ A T3 _ hg3
  have hoth : ∀ k, k ≠ w.heap.size + 1 + 1 → (w3.setRow (w.heap.size + 1 + 1) A).heap[k]? = w3.heap[k]? := fun k hk => setRow_other w3 _ k _ hk
  have HV4 := Lib.hid (show AgAt (w3.setRow (w.heap.size + 1 + 1) A) (w.heap.size + 1 + 1) A from ⟨T3, hg4⟩)
  have HO4 := Lib.hid (HO.out.block ((hoth _ (by omega)).trans (hko3 _ (by omega))))
  have HB4 := Lib.hid (show Below w.heap.size w (w3.setRow (w.heap.size + 1 + 1) A) from hb3.trans ⟨rfl, rfl, rfl, by simp [World.setRow], fun k hk => hoth k (by omega)⟩)
  clear hg3 hg4 hoth hb3 hbn3 hko3 hsz3 HS HO HZ HBZ HR HB
  generalize w3.setRow (w.heap.size + 1 + 1) A = w4 at *
  go_upto_region 3 with fail
  clear hcp
  go_wp2_with (first | (refine wpList_load_ag oA rfl _ rfl _ rfl HSZ.out HV4.out ?_) | (refine wpList_store_ag oA rfl _ _ rfl _ rfl _ HO4.out rfl rfl HSZ.out HON.out ?_; intro w5 hv5 hko5 hsz5 hbn5))
  refine bodyPost_ret (results_ag oA _ rfl HSZ.out hv5 rfl) rfl ?_
  exact ⟨rfl, hbn5 _ _ HB4.out (by omega)⟩
end Go.Proofs.Ytcenmkcencdlcaa

namespace Go.Proofs.Ytcenmkcencdlcaa
open Go.RowKit

theorem AgAt.turn {w w' : World} {b : Nat} {A : Array Value} {G : Nat → Prop} (h : AgAt w b A) (ht : Turns G w w') (hd : ¬ G b) : AgAt w' b A := h.block (ht.block b h.lt hd)
/-- registers: their box, their three maps -/
structure Lay (w : World) (P M1 M2 M3 : Nat) (r : Pm.Rs) : Prop where
  box : AgAt w P #[.map (some M1), .map (some M2), .map (some M3)]
  v : RM 3 rvA Pm.z0 w M1 r.v
  m : RM 2 rmA false w M2 r.m
  o : RM 20 rvA Pm.z0 w M3 r.o
  p1 : P ≠ M1
  p2 : P ≠ M2
  p3 : P ≠ M3
  n12 : M1 ≠ M2
  n13 : M1 ≠ M3
  n23 : M2 ≠ M3
section
variable {w w' : World} {P M1 M2 M3 : Nat} {r : Pm.Rs} {G : Nat → Prop}
theorem Lay.turns (h : Lay w P M1 M2 M3 r) (ht : Turns G w w') (h0 : ¬ G P) (h1 : ¬ G M1) (h2 : ¬ G M2) (h3 : ¬ G M3) : Lay w' P M1 M2 M3 r :=
  ⟨h.box.turn ht h0, h.v.turns ht h1, h.m.turns ht h2, h.o.turns ht h3, h.p1, h.p2, h.p3, h.n12, h.n13, h.n23⟩
theorem Lay.kept (h : Lay w P M1 M2 M3 r) (hb : Below w.heap.size w w') : Lay w' P M1 M2 M3 r := h.turns (G := fun _ => False) (Turns.of_below hb) (fun h => h) (fun h => h) (fun h => h) (fun h => h)
theorem Lay.c0 (h : Lay w P M1 M2 M3 r) : w.cell? ⟨P, 0, none⟩ = some (.map (some M1)) := h.box.cell 0
theorem Lay.c1 (h : Lay w P M1 M2 M3 r) : w.cell? ⟨P, 1, none⟩ = some (.map (some M2)) := h.box.cell 1
theorem Lay.c2 (h : Lay w P M1 M2 M3 r) : w.cell? ⟨P, 2, none⟩ = some (.map (some M3)) := h.box.cell 2
end
/-- no registers, or those that nobody made -/
def NoR (w : World) (v : Value) : Prop := v = .pointer none ∨ ∃ b, v = .pointer (some ⟨b, 0, none⟩) ∧ w.cell? ⟨b, 0, none⟩ = some (.map none)
theorem NoR.kept {w w' : World} {v : Value} (h : NoR w v) (hb : Below w.heap.size w w') : NoR w' v := by
  rcases h with h | ⟨b, h, hc⟩
  · exact Or.inl h
  · exact Or.inr ⟨b, h, by rw [hb.cell (cell_lt hc)]; exact hc⟩

theorem map_neq1 (w : World) (M : Nat) : Sem.run Try.prog (binOp BinOp.neq 54 (Value.map (some M)) (Value.map none)) w = .ok (.bool true) w := by kernel_rfl
theorem map_neq0 (w : World) : Sem.run Try.prog (binOp BinOp.neq 54 (Value.map none) (Value.map none)) w = .ok (.bool false) w := by kernel_rfl
set_option maxRecDepth 100000 in
set_option maxHeartbeats 4000000 in
theorem ours_any {P M1 M2 M3 : Nat} {r : Pm.Rs} (w : World) (h : Lay w P M1 M2 M3 r) : Calls Try.prog 26 #[.pointer (some ⟨P, 0, none⟩)] w fun e w' => e = .returned (.bool true) ∧ w = w' := by
  have y0 := h.c0
  have hne := map_neq1 w M1
  clear h
  go_enter Try.func26, Try.ntmps26
  go_wp2
  go_ret
  exact ⟨rfl, rfl⟩
set_option maxRecDepth 100000 in
set_option maxHeartbeats 4000000 in
theorem ours_no (v : Value) (w : World) (h : NoR w v) : Calls Try.prog 26 #[v] w fun e w' => e = .returned (.bool false) ∧ w = w' := by
  have hne := map_neq0 w
  rcases h with rfl | ⟨b, rfl, hc⟩
  · go_enter Try.func26, Try.ntmps26
    go_wp2
    go_ret
    exact ⟨rfl, rfl⟩
  · go_enter Try.func26, Try.ntmps26
    go_wp2
    go_ret
    exact ⟨rfl, rfl⟩
/-- what New leaves -/
def Newed (w : World) (e : Ending) (w' : World) : Prop :=
  ∃ P M1 M2 M3, e = .returned (.pointer (some ⟨P, 0, none⟩)) ∧ Lay w' P M1 M2 M3 Pm.Rs.zero ∧ Below w.heap.size w w' ∧ w.heap.size ≤ P ∧ w.heap.size ≤ M1 ∧ w.heap.size ≤ M2 ∧ w.heap.size ≤ M3
set_option maxRecDepth 100000 in
set_option maxHeartbeats 4000000 in
theorem new_any (w : World) : Calls Try.prog 9 #[] w (Newed w) := by
  have h1 : ∀ (w : World) (o : Obj), (w.alloc o).heap.size = w.heap.size + 1 := fun w o => by simp
  have b1 : ∀ (w : World) (o : Obj), Below w.heap.size w (w.alloc o) := fun w o => (Below.refl _ _).alloc (Nat.le_refl _) _
  have HE := Lib.hid (show Lay ((((w.alloc (.map #[] 0)).alloc (.map #[] 0)).alloc (.map #[] 0)).alloc (.cells #[.map (some w.heap.size), .map (some (w.heap.size + 1)), .map (some (w.heap.size + 1 + 1))] 60)) (w.heap.size + 1 + 1 + 1) w.heap.size (w.heap.size + 1) (w.heap.size + 1 + 1) Pm.Rs.zero ∧
      Below w.heap.size w ((((w.alloc (.map #[] 0)).alloc (.map #[] 0)).alloc (.map #[] 0)).alloc (.cells #[.map (some w.heap.size), .map (some (w.heap.size + 1)), .map (some (w.heap.size + 1 + 1))] 60)) from by
    have k1 := ((RM.made (nk := 3) (ca := rvA) (d := Pm.z0) w).below (b1 _ (.map #[] 0))).below (b1 _ (.map #[] 0))
    have k2 := (RM.made (nk := 2) (ca := rmA) (d := false) (w.alloc (.map #[] 0))).below (b1 _ (.map #[] 0))
    have k3 := RM.made (nk := 20) (ca := rvA) (d := Pm.z0) ((w.alloc (.map #[] 0)).alloc (.map #[] 0))
    have k4 := AgAt.new (((w.alloc (.map #[] 0)).alloc (.map #[] 0)).alloc (.map #[] 0)) #[.map (some w.heap.size), .map (some (w.heap.size + 1)), .map (some (w.heap.size + 1 + 1))] 60
    simp only [h1] at k2 k3 k4
    refine ⟨⟨k4, k1.below (b1 _ _), k2.below (b1 _ _), k3.below (b1 _ _), by omega, by omega, by omega, by omega, by omega, by omega⟩, ?_⟩
    exact (((b1 w (.map #[] 0)).alloc (by simp) (.map #[] 0)).alloc (by simp; omega) (.map #[] 0)).alloc (by simp; omega) _)
  have hmm := @run_makeMap Try.prog
  clear h1 b1
  go_enter Try.func9, Try.ntmps9
  go_wp2
  go_ret
  exact ⟨_, _, _, _, rfl, HE.out.1, HE.out.2, by omega, by omega, by omega, by omega⟩
set_option maxRecDepth 100000 in
set_option maxHeartbeats 4000000 in
theorem value_any {P M1 M2 M3 : Nat} {r : Pm.Rs} (n : Qm.St) (p : Int) (w : World) (h : Lay w P M1 M2 M3 r) (hx : KWf 3 (Pm.nameV n p)) :
    Calls Try.prog 16 #[.pointer (some ⟨P, 0, none⟩), .agg #[.int .i64 n.1, .int .i64 n.2], .int .i64 p] w fun e w' => e = .returned (.agg (vlA (r.v (Pm.nameV n p)).2)) ∧ Below w.heap.size w w' := by
  obtain ⟨n1, n2⟩ := n
  have HL := Lib.hid h
  have HN0 := Lib.hid ((AgAt.new w #[.int .i64 n1, .int .i64 n2] 32).kept ((Below.refl _ _).alloc (Nat.le_refl _) (.cells #[.int .i64 0, .int .i64 0, .string ⟨#[]⟩] 34)))
  have HZ := Lib.hid (AgAt.new (w.alloc (.cells #[.int .i64 n1, .int .i64 n2] 32)) #[.int .i64 0, .int .i64 0, .string ⟨#[]⟩] 34)
  rw [World.size_alloc] at HZ
  have HB := Lib.hid (((Below.refl w.heap.size w).alloc (Nat.le_refl _) (.cells #[.int .i64 n1, .int .i64 n2] 32)).alloc (by simp) (.cells #[.int .i64 0, .int .i64 0, .string ⟨#[]⟩] 34))
  have HC := Lib.hid (fun W (hb : Below w.heap.size w W) => valueV_any M1 r.v (Pm.nameV (n1, n2) p) W (h.v.below hb) hx)
  clear h hx
  generalize (r.v (Pm.nameV (n1, n2) p)).2 = u at *
  obtain ⟨u1, u2, u3⟩ := u
  go_enter Try.func16, Try.ntmps16
  go_wp2_with fail
  refine (ours_any _ (HL.out.kept HB.out)).mono ?_
  rintro e w1 ⟨rfl, rfl⟩
  go_upto_region 3 with fail
  generalize ((w.alloc (.cells #[.int .i64 n1, .int .i64 n2] 32)).alloc (.cells #[.int .i64 0, .int .i64 0, .string ⟨#[]⟩] 34)) = wd at *
  refine wp_region_held_drew (S := fun W => Turns (fun k => k = w.heap.size + 1) wd W) (by kernel_rfl) (Turns.of_below (Below.drew (Below.refl _ _))) (fun hS => ?_)
  refine wpAnyH_take (i := 0) (v := ?_) rfl (by kernel_rfl) (by kernel_rfl) (by kernel_rfl) (fun _ _ _ h => h) (Or.inl ⟨by kernel_rfl, ?_⟩) hS ?_
  rotate_left
  · intro W hSW
    go_simp
    all_goals with_reducible rfl
  refine wpAnyH_take (i := 1) (v := ?_) rfl (by kernel_rfl) (by kernel_rfl) (by kernel_rfl) (fun _ _ _ h => h) (Or.inl ⟨by kernel_rfl, ?_⟩) hS ?_
  rotate_left
  · intro W hSW
    go_simp
    all_goals with_reducible rfl
  refine wpAnyH_take (i := 2) (v := ?_) rfl (by kernel_rfl) (by kernel_rfl) (by kernel_rfl) (fun _ _ _ h => h) (Or.inl ⟨by kernel_rfl, ?_⟩) hS ?_
  rotate_left
  · intro W hSW
    go_simp
    all_goals with_reducible rfl
  refine wpAnyH_take (i := 3) (v := ?_) rfl (by kernel_rfl) (by kernel_rfl) (by kernel_rfl) (fun _ _ _ h => h) (Or.inl ⟨by kernel_rfl, ?_⟩) hS ?_
  rotate_left
  · intro W hSW
    have y0 := ((HL.out.kept HB.out).box.turn hSW (by have := (HL.out.box).lt; omega)).cell 0
    have y0 : W.cell? ⟨P, 0, none⟩ = some (.map (some M1)) := y0
    go_simp
    all_goals with_reducible rfl
  go_simp
  refine wpAnyH_take (i := 4) (v := .agg #[.int .i64 n1, .int .i64 n2]) rfl (by kernel_rfl) (by kernel_rfl) (by kernel_rfl) (fun _ _ _ h => h) (Or.inl ⟨by kernel_rfl, fun W hSW => exec_load_ag stT rfl rfl rfl (HN0.out.turn hSW (by omega))⟩) hS ?_
  refine wpAnyH_take (i := 5) (v := ?_) rfl (by kernel_rfl) (by kernel_rfl) (by kernel_rfl) (fun _ _ _ h => h) (Or.inl ⟨by kernel_rfl, ?_⟩) hS ?_
  rotate_left
  · intro W hSW
    go_simp
    all_goals with_reducible rfl
  refine wpAnyH_take (i := 6) (v := ?_) rfl (by kernel_rfl) (by kernel_rfl) (by kernel_rfl) (fun _ _ _ h => h) (Or.inl ⟨by kernel_rfl, ?_⟩) hS ?_
  rotate_left
  · intro W hSW
    go_simp
    all_goals with_reducible rfl
  go_simp
  refine wpAnyH_ready (rs := [7]) (by kernel_rfl) (by simp) ?_
  refine AllReadyH.cons rfl (fun K hK => ?_) AllReadyH.nil
  go_simp
  go_wp2_with ((go_at_call 37; refine (HC.out _ (HB.out.trans ((Below.drew (Below.refl _ _)).mono HB.out.size))).mono ?_; rintro e wn ⟨rfl, hbn⟩))
  refine hK.out _ _ (hS.call hbn) (fun hS => ?_)
  have HBN := Lib.hid hbn
  clear hK K hbn
  refine wpAnyH_ready (rs := [8]) (by kernel_rfl) (by simp) ?_
  refine AllReadyH.cons rfl (fun K hK => ?_) AllReadyH.nil
  have HZ2 := Lib.hid (HZ.out.kept ((Below.drew (Below.refl _ _)).trans (HBN.out.mono (Nat.le_refl _))))
  refine step_of (by kernel_rfl) ?_
  refine wp_store_ag vA _ _ rfl (w.heap.size + 1) rfl _ HZ2.out rfl rfl rfl (vl_one (u1, u2, u3)) ?_
  intro w5 hv5 hko5 hsz5 hbn5
  refine hK.out _ _ (hS.trans ((stored_turns hko5 hsz5 hbn5).mono fun _ _ h => Or.inl h)) (fun hS => ?_)
  clear hK K
  refine wpAnyH_done (by kernel_rfl) ?_ _
  go_simp
  have hb := hbn5 _ _ (HB.out.trans (((Below.drew (Below.refl _ _)).trans HBN.out).mono HB.out.size)) (by omega)
  clear hS
  go_wp2
  refine bodyPost_ret (results_ag vA _ rfl rfl hv5 rfl) rfl ?_
  exact ⟨rfl, hb⟩
end Go.Proofs.Ytcenmkcencdlcaa
