/-
  lay and lift: a spot more, and one less.
  No conditions but sizes.
  lift: a spot less.
  No conditions but sizes.
-/
import Derived.Test.YthifdefjmfakgaaGreatTTree
namespace Go.Proofs.YthifdefjmfakgaaGreat
open Go.RowKit
open Tm (Sp Tr has put cut kids)

/-- the nodes of a place turned -/
def setKid (C : List Kid) (p : Qm.St) (f : List Qm.St → List Qm.St) : List Kid := C.map fun c => if c.p = p then { c with l := f c.l } else c
theorem setKid_b (C : List Kid) (p : Qm.St) (f : List Qm.St → List Qm.St) : (setKid C p f).map Kid.b = C.map Kid.b := by
  unfold setKid
  rw [List.map_map]
  refine List.map_congr_left fun c _ => ?_
  show Kid.b (if c.p = p then { c with l := f c.l } else c) = c.b
  split <;> rfl
theorem belows_setKid (C : List Kid) (p : Qm.St) (f : List Qm.St → List Qm.St) : belows (setKid C p f) = belows C := by
  unfold setKid belows
  rw [List.map_map]
  refine List.map_congr_left fun c _ => ?_
  show (Kid.p (if c.p = p then { c with l := f c.l } else c), Value.map (some (Kid.b (if c.p = p then { c with l := f c.l } else c)))) = (c.p, Value.map (some c.b))
  split <;> rfl
theorem mem_setKid {C : List Kid} {p : Qm.St} {f : List Qm.St → List Qm.St} {c' : Kid} (h : c' ∈ setKid C p f) : ∃ c ∈ C, c'.p = c.p ∧ c'.b = c.b ∧ (c.p = p → c'.l = f c.l) ∧ (c.p ≠ p → c' = c) := by
  obtain ⟨c, hc, rfl⟩ := List.mem_map.1 h
  refine ⟨c, hc, ?_⟩
  by_cases e : c.p = p
  · rw [if_pos e]
    exact ⟨rfl, rfl, fun _ => rfl, fun h => absurd e h⟩
  · rw [if_neg e]
    exact ⟨rfl, rfl, fun h => absurd h e, fun _ => rfl⟩
theorem setKid_mem {C : List Kid} {p : Qm.St} {f : List Qm.St → List Qm.St} {c : Kid} (h : c ∈ C) : ∃ c' ∈ setKid C p f, c'.p = c.p := by
  refine ⟨_, List.mem_map.2 ⟨c, h, rfl⟩, ?_⟩
  by_cases e : c.p = p
  · rw [if_pos e]
  · rw [if_neg e]
theorem kidOf_new {C : List Kid} {p : Qm.St} {b : Nat} (h : kidOf C p = none) : kidOf (C ++ [(⟨p, b, []⟩ : Kid)]) p = some b := by
  unfold kidOf at h ⊢
  rw [List.find?_append]
  rw [Option.map_eq_none_iff] at h
  rw [h]
  simp
/-- each place has its nodes, but p may have none left -/
def Half (T : Tr) (C : List Kid) (p : Qm.St) : Prop := (∀ c ∈ C, (c.p ≠ p → c.l ≠ []) ∧ ∀ n, n ∈ c.l ↔ n ∈ kids T c.p) ∧ ∀ e ∈ T, ∃ c ∈ C, c.p = e.2.1
theorem kids_put {T : Tr} {n q : Qm.St} {s : Sp} : kids (put T n s) q = kids T q ++ if s.1 = q then [n] else [] := by
  unfold kids put
  rw [List.filter_append, List.map_append]
  by_cases e : s.1 = q
  · rw [if_pos e, List.filter_cons_of_pos (by simpa using e)]
    rfl
  · rw [if_neg e, List.filter_cons_of_neg (by simpa using e)]
    rfl
theorem Half.put {T : Tr} {C : List Kid} {n : Qm.St} {s : Sp} (h : Half T C s.1) (_ : Tm.look T n = none) (hp : ∃ c ∈ C, c.p = s.1) :
    (∀ c ∈ setKid C s.1 (fun l => l ++ [n]), c.l ≠ [] ∧ ∀ m, m ∈ c.l ↔ m ∈ kids (Tm.put T n s) c.p) ∧ ∀ e ∈ Tm.put T n s, ∃ c ∈ setKid C s.1 (fun l => l ++ [n]), c.p = e.2.1 := by
  constructor
  · intro c' hc'
    obtain ⟨c, hc, h1, h2, h3, h4⟩ := mem_setKid hc'
    by_cases e : c.p = s.1
    · rw [h3 e, h1]
      refine ⟨by simp, fun m => ?_⟩
      rw [List.mem_append, (h.1 c hc).2 m, kids_put, if_pos e.symm, List.mem_append]
    · obtain rfl := h4 e
      refine ⟨(h.1 c' hc).1 e, fun m => ?_⟩
      rw [(h.1 c' hc).2 m, kids_put, if_neg (fun h => e h.symm), List.append_nil]
  · intro e he
    rcases List.mem_append.1 he with he | he
    · obtain ⟨c, hc, h1⟩ := h.2 e he
      obtain ⟨c', hc', h2⟩ := setKid_mem (p := s.1) (f := fun l => l ++ [n]) hc
      exact ⟨c', hc', h2.trans h1⟩
    · obtain rfl := List.mem_singleton.1 he
      obtain ⟨c, hc, h1⟩ := hp
      obtain ⟨c', hc', h2⟩ := setKid_mem (p := s.1) (f := fun l => l ++ [n]) hc
      exact ⟨c', hc', h2.trans h1⟩
section
variable {w w' : World} {P M1 M2 : Nat} {T : Tr} {C : List Kid} {F G : Nat → Prop}
theorem Lay.half_old (h : Lay w P M1 M2 T C F) (p : Qm.St) : Half T C p := ⟨fun c hc => ⟨fun _ => (h.full c hc).1, (h.full c hc).2⟩, h.all⟩
theorem Lay.half_new (h : Lay w P M1 M2 T C F) {p : Qm.St} (hk : kidOf C p = none) (b : Nat) : Half T (C ++ [(⟨p, b, []⟩ : Kid)]) p := by
  constructor
  · intro c hc
    rcases List.mem_append.1 hc with hc | hc
    · exact ⟨fun _ => (h.full c hc).1, (h.full c hc).2⟩
    · obtain rfl := List.mem_singleton.1 hc
      refine ⟨fun h => absurd rfl h, fun n => ?_⟩
      rw [h.kidNone hk]
  · intro e he
    obtain ⟨c, hc, h1⟩ := h.all e he
    exact ⟨c, List.mem_append.2 (Or.inl hc), h1⟩
theorem Mem.setKid {f : List Qm.St → List Qm.St} {kc : Kid} {kb : Nat} (h : Mem w P M1 M2 T C F) (hk : kc ∈ C) (hb : kc.b = kb) (hm : SMap w' kb (nodesOf (f kc.l))) (ht : Turns (fun k => k = kb) w w') : Mem w' P M1 M2 T (setKid C kc.p f) F := by
  subst hb
  have h1 := h.kne kc hk
  refine ⟨h.at_.block (ht.block _ (h.lt _ h.fP) fun e => h1.1 e.symm), h.spots.turns ht fun e => h1.2.1 e.symm, by rw [belows_setKid]; exact h.below.turns ht fun e => h1.2.2 e.symm, fun c' hc' => ?_, h.fP, h.f1, h.f2, fun c' hc' => ?_, h.ne, fun c' hc' => ?_, by rw [setKid_b]; exact h.knd, fun k hk => Nat.lt_of_lt_of_le (h.lt k hk) ht.size⟩
  · obtain ⟨c, hc, k1, k2, k3, k4⟩ := mem_setKid hc'
    by_cases e : c.p = kc.p
    · obtain rfl := one_of h.cnd hc hk e
      rw [k2, k3 rfl]
      exact hm
    · obtain rfl := k4 e
      exact (h.inner c' hc).turns ht fun e2 => e (by rw [one_of h.knd hc hk e2])
  · obtain ⟨c, hc, k1, k2, -⟩ := mem_setKid hc'
    rw [k2]; exact h.fK c hc
  · obtain ⟨c, hc, k1, k2, -⟩ := mem_setKid hc'
    rw [k2]; exact h.kne c hc
theorem Mem.newKid {p : Qm.St} {b : Nat} (h : Mem w P M1 M2 T C F) (hn : SMap w b []) (hm : SMap w' M2 (belows C ++ [(p, .map (some b))])) (ht : Turns (fun k => k = M2) w w') (_ : w'.heap.size = w.heap.size) (hb : ¬ F b) (hl : b < w.heap.size) (hG : ∀ k, G k ↔ F k ∨ k = b := by intro k; exact Iff.rfl) :
    Mem w' P M1 M2 T (C ++ [(⟨p, b, []⟩ : Kid)]) G := by
  have hbM : b ≠ M2 := fun e => hb (by rw [e]; exact h.f2)
  have hFG : ∀ k, F k → G k := fun k hk => (hG k).2 (Or.inl hk)
  refine ⟨h.at_.block (ht.block _ (h.lt _ h.fP) h.ne.2.1), h.spots.turns ht h.ne.2.2, by unfold belows at hm ⊢; rw [List.map_append]; exact hm, fun c hc => ?_, hFG _ h.fP, hFG _ h.f1, hFG _ h.f2, fun c hc => ?_, h.ne, fun c hc => ?_, ?_, fun k hk => ?_⟩
  · rcases List.mem_append.1 hc with hc | hc
    · exact (h.inner c hc).turns ht (h.kne c hc).2.2
    · obtain rfl := List.mem_singleton.1 hc
      exact hn.turns ht hbM
  · rcases List.mem_append.1 hc with hc | hc
    · exact hFG _ (h.fK c hc)
    · obtain rfl := List.mem_singleton.1 hc
      exact (hG _).2 (Or.inr rfl)
  · rcases List.mem_append.1 hc with hc | hc
    · exact h.kne c hc
    · obtain rfl := List.mem_singleton.1 hc
      exact ⟨fun e => hb (by rw [show b = P from e]; exact h.fP), fun e => hb (by rw [show b = M1 from e]; exact h.f1), hbM⟩
  · rw [List.map_append]
    refine List.nodup_append.2 ⟨h.knd, by simp, fun x hx y hy e => ?_⟩
    obtain ⟨c, hc, rfl⟩ := List.mem_map.1 hx
    have : y = b := by simpa using hy
    subst this
    exact hb (by rw [← e]; exact h.fK c hc)
  · rcases (hG k).1 hk with hk | hk
    · exact Nat.lt_of_lt_of_le (h.lt k hk) ht.size
    · rw [hk]; exact Nat.lt_of_lt_of_le hl ht.size
theorem Mem.newSpot {n : Qm.St} {s : Sp} (h : Mem w P M1 M2 T C F) (hm : SMap w' M1 (Go.Proofs.YthifdefjmfakgaaGreat.spots T ++ [(n, spV s)])) (ht : Turns (fun k => k = M1) w w') : Mem w' P M1 M2 (put T n s) C F :=
  ⟨h.at_.block (ht.block _ (h.lt _ h.fP) h.ne.1), by unfold Go.Proofs.YthifdefjmfakgaaGreat.spots put at *; rw [List.map_append]; exact hm, h.below.turns ht fun e => h.ne.2.2 e.symm, fun c hc => (h.inner c hc).turns ht (h.kne c hc).2.1, h.fP, h.f1, h.f2, h.fK, h.ne, h.kne, h.knd,
   fun k hk => Nat.lt_of_lt_of_le (h.lt k hk) ht.size⟩
end
/-- what lay leaves -/
def Laid (P M1 M2 : Nat) (T : Tr) (F : Nat → Prop) (n : Qm.St) (s : Sp) (w : World) (e : Ending) (w' : World) : Prop :=
  e = .returned (.tuple #[]) ∧ ∃ C', Lay w' P M1 M2 (put T n s) C' (fun k => F k ∨ (w.heap.size ≤ k ∧ k < w'.heap.size)) ∧ Turns F w w'
theorem map_eq_none (w : World) : Sem.run Tryz.prog (binOp BinOp.eql 136 (Value.map none) (Value.map none)) w = .ok (.bool true) w := by kernel_rfl
theorem map_eq_some (w : World) (M : Nat) : Sem.run Tryz.prog (binOp BinOp.eql 136 (Value.map (some M)) (Value.map none)) w = .ok (.bool false) w := by kernel_rfl

set_option maxRecDepth 100000 in
set_option maxHeartbeats 8000000 in
theorem lay_any {P M1 M2 : Nat} {T : Tr} {C : List Kid} {F : Nat → Prop} (n : Qm.St) (s : Sp) (w : World) (h : Lay w P M1 M2 T C F) (hn : StWf n) (hs : StWf s.1) (hno : Tm.look T n = none) :
    Calls Tryz.prog 69 #[.pointer (some ⟨P, 0, none⟩), snV n, spV s] w (Laid P M1 M2 T F n s w) := by
  have h1 : ∀ (w : World) (o : Obj), Below w.heap.size w (w.alloc o) := fun w o => (Below.refl _ _).alloc (Nat.le_refl _) _
  have hb := (h1 w (.cells #[.int .i64 n.1, .int .i64 n.2] 35)).trans ((h1 (w.alloc (.cells #[.int .i64 n.1, .int .i64 n.2] 35)) (.cells (spA s) 72)).mono (by simp))
  have HB0 := Lib.hid ((AgAt.new w #[.int .i64 n.1, .int .i64 n.2] 35).kept (h1 _ (.cells (spA s) 72)))
  have HB1 := Lib.hid (show AgAt ((w.alloc (.cells #[.int .i64 n.1, .int .i64 n.2] 35)).alloc (.cells (spA s) 72)) (w.heap.size + 1) (spA s) from by
    have := AgAt.new (w.alloc (.cells #[.int .i64 n.1, .int .i64 n.2] 35)) (spA s) 72
    rw [show (w.alloc (.cells #[.int .i64 n.1, .int .i64 n.2] 35)).heap.size = w.heap.size + 1 from by simp] at this
    exact this)
  have HZW := Lib.hid (show w.heap.size + 2 ≤ ((w.alloc (.cells #[.int .i64 n.1, .int .i64 n.2] 35)).alloc (.cells (spA s) 72)).heap.size from by simp)
  have HLT := Lib.hid h.lt
  have HLAY := Lib.hid h
  have HFM := Lib.hid h.f1
  have HM := Lib.hid (h.toMem.kept hb)
  have HT := Lib.hid (Turns.of_below (F := F) hb)
  have HWN := Lib.hid hn
  have HWS := Lib.hid hs
  have HNS := Lib.hid hno
  obtain ⟨ko, hko⟩ : ∃ k, k = kidOf C s.1 := ⟨_, rfl⟩
  have HKO := Lib.hid hko
  clear h hb hn hs hno h1 hko
  cases ko with
  | none =>
    have HEQ := Lib.hid map_eq_none
    have HKN := Lib.hid HKO.out.symm
    have HNO := Lib.hid (show lk (belows C) s.1 = none from by
      rw [lk_none]
      intro e he hh
      obtain ⟨c, hc, rfl⟩ := List.mem_map.1 he
      exact kidOf_none HKN.out c hc hh)
    go_enter Tryz.func69, Tryz.ntmps69
    go_upto_region 1 with fail
    generalize (w.alloc (.cells #[.int .i64 n.1, .int .i64 n.2] 35)).alloc (.cells (spA s) 72) = w1 at *
    have hbd := Below.drew (Below.refl w1.heap.size w1)
    replace HM := Lib.hid (HM.out.kept hbd)
    replace HB0 := Lib.hid (AgAt.kept HB0.out hbd)
    replace HB1 := Lib.hid (AgAt.kept HB1.out hbd)
    replace HT := Lib.hid (HT.out.trans (Turns.of_below hbd))
    refine wp_region_held_drew (S := fun W => Below w1.drew.heap.size w1.drew W) (by kernel_rfl) (Below.refl _ _) (fun hS => ?_)
    clear hbd
    replace HZW := Lib.hid (show w.heap.size + 2 ≤ w1.drew.heap.size from HZW.out)
    generalize w1.drew = w1 at *
    refine wpAnyH_take (i := 0) (v := ?_) rfl (by kernel_rfl) (by kernel_rfl) (by kernel_rfl) (fun _ _ _ h => h) (Or.inl ⟨by kernel_rfl, ?_⟩) hS ?_
    rotate_left
    · intro W hSW
      go_simp
      all_goals with_reducible rfl
    refine wpAnyH_take (i := 1) (v := ?_) rfl (by kernel_rfl) (by kernel_rfl) (by kernel_rfl) (fun _ _ _ h => h) (Or.inl ⟨by kernel_rfl, ?_⟩) hS ?_
    rotate_left
    · intro W hSW
      go_simp
      all_goals with_reducible rfl
    refine wpAnyH_take (i := 2) (v := ?_) rfl (by kernel_rfl) (by kernel_rfl) (by kernel_rfl) (fun _ _ _ h => h) (Or.inl ⟨by kernel_rfl, ?_⟩) hS ?_
    rotate_left
    · intro W hSW
      go_simp
      all_goals with_reducible rfl
    refine wpAnyH_take (i := 3) (v := ?_) rfl (by kernel_rfl) (by kernel_rfl) (by kernel_rfl) (fun _ _ _ h => h) (Or.inl ⟨by kernel_rfl, ?_⟩) hS ?_
    rotate_left
    · intro W hSW
      have y1 := (HM.out.kept hSW).cell1
      go_simp
      all_goals with_reducible rfl
    go_simp
    refine wpAnyH_take (i := 4) (v := ?_) rfl (by kernel_rfl) (by kernel_rfl) (by kernel_rfl) (fun _ _ _ h => h) (Or.inl ⟨by kernel_rfl, ?_⟩) hS ?_
    rotate_left
    · intro W hSW
      go_simp
      all_goals with_reducible rfl
    go_simp
    refine wpAnyH_take (i := 5) (v := snV s.1) rfl (by kernel_rfl) (by kernel_rfl) (by kernel_rfl) (fun _ _ _ h => h) (Or.inl ⟨by kernel_rfl, fun W hSW => exec_load_part stT rfl rfl [.int .i64 s.1.1, .int .i64 s.1.2] rfl (AgAt.kept HB1.out hSW) spPar⟩) hS ?_
    go_simp
    refine wpAnyH_take (i := 6) (v := .map (none)) rfl (by kernel_rfl) (by kernel_rfl) (by kernel_rfl) (fun _ _ _ h => h) (Or.inl ⟨by kernel_rfl, fun W hSW => exec_lookup rfl rfl rfl (by rw [HKO.out]; exact (HM.out.kept hSW).lookB _ HWS.out)⟩) hS ?_
    refine wpAnyH_take (i := 7) (v := ?_) rfl (by kernel_rfl) (by kernel_rfl) (by kernel_rfl) (fun _ _ _ h => h) (Or.inl ⟨by kernel_rfl, ?_⟩) hS ?_
    rotate_left
    · intro W hSW
      have hne := HEQ.out W
      go_simp
      all_goals with_reducible rfl
    go_simp
    refine wpAnyH_done (by kernel_rfl) ?_ _
    go_simp
    clear hS
    go_upto_region 2 with fail
    have hbd := Below.drew (Below.refl w1.heap.size w1)
    replace HM := Lib.hid (HM.out.kept hbd)
    replace HB0 := Lib.hid (AgAt.kept HB0.out hbd)
    replace HB1 := Lib.hid (AgAt.kept HB1.out hbd)
    replace HT := Lib.hid (HT.out.trans (Turns.of_below hbd))
    refine wp_region_held_drew (S := fun W => AgAt W P #[.map (some M1), .map (some M2)] ∧ AgAt W (w.heap.size + 1) (spA s)) (by kernel_rfl) ⟨HM.out.at_, HB1.out⟩ (fun hS => ?_)
    clear hbd
    have HZD := Lib.hid (show w.heap.size + 2 ≤ w1.drew.heap.size from HZW.out)
    have HFN := Lib.hid (show ¬ F w1.drew.heap.size from fun h => by have := HM.out.lt _ h; omega)
    clear HZW
    generalize w1.drew = wd at *
    refine wpAnyH_take (i := 0) (v := ?_) rfl (by kernel_rfl) (by kernel_rfl) (by kernel_rfl) (fun _ _ _ h => h) (Or.inl ⟨by kernel_rfl, ?_⟩) hS ?_
    rotate_left
    · intro W hSW
      go_simp
      all_goals with_reducible rfl
    refine wpAnyH_take (i := 1) (v := ?_) rfl (by kernel_rfl) (by kernel_rfl) (by kernel_rfl) (fun _ _ _ h => h) (Or.inl ⟨by kernel_rfl, ?_⟩) hS ?_
    rotate_left
    · intro W hSW
      go_simp
      all_goals with_reducible rfl
    refine wpAnyH_take (i := 2) (v := ?_) rfl (by kernel_rfl) (by kernel_rfl) (by kernel_rfl) (fun _ _ _ h => h) (Or.inl ⟨by kernel_rfl, ?_⟩) hS ?_
    rotate_left
    · intro W hSW
      go_simp
      all_goals with_reducible rfl
    refine wpAnyH_take (i := 3) (v := ?_) rfl (by kernel_rfl) (by kernel_rfl) (by kernel_rfl) (fun _ _ _ h => h) (Or.inl ⟨by kernel_rfl, ?_⟩) hS ?_
    rotate_left
    · intro W hSW
      have y1 : W.cell? ⟨P, 1, none⟩ = some (.map (some M2)) := by rw [AgAt.cell hSW.1 1]; rfl
      go_simp
      all_goals with_reducible rfl
    go_simp
    refine wpAnyH_take (i := 4) (v := ?_) rfl (by kernel_rfl) (by kernel_rfl) (by kernel_rfl) (fun _ _ _ h => h) (Or.inl ⟨by kernel_rfl, ?_⟩) hS ?_
    rotate_left
    · intro W hSW
      go_simp
      all_goals with_reducible rfl
    go_simp
    refine wpAnyH_take (i := 5) (v := snV s.1) rfl (by kernel_rfl) (by kernel_rfl) (by kernel_rfl) (fun _ _ _ h => h) (Or.inl ⟨by kernel_rfl, fun W hSW => exec_load_part stT rfl rfl [.int .i64 s.1.1, .int .i64 s.1.2] rfl (hSW.2) spPar⟩) hS ?_
    go_simp
    refine wpAnyH_ready (rs := [6]) (by kernel_rfl) (by simp) ?_
    refine AllReadyH.cons rfl (fun K hK => ?_) AllReadyH.nil
    have hmm := @run_makeMap Tryz.prog
    go_simp
    have hba := (Below.refl wd.heap.size wd).alloc (Nat.le_refl _) (.map #[] 0)
    replace HM := Lib.hid (HM.out.kept hba)
    replace HB0 := Lib.hid (AgAt.kept HB0.out hba)
    replace HB1 := Lib.hid (AgAt.kept HB1.out hba)
    replace HT := Lib.hid (HT.out.trans (Turns.of_below hba))
    have HNM := Lib.hid (SMap.made wd)
    have HZM := Lib.hid (show wd.heap.size + 1 = (wd.alloc (.map #[] 0)).heap.size from by simp)
    refine hK.out _ _ ⟨AgAt.kept hS.1 hba, AgAt.kept hS.2 hba⟩ (fun hS => ?_)
    clear hK K hba hmm
    generalize wd.alloc (.map #[] 0) = we at *
    refine wpAnyH_ready (rs := [7]) (by kernel_rfl) (by simp) ?_
    refine AllReadyH.cons rfl (fun K hK => ?_) AllReadyH.nil
    obtain ⟨w6, hrun, hm6, ht6, hz6⟩ := HM.out.below.upd mtBelow s.1 (.map (some wd.heap.size)) HWS.out HNO.out
    have HG := Lib.hid (HM.out.newKid (G := fun k => F k ∨ k = wd.heap.size) HNM.out hm6 ht6 hz6 (HFN.out) (by have := HZM.out; omega))
    have HNE := Lib.hid (show P ≠ M2 ∧ w.heap.size ≠ M2 ∧ w.heap.size + 1 ≠ M2 from ⟨HM.out.ne.2.1, by have := HLT.out _ HM.out.f2; omega, by have := HLT.out _ HM.out.f2; omega⟩)
    replace HB0 := Lib.hid (AgAt.block HB0.out (ht6.block _ (AgAt.lt HB0.out) HNE.out.2.1))
    replace HB1 := Lib.hid (AgAt.block HB1.out (ht6.block _ (AgAt.lt HB1.out) HNE.out.2.2))
    replace HT := Lib.hid (HT.out.trans (ht6.mono fun k _ hk => Or.inl (by subst hk; exact HM.out.f2)))
    refine step_of (by kernel_rfl) ?_
    refine wp_mapUpdate _ _ _ _ rfl (.map (some M2)) (snV s.1) (.map (some wd.heap.size)) rfl rfl rfl w6 hrun ?_
    refine hK.out _ _ ⟨AgAt.block hS.1 (ht6.block _ (AgAt.lt hS.1) HNE.out.1), AgAt.block hS.2 (ht6.block _ (AgAt.lt hS.2) HNE.out.2.2)⟩ (fun hS => ?_)
    clear hK K hrun hm6 ht6 hz6 HNE HM HNM
    refine wpAnyH_done (by kernel_rfl) ?_ _
    go_simp
    clear hS
    obtain ⟨C2, hC2⟩ : ∃ C2, C2 = C ++ [(⟨s.1, wd.heap.size, []⟩ : Kid)] := ⟨_, rfl⟩
    have HKO := Lib.hid (show kidOf C2 s.1 = some wd.heap.size from by rw [hC2]; exact kidOf_new HKN.out)
    have HH := Lib.hid (show Half T C2 s.1 from by rw [hC2]; exact HLAY.out.half_new HKN.out _)
    have HM := HG
    rw [← hC2] at HM
    have HFF := Lib.hid (show ∀ k, (F k ∨ k = wd.heap.size) → F k ∨ w.heap.size + 2 ≤ k from fun k hk => hk.imp id fun h => by have := HZD.out; omega)
    clear HG hC2 HFN HKN HLAY HNO HZM HZD
    generalize wd.heap.size = kb at *
    obtain ⟨kc, hk1, hk2, hk3⟩ := kidOf_some HKO.out
    have HKI := Lib.hid (show kc ∈ C2 ∧ kc.b = kb ∧ SMap w6.drew kb (nodesOf kc.l) from ⟨hk1, hk3, by have := HM.out.inner kc hk1; rw [hk3] at this; exact this.below (Below.drew (Below.refl _ _))⟩)
    have HNN := Lib.hid (show lk (nodesOf kc.l) n = none from by
      rw [lk_nodes, if_neg]
      intro h
      obtain ⟨s', h1, -⟩ := Tm.kids_mem.1 (((HH.out.1 kc hk1).2 n).1 h)
      exact Tm.look_none.1 HNS.out _ h1 rfl)
    have HTI := Lib.hid (HH.out.put HNS.out (s := s) ⟨kc, hk1, hk2⟩)
    rw [← hk2] at HTI
    have HCP := Lib.hid hk2
    clear hk1 hk2 hk3
    go_upto_region 3 with fail
    replace HM := Lib.hid (HM.out.kept (Below.drew (Below.refl w6.heap.size w6)))
    replace HB0 := Lib.hid (AgAt.kept HB0.out (Below.drew (Below.refl w6.heap.size w6)))
    replace HB1 := Lib.hid (AgAt.kept HB1.out (Below.drew (Below.refl w6.heap.size w6)))
    replace HT := Lib.hid (HT.out.trans (Turns.of_below (Below.drew (Below.refl w6.heap.size w6))))
    refine wp_region_held_drew (S := fun W => AgAt W P #[.map (some M1), .map (some M2)] ∧ AgAt W w.heap.size #[.int .i64 n.1, .int .i64 n.2] ∧ AgAt W (w.heap.size + 1) (spA s) ∧ SMap W M2 (belows C2)) (by kernel_rfl) ⟨HM.out.at_, HB0.out, HB1.out, HM.out.below⟩ (fun hS => ?_)
    generalize w6.drew = wb at *
    refine wpAnyH_take (i := 0) (v := ?_) rfl (by kernel_rfl) (by kernel_rfl) (by kernel_rfl) (fun _ _ _ h => h) (Or.inl ⟨by kernel_rfl, ?_⟩) hS ?_
    rotate_left
    · intro W hSW
      go_simp
      all_goals with_reducible rfl
    refine wpAnyH_take (i := 1) (v := ?_) rfl (by kernel_rfl) (by kernel_rfl) (by kernel_rfl) (fun _ _ _ h => h) (Or.inl ⟨by kernel_rfl, ?_⟩) hS ?_
    rotate_left
    · intro W hSW
      go_simp
      all_goals with_reducible rfl
    refine wpAnyH_take (i := 2) (v := ?_) rfl (by kernel_rfl) (by kernel_rfl) (by kernel_rfl) (fun _ _ _ h => h) (Or.inl ⟨by kernel_rfl, ?_⟩) hS ?_
    rotate_left
    · intro W hSW
      go_simp
      all_goals with_reducible rfl
    refine wpAnyH_take (i := 3) (v := ?_) rfl (by kernel_rfl) (by kernel_rfl) (by kernel_rfl) (fun _ _ _ h => h) (Or.inl ⟨by kernel_rfl, ?_⟩) hS ?_
    rotate_left
    · intro W hSW
      have y1 : W.cell? ⟨P, 1, none⟩ = some (.map (some M2)) := by rw [AgAt.cell hSW.1 1]; rfl
      go_simp
      all_goals with_reducible rfl
    go_simp
    refine wpAnyH_take (i := 4) (v := ?_) rfl (by kernel_rfl) (by kernel_rfl) (by kernel_rfl) (fun _ _ _ h => h) (Or.inl ⟨by kernel_rfl, ?_⟩) hS ?_
    rotate_left
    · intro W hSW
      go_simp
      all_goals with_reducible rfl
    go_simp
    refine wpAnyH_take (i := 5) (v := snV s.1) rfl (by kernel_rfl) (by kernel_rfl) (by kernel_rfl) (fun _ _ _ h => h) (Or.inl ⟨by kernel_rfl, fun W hSW => exec_load_part stT rfl rfl [.int .i64 s.1.1, .int .i64 s.1.2] rfl (hSW.2.2.1) spPar⟩) hS ?_
    go_simp
    refine wpAnyH_take (i := 6) (v := .map (some kb)) rfl (by kernel_rfl) (by kernel_rfl) (by kernel_rfl) (fun _ _ _ h => h) (Or.inl ⟨by kernel_rfl, fun W hSW => exec_lookup rfl rfl rfl ((hSW.2.2.2.look mtBelow s.1 HWS.out).trans (by rw [lk_belows, HKO.out]))⟩) hS ?_
    go_simp
    refine wpAnyH_take (i := 7) (v := snV n) rfl (by kernel_rfl) (by kernel_rfl) (by kernel_rfl) (fun _ _ _ h => h) (Or.inl ⟨by kernel_rfl, fun W hSW => exec_load_ag stT rfl rfl rfl hSW.2.1⟩) hS ?_
    refine wpAnyH_take (i := 8) (v := ?_) rfl (by kernel_rfl) (by kernel_rfl) (by kernel_rfl) (fun _ _ _ h => h) (Or.inl ⟨by kernel_rfl, ?_⟩) hS ?_
    rotate_left
    · intro W hSW
      go_simp
      all_goals with_reducible rfl
    go_simp
    refine wpAnyH_ready (rs := [9]) (by kernel_rfl) (by simp) ?_
    refine AllReadyH.cons rfl (fun K hK => ?_) AllReadyH.nil
    obtain ⟨w7, hrun, hm7, ht7, hz7⟩ := HKI.out.2.2.upd mtSet n (.agg #[]) HWN.out HNN.out
    have HG := Lib.hid (HM.out.setKid (f := fun l => l ++ [n]) HKI.out.1 HKI.out.2.1 (by unfold nodesOf; rw [List.map_append]; exact hm7) ht7)
    have HNE := Lib.hid (show P ≠ kb ∧ w.heap.size ≠ kb ∧ w.heap.size + 1 ≠ kb ∧ M2 ≠ kb from by
      have h1 := HM.out.kne _ HKI.out.1
      rw [HKI.out.2.1] at h1
      have h2 := HFF.out kb (by have := HM.out.fK _ HKI.out.1; rw [HKI.out.2.1] at this; exact this)
      refine ⟨fun h => h1.1 h.symm, ?_, ?_, fun h => h1.2.2 h.symm⟩
      · rcases h2 with h2 | h2
        · have := HLT.out _ h2; omega
        · omega
      · rcases h2 with h2 | h2
        · have := HLT.out _ h2; omega
        · omega)
    replace HB0 := Lib.hid (AgAt.block HB0.out (ht7.block _ (AgAt.lt HB0.out) HNE.out.2.1))
    replace HB1 := Lib.hid (AgAt.block HB1.out (ht7.block _ (AgAt.lt HB1.out) HNE.out.2.2.1))
    replace HT := Lib.hid (HT.out.trans (ht7.mono fun k _ hk => by
      subst hk
      rcases HFF.out k (by have := HM.out.fK _ HKI.out.1; rw [HKI.out.2.1] at this; exact this) with h | h
      · exact Or.inl h
      · exact Or.inr (by omega)))
    refine step_of (by kernel_rfl) ?_
    refine wp_mapUpdate _ _ _ _ rfl (.map (some kb)) (snV n) (.agg #[]) rfl rfl rfl w7 hrun ?_
    refine hK.out _ _ ⟨AgAt.block hS.1 (ht7.block _ (AgAt.lt hS.1) HNE.out.1), AgAt.block hS.2.1 (ht7.block _ (AgAt.lt hS.2.1) HNE.out.2.1), AgAt.block hS.2.2.1 (ht7.block _ (AgAt.lt hS.2.2.1) HNE.out.2.2.1), hS.2.2.2.block (ht7.block _ hS.2.2.2.lt HNE.out.2.2.2)⟩ (fun hS => ?_)
    clear hK K hrun hm7 ht7 hz7 HNE HM HKI HNN HKO
    refine wpAnyH_done (by kernel_rfl) ?_ _
    go_simp
    clear hS
    go_upto_region 4 with fail
    have hbd := Below.drew (Below.refl w7.heap.size w7)
    replace HG := Lib.hid (HG.out.kept hbd)
    replace HB0 := Lib.hid (AgAt.kept HB0.out hbd)
    replace HB1 := Lib.hid (AgAt.kept HB1.out hbd)
    replace HT := Lib.hid (HT.out.trans (Turns.of_below hbd))
    have HF1 := Lib.hid HFM.out
    refine wp_region_held_drew (S := fun W => AgAt W P #[.map (some M1), .map (some M2)] ∧ AgAt W w.heap.size #[.int .i64 n.1, .int .i64 n.2] ∧ AgAt W (w.heap.size + 1) (spA s)) (by kernel_rfl) ⟨HG.out.at_, HB0.out, HB1.out⟩ (fun hS => ?_)
    clear hbd
    generalize w7.drew = wc at *
    refine wpAnyH_take (i := 0) (v := ?_) rfl (by kernel_rfl) (by kernel_rfl) (by kernel_rfl) (fun _ _ _ h => h) (Or.inl ⟨by kernel_rfl, ?_⟩) hS ?_
    rotate_left
    · intro W hSW
      go_simp
      all_goals with_reducible rfl
    refine wpAnyH_take (i := 1) (v := ?_) rfl (by kernel_rfl) (by kernel_rfl) (by kernel_rfl) (fun _ _ _ h => h) (Or.inl ⟨by kernel_rfl, ?_⟩) hS ?_
    rotate_left
    · intro W hSW
      go_simp
      all_goals with_reducible rfl
    refine wpAnyH_take (i := 2) (v := ?_) rfl (by kernel_rfl) (by kernel_rfl) (by kernel_rfl) (fun _ _ _ h => h) (Or.inl ⟨by kernel_rfl, ?_⟩) hS ?_
    rotate_left
    · intro W hSW
      go_simp
      all_goals with_reducible rfl
    refine wpAnyH_take (i := 3) (v := ?_) rfl (by kernel_rfl) (by kernel_rfl) (by kernel_rfl) (fun _ _ _ h => h) (Or.inl ⟨by kernel_rfl, ?_⟩) hS ?_
    rotate_left
    · intro W hSW
      have y0 : W.cell? ⟨P, 0, none⟩ = some (.map (some M1)) := by rw [AgAt.cell hSW.1 0]; rfl
      go_simp
      all_goals with_reducible rfl
    go_simp
    refine wpAnyH_take (i := 4) (v := snV n) rfl (by kernel_rfl) (by kernel_rfl) (by kernel_rfl) (fun _ _ _ h => h) (Or.inl ⟨by kernel_rfl, fun W hSW => exec_load_ag stT rfl rfl rfl hSW.2.1⟩) hS ?_
    go_simp
    refine wpAnyH_take (i := 5) (v := spV s) rfl (by kernel_rfl) (by kernel_rfl) (by kernel_rfl) (fun _ _ _ h => h) (Or.inl ⟨by kernel_rfl, fun W hSW => exec_load_ag spT rfl rfl rfl hSW.2.2⟩) hS ?_
    go_simp
    refine wpAnyH_ready (rs := [6]) (by kernel_rfl) (by simp) ?_
    refine AllReadyH.cons rfl (fun K hK => ?_) AllReadyH.nil
    obtain ⟨w8, hrun, hm8, ht8, hz8⟩ := HG.out.spots.upd mtSpots n (spV s) HWN.out (by rw [lk_spots, HNS.out]; rfl)
    have HJ := Lib.hid (HG.out.newSpot hm8 ht8)
    have HNE := Lib.hid (show P ≠ M1 ∧ w.heap.size ≠ M1 ∧ w.heap.size + 1 ≠ M1 from ⟨HG.out.ne.1, by have := HLT.out _ HF1.out; omega, by have := HLT.out _ HF1.out; omega⟩)
    replace HT := Lib.hid (HT.out.trans (ht8.mono fun k _ hk => Or.inl (by subst hk; exact HF1.out)))
    refine step_of (by kernel_rfl) ?_
    refine wp_mapUpdate _ _ _ _ rfl (.map (some M1)) (snV n) (spV s) rfl rfl rfl w8 hrun ?_
    refine hK.out _ _ ⟨AgAt.block hS.1 (ht8.block _ (AgAt.lt hS.1) HNE.out.1), AgAt.block hS.2.1 (ht8.block _ (AgAt.lt hS.2.1) HNE.out.2.1), AgAt.block hS.2.2 (ht8.block _ (AgAt.lt hS.2.2) HNE.out.2.2)⟩ (fun hS => ?_)
    clear hK K hrun hm8 ht8 hz8 HNE HG
    refine wpAnyH_done (by kernel_rfl) ?_ _
    go_simp
    have HE := Lib.hid (show Laid P M1 M2 T F n s w (.returned (.tuple #[])) w8 from ⟨rfl, _, ⟨HJ.out.more (fun k hk => (HFF.out k hk).imp id fun h => ⟨by omega, HJ.out.lt k hk⟩) (fun k hk => hk.elim (fun h => Nat.lt_of_lt_of_le (HLT.out k h) HT.out.size) fun h => h.2), HTI.out.1, HTI.out.2⟩, HT.out⟩)
    clear hS HJ HTI HT HH
    go_wp2
    go_end0
    exact HE.out
  | some kb =>
    have HEQ := Lib.hid (fun W => map_eq_some W kb)
    go_enter Tryz.func69, Tryz.ntmps69
    go_upto_region 1 with fail
    generalize (w.alloc (.cells #[.int .i64 n.1, .int .i64 n.2] 35)).alloc (.cells (spA s) 72) = w1 at *
    have hbd := Below.drew (Below.refl w1.heap.size w1)
    replace HM := Lib.hid (HM.out.kept hbd)
    replace HB0 := Lib.hid (AgAt.kept HB0.out hbd)
    replace HB1 := Lib.hid (AgAt.kept HB1.out hbd)
    replace HT := Lib.hid (HT.out.trans (Turns.of_below hbd))
    refine wp_region_held_drew (S := fun W => Below w1.drew.heap.size w1.drew W) (by kernel_rfl) (Below.refl _ _) (fun hS => ?_)
    clear hbd
    generalize w1.drew = w1 at *
    refine wpAnyH_take (i := 0) (v := ?_) rfl (by kernel_rfl) (by kernel_rfl) (by kernel_rfl) (fun _ _ _ h => h) (Or.inl ⟨by kernel_rfl, ?_⟩) hS ?_
    rotate_left
    · intro W hSW
      go_simp
      all_goals with_reducible rfl
    refine wpAnyH_take (i := 1) (v := ?_) rfl (by kernel_rfl) (by kernel_rfl) (by kernel_rfl) (fun _ _ _ h => h) (Or.inl ⟨by kernel_rfl, ?_⟩) hS ?_
    rotate_left
    · intro W hSW
      go_simp
      all_goals with_reducible rfl
    refine wpAnyH_take (i := 2) (v := ?_) rfl (by kernel_rfl) (by kernel_rfl) (by kernel_rfl) (fun _ _ _ h => h) (Or.inl ⟨by kernel_rfl, ?_⟩) hS ?_
    rotate_left
    · intro W hSW
      go_simp
      all_goals with_reducible rfl
    refine wpAnyH_take (i := 3) (v := ?_) rfl (by kernel_rfl) (by kernel_rfl) (by kernel_rfl) (fun _ _ _ h => h) (Or.inl ⟨by kernel_rfl, ?_⟩) hS ?_
    rotate_left
    · intro W hSW
      have y1 := (HM.out.kept hSW).cell1
      go_simp
      all_goals with_reducible rfl
    go_simp
    refine wpAnyH_take (i := 4) (v := ?_) rfl (by kernel_rfl) (by kernel_rfl) (by kernel_rfl) (fun _ _ _ h => h) (Or.inl ⟨by kernel_rfl, ?_⟩) hS ?_
    rotate_left
    · intro W hSW
      go_simp
      all_goals with_reducible rfl
    go_simp
    refine wpAnyH_take (i := 5) (v := snV s.1) rfl (by kernel_rfl) (by kernel_rfl) (by kernel_rfl) (fun _ _ _ h => h) (Or.inl ⟨by kernel_rfl, fun W hSW => exec_load_part stT rfl rfl [.int .i64 s.1.1, .int .i64 s.1.2] rfl (AgAt.kept HB1.out hSW) spPar⟩) hS ?_
    go_simp
    refine wpAnyH_take (i := 6) (v := .map (some kb)) rfl (by kernel_rfl) (by kernel_rfl) (by kernel_rfl) (fun _ _ _ h => h) (Or.inl ⟨by kernel_rfl, fun W hSW => exec_lookup rfl rfl rfl (by rw [HKO.out]; exact (HM.out.kept hSW).lookB _ HWS.out)⟩) hS ?_
    refine wpAnyH_take (i := 7) (v := ?_) rfl (by kernel_rfl) (by kernel_rfl) (by kernel_rfl) (fun _ _ _ h => h) (Or.inl ⟨by kernel_rfl, ?_⟩) hS ?_
    rotate_left
    · intro W hSW
      have hne := HEQ.out W
      go_simp
      all_goals with_reducible rfl
    go_simp
    refine wpAnyH_done (by kernel_rfl) ?_ _
    go_simp
    clear hS
    obtain ⟨C2, hC2⟩ : ∃ C2, C2 = C := ⟨_, rfl⟩
    replace HKO := Lib.hid (show kidOf C2 s.1 = some kb from by rw [hC2]; exact HKO.out.symm)
    have HH := Lib.hid (show Half T C2 s.1 from by rw [hC2]; exact HLAY.out.half_old _)
    rw [← hC2] at HM
    have HFF := Lib.hid (show ∀ k, F k → F k ∨ w.heap.size + 2 ≤ k from fun k hk => Or.inl hk)
    clear hC2 HLAY HEQ
    obtain ⟨kc, hk1, hk2, hk3⟩ := kidOf_some HKO.out
    have HKI := Lib.hid (show kc ∈ C2 ∧ kc.b = kb ∧ SMap w1.drew kb (nodesOf kc.l) from ⟨hk1, hk3, by have := HM.out.inner kc hk1; rw [hk3] at this; exact this.below (Below.drew (Below.refl _ _))⟩)
    have HNN := Lib.hid (show lk (nodesOf kc.l) n = none from by
      rw [lk_nodes, if_neg]
      intro h
      obtain ⟨s', h1, -⟩ := Tm.kids_mem.1 (((HH.out.1 kc hk1).2 n).1 h)
      exact Tm.look_none.1 HNS.out _ h1 rfl)
    have HTI := Lib.hid (HH.out.put HNS.out (s := s) ⟨kc, hk1, hk2⟩)
    rw [← hk2] at HTI
    have HCP := Lib.hid hk2
    clear hk1 hk2 hk3
    go_upto_region 3 with fail
    replace HM := Lib.hid (HM.out.kept (Below.drew (Below.refl w1.heap.size w1)))
    replace HB0 := Lib.hid (AgAt.kept HB0.out (Below.drew (Below.refl w1.heap.size w1)))
    replace HB1 := Lib.hid (AgAt.kept HB1.out (Below.drew (Below.refl w1.heap.size w1)))
    replace HT := Lib.hid (HT.out.trans (Turns.of_below (Below.drew (Below.refl w1.heap.size w1))))
    refine wp_region_held_drew (S := fun W => AgAt W P #[.map (some M1), .map (some M2)] ∧ AgAt W w.heap.size #[.int .i64 n.1, .int .i64 n.2] ∧ AgAt W (w.heap.size + 1) (spA s) ∧ SMap W M2 (belows C2)) (by kernel_rfl) ⟨HM.out.at_, HB0.out, HB1.out, HM.out.below⟩ (fun hS => ?_)
    generalize w1.drew = wb at *
    refine wpAnyH_take (i := 0) (v := ?_) rfl (by kernel_rfl) (by kernel_rfl) (by kernel_rfl) (fun _ _ _ h => h) (Or.inl ⟨by kernel_rfl, ?_⟩) hS ?_
    rotate_left
    · intro W hSW
      go_simp
      all_goals with_reducible rfl
    refine wpAnyH_take (i := 1) (v := ?_) rfl (by kernel_rfl) (by kernel_rfl) (by kernel_rfl) (fun _ _ _ h => h) (Or.inl ⟨by kernel_rfl, ?_⟩) hS ?_
    rotate_left
    · intro W hSW
      go_simp
      all_goals with_reducible rfl
    refine wpAnyH_take (i := 2) (v := ?_) rfl (by kernel_rfl) (by kernel_rfl) (by kernel_rfl) (fun _ _ _ h => h) (Or.inl ⟨by kernel_rfl, ?_⟩) hS ?_
    rotate_left
    · intro W hSW
      go_simp
      all_goals with_reducible rfl
    refine wpAnyH_take (i := 3) (v := ?_) rfl (by kernel_rfl) (by kernel_rfl) (by kernel_rfl) (fun _ _ _ h => h) (Or.inl ⟨by kernel_rfl, ?_⟩) hS ?_
    rotate_left
    · intro W hSW
      have y1 : W.cell? ⟨P, 1, none⟩ = some (.map (some M2)) := by rw [AgAt.cell hSW.1 1]; rfl
      go_simp
      all_goals with_reducible rfl
    go_simp
    refine wpAnyH_take (i := 4) (v := ?_) rfl (by kernel_rfl) (by kernel_rfl) (by kernel_rfl) (fun _ _ _ h => h) (Or.inl ⟨by kernel_rfl, ?_⟩) hS ?_
    rotate_left
    · intro W hSW
      go_simp
      all_goals with_reducible rfl
    go_simp
    refine wpAnyH_take (i := 5) (v := snV s.1) rfl (by kernel_rfl) (by kernel_rfl) (by kernel_rfl) (fun _ _ _ h => h) (Or.inl ⟨by kernel_rfl, fun W hSW => exec_load_part stT rfl rfl [.int .i64 s.1.1, .int .i64 s.1.2] rfl (hSW.2.2.1) spPar⟩) hS ?_
    go_simp
    refine wpAnyH_take (i := 6) (v := .map (some kb)) rfl (by kernel_rfl) (by kernel_rfl) (by kernel_rfl) (fun _ _ _ h => h) (Or.inl ⟨by kernel_rfl, fun W hSW => exec_lookup rfl rfl rfl ((hSW.2.2.2.look mtBelow s.1 HWS.out).trans (by rw [lk_belows, HKO.out]))⟩) hS ?_
    go_simp
    refine wpAnyH_take (i := 7) (v := snV n) rfl (by kernel_rfl) (by kernel_rfl) (by kernel_rfl) (fun _ _ _ h => h) (Or.inl ⟨by kernel_rfl, fun W hSW => exec_load_ag stT rfl rfl rfl hSW.2.1⟩) hS ?_
    refine wpAnyH_take (i := 8) (v := ?_) rfl (by kernel_rfl) (by kernel_rfl) (by kernel_rfl) (fun _ _ _ h => h) (Or.inl ⟨by kernel_rfl, ?_⟩) hS ?_
    rotate_left
    · intro W hSW
      go_simp
      all_goals with_reducible rfl
    go_simp
    refine wpAnyH_ready (rs := [9]) (by kernel_rfl) (by simp) ?_
    refine AllReadyH.cons rfl (fun K hK => ?_) AllReadyH.nil
    obtain ⟨w7, hrun, hm7, ht7, hz7⟩ := HKI.out.2.2.upd mtSet n (.agg #[]) HWN.out HNN.out
    have HG := Lib.hid (HM.out.setKid (f := fun l => l ++ [n]) HKI.out.1 HKI.out.2.1 (by unfold nodesOf; rw [List.map_append]; exact hm7) ht7)
    have HNE := Lib.hid (show P ≠ kb ∧ w.heap.size ≠ kb ∧ w.heap.size + 1 ≠ kb ∧ M2 ≠ kb from by
      have h1 := HM.out.kne _ HKI.out.1
      rw [HKI.out.2.1] at h1
      have h2 := HFF.out kb (by have := HM.out.fK _ HKI.out.1; rw [HKI.out.2.1] at this; exact this)
      refine ⟨fun h => h1.1 h.symm, ?_, ?_, fun h => h1.2.2 h.symm⟩
      · rcases h2 with h2 | h2
        · have := HLT.out _ h2; omega
        · omega
      · rcases h2 with h2 | h2
        · have := HLT.out _ h2; omega
        · omega)
    replace HB0 := Lib.hid (AgAt.block HB0.out (ht7.block _ (AgAt.lt HB0.out) HNE.out.2.1))
    replace HB1 := Lib.hid (AgAt.block HB1.out (ht7.block _ (AgAt.lt HB1.out) HNE.out.2.2.1))
    replace HT := Lib.hid (HT.out.trans (ht7.mono fun k _ hk => by
      subst hk
      rcases HFF.out k (by have := HM.out.fK _ HKI.out.1; rw [HKI.out.2.1] at this; exact this) with h | h
      · exact Or.inl h
      · exact Or.inr (by omega)))
    refine step_of (by kernel_rfl) ?_
    refine wp_mapUpdate _ _ _ _ rfl (.map (some kb)) (snV n) (.agg #[]) rfl rfl rfl w7 hrun ?_
    refine hK.out _ _ ⟨AgAt.block hS.1 (ht7.block _ (AgAt.lt hS.1) HNE.out.1), AgAt.block hS.2.1 (ht7.block _ (AgAt.lt hS.2.1) HNE.out.2.1), AgAt.block hS.2.2.1 (ht7.block _ (AgAt.lt hS.2.2.1) HNE.out.2.2.1), hS.2.2.2.block (ht7.block _ hS.2.2.2.lt HNE.out.2.2.2)⟩ (fun hS => ?_)
    clear hK K hrun hm7 ht7 hz7 HNE HM HKI HNN HKO
    refine wpAnyH_done (by kernel_rfl) ?_ _
    go_simp
    clear hS
    go_upto_region 4 with fail
    have hbd := Below.drew (Below.refl w7.heap.size w7)
    replace HG := Lib.hid (HG.out.kept hbd)
    replace HB0 := Lib.hid (AgAt.kept HB0.out hbd)
    replace HB1 := Lib.hid (AgAt.kept HB1.out hbd)
    replace HT := Lib.hid (HT.out.trans (Turns.of_below hbd))
    have HF1 := Lib.hid HFM.out
    refine wp_region_held_drew (S := fun W => AgAt W P #[.map (some M1), .map (some M2)] ∧ AgAt W w.heap.size #[.int .i64 n.1, .int .i64 n.2] ∧ AgAt W (w.heap.size + 1) (spA s)) (by kernel_rfl) ⟨HG.out.at_, HB0.out, HB1.out⟩ (fun hS => ?_)
    clear hbd
    generalize w7.drew = wc at *
    refine wpAnyH_take (i := 0) (v := ?_) rfl (by kernel_rfl) (by kernel_rfl) (by kernel_rfl) (fun _ _ _ h => h) (Or.inl ⟨by kernel_rfl, ?_⟩) hS ?_
    rotate_left
    · intro W hSW
      go_simp
      all_goals with_reducible rfl
    refine wpAnyH_take (i := 1) (v := ?_) rfl (by kernel_rfl) (by kernel_rfl) (by kernel_rfl) (fun _ _ _ h => h) (Or.inl ⟨by kernel_rfl, ?_⟩) hS ?_
    rotate_left
    · intro W hSW
      go_simp
      all_goals with_reducible rfl
    refine wpAnyH_take (i := 2) (v := ?_) rfl (by kernel_rfl) (by kernel_rfl) (by kernel_rfl) (fun _ _ _ h => h) (Or.inl ⟨by kernel_rfl, ?_⟩) hS ?_
    rotate_left
    · intro W hSW
      go_simp
      all_goals with_reducible rfl
    refine wpAnyH_take (i := 3) (v := ?_) rfl (by kernel_rfl) (by kernel_rfl) (by kernel_rfl) (fun _ _ _ h => h) (Or.inl ⟨by kernel_rfl, ?_⟩) hS ?_
    rotate_left
    · intro W hSW
      have y0 : W.cell? ⟨P, 0, none⟩ = some (.map (some M1)) := by rw [AgAt.cell hSW.1 0]; rfl
      go_simp
      all_goals with_reducible rfl
    go_simp
    refine wpAnyH_take (i := 4) (v := snV n) rfl (by kernel_rfl) (by kernel_rfl) (by kernel_rfl) (fun _ _ _ h => h) (Or.inl ⟨by kernel_rfl, fun W hSW => exec_load_ag stT rfl rfl rfl hSW.2.1⟩) hS ?_
    go_simp
    refine wpAnyH_take (i := 5) (v := spV s) rfl (by kernel_rfl) (by kernel_rfl) (by kernel_rfl) (fun _ _ _ h => h) (Or.inl ⟨by kernel_rfl, fun W hSW => exec_load_ag spT rfl rfl rfl hSW.2.2⟩) hS ?_
    go_simp
    refine wpAnyH_ready (rs := [6]) (by kernel_rfl) (by simp) ?_
    refine AllReadyH.cons rfl (fun K hK => ?_) AllReadyH.nil
    obtain ⟨w8, hrun, hm8, ht8, hz8⟩ := HG.out.spots.upd mtSpots n (spV s) HWN.out (by rw [lk_spots, HNS.out]; rfl)
    have HJ := Lib.hid (HG.out.newSpot hm8 ht8)
    have HNE := Lib.hid (show P ≠ M1 ∧ w.heap.size ≠ M1 ∧ w.heap.size + 1 ≠ M1 from ⟨HG.out.ne.1, by have := HLT.out _ HF1.out; omega, by have := HLT.out _ HF1.out; omega⟩)
    replace HT := Lib.hid (HT.out.trans (ht8.mono fun k _ hk => Or.inl (by subst hk; exact HF1.out)))
    refine step_of (by kernel_rfl) ?_
    refine wp_mapUpdate _ _ _ _ rfl (.map (some M1)) (snV n) (spV s) rfl rfl rfl w8 hrun ?_
    refine hK.out _ _ ⟨AgAt.block hS.1 (ht8.block _ (AgAt.lt hS.1) HNE.out.1), AgAt.block hS.2.1 (ht8.block _ (AgAt.lt hS.2.1) HNE.out.2.1), AgAt.block hS.2.2 (ht8.block _ (AgAt.lt hS.2.2) HNE.out.2.2)⟩ (fun hS => ?_)
    clear hK K hrun hm8 ht8 hz8 HNE HG
    refine wpAnyH_done (by kernel_rfl) ?_ _
    go_simp
    have HE := Lib.hid (show Laid P M1 M2 T F n s w (.returned (.tuple #[])) w8 from ⟨rfl, _, ⟨HJ.out.more (fun k hk => (HFF.out k hk).imp id fun h => ⟨by omega, HJ.out.lt k hk⟩) (fun k hk => hk.elim (fun h => Nat.lt_of_lt_of_le (HLT.out k h) HT.out.size) fun h => h.2), HTI.out.1, HTI.out.2⟩, HT.out⟩)
    clear hS HJ HTI HT HH
    go_wp2
    go_end0
    exact HE.out
end Go.Proofs.YthifdefjmfakgaaGreat

namespace Go.Proofs.YthifdefjmfakgaaGreat
open Go.RowKit
open Tm (Sp Tr has put cut kids)

theorem nodes_filter (l : List Qm.St) (n : Qm.St) : (nodesOf l).filter (fun e => !(e.1 == n)) = nodesOf (l.filter fun m => !(m == n)) := by
  unfold nodesOf
  rw [List.filter_map]
  rfl
theorem kidOf_setKid (C : List Kid) (p q : Qm.St) (f : List Qm.St → List Qm.St) : kidOf (setKid C p f) q = kidOf C q := by
  unfold kidOf setKid
  induction C with
  | nil => rfl
  | cons a C ih =>
    have h1 : (if a.p = p then { a with l := f a.l } else a : Kid).p = a.p := by split <;> rfl
    have h2 : (if a.p = p then { a with l := f a.l } else a : Kid).b = a.b := by split <;> rfl
    rw [List.map_cons, List.find?_cons, List.find?_cons, h1]
    by_cases e : (a.p == q) = true
    · rw [e]
      simp [h2]
    · rw [Bool.not_eq_true] at e
      rw [e]
      exact ih
theorem setKid_at {C : List Kid} {p : Qm.St} {f : List Qm.St → List Qm.St} {c : Kid} (h : c ∈ C) (hp : c.p = p) : ∃ c' ∈ setKid C p f, c'.b = c.b ∧ c'.l = f c.l := by
  refine ⟨_, List.mem_map.2 ⟨c, h, rfl⟩, ?_⟩
  rw [if_pos hp]
  exact ⟨rfl, rfl⟩
section
variable {w w' : World} {P M1 M2 : Nat} {T : Tr} {C : List Kid} {F G : Nat → Prop}
theorem Mem.cutSpot {n : Qm.St} (h : Mem w P M1 M2 T C F) (hm : SMap w' M1 ((Go.Proofs.YthifdefjmfakgaaGreat.spots T).filter fun e => !(e.1 == n))) (ht : Turns (fun k => k = M1) w w') : Mem w' P M1 M2 (cut T n) C F :=
  ⟨h.at_.block (ht.block _ (h.lt _ h.fP) h.ne.1), by unfold Go.Proofs.YthifdefjmfakgaaGreat.spots cut at *; rw [List.filter_map] at hm; exact hm, h.below.turns ht fun e => h.ne.2.2 e.symm, fun c hc => (h.inner c hc).turns ht (h.kne c hc).2.1, h.fP, h.f1, h.f2, h.fK, h.ne, h.kne, h.knd,
   fun k hk => Nat.lt_of_lt_of_le (h.lt k hk) ht.size⟩
theorem Mem.cutKid {p : Qm.St} (h : Mem w P M1 M2 T C F) (hm : SMap w' M2 ((belows C).filter fun e => !(e.1 == p))) (ht : Turns (fun k => k = M2) w w') : Mem w' P M1 M2 T (C.filter fun c => !(c.p == p)) F := by
  refine ⟨h.at_.block (ht.block _ (h.lt _ h.fP) h.ne.2.1), h.spots.turns ht h.ne.2.2, by unfold belows at *; rw [List.filter_map] at hm; exact hm, fun c hc => ?_, h.fP, h.f1, h.f2, fun c hc => h.fK c (List.mem_filter.1 hc).1, h.ne, fun c hc => h.kne c (List.mem_filter.1 hc).1,
    (List.filter_sublist.map Kid.b).nodup h.knd, fun k hk => Nat.lt_of_lt_of_le (h.lt k hk) ht.size⟩
  have hc' := (List.mem_filter.1 hc).1
  exact (h.inner c hc').turns ht (h.kne c hc').2.2
theorem kids_cut {T : Tr} {n q : Qm.St} {m : Qm.St} : m ∈ kids (cut T n) q ↔ m ∈ kids T q ∧ m ≠ n := by
  rw [Tm.kids_mem, Tm.kids_mem]
  constructor
  · rintro ⟨s, h1, h2⟩
    obtain ⟨h3, h4⟩ := Tm.mem_cut.1 h1
    exact ⟨⟨s, h3, h2⟩, h4⟩
  · rintro ⟨⟨s, h1, h2⟩, h3⟩
    exact ⟨s, Tm.mem_cut.2 ⟨h1, h3⟩, h2⟩
theorem Lay.cutFull (h : Lay w P M1 M2 T C F) {n : Qm.St} {s : Sp} (hl : Tm.look T n = some s) :
    (∀ c ∈ setKid C s.1 (fun l => l.filter fun m => !(m == n)), (c.p ≠ s.1 → c.l ≠ []) ∧ ∀ m, m ∈ c.l ↔ m ∈ kids (cut T n) c.p) ∧ ∀ e ∈ cut T n, ∃ c ∈ setKid C s.1 (fun l => l.filter fun m => !(m == n)), c.p = e.2.1 := by
  have honly : ∀ q, n ∈ kids T q → q = s.1 := fun q hq => by
    obtain ⟨s', h1, h2⟩ := Tm.kids_mem.1 hq
    have := Tm.look_some h.nd h1
    rw [hl] at this
    cases this
    exact h2.symm
  constructor
  · intro c' hc'
    obtain ⟨c, hc, h1, h2, h3, h4⟩ := mem_setKid hc'
    by_cases e : c.p = s.1
    · refine ⟨fun hh => absurd (h1.trans e) hh, fun m => ?_⟩
      rw [h3 e, h1, kids_cut, List.mem_filter, (h.full c hc).2 m]
      simp
    · obtain rfl := h4 e
      refine ⟨fun _ => (h.full c' hc).1, fun m => ?_⟩
      rw [kids_cut, (h.full c' hc).2 m]
      exact ⟨fun hm => ⟨hm, fun hh => e (honly _ (by rw [← hh]; exact hm))⟩, fun hm => hm.1⟩
  · intro e he
    obtain ⟨c, hc, h1⟩ := h.all e (Tm.mem_cut.1 he).1
    obtain ⟨c', hc', h2⟩ := setKid_mem (p := s.1) (f := fun l => l.filter fun m => !(m == n)) hc
    exact ⟨c', hc', h2.trans h1⟩
/-- nothing is left below the place -/
theorem Lay.cutY (h : Lay w P M1 M2 T C F) {n : Qm.St} {s : Sp} (hl : Tm.look T n = some s) {kc : Kid} (hk : kc ∈ C) (hp : kc.p = s.1) (h0 : (kc.l.filter fun m => !(m == n)).length = 0) :
    (∀ c ∈ (setKid C s.1 (fun l => l.filter fun m => !(m == n))).filter (fun c => !(c.p == s.1)), c.l ≠ [] ∧ ∀ m, m ∈ c.l ↔ m ∈ kids (cut T n) c.p) ∧ ∀ e ∈ cut T n, ∃ c ∈ (setKid C s.1 (fun l => l.filter fun m => !(m == n))).filter (fun c => !(c.p == s.1)), c.p = e.2.1 := by
  obtain ⟨h1, h2⟩ := h.cutFull hl
  constructor
  · intro c hc
    obtain ⟨k1, k2⟩ := List.mem_filter.1 hc
    exact ⟨(h1 c k1).1 (by simpa using k2), (h1 c k1).2⟩
  · intro e he
    obtain ⟨c, hc, k1⟩ := h2 e he
    refine ⟨c, List.mem_filter.2 ⟨hc, ?_⟩, k1⟩
    have : c.p ≠ s.1 := fun hh => by
      obtain ⟨c0, j1, j2, j3, j4, j5⟩ := mem_setKid hc
      have j6 : c0 = kc := one_of h.cnd j1 hk (by rw [← j2, hh, hp])
      subst j6
      have j7 : e.1 ∈ kids (cut T n) c.p := Tm.kids_mem.2 ⟨e.2, he, k1.symm⟩
      have j8 := ((h1 c hc).2 e.1).2 j7
      rw [j4 hp, List.eq_nil_of_length_eq_zero h0] at j8
      cases j8
    simpa using this
/-- something is left -/
theorem Lay.cutN (h : Lay w P M1 M2 T C F) {n : Qm.St} {s : Sp} (hl : Tm.look T n = some s) {kc : Kid} (hk : kc ∈ C) (hp : kc.p = s.1) (h0 : (kc.l.filter fun m => !(m == n)).length ≠ 0) :
    (∀ c ∈ setKid C s.1 (fun l => l.filter fun m => !(m == n)), c.l ≠ [] ∧ ∀ m, m ∈ c.l ↔ m ∈ kids (cut T n) c.p) ∧ ∀ e ∈ cut T n, ∃ c ∈ setKid C s.1 (fun l => l.filter fun m => !(m == n)), c.p = e.2.1 := by
  obtain ⟨h1, h2⟩ := h.cutFull hl
  refine ⟨fun c hc => ⟨?_, (h1 c hc).2⟩, h2⟩
  by_cases e : c.p = s.1
  · obtain ⟨c0, j1, j2, j3, j4, j5⟩ := mem_setKid hc
    have j6 : c0 = kc := one_of h.cnd j1 hk (by rw [← j2, e, hp])
    subst j6
    rw [j4 hp]
    exact fun hh => h0 (by rw [hh]; rfl)
  · exact (h1 c hc).1 e
end
/-- what lift leaves -/
def Lifted (P M1 M2 : Nat) (T : Tr) (F : Nat → Prop) (n : Qm.St) (w : World) (e : Ending) (w' : World) : Prop :=
  e = .returned (.tuple #[]) ∧ ∃ C', Lay w' P M1 M2 (cut T n) C' F ∧ Turns F w w'

set_option maxRecDepth 100000 in
set_option maxHeartbeats 8000000 in
theorem lift_any {P M1 M2 : Nat} {T : Tr} {C : List Kid} {F : Nat → Prop} (n : Qm.St) (s : Sp) (w : World) (h : Lay w P M1 M2 T C F) (hs : StWf s.1) (hl : Tm.look T n = some s) :
    Calls Tryz.prog 161 #[.pointer (some ⟨P, 0, none⟩), snV n, spV s] w (Lifted P M1 M2 T F n w) := by
  have h1 : ∀ (w : World) (o : Obj), Below w.heap.size w (w.alloc o) := fun w o => (Below.refl _ _).alloc (Nat.le_refl _) _
  have hb := (h1 w (.cells #[.int .i64 n.1, .int .i64 n.2] 35)).trans ((h1 (w.alloc (.cells #[.int .i64 n.1, .int .i64 n.2] 35)) (.cells (spA s) 72)).mono (by simp))
  have HB0 := Lib.hid ((AgAt.new w #[.int .i64 n.1, .int .i64 n.2] 35).kept (h1 _ (.cells (spA s) 72)))
  have HB1 := Lib.hid (show AgAt ((w.alloc (.cells #[.int .i64 n.1, .int .i64 n.2] 35)).alloc (.cells (spA s) 72)) (w.heap.size + 1) (spA s) from by
    have := AgAt.new (w.alloc (.cells #[.int .i64 n.1, .int .i64 n.2] 35)) (spA s) 72
    rw [show (w.alloc (.cells #[.int .i64 n.1, .int .i64 n.2] 35)).heap.size = w.heap.size + 1 from by simp] at this
    exact this)
  have HLT := Lib.hid h.lt
  have HM := Lib.hid (h.toMem.kept hb)
  have HT := Lib.hid (Turns.of_below (F := F) hb)
  have HWN := Lib.hid (h.wf _ (Tm.look_mem hl))
  have HWS := Lib.hid hs
  have HIN := Lib.hid (show (lk (spots T) n).isSome = true from by rw [lk_spots, hl]; rfl)
  obtain ⟨kc, hk1, hk2⟩ := h.all _ (Tm.look_mem hl)
  dsimp only at hk2
  obtain ⟨kb, hkb⟩ : ∃ b, b = kc.b := ⟨_, rfl⟩
  have HKC := Lib.hid (show kc ∈ C ∧ kc.b = kb ∧ kc.p = s.1 from ⟨hk1, hkb.symm, hk2⟩)
  have HKO := Lib.hid (show kidOf C s.1 = some kb from by rw [← hk2, hkb]; exact kidOf_of h.cnd hk1)
  have HNN := Lib.hid (show (lk (nodesOf kc.l) n).isSome = true from by
    rw [lk_nodes, if_pos (((h.full kc hk1).2 n).2 (Tm.kids_mem.2 ⟨s, Tm.look_mem hl, hk2.symm⟩))]
    rfl)
  have HCY := Lib.hid (h.cutY hl hk1 hk2)
  have HCN := Lib.hid (h.cutN hl hk1 hk2)
  have HLK := Lib.hid (show (lk (belows (setKid C s.1 fun l => l.filter fun m => !(m == n))) s.1).isSome = true from by
    rw [belows_setKid, lk_some (v := .map (some kc.b)) h.toMem.below.nd (by rw [← hk2]; exact List.mem_map.2 ⟨kc, hk1, rfl⟩)]
    rfl)
  clear h hb hs hl h1 hk1 hk2 hkb
  by_cases h0 : (kc.l.filter fun m => !(m == n)).length = 0
  · have HTI := Lib.hid (HCY.out h0)
    have HD0 := Lib.hid (show ((((nodesOf (kc.l.filter fun m => !(m == n))).length : Nat) : Int) == 0) = true from by unfold nodesOf; rw [List.length_map, h0]; rfl)
    clear h0 HCY HCN
    go_enter Tryz.func161, Tryz.ntmps161
    go_upto_region 1 with fail
    generalize (w.alloc (.cells #[.int .i64 n.1, .int .i64 n.2] 35)).alloc (.cells (spA s) 72) = w1 at *
    have hbd := Below.drew (Below.refl w1.heap.size w1)
    replace HM := Lib.hid (HM.out.kept hbd)
    replace HB0 := Lib.hid (AgAt.kept HB0.out hbd)
    replace HB1 := Lib.hid (AgAt.kept HB1.out hbd)
    replace HT := Lib.hid (HT.out.trans (Turns.of_below hbd))
    refine wp_region_held_drew (S := fun W => AgAt W P #[.map (some M1), .map (some M2)] ∧ AgAt W w.heap.size #[.int .i64 n.1, .int .i64 n.2]) (by kernel_rfl) ⟨HM.out.at_, HB0.out⟩ (fun hS => ?_)
    clear hbd
    generalize w1.drew = w1 at *
    refine wpAnyH_take (i := 0) (v := ?_) rfl (by kernel_rfl) (by kernel_rfl) (by kernel_rfl) (fun _ _ _ h => h) (Or.inl ⟨by kernel_rfl, ?_⟩) hS ?_
    rotate_left
    · intro W hSW
      go_simp
      all_goals with_reducible rfl
    refine wpAnyH_take (i := 1) (v := ?_) rfl (by kernel_rfl) (by kernel_rfl) (by kernel_rfl) (fun _ _ _ h => h) (Or.inl ⟨by kernel_rfl, ?_⟩) hS ?_
    rotate_left
    · intro W hSW
      go_simp
      all_goals with_reducible rfl
    refine wpAnyH_take (i := 2) (v := ?_) rfl (by kernel_rfl) (by kernel_rfl) (by kernel_rfl) (fun _ _ _ h => h) (Or.inl ⟨by kernel_rfl, ?_⟩) hS ?_
    rotate_left
    · intro W hSW
      go_simp
      all_goals with_reducible rfl
    refine wpAnyH_take (i := 3) (v := ?_) rfl (by kernel_rfl) (by kernel_rfl) (by kernel_rfl) (fun _ _ _ h => h) (Or.inl ⟨by kernel_rfl, ?_⟩) hS ?_
    rotate_left
    · intro W hSW
      have y0 : W.cell? ⟨P, 0, none⟩ = some (.map (some M1)) := by rw [AgAt.cell hSW.1 0]; rfl
      go_simp
      all_goals with_reducible rfl
    go_simp
    refine wpAnyH_take (i := 4) (v := snV n) rfl (by kernel_rfl) (by kernel_rfl) (by kernel_rfl) (fun _ _ _ h => h) (Or.inl ⟨by kernel_rfl, fun W hSW => exec_load_ag stT rfl rfl rfl hSW.2⟩) hS ?_
    go_simp
    refine wpAnyH_ready (rs := [5]) (by kernel_rfl) (by simp) ?_
    refine AllReadyH.cons rfl (fun K hK => ?_) AllReadyH.nil
    obtain ⟨w6, hrun, hm6, ht6, hz6⟩ := HM.out.spots.del mtSpots n HWN.out HIN.out
    have HG := Lib.hid (HM.out.cutSpot hm6 ht6)
    have HNE := Lib.hid (show P ≠ M1 ∧ w.heap.size ≠ M1 ∧ w.heap.size + 1 ≠ M1 from ⟨HM.out.ne.1, by have := HLT.out _ HM.out.f1; omega, by have := HLT.out _ HM.out.f1; omega⟩)
    replace HB0 := Lib.hid (AgAt.block HB0.out (ht6.block _ (AgAt.lt HB0.out) HNE.out.2.1))
    replace HB1 := Lib.hid (AgAt.block HB1.out (ht6.block _ (AgAt.lt HB1.out) HNE.out.2.2))
    replace HT := Lib.hid (HT.out.trans (ht6.mono fun k _ hk => Or.inl (by subst hk; exact HM.out.f1)))
    refine step_of (by kernel_rfl) ?_
    refine wp_delete _ _ 131 35 rfl (.map (some M1)) (snV n) rfl rfl w6 (hrun _) ?_
    refine hK.out _ _ ⟨AgAt.block hS.1 (ht6.block _ (AgAt.lt hS.1) HNE.out.1), AgAt.block hS.2 (ht6.block _ (AgAt.lt hS.2) HNE.out.2.1)⟩ (fun hS => ?_)
    clear hK K hrun hm6 ht6 hz6 HNE HM
    refine wpAnyH_done (by kernel_rfl) ?_ _
    go_simp
    clear hS
    go_upto_region 2 with fail
    have hbd := Below.drew (Below.refl w6.heap.size w6)
    replace HG := Lib.hid (HG.out.kept hbd)
    replace HB0 := Lib.hid (AgAt.kept HB0.out hbd)
    replace HB1 := Lib.hid (AgAt.kept HB1.out hbd)
    replace HT := Lib.hid (HT.out.trans (Turns.of_below hbd))
    have HKI := Lib.hid (show SMap w6.drew kb (nodesOf kc.l) from by have := HG.out.inner kc HKC.out.1; rw [HKC.out.2.1] at this; exact this)
    refine wp_region_held_drew (S := fun W => AgAt W P #[.map (some M1), .map (some M2)] ∧ AgAt W w.heap.size #[.int .i64 n.1, .int .i64 n.2] ∧ AgAt W (w.heap.size + 1) (spA s) ∧ SMap W M2 (belows C)) (by kernel_rfl) ⟨HG.out.at_, HB0.out, HB1.out, HG.out.below⟩ (fun hS => ?_)
    clear hbd
    generalize w6.drew = wb at *
    refine wpAnyH_take (i := 0) (v := ?_) rfl (by kernel_rfl) (by kernel_rfl) (by kernel_rfl) (fun _ _ _ h => h) (Or.inl ⟨by kernel_rfl, ?_⟩) hS ?_
    rotate_left
    · intro W hSW
      go_simp
      all_goals with_reducible rfl
    refine wpAnyH_take (i := 1) (v := ?_) rfl (by kernel_rfl) (by kernel_rfl) (by kernel_rfl) (fun _ _ _ h => h) (Or.inl ⟨by kernel_rfl, ?_⟩) hS ?_
    rotate_left
    · intro W hSW
      go_simp
      all_goals with_reducible rfl
    refine wpAnyH_take (i := 2) (v := ?_) rfl (by kernel_rfl) (by kernel_rfl) (by kernel_rfl) (fun _ _ _ h => h) (Or.inl ⟨by kernel_rfl, ?_⟩) hS ?_
    rotate_left
    · intro W hSW
      go_simp
      all_goals with_reducible rfl
    refine wpAnyH_take (i := 3) (v := ?_) rfl (by kernel_rfl) (by kernel_rfl) (by kernel_rfl) (fun _ _ _ h => h) (Or.inl ⟨by kernel_rfl, ?_⟩) hS ?_
    rotate_left
    · intro W hSW
      have y1 : W.cell? ⟨P, 1, none⟩ = some (.map (some M2)) := by rw [AgAt.cell hSW.1 1]; rfl
      go_simp
      all_goals with_reducible rfl
    go_simp
    refine wpAnyH_take (i := 4) (v := ?_) rfl (by kernel_rfl) (by kernel_rfl) (by kernel_rfl) (fun _ _ _ h => h) (Or.inl ⟨by kernel_rfl, ?_⟩) hS ?_
    rotate_left
    · intro W hSW
      go_simp
      all_goals with_reducible rfl
    go_simp
    refine wpAnyH_take (i := 5) (v := snV s.1) rfl (by kernel_rfl) (by kernel_rfl) (by kernel_rfl) (fun _ _ _ h => h) (Or.inl ⟨by kernel_rfl, fun W hSW => exec_load_part stT rfl rfl [.int .i64 s.1.1, .int .i64 s.1.2] rfl (hSW.2.2.1) spPar⟩) hS ?_
    go_simp
    refine wpAnyH_take (i := 6) (v := .map (some kb)) rfl (by kernel_rfl) (by kernel_rfl) (by kernel_rfl) (fun _ _ _ h => h) (Or.inl ⟨by kernel_rfl, fun W hSW => exec_lookup rfl rfl rfl ((hSW.2.2.2.look mtBelow s.1 HWS.out).trans (by rw [lk_belows, HKO.out]))⟩) hS ?_
    go_simp
    refine wpAnyH_take (i := 7) (v := snV n) rfl (by kernel_rfl) (by kernel_rfl) (by kernel_rfl) (fun _ _ _ h => h) (Or.inl ⟨by kernel_rfl, fun W hSW => exec_load_ag stT rfl rfl rfl hSW.2.1⟩) hS ?_
    go_simp
    refine wpAnyH_ready (rs := [8]) (by kernel_rfl) (by simp) ?_
    refine AllReadyH.cons rfl (fun K hK => ?_) AllReadyH.nil
    obtain ⟨w7, hrun, hm7, ht7, hz7⟩ := HKI.out.del mtSet n HWN.out HNN.out
    have HJ := Lib.hid (HG.out.setKid (f := fun l => l.filter fun m => !(m == n)) HKC.out.1 HKC.out.2.1 (by rw [← nodes_filter]; exact hm7) ht7)
    have HNE := Lib.hid (show P ≠ kb ∧ w.heap.size ≠ kb ∧ w.heap.size + 1 ≠ kb ∧ M2 ≠ kb from by
      have h1 := HG.out.kne _ HKC.out.1
      rw [HKC.out.2.1] at h1
      have h2 := HLT.out kb (by have := HG.out.fK _ HKC.out.1; rw [HKC.out.2.1] at this; exact this)
      exact ⟨fun h => h1.1 h.symm, by omega, by omega, fun h => h1.2.2 h.symm⟩)
    replace HB0 := Lib.hid (AgAt.block HB0.out (ht7.block _ (AgAt.lt HB0.out) HNE.out.2.1))
    replace HB1 := Lib.hid (AgAt.block HB1.out (ht7.block _ (AgAt.lt HB1.out) HNE.out.2.2.1))
    replace HT := Lib.hid (HT.out.trans (ht7.mono fun k _ hk => by
      subst hk
      exact Or.inl (by have := HG.out.fK _ HKC.out.1; rw [HKC.out.2.1] at this; exact this)))
    refine step_of (by kernel_rfl) ?_
    refine wp_delete _ _ 136 35 rfl (.map (some kb)) (snV n) rfl rfl w7 (hrun _) ?_
    refine hK.out _ _ ⟨AgAt.block hS.1 (ht7.block _ (AgAt.lt hS.1) HNE.out.1), AgAt.block hS.2.1 (ht7.block _ (AgAt.lt hS.2.1) HNE.out.2.1), AgAt.block hS.2.2.1 (ht7.block _ (AgAt.lt hS.2.2.1) HNE.out.2.2.1), hS.2.2.2.block (ht7.block _ hS.2.2.2.lt HNE.out.2.2.2)⟩ (fun hS => ?_)
    clear hK K hrun hm7 ht7 hz7 HNE HG HKI HNN
    refine wpAnyH_done (by kernel_rfl) ?_ _
    go_simp
    clear hS
    rw [HKC.out.2.2] at HJ
    go_upto_region 3 with fail
    have hbd := Below.drew (Below.refl w7.heap.size w7)
    replace HJ := Lib.hid (HJ.out.kept hbd)
    replace HB0 := Lib.hid (AgAt.kept HB0.out hbd)
    replace HB1 := Lib.hid (AgAt.kept HB1.out hbd)
    replace HT := Lib.hid (HT.out.trans (Turns.of_below hbd))
    have HKJ := Lib.hid (show SMap w7.drew kb (nodesOf (kc.l.filter fun m => !(m == n))) from by
      obtain ⟨c', h1, h2⟩ := setKid_at (p := s.1) (f := fun l => l.filter fun m => !(m == n)) HKC.out.1 HKC.out.2.2
      have := HJ.out.inner c' h1
      rw [h2.1, h2.2, HKC.out.2.1] at this
      exact this)
    refine wp_region_held_drew (S := fun W => Below w7.drew.heap.size w7.drew W) (by kernel_rfl) (Below.refl _ _) (fun hS => ?_)
    clear hbd
    generalize w7.drew = wc at *
    refine wpAnyH_take (i := 0) (v := ?_) rfl (by kernel_rfl) (by kernel_rfl) (by kernel_rfl) (fun _ _ _ h => h) (Or.inl ⟨by kernel_rfl, ?_⟩) hS ?_
    rotate_left
    · intro W hSW
      go_simp
      all_goals with_reducible rfl
    refine wpAnyH_take (i := 1) (v := ?_) rfl (by kernel_rfl) (by kernel_rfl) (by kernel_rfl) (fun _ _ _ h => h) (Or.inl ⟨by kernel_rfl, ?_⟩) hS ?_
    rotate_left
    · intro W hSW
      go_simp
      all_goals with_reducible rfl
    refine wpAnyH_take (i := 2) (v := ?_) rfl (by kernel_rfl) (by kernel_rfl) (by kernel_rfl) (fun _ _ _ h => h) (Or.inl ⟨by kernel_rfl, ?_⟩) hS ?_
    rotate_left
    · intro W hSW
      go_simp
      all_goals with_reducible rfl
    refine wpAnyH_take (i := 3) (v := ?_) rfl (by kernel_rfl) (by kernel_rfl) (by kernel_rfl) (fun _ _ _ h => h) (Or.inl ⟨by kernel_rfl, ?_⟩) hS ?_
    rotate_left
    · intro W hSW
      have y1 := (HJ.out.kept hSW).cell1
      go_simp
      all_goals with_reducible rfl
    go_simp
    refine wpAnyH_take (i := 4) (v := ?_) rfl (by kernel_rfl) (by kernel_rfl) (by kernel_rfl) (fun _ _ _ h => h) (Or.inl ⟨by kernel_rfl, ?_⟩) hS ?_
    rotate_left
    · intro W hSW
      go_simp
      all_goals with_reducible rfl
    go_simp
    refine wpAnyH_take (i := 5) (v := snV s.1) rfl (by kernel_rfl) (by kernel_rfl) (by kernel_rfl) (fun _ _ _ h => h) (Or.inl ⟨by kernel_rfl, fun W hSW => exec_load_part stT rfl rfl [.int .i64 s.1.1, .int .i64 s.1.2] rfl (AgAt.kept HB1.out hSW) spPar⟩) hS ?_
    go_simp
    refine wpAnyH_take (i := 6) (v := .map (some kb)) rfl (by kernel_rfl) (by kernel_rfl) (by kernel_rfl) (fun _ _ _ h => h) (Or.inl ⟨by kernel_rfl, fun W hSW => exec_lookup rfl rfl rfl (((HJ.out.kept hSW).lookB s.1 HWS.out).trans (by rw [kidOf_setKid, HKO.out]))⟩) hS ?_
    refine wpAnyH_take (i := 7) (v := ?_) rfl (by kernel_rfl) (by kernel_rfl) (by kernel_rfl) (fun _ _ _ h => h) (Or.inl ⟨by kernel_rfl, ?_⟩) hS ?_
    rotate_left
    · intro W hSW
      have hln := (HKJ.out.below hSW).len mtSet 3
      go_simp
      all_goals with_reducible rfl
    refine wpAnyH_take (i := 8) (v := ?_) rfl (by kernel_rfl) (by kernel_rfl) (by kernel_rfl) (fun _ _ _ h => h) (Or.inl ⟨by kernel_rfl, ?_⟩) hS ?_
    rotate_left
    · intro W hSW
      have d0 := HD0.out
      go_simp
      all_goals with_reducible rfl
    go_simp
    refine wpAnyH_done (by kernel_rfl) ?_ _
    go_simp
    clear hS HKJ HD0
    go_upto_region 4 with fail
    have hbd := Below.drew (Below.refl wc.heap.size wc)
    replace HJ := Lib.hid (HJ.out.kept hbd)
    replace HB0 := Lib.hid (AgAt.kept HB0.out hbd)
    replace HB1 := Lib.hid (AgAt.kept HB1.out hbd)
    replace HT := Lib.hid (HT.out.trans (Turns.of_below hbd))
    refine wp_region_held_drew (S := fun W => AgAt W P #[.map (some M1), .map (some M2)] ∧ AgAt W (w.heap.size + 1) (spA s)) (by kernel_rfl) ⟨HJ.out.at_, HB1.out⟩ (fun hS => ?_)
    clear hbd
    generalize wc.drew = wd at *
    refine wpAnyH_take (i := 0) (v := ?_) rfl (by kernel_rfl) (by kernel_rfl) (by kernel_rfl) (fun _ _ _ h => h) (Or.inl ⟨by kernel_rfl, ?_⟩) hS ?_
    rotate_left
    · intro W hSW
      go_simp
      all_goals with_reducible rfl
    refine wpAnyH_take (i := 1) (v := ?_) rfl (by kernel_rfl) (by kernel_rfl) (by kernel_rfl) (fun _ _ _ h => h) (Or.inl ⟨by kernel_rfl, ?_⟩) hS ?_
    rotate_left
    · intro W hSW
      go_simp
      all_goals with_reducible rfl
    refine wpAnyH_take (i := 2) (v := ?_) rfl (by kernel_rfl) (by kernel_rfl) (by kernel_rfl) (fun _ _ _ h => h) (Or.inl ⟨by kernel_rfl, ?_⟩) hS ?_
    rotate_left
    · intro W hSW
      go_simp
      all_goals with_reducible rfl
    refine wpAnyH_take (i := 3) (v := ?_) rfl (by kernel_rfl) (by kernel_rfl) (by kernel_rfl) (fun _ _ _ h => h) (Or.inl ⟨by kernel_rfl, ?_⟩) hS ?_
    rotate_left
    · intro W hSW
      have y1 : W.cell? ⟨P, 1, none⟩ = some (.map (some M2)) := by rw [AgAt.cell hSW.1 1]; rfl
      go_simp
      all_goals with_reducible rfl
    go_simp
    refine wpAnyH_take (i := 4) (v := ?_) rfl (by kernel_rfl) (by kernel_rfl) (by kernel_rfl) (fun _ _ _ h => h) (Or.inl ⟨by kernel_rfl, ?_⟩) hS ?_
    rotate_left
    · intro W hSW
      go_simp
      all_goals with_reducible rfl
    go_simp
    refine wpAnyH_take (i := 5) (v := snV s.1) rfl (by kernel_rfl) (by kernel_rfl) (by kernel_rfl) (fun _ _ _ h => h) (Or.inl ⟨by kernel_rfl, fun W hSW => exec_load_part stT rfl rfl [.int .i64 s.1.1, .int .i64 s.1.2] rfl (hSW.2) spPar⟩) hS ?_
    go_simp
    refine wpAnyH_ready (rs := [6]) (by kernel_rfl) (by simp) ?_
    refine AllReadyH.cons rfl (fun K hK => ?_) AllReadyH.nil
    obtain ⟨w8, hrun, hm8, ht8, hz8⟩ := HJ.out.below.del mtBelow s.1 HWS.out HLK.out
    have HQ := Lib.hid (HJ.out.cutKid hm8 ht8)
    have HNE := Lib.hid (show P ≠ M2 ∧ w.heap.size + 1 ≠ M2 from ⟨HJ.out.ne.2.1, by have := HLT.out _ HJ.out.f2; omega⟩)
    replace HT := Lib.hid (HT.out.trans (ht8.mono fun k _ hk => Or.inl (by subst hk; exact HJ.out.f2)))
    refine step_of (by kernel_rfl) ?_
    refine wp_delete _ _ 90 35 rfl (.map (some M2)) (snV s.1) rfl rfl w8 (hrun _) ?_
    refine hK.out _ _ ⟨AgAt.block hS.1 (ht8.block _ (AgAt.lt hS.1) HNE.out.1), AgAt.block hS.2 (ht8.block _ (AgAt.lt hS.2) HNE.out.2)⟩ (fun hS => ?_)
    clear hK K hrun hm8 ht8 hz8 HNE HJ
    refine wpAnyH_done (by kernel_rfl) ?_ _
    go_simp
    have HE := Lib.hid (show Lifted P M1 M2 T F n w (.returned (.tuple #[])) w8 from ⟨rfl, _, ⟨HQ.out, HTI.out.1, HTI.out.2⟩, HT.out⟩)
    clear hS
    go_wp2
    go_end0
    exact HE.out
  · have HTI := Lib.hid (HCN.out h0)
    have HD0 := Lib.hid (show ((((nodesOf (kc.l.filter fun m => !(m == n))).length : Nat) : Int) == 0) = false from by unfold nodesOf; rw [List.length_map, beq_eq_false_iff_ne]; omega)
    clear h0 HCY HCN
    go_enter Tryz.func161, Tryz.ntmps161
    go_upto_region 1 with fail
    generalize (w.alloc (.cells #[.int .i64 n.1, .int .i64 n.2] 35)).alloc (.cells (spA s) 72) = w1 at *
    have hbd := Below.drew (Below.refl w1.heap.size w1)
    replace HM := Lib.hid (HM.out.kept hbd)
    replace HB0 := Lib.hid (AgAt.kept HB0.out hbd)
    replace HB1 := Lib.hid (AgAt.kept HB1.out hbd)
    replace HT := Lib.hid (HT.out.trans (Turns.of_below hbd))
    refine wp_region_held_drew (S := fun W => AgAt W P #[.map (some M1), .map (some M2)] ∧ AgAt W w.heap.size #[.int .i64 n.1, .int .i64 n.2]) (by kernel_rfl) ⟨HM.out.at_, HB0.out⟩ (fun hS => ?_)
    clear hbd
    generalize w1.drew = w1 at *
    refine wpAnyH_take (i := 0) (v := ?_) rfl (by kernel_rfl) (by kernel_rfl) (by kernel_rfl) (fun _ _ _ h => h) (Or.inl ⟨by kernel_rfl, ?_⟩) hS ?_
    rotate_left
    · intro W hSW
      go_simp
      all_goals with_reducible rfl
    refine wpAnyH_take (i := 1) (v := ?_) rfl (by kernel_rfl) (by kernel_rfl) (by kernel_rfl) (fun _ _ _ h => h) (Or.inl ⟨by kernel_rfl, ?_⟩) hS ?_
    rotate_left
    · intro W hSW
      go_simp
      all_goals with_reducible rfl
    refine wpAnyH_take (i := 2) (v := ?_) rfl (by kernel_rfl) (by kernel_rfl) (by kernel_rfl) (fun _ _ _ h => h) (Or.inl ⟨by kernel_rfl, ?_⟩) hS ?_
    rotate_left
    · intro W hSW
      go_simp
      all_goals with_reducible rfl
    refine wpAnyH_take (i := 3) (v := ?_) rfl (by kernel_rfl) (by kernel_rfl) (by kernel_rfl) (fun _ _ _ h => h) (Or.inl ⟨by kernel_rfl, ?_⟩) hS ?_
    rotate_left
    · intro W hSW
      have y0 : W.cell? ⟨P, 0, none⟩ = some (.map (some M1)) := by rw [AgAt.cell hSW.1 0]; rfl
      go_simp
      all_goals with_reducible rfl
    go_simp
    refine wpAnyH_take (i := 4) (v := snV n) rfl (by kernel_rfl) (by kernel_rfl) (by kernel_rfl) (fun _ _ _ h => h) (Or.inl ⟨by kernel_rfl, fun W hSW => exec_load_ag stT rfl rfl rfl hSW.2⟩) hS ?_
    go_simp
    refine wpAnyH_ready (rs := [5]) (by kernel_rfl) (by simp) ?_
    refine AllReadyH.cons rfl (fun K hK => ?_) AllReadyH.nil
    obtain ⟨w6, hrun, hm6, ht6, hz6⟩ := HM.out.spots.del mtSpots n HWN.out HIN.out
    have HG := Lib.hid (HM.out.cutSpot hm6 ht6)
    have HNE := Lib.hid (show P ≠ M1 ∧ w.heap.size ≠ M1 ∧ w.heap.size + 1 ≠ M1 from ⟨HM.out.ne.1, by have := HLT.out _ HM.out.f1; omega, by have := HLT.out _ HM.out.f1; omega⟩)
    replace HB0 := Lib.hid (AgAt.block HB0.out (ht6.block _ (AgAt.lt HB0.out) HNE.out.2.1))
    replace HB1 := Lib.hid (AgAt.block HB1.out (ht6.block _ (AgAt.lt HB1.out) HNE.out.2.2))
    replace HT := Lib.hid (HT.out.trans (ht6.mono fun k _ hk => Or.inl (by subst hk; exact HM.out.f1)))
    refine step_of (by kernel_rfl) ?_
    refine wp_delete _ _ 131 35 rfl (.map (some M1)) (snV n) rfl rfl w6 (hrun _) ?_
    refine hK.out _ _ ⟨AgAt.block hS.1 (ht6.block _ (AgAt.lt hS.1) HNE.out.1), AgAt.block hS.2 (ht6.block _ (AgAt.lt hS.2) HNE.out.2.1)⟩ (fun hS => ?_)
    clear hK K hrun hm6 ht6 hz6 HNE HM
    refine wpAnyH_done (by kernel_rfl) ?_ _
    go_simp
    clear hS
    go_upto_region 2 with fail
    have hbd := Below.drew (Below.refl w6.heap.size w6)
    replace HG := Lib.hid (HG.out.kept hbd)
    replace HB0 := Lib.hid (AgAt.kept HB0.out hbd)
    replace HB1 := Lib.hid (AgAt.kept HB1.out hbd)
    replace HT := Lib.hid (HT.out.trans (Turns.of_below hbd))
    have HKI := Lib.hid (show SMap w6.drew kb (nodesOf kc.l) from by have := HG.out.inner kc HKC.out.1; rw [HKC.out.2.1] at this; exact this)
    refine wp_region_held_drew (S := fun W => AgAt W P #[.map (some M1), .map (some M2)] ∧ AgAt W w.heap.size #[.int .i64 n.1, .int .i64 n.2] ∧ AgAt W (w.heap.size + 1) (spA s) ∧ SMap W M2 (belows C)) (by kernel_rfl) ⟨HG.out.at_, HB0.out, HB1.out, HG.out.below⟩ (fun hS => ?_)
    clear hbd
    generalize w6.drew = wb at *
    refine wpAnyH_take (i := 0) (v := ?_) rfl (by kernel_rfl) (by kernel_rfl) (by kernel_rfl) (fun _ _ _ h => h) (Or.inl ⟨by kernel_rfl, ?_⟩) hS ?_
    rotate_left
    · intro W hSW
      go_simp
      all_goals with_reducible rfl
    refine wpAnyH_take (i := 1) (v := ?_) rfl (by kernel_rfl) (by kernel_rfl) (by kernel_rfl) (fun _ _ _ h => h) (Or.inl ⟨by kernel_rfl, ?_⟩) hS ?_
    rotate_left
    · intro W hSW
      go_simp
      all_goals with_reducible rfl
    refine wpAnyH_take (i := 2) (v := ?_) rfl (by kernel_rfl) (by kernel_rfl) (by kernel_rfl) (fun _ _ _ h => h) (Or.inl ⟨by kernel_rfl, ?_⟩) hS ?_
    rotate_left
    · intro W hSW
      go_simp
      all_goals with_reducible rfl
    refine wpAnyH_take (i := 3) (v := ?_) rfl (by kernel_rfl) (by kernel_rfl) (by kernel_rfl) (fun _ _ _ h => h) (Or.inl ⟨by kernel_rfl, ?_⟩) hS ?_
    rotate_left
    · intro W hSW
      have y1 : W.cell? ⟨P, 1, none⟩ = some (.map (some M2)) := by rw [AgAt.cell hSW.1 1]; rfl
      go_simp
      all_goals with_reducible rfl
    go_simp
    refine wpAnyH_take (i := 4) (v := ?_) rfl (by kernel_rfl) (by kernel_rfl) (by kernel_rfl) (fun _ _ _ h => h) (Or.inl ⟨by kernel_rfl, ?_⟩) hS ?_
    rotate_left
    · intro W hSW
      go_simp
      all_goals with_reducible rfl
    go_simp
    refine wpAnyH_take (i := 5) (v := snV s.1) rfl (by kernel_rfl) (by kernel_rfl) (by kernel_rfl) (fun _ _ _ h => h) (Or.inl ⟨by kernel_rfl, fun W hSW => exec_load_part stT rfl rfl [.int .i64 s.1.1, .int .i64 s.1.2] rfl (hSW.2.2.1) spPar⟩) hS ?_
    go_simp
    refine wpAnyH_take (i := 6) (v := .map (some kb)) rfl (by kernel_rfl) (by kernel_rfl) (by kernel_rfl) (fun _ _ _ h => h) (Or.inl ⟨by kernel_rfl, fun W hSW => exec_lookup rfl rfl rfl ((hSW.2.2.2.look mtBelow s.1 HWS.out).trans (by rw [lk_belows, HKO.out]))⟩) hS ?_
    go_simp
    refine wpAnyH_take (i := 7) (v := snV n) rfl (by kernel_rfl) (by kernel_rfl) (by kernel_rfl) (fun _ _ _ h => h) (Or.inl ⟨by kernel_rfl, fun W hSW => exec_load_ag stT rfl rfl rfl hSW.2.1⟩) hS ?_
    go_simp
    refine wpAnyH_ready (rs := [8]) (by kernel_rfl) (by simp) ?_
    refine AllReadyH.cons rfl (fun K hK => ?_) AllReadyH.nil
    obtain ⟨w7, hrun, hm7, ht7, hz7⟩ := HKI.out.del mtSet n HWN.out HNN.out
    have HJ := Lib.hid (HG.out.setKid (f := fun l => l.filter fun m => !(m == n)) HKC.out.1 HKC.out.2.1 (by rw [← nodes_filter]; exact hm7) ht7)
    have HNE := Lib.hid (show P ≠ kb ∧ w.heap.size ≠ kb ∧ w.heap.size + 1 ≠ kb ∧ M2 ≠ kb from by
      have h1 := HG.out.kne _ HKC.out.1
      rw [HKC.out.2.1] at h1
      have h2 := HLT.out kb (by have := HG.out.fK _ HKC.out.1; rw [HKC.out.2.1] at this; exact this)
      exact ⟨fun h => h1.1 h.symm, by omega, by omega, fun h => h1.2.2 h.symm⟩)
    replace HB0 := Lib.hid (AgAt.block HB0.out (ht7.block _ (AgAt.lt HB0.out) HNE.out.2.1))
    replace HB1 := Lib.hid (AgAt.block HB1.out (ht7.block _ (AgAt.lt HB1.out) HNE.out.2.2.1))
    replace HT := Lib.hid (HT.out.trans (ht7.mono fun k _ hk => by
      subst hk
      exact Or.inl (by have := HG.out.fK _ HKC.out.1; rw [HKC.out.2.1] at this; exact this)))
    refine step_of (by kernel_rfl) ?_
    refine wp_delete _ _ 136 35 rfl (.map (some kb)) (snV n) rfl rfl w7 (hrun _) ?_
    refine hK.out _ _ ⟨AgAt.block hS.1 (ht7.block _ (AgAt.lt hS.1) HNE.out.1), AgAt.block hS.2.1 (ht7.block _ (AgAt.lt hS.2.1) HNE.out.2.1), AgAt.block hS.2.2.1 (ht7.block _ (AgAt.lt hS.2.2.1) HNE.out.2.2.1), hS.2.2.2.block (ht7.block _ hS.2.2.2.lt HNE.out.2.2.2)⟩ (fun hS => ?_)
    clear hK K hrun hm7 ht7 hz7 HNE HG HKI HNN
    refine wpAnyH_done (by kernel_rfl) ?_ _
    go_simp
    clear hS
    rw [HKC.out.2.2] at HJ
    go_upto_region 3 with fail
    have hbd := Below.drew (Below.refl w7.heap.size w7)
    replace HJ := Lib.hid (HJ.out.kept hbd)
    replace HB0 := Lib.hid (AgAt.kept HB0.out hbd)
    replace HB1 := Lib.hid (AgAt.kept HB1.out hbd)
    replace HT := Lib.hid (HT.out.trans (Turns.of_below hbd))
    have HKJ := Lib.hid (show SMap w7.drew kb (nodesOf (kc.l.filter fun m => !(m == n))) from by
      obtain ⟨c', h1, h2⟩ := setKid_at (p := s.1) (f := fun l => l.filter fun m => !(m == n)) HKC.out.1 HKC.out.2.2
      have := HJ.out.inner c' h1
      rw [h2.1, h2.2, HKC.out.2.1] at this
      exact this)
    refine wp_region_held_drew (S := fun W => Below w7.drew.heap.size w7.drew W) (by kernel_rfl) (Below.refl _ _) (fun hS => ?_)
    clear hbd
    generalize w7.drew = wc at *
    refine wpAnyH_take (i := 0) (v := ?_) rfl (by kernel_rfl) (by kernel_rfl) (by kernel_rfl) (fun _ _ _ h => h) (Or.inl ⟨by kernel_rfl, ?_⟩) hS ?_
    rotate_left
    · intro W hSW
      go_simp
      all_goals with_reducible rfl
    refine wpAnyH_take (i := 1) (v := ?_) rfl (by kernel_rfl) (by kernel_rfl) (by kernel_rfl) (fun _ _ _ h => h) (Or.inl ⟨by kernel_rfl, ?_⟩) hS ?_
    rotate_left
    · intro W hSW
      go_simp
      all_goals with_reducible rfl
    refine wpAnyH_take (i := 2) (v := ?_) rfl (by kernel_rfl) (by kernel_rfl) (by kernel_rfl) (fun _ _ _ h => h) (Or.inl ⟨by kernel_rfl, ?_⟩) hS ?_
    rotate_left
    · intro W hSW
      go_simp
      all_goals with_reducible rfl
    refine wpAnyH_take (i := 3) (v := ?_) rfl (by kernel_rfl) (by kernel_rfl) (by kernel_rfl) (fun _ _ _ h => h) (Or.inl ⟨by kernel_rfl, ?_⟩) hS ?_
    rotate_left
    · intro W hSW
      have y1 := (HJ.out.kept hSW).cell1
      go_simp
      all_goals with_reducible rfl
    go_simp
    refine wpAnyH_take (i := 4) (v := ?_) rfl (by kernel_rfl) (by kernel_rfl) (by kernel_rfl) (fun _ _ _ h => h) (Or.inl ⟨by kernel_rfl, ?_⟩) hS ?_
    rotate_left
    · intro W hSW
      go_simp
      all_goals with_reducible rfl
    go_simp
    refine wpAnyH_take (i := 5) (v := snV s.1) rfl (by kernel_rfl) (by kernel_rfl) (by kernel_rfl) (fun _ _ _ h => h) (Or.inl ⟨by kernel_rfl, fun W hSW => exec_load_part stT rfl rfl [.int .i64 s.1.1, .int .i64 s.1.2] rfl (AgAt.kept HB1.out hSW) spPar⟩) hS ?_
    go_simp
    refine wpAnyH_take (i := 6) (v := .map (some kb)) rfl (by kernel_rfl) (by kernel_rfl) (by kernel_rfl) (fun _ _ _ h => h) (Or.inl ⟨by kernel_rfl, fun W hSW => exec_lookup rfl rfl rfl (((HJ.out.kept hSW).lookB s.1 HWS.out).trans (by rw [kidOf_setKid, HKO.out]))⟩) hS ?_
    refine wpAnyH_take (i := 7) (v := ?_) rfl (by kernel_rfl) (by kernel_rfl) (by kernel_rfl) (fun _ _ _ h => h) (Or.inl ⟨by kernel_rfl, ?_⟩) hS ?_
    rotate_left
    · intro W hSW
      have hln := (HKJ.out.below hSW).len mtSet 3
      go_simp
      all_goals with_reducible rfl
    refine wpAnyH_take (i := 8) (v := ?_) rfl (by kernel_rfl) (by kernel_rfl) (by kernel_rfl) (fun _ _ _ h => h) (Or.inl ⟨by kernel_rfl, ?_⟩) hS ?_
    rotate_left
    · intro W hSW
      have d0 := HD0.out
      go_simp
      all_goals with_reducible rfl
    go_simp
    refine wpAnyH_done (by kernel_rfl) ?_ _
    go_simp
    have HE := Lib.hid (show Lifted P M1 M2 T F n w (.returned (.tuple #[])) wc from ⟨rfl, _, ⟨HJ.out, HTI.out.1, HTI.out.2⟩, HT.out⟩)
    clear hS
    go_wp2
    go_end0
    exact HE.out
end Go.Proofs.YthifdefjmfakgaaGreat
