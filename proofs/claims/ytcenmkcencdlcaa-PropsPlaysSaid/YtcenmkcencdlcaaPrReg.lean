/-
  A MAP OF REGISTERS in memory: what it tells at a name, what a write leaves.
  No conditions but that words hold a name's numbers.
-/
import Derived.Test.YtcenmkcencdlcaaGJ
import Derived.Test.YtcenmkcencdlcaaQCmp
namespace Go.Proofs.Ytcenmkcencdlcaa
open Go.RowKit
open Go.Maps (Keyed)

/-- a value's cells -/
abbrev vlA (v : Pm.Vl) : Array Value := #[.int .i64 v.1, .int .i64 v.2.1, .string v.2.2]
theorem kV_one (x : Pm.Nm) : (x.map fun i => Value.int .i64 i).toArray.all (·.oneCell') = true := all_oneCell_toArray (cs := x.map fun i => Value.int .i64 i) (by
  intro v hv
  obtain ⟨i, -, rfl⟩ := List.mem_map.1 hv
  rfl)
theorem kV_size {n : Nat} {x : Pm.Nm} (h : KWf n x) : (x.map fun i => Value.int .i64 i).toArray.size = n := by simpa using h.1
theorem rvA_inj {a b : Qm.St × Pm.Vl} (h : Value.agg (rvA a) = .agg (rvA b)) : a = b := by
  obtain ⟨⟨a1, a2⟩, a3, a4, a5⟩ := a
  obtain ⟨⟨b1, b2⟩, b3, b4, b5⟩ := b
  simp only [rvA, Value.agg.injEq] at h
  have h4 := congrArg Array.toList h
  simp at h4
  obtain ⟨rfl, rfl, rfl, rfl, rfl⟩ := h4
  rfl
theorem rmA_inj {a b : Qm.St × Bool} (h : Value.agg (rmA a) = .agg (rmA b)) : a = b := by
  obtain ⟨⟨a1, a2⟩, a3⟩ := a
  obtain ⟨⟨b1, b2⟩, b3⟩ := b
  simp only [rmA, Value.agg.injEq] at h
  have h4 := congrArg Array.toList h
  simp at h4
  obtain ⟨rfl, rfl, rfl⟩ := h4
  rfl
theorem pA : AgT 68 3 := ⟨⟨_, Try.underlying68⟩, by kernel_rfl⟩
theorem oA : AgT 73 20 := ⟨⟨_, Try.underlying73⟩, by kernel_rfl⟩
theorem vA : AgT 34 3 := ⟨⟨_, Try.underlying34⟩, by kernel_rfl⟩
theorem grV : AgT 84 5 := ⟨⟨_, Try.underlying84⟩, by kernel_rfl⟩
theorem grM : AgT 87 3 := ⟨⟨_, Try.underlying87⟩, by kernel_rfl⟩

/-- block M is a map of these registers -/
def RM {V : Type} (nk : Nat) (ca : Qm.St × V → Array Value) (d : V) (w : World) (M : Nat) (f : Pm.Rg V) : Prop :=
  ∃ l, GMap nk w M l ∧ ∀ y, (lk l y).getD (.agg (ca ((0, 0), d))) = .agg (ca (f y))
section
variable {V : Type} {nk : Nat} {ca : Qm.St × V → Array Value} {d : V} {w w' : World} {M : Nat} {f : Pm.Rg V}
theorem RM.lt (h : RM nk ca d w M f) : M < w.heap.size := by obtain ⟨l, h, -⟩ := h; exact h.lt
theorem RM.turns {G : Nat → Prop} (h : RM nk ca d w M f) (ht : Turns G w w') (hd : ¬ G M) : RM nk ca d w' M f := by obtain ⟨l, h, e⟩ := h; exact ⟨l, h.turns ht hd, e⟩
theorem RM.below (h : RM nk ca d w M f) (hb : Below w.heap.size w w') : RM nk ca d w' M f := by obtain ⟨l, h, e⟩ := h; exact ⟨l, h.below hb, e⟩
theorem RM.made (w : World) : RM nk ca d (w.alloc (.map #[] 0)) w.heap.size (Pm.Rg.zero d) := ⟨[], GMap.made nk w, fun _ => rfl⟩
theorem RM.look {kt mt et : TypeId} (h : RM nk ca d w M f) (T : GT kt nk mt et (.agg (ca ((0, 0), d)))) (x : Pm.Nm) (hx : KWf nk x) : (Instr.lookup mt (.map (some M)) (kV x) false).run Try.prog w = .ok (.agg (ca (f x))) w := by
  obtain ⟨l, h, e⟩ := h
  rw [h.look T x hx, e]
theorem RM.store {kt mt et : TypeId} (h : RM nk ca d w M f) (T : GT kt nk mt et (.agg (ca ((0, 0), d)))) (x : Pm.Nm) (hx : KWf nk x) (r : Qm.St × V) :
    ∃ w', (Instr.mapUpdate mt (.map (some M)) (kV x) (.agg (ca r))).run Try.prog w = .ok () w' ∧ RM nk ca d w' M (fun y => if y = x then r else f y) ∧ Turns (fun k => k = M) w w' ∧ w'.heap.size = w.heap.size := by
  obtain ⟨l, h, e⟩ := h
  obtain ⟨w', l', h1, h2, h3, h4, h5⟩ := h.store T x (.agg (ca r)) hx
  refine ⟨w', h1, ⟨l', h2, fun y => ?_⟩, h4, h5⟩
  rw [h3]
  show _ = Value.agg (ca (if y = x then r else f y))
  by_cases hy : y = x
  · rw [if_pos hy, if_pos hy]; rfl
  · rw [if_neg hy, if_neg hy]; exact e y
end
theorem vl_one (v : Pm.Vl) : (vlA v).all (·.oneCell') = true := all_oneCell_toArray (cs := [.int .i64 v.1, .int .i64 v.2.1, .string v.2.2]) (by
  intro u hu
  simp only [List.mem_cons, List.not_mem_nil, or_false] at hu
  rcases hu with rfl | rfl | rfl <;> rfl)
theorem field_rv0 (a b c d : Int) (e : ByteArray) (W : World) : (Instr.field 84 (.agg #[.int .i64 a, .int .i64 b, .int .i64 c, .int .i64 d, .string e]) 0).run Try.prog W = .ok (.agg #[.int .i64 a, .int .i64 b]) W := by kernel_rfl
theorem field_rv1 (a b c d : Int) (e : ByteArray) (W : World) : (Instr.field 84 (.agg #[.int .i64 a, .int .i64 b, .int .i64 c, .int .i64 d, .string e]) 1).run Try.prog W = .ok (.agg #[.int .i64 c, .int .i64 d, .string e]) W := by kernel_rfl
theorem field_rm0 (a b : Int) (c : Bool) (W : World) : (Instr.field 87 (.agg #[.int .i64 a, .int .i64 b, .bool c]) 0).run Try.prog W = .ok (.agg #[.int .i64 a, .int .i64 b]) W := by kernel_rfl
theorem field_rm1 (a b : Int) (c : Bool) (W : World) : (Instr.field 87 (.agg #[.int .i64 a, .int .i64 b, .bool c]) 1).run Try.prog W = .ok (.bool c) W := by kernel_rfl
theorem qcmp_lt (a b : Qm.St) : decide (qcmpS a.1 a.2 b.1 b.2 < 0) = decide (Qm.ltS a b) := by
  unfold qcmpS Qm.ltS
  by_cases e1 : a.1 = b.1
  · by_cases e2 : a.2 = b.2
    · simp [e1, e2]
    · by_cases e3 : a.2 < b.2 <;> simp [e1, e2, e3]
  · by_cases e3 : a.1 < b.1 <;> simp [e1, e3]

set_option maxRecDepth 100000 in
set_option maxHeartbeats 2000000 in
theorem valueV_any (M : Nat) (f : Pm.Rg Pm.Vl) (x : Pm.Nm) (w : World) (h : RM 3 rvA Pm.z0 w M f) (hx : KWf 3 x) :
    Calls Try.prog 37 #[.map (some M), kV x] w fun e w' => e = .returned (.agg (vlA (f x).2)) ∧ Below w.heap.size w w' := by
  have HSZ := Lib.hid (kV_size hx)
  have HW := Lib.hid (fun (W : World) (hb : Below w.heap.size w W) => (h.below hb).look gtV x hx)
  have HON := Lib.hid (kV_one x)
  clear h hx
  unfold kV at HW ⊢
  generalize (x.map fun i => Value.int .i64 i).toArray = A at *
  generalize f x = r at *
  have HA := Lib.hid (AgAt.new w A 68)
  have HB1 := Lib.hid ((Below.refl w.heap.size w).alloc (Nat.le_refl _) (.cells A 68))
  obtain ⟨⟨r1, r2⟩, r3, r4, r5⟩ := r
  have hl := HW.out _ (HB1.out.alloc (by simp) (.cells #[.int .i64 0, .int .i64 0, .string ⟨#[]⟩] 34))
  dsimp only [rvA] at hl
  have hf := field_rv1 r1 r2 r3 r4 r5
  clear HW
  go_enter Try.func37, Try.ntmps37
  go_wp2_with (first | (refine wpList_load_ag pA rfl _ rfl _ rfl HSZ.out (HA.out.kept ((Below.refl _ _).alloc (Nat.le_refl _) _)) ?_))
  have hv := AgAt.new (w.alloc (.cells A 68)) #[.int .i64 r3, .int .i64 r4, .string r5] 34
  rw [World.size_alloc] at hv
  refine bodyPost_ret (results_ag vA _ rfl rfl hv rfl) rfl ?_
  exact ⟨rfl, HB1.out.alloc (by simp) _⟩

set_option maxRecDepth 100000 in
set_option maxHeartbeats 2000000 in
theorem valueM_any (M : Nat) (f : Pm.Rg Bool) (x : Pm.Nm) (w : World) (h : RM 2 rmA false w M f) (hx : KWf 2 x) :
    Calls Try.prog 38 #[.map (some M), kV x] w fun e w' => e = .returned (.bool (f x).2) ∧ Below w.heap.size w w' := by
  have HSZ := Lib.hid (kV_size hx)
  have HW := Lib.hid (fun (W : World) (hb : Below w.heap.size w W) => (h.below hb).look gtM x hx)
  have HON := Lib.hid (kV_one x)
  clear h hx
  unfold kV at HW ⊢
  generalize (x.map fun i => Value.int .i64 i).toArray = A at *
  generalize f x = r at *
  have HA := Lib.hid (AgAt.new w A 32)
  have HB1 := Lib.hid ((Below.refl w.heap.size w).alloc (Nat.le_refl _) (.cells A 32))

  obtain ⟨⟨r1, r2⟩, r3⟩ := r
  have hl := HW.out _ HB1.out
  dsimp only [rmA] at hl
  have hf := field_rm1 r1 r2 r3
  clear HW
  go_enter Try.func38, Try.ntmps38
  go_wp2_with (first | (refine wpList_load_ag stT rfl _ rfl _ rfl HSZ.out HA.out ?_))
  go_ret
  exact ⟨rfl, HB1.out⟩

set_option maxRecDepth 100000 in
set_option maxHeartbeats 2000000 in
theorem valueO_any (M : Nat) (f : Pm.Rg Pm.Vl) (x : Pm.Nm) (w : World) (h : RM 20 rvA Pm.z0 w M f) (hx : KWf 20 x) :
    Calls Try.prog 35 #[.map (some M), kV x] w fun e w' => e = .returned (.agg (vlA (f x).2)) ∧ Below w.heap.size w w' := by
  have HSZ := Lib.hid (kV_size hx)
  have HW := Lib.hid (fun (W : World) (hb : Below w.heap.size w W) => (h.below hb).look gtO x hx)
  have HON := Lib.hid (kV_one x)
  clear h hx
  unfold kV at HW ⊢
  generalize (x.map fun i => Value.int .i64 i).toArray = A at *
  generalize f x = r at *
  have HA := Lib.hid (AgAt.new w A 73)
  have HB1 := Lib.hid ((Below.refl w.heap.size w).alloc (Nat.le_refl _) (.cells A 73))
  obtain ⟨⟨r1, r2⟩, r3, r4, r5⟩ := r
  have hl := HW.out _ (HB1.out.alloc (by simp) (.cells #[.int .i64 0, .int .i64 0, .string ⟨#[]⟩] 34))
  dsimp only [rvA] at hl
  have hf := field_rv1 r1 r2 r3 r4 r5
  clear HW
  go_enter Try.func35, Try.ntmps35
  go_wp2_with (first | (refine wpList_load_ag oA rfl _ rfl _ rfl HSZ.out (HA.out.kept ((Below.refl _ _).alloc (Nat.le_refl _) _)) ?_))
  have hv := AgAt.new (w.alloc (.cells A 73)) #[.int .i64 r3, .int .i64 r4, .string r5] 34
  rw [World.size_alloc] at hv
  refine bodyPost_ret (results_ag vA _ rfl rfl hv rfl) rfl ?_
  exact ⟨rfl, HB1.out.alloc (by simp) _⟩

set_option maxRecDepth 100000 in
set_option maxHeartbeats 2000000 in
theorem writeV_any (M : Nat) (f : Pm.Rg Pm.Vl) (x : Pm.Nm) (s : Qm.St) (v : Pm.Vl) (w : World) (h : RM 3 rvA Pm.z0 w M f) (hx : KWf 3 x) :
    Calls Try.prog 29 #[.map (some M), kV x, .agg #[.int .i64 s.1, .int .i64 s.2], .agg (vlA v)] w fun e w' => e = .returned (.tuple #[]) ∧ RM 3 rvA Pm.z0 w' M (Pm.put f x s v) ∧ Turns (fun k => k = M) w w' := by
  have H := Lib.hid h
  have HX := Lib.hid hx
  have HSZ := Lib.hid (kV_size hx)
  have HW := Lib.hid (fun (W : World) (hb : Below w.heap.size w W) => (h.below hb).look gtV x hx)
  have HU := Lib.hid (fun (W : World) (hb : Below w.heap.size w W) (r : Qm.St × Pm.Vl) => (h.below hb).store gtV x hx r)
  have HPN := Lib.hid (fun (W : World) (hn : ¬ Qm.ltS (f x).1 s) (hb : Below w.heap.size w W) => show RM 3 rvA Pm.z0 W M (Pm.put f x s v) from by
    have e : Pm.put f x s v = f := by
      funext y
      unfold Pm.put
      rw [if_neg hn]
      by_cases hy : y = x
      · rw [if_pos hy, hy]
      · rw [if_neg hy]
    rw [e]
    exact h.below hb)
  have HPY := Lib.hid (fun (hn : Qm.ltS (f x).1 s) => show (fun y => if y = x then (s, v) else f y) = Pm.put f x s v from by
    funext y
    unfold Pm.put
    rw [if_pos hn])
  have HC := Lib.hid (qcmp_lt (f x).1 s)
  clear h hx
  unfold kV at HW HU ⊢
  generalize (x.map fun i => Value.int .i64 i).toArray = A at *
  generalize f x = r at *
  have HA := Lib.hid (AgAt.new w A 68)
  have HB1 := Lib.hid ((Below.refl w.heap.size w).alloc (Nat.le_refl _) (.cells A 68))
  obtain ⟨⟨r1, r2⟩, r3⟩ := r
  obtain ⟨s1, s2⟩ := s
  obtain ⟨r3, r4, r5⟩ := r3
  obtain ⟨v1, v2, v3⟩ := v
  have HS0 := Lib.hid (AgAt.new (w.alloc (.cells A 68)) #[.int .i64 s1, .int .i64 s2] 32)
  rw [World.size_alloc] at HS0
  have HV0 := Lib.hid (AgAt.new ((w.alloc (.cells A 68)).alloc (.cells #[.int .i64 s1, .int .i64 s2] 32)) (vlA (v1, v2, v3)) 34)
  rw [World.size_alloc, World.size_alloc] at HV0
  replace HA := Lib.hid (HA.out.kept ((Below.refl _ _).alloc (Nat.le_refl _) (.cells #[.int .i64 s1, .int .i64 s2] 32)))
  replace HA := Lib.hid (HA.out.kept ((Below.refl _ _).alloc (Nat.le_refl _) (.cells (vlA (v1, v2, v3)) 34)))
  replace HS0 := Lib.hid (HS0.out.kept ((Below.refl _ _).alloc (Nat.le_refl _) (.cells (vlA (v1, v2, v3)) 34)))
  replace HB1 := Lib.hid (show Below w.heap.size w (((w.alloc (.cells A 68)).alloc (.cells #[.int .i64 s1, .int .i64 s2] 32)).alloc (.cells (vlA (v1, v2, v3)) 34)) from (HB1.out.alloc (by simp) _).alloc (by simp; omega) _)
  dsimp only [vlA, rvA, rmA] at *
  by_cases hlt : Qm.ltS (r1, r2) (s1, s2)
  · have d1 : decide (qcmpS r1 r2 s1 s2 < 0) = true := HC.out.trans (decide_eq_true hlt)
    have HCM := Lib.hid (fun W => qcompare_any r1 r2 s1 s2 W)
    have hf := field_rv0 r1 r2 r3 r4 r5
    go_enter Try.func29, Try.ntmps29
    go_upto_region 1 with fail
    generalize hwd : (((w.alloc (.cells A 68)).alloc (.cells #[.int .i64 s1, .int .i64 s2] 32)).alloc (.cells #[.int .i64 v1, .int .i64 v2, .string v3] 34)) = wd at *
    refine wp_region_held_drew (S := fun W => Below wd.heap.size wd W) (by kernel_rfl) (Below.drew (Below.refl _ _)) (fun hS => ?_)
    refine wpAnyH_take (i := 0) (v := ?_) rfl (by kernel_rfl) (by kernel_rfl) (by kernel_rfl) (fun _ _ _ h => h) (Or.inl ⟨by kernel_rfl, ?_⟩) hS ?_
    rotate_left
    · intro W hSW
      go_simp
      all_goals with_reducible rfl
    go_simp
    refine wpAnyH_take (i := 1) (v := .agg A) rfl (by kernel_rfl) (by kernel_rfl) (by kernel_rfl) (fun _ _ _ h => h) (Or.inl ⟨by kernel_rfl, fun W hSW => exec_load_ag pA rfl rfl HSZ.out (HA.out.kept hSW)⟩) hS ?_
    go_simp
    refine wpAnyH_take (i := 2) (v := .agg #[.int .i64 r1, .int .i64 r2, .int .i64 r3, .int .i64 r4, .string r5]) rfl (by kernel_rfl) (by kernel_rfl) (by kernel_rfl) (fun _ _ _ h => h) (Or.inl ⟨by kernel_rfl, fun W hSW => exec_lookup rfl rfl rfl (HW.out W (HB1.out.trans (hSW.mono HB1.out.size)))⟩) hS ?_
    refine wpAnyH_take (i := 3) (v := ?_) rfl (by kernel_rfl) (by kernel_rfl) (by kernel_rfl) (fun _ _ _ h => h) (Or.inl ⟨by kernel_rfl, ?_⟩) hS ?_
    rotate_left
    · intro W hSW
      go_simp
      all_goals with_reducible rfl
    go_simp
    refine wpAnyH_take (i := 4) (v := .agg #[.int .i64 s1, .int .i64 s2]) rfl (by kernel_rfl) (by kernel_rfl) (by kernel_rfl) (fun _ _ _ h => h) (Or.inl ⟨by kernel_rfl, fun W hSW => exec_load_ag stT rfl rfl rfl (HS0.out.kept hSW)⟩) hS ?_
    go_simp
    refine wpAnyH_ready (rs := [5]) (by kernel_rfl) (by simp) ?_
    refine AllReadyH.cons rfl (fun K hK => ?_) AllReadyH.nil
    go_simp
    go_wp2_with ((go_at_call 49; refine (HCM.out _).mono ?_; rintro e wn ⟨rfl, hbn⟩))
    refine hK.out _ _ (hS.trans (hbn.mono hS.size)) (fun hS => ?_)
    clear hK K hbn
    refine wpAnyH_take (i := 6) (v := ?_) rfl (by kernel_rfl) (by kernel_rfl) (by kernel_rfl) (fun _ _ _ h => h) (Or.inl ⟨by kernel_rfl, ?_⟩) hS ?_
    rotate_left
    · intro W hSW
      go_simp
      all_goals with_reducible rfl
    go_simp
    refine wpAnyH_done (by kernel_rfl) ?_ _
    go_simp
    have HN := Lib.hid (HB1.out.trans (hS.mono HB1.out.size))
    have HSW := Lib.hid hS
    clear hS
    obtain ⟨w5, hu, hrm, ht5, hsz5⟩ := HU.out _ HN.out ((s1, s2), (v1, v2, v3))
    rw [HPY.out hlt] at hrm
    dsimp only [rvA] at hu
    go_wp2_with (first | (refine wpList_load_ag pA rfl _ rfl _ rfl HSZ.out (HA.out.kept HSW.out) ?_) | (refine wpList_load_ag stT rfl _ rfl _ rfl (A := #[.int .i64 s1, .int .i64 s2]) rfl (HS0.out.kept HSW.out) ?_) | (refine wpList_load_ag vA rfl _ rfl _ rfl (A := #[.int .i64 v1, .int .i64 v2, .string v3]) rfl (HV0.out.kept HSW.out) ?_))
    go_end0
    exact ⟨rfl, hrm, (Turns.of_below HN.out).trans (ht5.mono fun k _ hk => Or.inl hk)⟩
  · have d1 : decide (qcmpS r1 r2 s1 s2 < 0) = false := HC.out.trans (decide_eq_false hlt)
    have HCM := Lib.hid (fun W => qcompare_any r1 r2 s1 s2 W)
    have hf := field_rv0 r1 r2 r3 r4 r5
    go_enter Try.func29, Try.ntmps29
    go_upto_region 1 with fail
    generalize hwd : (((w.alloc (.cells A 68)).alloc (.cells #[.int .i64 s1, .int .i64 s2] 32)).alloc (.cells #[.int .i64 v1, .int .i64 v2, .string v3] 34)) = wd at *
    refine wp_region_held_drew (S := fun W => Below wd.heap.size wd W) (by kernel_rfl) (Below.drew (Below.refl _ _)) (fun hS => ?_)
    refine wpAnyH_take (i := 0) (v := ?_) rfl (by kernel_rfl) (by kernel_rfl) (by kernel_rfl) (fun _ _ _ h => h) (Or.inl ⟨by kernel_rfl, ?_⟩) hS ?_
    rotate_left
    · intro W hSW
      go_simp
      all_goals with_reducible rfl
    go_simp
    refine wpAnyH_take (i := 1) (v := .agg A) rfl (by kernel_rfl) (by kernel_rfl) (by kernel_rfl) (fun _ _ _ h => h) (Or.inl ⟨by kernel_rfl, fun W hSW => exec_load_ag pA rfl rfl HSZ.out (HA.out.kept hSW)⟩) hS ?_
    go_simp
    refine wpAnyH_take (i := 2) (v := .agg #[.int .i64 r1, .int .i64 r2, .int .i64 r3, .int .i64 r4, .string r5]) rfl (by kernel_rfl) (by kernel_rfl) (by kernel_rfl) (fun _ _ _ h => h) (Or.inl ⟨by kernel_rfl, fun W hSW => exec_lookup rfl rfl rfl (HW.out W (HB1.out.trans (hSW.mono HB1.out.size)))⟩) hS ?_
    refine wpAnyH_take (i := 3) (v := ?_) rfl (by kernel_rfl) (by kernel_rfl) (by kernel_rfl) (fun _ _ _ h => h) (Or.inl ⟨by kernel_rfl, ?_⟩) hS ?_
    rotate_left
    · intro W hSW
      go_simp
      all_goals with_reducible rfl
    go_simp
    refine wpAnyH_take (i := 4) (v := .agg #[.int .i64 s1, .int .i64 s2]) rfl (by kernel_rfl) (by kernel_rfl) (by kernel_rfl) (fun _ _ _ h => h) (Or.inl ⟨by kernel_rfl, fun W hSW => exec_load_ag stT rfl rfl rfl (HS0.out.kept hSW)⟩) hS ?_
    go_simp
    refine wpAnyH_ready (rs := [5]) (by kernel_rfl) (by simp) ?_
    refine AllReadyH.cons rfl (fun K hK => ?_) AllReadyH.nil
    go_simp
    go_wp2_with ((go_at_call 49; refine (HCM.out _).mono ?_; rintro e wn ⟨rfl, hbn⟩))
    refine hK.out _ _ (hS.trans (hbn.mono hS.size)) (fun hS => ?_)
    clear hK K hbn
    refine wpAnyH_take (i := 6) (v := ?_) rfl (by kernel_rfl) (by kernel_rfl) (by kernel_rfl) (fun _ _ _ h => h) (Or.inl ⟨by kernel_rfl, ?_⟩) hS ?_
    rotate_left
    · intro W hSW
      go_simp
      all_goals with_reducible rfl
    go_simp
    refine wpAnyH_done (by kernel_rfl) ?_ _
    go_simp
    have HN := Lib.hid (HB1.out.trans (hS.mono HB1.out.size))
    clear hS
    go_wp2
    go_end0
    exact ⟨rfl, HPN.out _ hlt HN.out, Turns.of_below HN.out⟩

set_option maxRecDepth 100000 in
set_option maxHeartbeats 2000000 in
theorem writeM_any (M : Nat) (f : Pm.Rg Bool) (x : Pm.Nm) (s : Qm.St) (v : Bool) (w : World) (h : RM 2 rmA false w M f) (hx : KWf 2 x) :
    Calls Try.prog 30 #[.map (some M), kV x, .agg #[.int .i64 s.1, .int .i64 s.2], .bool v] w fun e w' => e = .returned (.tuple #[]) ∧ RM 2 rmA false w' M (Pm.put f x s v) ∧ Turns (fun k => k = M) w w' := by
  have H := Lib.hid h
  have HX := Lib.hid hx
  have HSZ := Lib.hid (kV_size hx)
  have HW := Lib.hid (fun (W : World) (hb : Below w.heap.size w W) => (h.below hb).look gtM x hx)
  have HU := Lib.hid (fun (W : World) (hb : Below w.heap.size w W) (r : Qm.St × Bool) => (h.below hb).store gtM x hx r)
  have HPN := Lib.hid (fun (W : World) (hn : ¬ Qm.ltS (f x).1 s) (hb : Below w.heap.size w W) => show RM 2 rmA false W M (Pm.put f x s v) from by
    have e : Pm.put f x s v = f := by
      funext y
      unfold Pm.put
      rw [if_neg hn]
      by_cases hy : y = x
      · rw [if_pos hy, hy]
      · rw [if_neg hy]
    rw [e]
    exact h.below hb)
  have HPY := Lib.hid (fun (hn : Qm.ltS (f x).1 s) => show (fun y => if y = x then (s, v) else f y) = Pm.put f x s v from by
    funext y
    unfold Pm.put
    rw [if_pos hn])
  have HC := Lib.hid (qcmp_lt (f x).1 s)
  clear h hx
  unfold kV at HW HU ⊢
  generalize (x.map fun i => Value.int .i64 i).toArray = A at *
  generalize f x = r at *
  have HA := Lib.hid (AgAt.new w A 32)
  have HB1 := Lib.hid ((Below.refl w.heap.size w).alloc (Nat.le_refl _) (.cells A 32))
  obtain ⟨⟨r1, r2⟩, r3⟩ := r
  obtain ⟨s1, s2⟩ := s
  have HS0 := Lib.hid (AgAt.new (w.alloc (.cells A 32)) #[.int .i64 s1, .int .i64 s2] 32)
  rw [World.size_alloc] at HS0
  replace HA := Lib.hid (HA.out.kept ((Below.refl _ _).alloc (Nat.le_refl _) (.cells #[.int .i64 s1, .int .i64 s2] 32)))
  replace HB1 := Lib.hid (show Below w.heap.size w ((w.alloc (.cells A 32)).alloc (.cells #[.int .i64 s1, .int .i64 s2] 32)) from HB1.out.alloc (by simp) _)
  dsimp only [rmA] at *
  by_cases hlt : Qm.ltS (r1, r2) (s1, s2)
  · have d1 : decide (qcmpS r1 r2 s1 s2 < 0) = true := HC.out.trans (decide_eq_true hlt)
    have HCM := Lib.hid (fun W => qcompare_any r1 r2 s1 s2 W)
    have hf := field_rm0 r1 r2 r3
    go_enter Try.func30, Try.ntmps30
    go_upto_region 1 with fail
    generalize hwd : ((w.alloc (.cells A 32)).alloc (.cells #[.int .i64 s1, .int .i64 s2] 32)) = wd at *
    refine wp_region_held_drew (S := fun W => Below wd.heap.size wd W) (by kernel_rfl) (Below.drew (Below.refl _ _)) (fun hS => ?_)
    refine wpAnyH_take (i := 0) (v := ?_) rfl (by kernel_rfl) (by kernel_rfl) (by kernel_rfl) (fun _ _ _ h => h) (Or.inl ⟨by kernel_rfl, ?_⟩) hS ?_
    rotate_left
    · intro W hSW
      go_simp
      all_goals with_reducible rfl
    go_simp
    refine wpAnyH_take (i := 1) (v := .agg A) rfl (by kernel_rfl) (by kernel_rfl) (by kernel_rfl) (fun _ _ _ h => h) (Or.inl ⟨by kernel_rfl, fun W hSW => exec_load_ag stT rfl rfl HSZ.out (HA.out.kept hSW)⟩) hS ?_
    go_simp
    refine wpAnyH_take (i := 2) (v := .agg #[.int .i64 r1, .int .i64 r2, .bool r3]) rfl (by kernel_rfl) (by kernel_rfl) (by kernel_rfl) (fun _ _ _ h => h) (Or.inl ⟨by kernel_rfl, fun W hSW => exec_lookup rfl rfl rfl (HW.out W (HB1.out.trans (hSW.mono HB1.out.size)))⟩) hS ?_
    refine wpAnyH_take (i := 3) (v := ?_) rfl (by kernel_rfl) (by kernel_rfl) (by kernel_rfl) (fun _ _ _ h => h) (Or.inl ⟨by kernel_rfl, ?_⟩) hS ?_
    rotate_left
    · intro W hSW
      go_simp
      all_goals with_reducible rfl
    go_simp
    refine wpAnyH_take (i := 4) (v := .agg #[.int .i64 s1, .int .i64 s2]) rfl (by kernel_rfl) (by kernel_rfl) (by kernel_rfl) (fun _ _ _ h => h) (Or.inl ⟨by kernel_rfl, fun W hSW => exec_load_ag stT rfl rfl rfl (HS0.out.kept hSW)⟩) hS ?_
    go_simp
    refine wpAnyH_ready (rs := [5]) (by kernel_rfl) (by simp) ?_
    refine AllReadyH.cons rfl (fun K hK => ?_) AllReadyH.nil
    go_simp
    go_wp2_with ((go_at_call 49; refine (HCM.out _).mono ?_; rintro e wn ⟨rfl, hbn⟩))
    refine hK.out _ _ (hS.trans (hbn.mono hS.size)) (fun hS => ?_)
    clear hK K hbn
    refine wpAnyH_take (i := 6) (v := ?_) rfl (by kernel_rfl) (by kernel_rfl) (by kernel_rfl) (fun _ _ _ h => h) (Or.inl ⟨by kernel_rfl, ?_⟩) hS ?_
    rotate_left
    · intro W hSW
      go_simp
      all_goals with_reducible rfl
    go_simp
    refine wpAnyH_done (by kernel_rfl) ?_ _
    go_simp
    have HN := Lib.hid (HB1.out.trans (hS.mono HB1.out.size))
    have HSW := Lib.hid hS
    clear hS
    obtain ⟨w5, hu, hrm, ht5, hsz5⟩ := HU.out _ HN.out ((s1, s2), v)
    rw [HPY.out hlt] at hrm
    dsimp only [rmA] at hu
    go_wp2_with (first | (refine wpList_load_ag stT rfl _ rfl _ rfl HSZ.out (HA.out.kept HSW.out) ?_) | (refine wpList_load_ag stT rfl _ rfl _ rfl (A := #[.int .i64 s1, .int .i64 s2]) rfl (HS0.out.kept HSW.out) ?_))
    go_end0
    exact ⟨rfl, hrm, (Turns.of_below HN.out).trans (ht5.mono fun k _ hk => Or.inl hk)⟩
  · have d1 : decide (qcmpS r1 r2 s1 s2 < 0) = false := HC.out.trans (decide_eq_false hlt)
    have HCM := Lib.hid (fun W => qcompare_any r1 r2 s1 s2 W)
    have hf := field_rm0 r1 r2 r3
    go_enter Try.func30, Try.ntmps30
    go_upto_region 1 with fail
    generalize hwd : ((w.alloc (.cells A 32)).alloc (.cells #[.int .i64 s1, .int .i64 s2] 32)) = wd at *
    refine wp_region_held_drew (S := fun W => Below wd.heap.size wd W) (by kernel_rfl) (Below.drew (Below.refl _ _)) (fun hS => ?_)
    refine wpAnyH_take (i := 0) (v := ?_) rfl (by kernel_rfl) (by kernel_rfl) (by kernel_rfl) (fun _ _ _ h => h) (Or.inl ⟨by kernel_rfl, ?_⟩) hS ?_
    rotate_left
    · intro W hSW
      go_simp
      all_goals with_reducible rfl
    go_simp
    refine wpAnyH_take (i := 1) (v := .agg A) rfl (by kernel_rfl) (by kernel_rfl) (by kernel_rfl) (fun _ _ _ h => h) (Or.inl ⟨by kernel_rfl, fun W hSW => exec_load_ag stT rfl rfl HSZ.out (HA.out.kept hSW)⟩) hS ?_
    go_simp
    refine wpAnyH_take (i := 2) (v := .agg #[.int .i64 r1, .int .i64 r2, .bool r3]) rfl (by kernel_rfl) (by kernel_rfl) (by kernel_rfl) (fun _ _ _ h => h) (Or.inl ⟨by kernel_rfl, fun W hSW => exec_lookup rfl rfl rfl (HW.out W (HB1.out.trans (hSW.mono HB1.out.size)))⟩) hS ?_
    refine wpAnyH_take (i := 3) (v := ?_) rfl (by kernel_rfl) (by kernel_rfl) (by kernel_rfl) (fun _ _ _ h => h) (Or.inl ⟨by kernel_rfl, ?_⟩) hS ?_
    rotate_left
    · intro W hSW
      go_simp
      all_goals with_reducible rfl
    go_simp
    refine wpAnyH_take (i := 4) (v := .agg #[.int .i64 s1, .int .i64 s2]) rfl (by kernel_rfl) (by kernel_rfl) (by kernel_rfl) (fun _ _ _ h => h) (Or.inl ⟨by kernel_rfl, fun W hSW => exec_load_ag stT rfl rfl rfl (HS0.out.kept hSW)⟩) hS ?_
    go_simp
    refine wpAnyH_ready (rs := [5]) (by kernel_rfl) (by simp) ?_
    refine AllReadyH.cons rfl (fun K hK => ?_) AllReadyH.nil
    go_simp
    go_wp2_with ((go_at_call 49; refine (HCM.out _).mono ?_; rintro e wn ⟨rfl, hbn⟩))
    refine hK.out _ _ (hS.trans (hbn.mono hS.size)) (fun hS => ?_)
    clear hK K hbn
    refine wpAnyH_take (i := 6) (v := ?_) rfl (by kernel_rfl) (by kernel_rfl) (by kernel_rfl) (fun _ _ _ h => h) (Or.inl ⟨by kernel_rfl, ?_⟩) hS ?_
    rotate_left
    · intro W hSW
      go_simp
      all_goals with_reducible rfl
    go_simp
    refine wpAnyH_done (by kernel_rfl) ?_ _
    go_simp
    have HN := Lib.hid (HB1.out.trans (hS.mono HB1.out.size))
    clear hS
    go_wp2
    go_end0
    exact ⟨rfl, HPN.out _ hlt HN.out, Turns.of_below HN.out⟩

set_option maxRecDepth 100000 in
set_option maxHeartbeats 2000000 in
theorem writeO_any (M : Nat) (f : Pm.Rg Pm.Vl) (x : Pm.Nm) (s : Qm.St) (v : Pm.Vl) (w : World) (h : RM 20 rvA Pm.z0 w M f) (hx : KWf 20 x) :
    Calls Try.prog 31 #[.map (some M), kV x, .agg #[.int .i64 s.1, .int .i64 s.2], .agg (vlA v)] w fun e w' => e = .returned (.tuple #[]) ∧ RM 20 rvA Pm.z0 w' M (Pm.put f x s v) ∧ Turns (fun k => k = M) w w' := by
  have H := Lib.hid h
  have HX := Lib.hid hx
  have HSZ := Lib.hid (kV_size hx)
  have HW := Lib.hid (fun (W : World) (hb : Below w.heap.size w W) => (h.below hb).look gtO x hx)
  have HU := Lib.hid (fun (W : World) (hb : Below w.heap.size w W) (r : Qm.St × Pm.Vl) => (h.below hb).store gtO x hx r)
  have HPN := Lib.hid (fun (W : World) (hn : ¬ Qm.ltS (f x).1 s) (hb : Below w.heap.size w W) => show RM 20 rvA Pm.z0 W M (Pm.put f x s v) from by
    have e : Pm.put f x s v = f := by
      funext y
      unfold Pm.put
      rw [if_neg hn]
      by_cases hy : y = x
      · rw [if_pos hy, hy]
      · rw [if_neg hy]
    rw [e]
    exact h.below hb)
  have HPY := Lib.hid (fun (hn : Qm.ltS (f x).1 s) => show (fun y => if y = x then (s, v) else f y) = Pm.put f x s v from by
    funext y
    unfold Pm.put
    rw [if_pos hn])
  have HC := Lib.hid (qcmp_lt (f x).1 s)
  clear h hx
  unfold kV at HW HU ⊢
  generalize (x.map fun i => Value.int .i64 i).toArray = A at *
  generalize f x = r at *
  have HA := Lib.hid (AgAt.new w A 73)
  have HB1 := Lib.hid ((Below.refl w.heap.size w).alloc (Nat.le_refl _) (.cells A 73))
  obtain ⟨⟨r1, r2⟩, r3⟩ := r
  obtain ⟨s1, s2⟩ := s
  obtain ⟨r3, r4, r5⟩ := r3
  obtain ⟨v1, v2, v3⟩ := v
  have HS0 := Lib.hid (AgAt.new (w.alloc (.cells A 73)) #[.int .i64 s1, .int .i64 s2] 32)
  rw [World.size_alloc] at HS0
  have HV0 := Lib.hid (AgAt.new ((w.alloc (.cells A 73)).alloc (.cells #[.int .i64 s1, .int .i64 s2] 32)) (vlA (v1, v2, v3)) 34)
  rw [World.size_alloc, World.size_alloc] at HV0
  replace HA := Lib.hid (HA.out.kept ((Below.refl _ _).alloc (Nat.le_refl _) (.cells #[.int .i64 s1, .int .i64 s2] 32)))
  replace HA := Lib.hid (HA.out.kept ((Below.refl _ _).alloc (Nat.le_refl _) (.cells (vlA (v1, v2, v3)) 34)))
  replace HS0 := Lib.hid (HS0.out.kept ((Below.refl _ _).alloc (Nat.le_refl _) (.cells (vlA (v1, v2, v3)) 34)))
  replace HB1 := Lib.hid (show Below w.heap.size w (((w.alloc (.cells A 73)).alloc (.cells #[.int .i64 s1, .int .i64 s2] 32)).alloc (.cells (vlA (v1, v2, v3)) 34)) from (HB1.out.alloc (by simp) _).alloc (by simp; omega) _)
  dsimp only [vlA, rvA, rmA] at *
  by_cases hlt : Qm.ltS (r1, r2) (s1, s2)
  · have d1 : decide (qcmpS r1 r2 s1 s2 < 0) = true := HC.out.trans (decide_eq_true hlt)
    have HCM := Lib.hid (fun W => qcompare_any r1 r2 s1 s2 W)
    have hf := field_rv0 r1 r2 r3 r4 r5
    go_enter Try.func31, Try.ntmps31
    go_upto_region 1 with fail
    generalize hwd : (((w.alloc (.cells A 73)).alloc (.cells #[.int .i64 s1, .int .i64 s2] 32)).alloc (.cells #[.int .i64 v1, .int .i64 v2, .string v3] 34)) = wd at *
    refine wp_region_held_drew (S := fun W => Below wd.heap.size wd W) (by kernel_rfl) (Below.drew (Below.refl _ _)) (fun hS => ?_)
    refine wpAnyH_take (i := 0) (v := ?_) rfl (by kernel_rfl) (by kernel_rfl) (by kernel_rfl) (fun _ _ _ h => h) (Or.inl ⟨by kernel_rfl, ?_⟩) hS ?_
    rotate_left
    · intro W hSW
      go_simp
      all_goals with_reducible rfl
    go_simp
    refine wpAnyH_take (i := 1) (v := .agg A) rfl (by kernel_rfl) (by kernel_rfl) (by kernel_rfl) (fun _ _ _ h => h) (Or.inl ⟨by kernel_rfl, fun W hSW => exec_load_ag oA rfl rfl HSZ.out (HA.out.kept hSW)⟩) hS ?_
    go_simp
    refine wpAnyH_take (i := 2) (v := .agg #[.int .i64 r1, .int .i64 r2, .int .i64 r3, .int .i64 r4, .string r5]) rfl (by kernel_rfl) (by kernel_rfl) (by kernel_rfl) (fun _ _ _ h => h) (Or.inl ⟨by kernel_rfl, fun W hSW => exec_lookup rfl rfl rfl (HW.out W (HB1.out.trans (hSW.mono HB1.out.size)))⟩) hS ?_
    refine wpAnyH_take (i := 3) (v := ?_) rfl (by kernel_rfl) (by kernel_rfl) (by kernel_rfl) (fun _ _ _ h => h) (Or.inl ⟨by kernel_rfl, ?_⟩) hS ?_
    rotate_left
    · intro W hSW
      go_simp
      all_goals with_reducible rfl
    go_simp
    refine wpAnyH_take (i := 4) (v := .agg #[.int .i64 s1, .int .i64 s2]) rfl (by kernel_rfl) (by kernel_rfl) (by kernel_rfl) (fun _ _ _ h => h) (Or.inl ⟨by kernel_rfl, fun W hSW => exec_load_ag stT rfl rfl rfl (HS0.out.kept hSW)⟩) hS ?_
    go_simp
    refine wpAnyH_ready (rs := [5]) (by kernel_rfl) (by simp) ?_
    refine AllReadyH.cons rfl (fun K hK => ?_) AllReadyH.nil
    go_simp
    go_wp2_with ((go_at_call 49; refine (HCM.out _).mono ?_; rintro e wn ⟨rfl, hbn⟩))
    refine hK.out _ _ (hS.trans (hbn.mono hS.size)) (fun hS => ?_)
    clear hK K hbn
    refine wpAnyH_take (i := 6) (v := ?_) rfl (by kernel_rfl) (by kernel_rfl) (by kernel_rfl) (fun _ _ _ h => h) (Or.inl ⟨by kernel_rfl, ?_⟩) hS ?_
    rotate_left
    · intro W hSW
      go_simp
      all_goals with_reducible rfl
    go_simp
    refine wpAnyH_done (by kernel_rfl) ?_ _
    go_simp
    have HN := Lib.hid (HB1.out.trans (hS.mono HB1.out.size))
    have HSW := Lib.hid hS
    clear hS
    obtain ⟨w5, hu, hrm, ht5, hsz5⟩ := HU.out _ HN.out ((s1, s2), (v1, v2, v3))
    rw [HPY.out hlt] at hrm
    dsimp only [rvA] at hu
    go_wp2_with (first | (refine wpList_load_ag oA rfl _ rfl _ rfl HSZ.out (HA.out.kept HSW.out) ?_) | (refine wpList_load_ag stT rfl _ rfl _ rfl (A := #[.int .i64 s1, .int .i64 s2]) rfl (HS0.out.kept HSW.out) ?_) | (refine wpList_load_ag vA rfl _ rfl _ rfl (A := #[.int .i64 v1, .int .i64 v2, .string v3]) rfl (HV0.out.kept HSW.out) ?_))
    go_end0
    exact ⟨rfl, hrm, (Turns.of_below HN.out).trans (ht5.mono fun k _ hk => Or.inl hk)⟩
  · have d1 : decide (qcmpS r1 r2 s1 s2 < 0) = false := HC.out.trans (decide_eq_false hlt)
    have HCM := Lib.hid (fun W => qcompare_any r1 r2 s1 s2 W)
    have hf := field_rv0 r1 r2 r3 r4 r5
    go_enter Try.func31, Try.ntmps31
    go_upto_region 1 with fail
    generalize hwd : (((w.alloc (.cells A 73)).alloc (.cells #[.int .i64 s1, .int .i64 s2] 32)).alloc (.cells #[.int .i64 v1, .int .i64 v2, .string v3] 34)) = wd at *
    refine wp_region_held_drew (S := fun W => Below wd.heap.size wd W) (by kernel_rfl) (Below.drew (Below.refl _ _)) (fun hS => ?_)
    refine wpAnyH_take (i := 0) (v := ?_) rfl (by kernel_rfl) (by kernel_rfl) (by kernel_rfl) (fun _ _ _ h => h) (Or.inl ⟨by kernel_rfl, ?_⟩) hS ?_
    rotate_left
    · intro W hSW
      go_simp
      all_goals with_reducible rfl
    go_simp
    refine wpAnyH_take (i := 1) (v := .agg A) rfl (by kernel_rfl) (by kernel_rfl) (by kernel_rfl) (fun _ _ _ h => h) (Or.inl ⟨by kernel_rfl, fun W hSW => exec_load_ag oA rfl rfl HSZ.out (HA.out.kept hSW)⟩) hS ?_
    go_simp
    refine wpAnyH_take (i := 2) (v := .agg #[.int .i64 r1, .int .i64 r2, .int .i64 r3, .int .i64 r4, .string r5]) rfl (by kernel_rfl) (by kernel_rfl) (by kernel_rfl) (fun _ _ _ h => h) (Or.inl ⟨by kernel_rfl, fun W hSW => exec_lookup rfl rfl rfl (HW.out W (HB1.out.trans (hSW.mono HB1.out.size)))⟩) hS ?_
    refine wpAnyH_take (i := 3) (v := ?_) rfl (by kernel_rfl) (by kernel_rfl) (by kernel_rfl) (fun _ _ _ h => h) (Or.inl ⟨by kernel_rfl, ?_⟩) hS ?_
    rotate_left
    · intro W hSW
      go_simp
      all_goals with_reducible rfl
    go_simp
    refine wpAnyH_take (i := 4) (v := .agg #[.int .i64 s1, .int .i64 s2]) rfl (by kernel_rfl) (by kernel_rfl) (by kernel_rfl) (fun _ _ _ h => h) (Or.inl ⟨by kernel_rfl, fun W hSW => exec_load_ag stT rfl rfl rfl (HS0.out.kept hSW)⟩) hS ?_
    go_simp
    refine wpAnyH_ready (rs := [5]) (by kernel_rfl) (by simp) ?_
    refine AllReadyH.cons rfl (fun K hK => ?_) AllReadyH.nil
    go_simp
    go_wp2_with ((go_at_call 49; refine (HCM.out _).mono ?_; rintro e wn ⟨rfl, hbn⟩))
    refine hK.out _ _ (hS.trans (hbn.mono hS.size)) (fun hS => ?_)
    clear hK K hbn
    refine wpAnyH_take (i := 6) (v := ?_) rfl (by kernel_rfl) (by kernel_rfl) (by kernel_rfl) (fun _ _ _ h => h) (Or.inl ⟨by kernel_rfl, ?_⟩) hS ?_
    rotate_left
    · intro W hSW
      go_simp
      all_goals with_reducible rfl
    go_simp
    refine wpAnyH_done (by kernel_rfl) ?_ _
    go_simp
    have HN := Lib.hid (HB1.out.trans (hS.mono HB1.out.size))
    clear hS
    go_wp2
    go_end0
    exact ⟨rfl, HPN.out _ hlt HN.out, Turns.of_below HN.out⟩
end Go.Proofs.Ytcenmkcencdlcaa
