/-
  Do: what an op's write leaves; who may not write.
  No conditions but sizes.
-/
import Derived.Test.YtcenmkcencdlcaaGO
import Derived.Test.YtcenmkcencdlcaaGN
namespace Go.Proofs.Ytcenmkcencdlcaa
open Go.RowKit

theorem okNode_wf {t r : Int} (h : okNode t r = true) : (Lit.int .i64 t).wf = true ∧ (Lit.int .i64 r).wf = true := by
  unfold okNode at h
  rw [Bool.and_eq_true] at h
  have := rightB_yes h.1
  exact ⟨i64wf (by omega) (by omega), i64wf (by omega) (by omega)⟩
namespace Pm
theorem right_node {x : Opp} (h : rightO x = true) (hk : x.k = 3 ∨ x.k = 4 ∨ x.k = 6) : okNode x.nt x.nr = true := by
  have h1 := (rightO_fit h).1
  rcases hk with hk | hk | hk <;> rw [hk] at h1 <;> simp [fitO, prt] at h1
  · exact h1.1
  · exact h1
  · exact h1.1.1
theorem right_prop {x : Opp} (h : rightO x = true) (hk : x.k = 3 ∨ x.k = 6) : 1 ≤ x.p ∧ x.p ≤ 8 := by
  have h1 : right8V x.p x.vk x.vn x.vt.data.toList = true := by
    have := (rightO_fit h).1
    rcases hk with hk | hk
    · rw [hk] at this; simp [fitO, prt] at this; exact this.2
    · rw [hk] at this; simp [fitO, prt] at this; exact this.2
  unfold right8V at h1
  rw [Bool.and_eq_true] at h1
  exact of_decide_eq_true h1.1
theorem right_path {x : Opp} (h : rightO x = true) (hk : x.k = 6) : ∀ s ∈ x.path, okNode s.1 s.2 = true := by
  have h0 := (rightO_fit h).1
  rw [hk] at h0
  simp [fitO, prt, okPath] at h0
  intro s hs
  exact h0.1.2.2 s.1 s.2 hs
theorem doR_V {r : Rs} {w : Wr} (h : okW w = true) (hk : w.x.k = 3) : doR r w = ⟨put r.v (nameV (w.x.nt, w.x.nr) w.x.p) w.s (w.x.vk, w.x.vn, w.x.vt), r.m, r.o⟩ := by
  have e1 : hV w = some (nameV (w.x.nt, w.x.nr) w.x.p, (w.x.vk, w.x.vn, w.x.vt)) := by unfold hV; rw [if_pos ⟨h, hk⟩]
  have e2 : hM w = none := by unfold hM; rw [if_neg (fun h => by omega)]
  have e3 : hO w = none := by unfold hO; rw [if_neg (fun h => by omega)]
  unfold doR
  rw [step_some e1, step_none e2, step_none e3]
theorem doR_M {r : Rs} {w : Wr} (h : okW w = true) (hk : w.x.k = 4) : doR r w = ⟨r.v, put r.m (nameM (w.x.nt, w.x.nr)) w.s w.x.on, r.o⟩ := by
  have e1 : hV w = none := by unfold hV; rw [if_neg (fun h => by omega)]
  have e2 : hM w = some (nameM (w.x.nt, w.x.nr), w.x.on) := by unfold hM; rw [if_pos ⟨h, hk⟩]
  have e3 : hO w = none := by unfold hO; rw [if_neg (fun h => by omega)]
  unfold doR
  rw [step_none e1, step_some e2, step_none e3]
theorem doR_O {r : Rs} {w : Wr} (h : okW w = true) (hk : w.x.k = 6) : doR r w = ⟨r.v, r.m, put r.o (nameO (w.x.nt, w.x.nr) w.x.path w.x.p) w.s (w.x.vk, w.x.vn, w.x.vt)⟩ := by
  have e1 : hV w = none := by unfold hV; rw [if_neg (fun h => by omega)]
  have e2 : hM w = none := by unfold hM; rw [if_neg (fun h => by omega)]
  have e3 : hO w = some (nameO (w.x.nt, w.x.nr) w.x.path w.x.p, (w.x.vk, w.x.vn, w.x.vt)) := by unfold hO; rw [if_pos ⟨h, hk⟩]
  unfold doR
  rw [step_none e1, step_none e2, step_some e3]
end Pm
theorem wfV {n : Qm.St} {p : Int} (h : (Lit.int .i64 n.1).wf = true) (k : (Lit.int .i64 n.2).wf = true) (hp : (Lit.int .i64 p).wf = true) : KWf 3 (Pm.nameV n p) := ⟨rfl, fun i hi => by
  simp only [Pm.nameV, List.mem_cons, List.not_mem_nil, or_false] at hi
  rcases hi with rfl | rfl | rfl <;> assumption⟩
theorem wfM {n : Qm.St} (h : (Lit.int .i64 n.1).wf = true) (k : (Lit.int .i64 n.2).wf = true) : KWf 2 (Pm.nameM n) := ⟨rfl, fun i hi => by
  simp only [Pm.nameM, List.mem_cons, List.not_mem_nil, or_false] at hi
  rcases hi with rfl | rfl <;> assumption⟩
theorem wfO {n : Qm.St} {l : List Qm.St} {p : Int} (h : (Lit.int .i64 n.1).wf = true) (k : (Lit.int .i64 n.2).wf = true) (hp : (Lit.int .i64 p).wf = true) (hl : ∀ s ∈ l, (Lit.int .i64 s.1).wf = true ∧ (Lit.int .i64 s.2).wf = true) (hlen : l.length ≤ 9000000000000000000) : KWf 20 (Pm.nameO n l p) := ⟨Pm.nameO_length _ _ _, fun i hi => by
  unfold Pm.nameO Pm.pad at hi
  rcases List.mem_append.1 hi with hi | hi
  · rcases List.mem_append.1 hi with hi | hi
    · simp only [List.mem_cons, List.not_mem_nil, or_false] at hi
      rcases hi with rfl | rfl | rfl <;> assumption
    · rcases List.mem_append.1 hi with hi | hi
      · unfold Pm.flat at hi
        obtain ⟨s, hs, hi⟩ := List.mem_flatMap.1 hi
        have := hl s (List.mem_of_mem_take hs)
        simp only [List.mem_cons, List.not_mem_nil, or_false] at hi
        rcases hi with rfl | rfl
        · exact this.1
        · exact this.2
      · rw [List.eq_of_mem_replicate hi]; exact i64wf (by omega) (by omega)
  · rw [List.mem_singleton.1 hi]; exact i64wf (by omega) (by omega)⟩
/-- what Do leaves -/
def Done (P M1 M2 M3 : Nat) (r : Pm.Rs) (y : Pm.Wr) (w : World) (e : Ending) (w' : World) : Prop :=
  e = .returned (.int .i64 (Pm.doE y)) ∧ Lay w' P M1 M2 M3 (Pm.doR r y) ∧ Turns (fun k => k = M1 ∨ k = M2 ∨ k = M3) w w'

set_option maxRecDepth 100000 in
set_option maxHeartbeats 4000000 in
theorem do0_any {P M1 M2 M3 : Nat} {r : Pm.Rs} (s : Qm.St) (x : Opp) (q : Option Addr) (c : Nat) (w : World) (h : Lay w P M1 M2 M3 r) (hs : Sz x) (ha : Pa w x q c) (hn : okNode s.1 s.2 = false) :
    Calls Try.prog 12 #[.pointer (some ⟨P, 0, none⟩), .agg #[.int .i64 s.1, .int .i64 s.2], .agg (opA x q c)] w (Done P M1 M2 M3 r ⟨s, x⟩ w) := by
  obtain ⟨s1, s2⟩ := s
  have HL := Lib.hid h
  have HSZ := Lib.hid hs
  have HS0 := Lib.hid ((AgAt.new w #[.int .i64 s1, .int .i64 s2] 32).kept ((Below.refl _ _).alloc (Nat.le_refl _) (.cells (opA x q c) 36)))
  have HO := Lib.hid (show AgAt ((w.alloc (.cells #[.int .i64 s1, .int .i64 s2] 32)).alloc (.cells (opA x q c) 36)) (w.heap.size + 1) (opA x q c) from by
    have := AgAt.new (w.alloc (.cells #[.int .i64 s1, .int .i64 s2] 32)) (opA x q c) 36
    rwa [World.size_alloc] at this)
  have HB := Lib.hid (((Below.refl w.heap.size w).alloc (Nat.le_refl _) (.cells #[.int .i64 s1, .int .i64 s2] 32)).alloc (by simp) (.cells (opA x q c) 36))
  have HP := Lib.hid (ha.kept HB.out)
  have HN := Lib.hid hn
  have HDE := Lib.hid (show Pm.doE ⟨(s1, s2), x⟩ = 1 from by
    unfold Pm.doE Pm.okW
    rw [show okNode s1 s2 = false from hn]
    rfl)
  clear h hs ha hn
  go_enter Try.func12, Try.ntmps12
  go_wp2_with fail
  refine (ours_any _ (HL.out.kept HB.out)).mono ?_
  rintro e w1 ⟨rfl, rfl⟩
  go_wp2_with (refine wpList_load_ag stT (by kernel_rfl) _ rfl _ rfl (A := #[.int .i64 s1, .int .i64 s2]) rfl HS0.out ?_)
  refine (onode_any s1 s2 _).mono ?_
  rw [HN.out]
  rintro e w2 ⟨rfl, hb2⟩
  replace HP := Lib.hid (HP.out.kept hb2)
  replace HO := Lib.hid (HO.out.kept hb2)
  replace HS0 := Lib.hid (HS0.out.kept hb2)
  replace HB := Lib.hid (HB.out.trans (hb2.mono HB.out.size))
  clear hb2
  have HE := Lib.hid (show Done P M1 M2 M3 r ⟨(s1, s2), x⟩ w (.returned (.int .i64 1)) w2 from ⟨by rw [HDE.out], by rw [Pm.doR_bad (by rw [HDE.out]; decide)]; exact HL.out.kept HB.out, Turns.of_below HB.out⟩)
  clear HL HO HS0 HB HP
  go_wp2
  go_ret
  exact HE.out

set_option maxRecDepth 100000 in
set_option maxHeartbeats 4000000 in
theorem do1_any {P M1 M2 M3 : Nat} {r : Pm.Rs} (s : Qm.St) (x : Opp) (q : Option Addr) (c : Nat) (w : World) (h : Lay w P M1 M2 M3 r) (hs : Sz x) (ha : Pa w x q c) (hn : okNode s.1 s.2 = true) (hr : rightO x = false) :
    Calls Try.prog 12 #[.pointer (some ⟨P, 0, none⟩), .agg #[.int .i64 s.1, .int .i64 s.2], .agg (opA x q c)] w (Done P M1 M2 M3 r ⟨s, x⟩ w) := by
  obtain ⟨s1, s2⟩ := s
  have HL := Lib.hid h
  have HSZ := Lib.hid hs
  have HS0 := Lib.hid ((AgAt.new w #[.int .i64 s1, .int .i64 s2] 32).kept ((Below.refl _ _).alloc (Nat.le_refl _) (.cells (opA x q c) 36)))
  have HO := Lib.hid (show AgAt ((w.alloc (.cells #[.int .i64 s1, .int .i64 s2] 32)).alloc (.cells (opA x q c) 36)) (w.heap.size + 1) (opA x q c) from by
    have := AgAt.new (w.alloc (.cells #[.int .i64 s1, .int .i64 s2] 32)) (opA x q c) 36
    rwa [World.size_alloc] at this)
  have HB := Lib.hid (((Below.refl w.heap.size w).alloc (Nat.le_refl _) (.cells #[.int .i64 s1, .int .i64 s2] 32)).alloc (by simp) (.cells (opA x q c) 36))
  have HP := Lib.hid (ha.kept HB.out)
  have HN := Lib.hid hn
  have HRT := Lib.hid hr
  have HDE := Lib.hid (show Pm.doE ⟨(s1, s2), x⟩ = 1 from by
    unfold Pm.doE Pm.okW
    rw [show okNode s1 s2 = true from hn, hr]
    rfl)
  clear h hs ha hn hr
  go_enter Try.func12, Try.ntmps12
  go_wp2_with fail
  refine (ours_any _ (HL.out.kept HB.out)).mono ?_
  rintro e w1 ⟨rfl, rfl⟩
  go_wp2_with (refine wpList_load_ag stT (by kernel_rfl) _ rfl _ rfl (A := #[.int .i64 s1, .int .i64 s2]) rfl HS0.out ?_)
  refine (onode_any s1 s2 _).mono ?_
  rw [HN.out]
  rintro e w2 ⟨rfl, hb2⟩
  replace HP := Lib.hid (HP.out.kept hb2)
  replace HO := Lib.hid (HO.out.kept hb2)
  replace HS0 := Lib.hid (HS0.out.kept hb2)
  replace HB := Lib.hid (HB.out.trans (hb2.mono HB.out.size))
  clear hb2
  go_wp2_with (refine wpList_load_opG otP (by kernel_rfl) _ rfl _ rfl x q c HO.out ?_)
  refine (oright_any x q c _ HSZ.out HP.out).mono ?_
  rw [HRT.out]
  rintro e w3 ⟨rfl, hb3⟩
  replace HP := Lib.hid (HP.out.kept hb3)
  replace HO := Lib.hid (HO.out.kept hb3)
  replace HS0 := Lib.hid (HS0.out.kept hb3)
  replace HB := Lib.hid (HB.out.trans (hb3.mono HB.out.size))
  clear hb3
  have HE := Lib.hid (show Done P M1 M2 M3 r ⟨(s1, s2), x⟩ w (.returned (.int .i64 1)) w3 from ⟨by rw [HDE.out], by rw [Pm.doR_bad (by rw [HDE.out]; decide)]; exact HL.out.kept HB.out, Turns.of_below HB.out⟩)
  clear HL HO HS0 HB HP
  go_wp2
  go_ret
  exact HE.out

set_option maxRecDepth 100000 in
set_option maxHeartbeats 4000000 in
theorem doK_any {P M1 M2 M3 : Nat} {r : Pm.Rs} (s : Qm.St) (x : Opp) (q : Option Addr) (c : Nat) (w : World) (h : Lay w P M1 M2 M3 r) (hs : Sz x) (ha : Pa w x q c) (hn : okNode s.1 s.2 = true) (hr : rightO x = true) (k3 : x.k ≠ 3) (k4 : x.k ≠ 4) (k6 : x.k ≠ 6) :
    Calls Try.prog 12 #[.pointer (some ⟨P, 0, none⟩), .agg #[.int .i64 s.1, .int .i64 s.2], .agg (opA x q c)] w (Done P M1 M2 M3 r ⟨s, x⟩ w) := by
  obtain ⟨s1, s2⟩ := s
  have HL := Lib.hid h
  have HSZ := Lib.hid hs
  have HS0 := Lib.hid ((AgAt.new w #[.int .i64 s1, .int .i64 s2] 32).kept ((Below.refl _ _).alloc (Nat.le_refl _) (.cells (opA x q c) 36)))
  have HO := Lib.hid (show AgAt ((w.alloc (.cells #[.int .i64 s1, .int .i64 s2] 32)).alloc (.cells (opA x q c) 36)) (w.heap.size + 1) (opA x q c) from by
    have := AgAt.new (w.alloc (.cells #[.int .i64 s1, .int .i64 s2] 32)) (opA x q c) 36
    rwa [World.size_alloc] at this)
  have HB := Lib.hid (((Below.refl w.heap.size w).alloc (Nat.le_refl _) (.cells #[.int .i64 s1, .int .i64 s2] 32)).alloc (by simp) (.cells (opA x q c) 36))
  have HP := Lib.hid (ha.kept HB.out)
  have HN := Lib.hid hn
  have HRT := Lib.hid hr
  have e3 : (x.k == 3) = false := by simpa using k3
  have e4 : (x.k == 4) = false := by simpa using k4
  have e6 : (x.k == 6) = false := by simpa using k6
  have HDE := Lib.hid (show Pm.doE ⟨(s1, s2), x⟩ = 42 from by
    unfold Pm.doE Pm.okW
    rw [show okNode s1 s2 = true from hn, hr, if_pos (show (true && true) = true from rfl), if_neg (by rintro (h | h | h) <;> contradiction)])
  clear h hs ha hn hr
  go_enter Try.func12, Try.ntmps12
  go_wp2_with fail
  refine (ours_any _ (HL.out.kept HB.out)).mono ?_
  rintro e w1 ⟨rfl, rfl⟩
  go_wp2_with (refine wpList_load_ag stT (by kernel_rfl) _ rfl _ rfl (A := #[.int .i64 s1, .int .i64 s2]) rfl HS0.out ?_)
  refine (onode_any s1 s2 _).mono ?_
  rw [HN.out]
  rintro e w2 ⟨rfl, hb2⟩
  replace HP := Lib.hid (HP.out.kept hb2)
  replace HO := Lib.hid (HO.out.kept hb2)
  replace HS0 := Lib.hid (HS0.out.kept hb2)
  replace HB := Lib.hid (HB.out.trans (hb2.mono HB.out.size))
  clear hb2
  go_wp2_with (refine wpList_load_opG otP (by kernel_rfl) _ rfl _ rfl x q c HO.out ?_)
  refine (oright_any x q c _ HSZ.out HP.out).mono ?_
  rw [HRT.out]
  rintro e w3 ⟨rfl, hb3⟩
  replace HP := Lib.hid (HP.out.kept hb3)
  replace HO := Lib.hid (HO.out.kept hb3)
  replace HS0 := Lib.hid (HS0.out.kept hb3)
  replace HB := Lib.hid (HB.out.trans (hb3.mono HB.out.size))
  clear hb3
  have y0 : w3.cell? ⟨w.heap.size + 1, 0, none⟩ = some (.int .i64 x.k) := HO.out.cell 0
  have HE := Lib.hid (show Done P M1 M2 M3 r ⟨(s1, s2), x⟩ w (.returned (.int .i64 42)) w3 from ⟨by rw [HDE.out], by rw [Pm.doR_bad (by rw [HDE.out]; decide)]; exact HL.out.kept HB.out, Turns.of_below HB.out⟩)
  clear HL HO HS0 HB HP
  go_wp2
  go_ret
  exact HE.out

set_option maxRecDepth 100000 in
set_option maxHeartbeats 4000000 in
theorem doV_any {P M1 M2 M3 : Nat} {r : Pm.Rs} (s : Qm.St) (x : Opp) (q : Option Addr) (c : Nat) (w : World) (h : Lay w P M1 M2 M3 r) (hs : Sz x) (ha : Pa w x q c) (hn : okNode s.1 s.2 = true) (hr : rightO x = true) (hk : x.k = 3) :
    Calls Try.prog 12 #[.pointer (some ⟨P, 0, none⟩), .agg #[.int .i64 s.1, .int .i64 s.2], .agg (opA x q c)] w (Done P M1 M2 M3 r ⟨s, x⟩ w) := by
  obtain ⟨s1, s2⟩ := s
  have HL := Lib.hid h
  have HSZ := Lib.hid hs
  have HS0 := Lib.hid ((AgAt.new w #[.int .i64 s1, .int .i64 s2] 32).kept ((Below.refl _ _).alloc (Nat.le_refl _) (.cells (opA x q c) 36)))
  have HO := Lib.hid (show AgAt ((w.alloc (.cells #[.int .i64 s1, .int .i64 s2] 32)).alloc (.cells (opA x q c) 36)) (w.heap.size + 1) (opA x q c) from by
    have := AgAt.new (w.alloc (.cells #[.int .i64 s1, .int .i64 s2] 32)) (opA x q c) 36
    rwa [World.size_alloc] at this)
  have HB := Lib.hid (((Below.refl w.heap.size w).alloc (Nat.le_refl _) (.cells #[.int .i64 s1, .int .i64 s2] 32)).alloc (by simp) (.cells (opA x q c) 36))
  have HP := Lib.hid (ha.kept HB.out)
  have HN := Lib.hid hn
  have HRT := Lib.hid hr
  have HOK := Lib.hid (show Pm.okW ⟨(s1, s2), x⟩ = true from by
    unfold Pm.okW
    rw [show okNode s1 s2 = true from hn, hr]
    rfl)
  have HK := Lib.hid hk
  have HWF := Lib.hid (show KWf 3 (Pm.nameV (x.nt, x.nr) x.p) from wfV (okNode_wf (Pm.right_node hr (Or.inl hk))).1 (okNode_wf (Pm.right_node hr (Or.inl hk))).2 (i64wf (by have := Pm.right_prop hr (Or.inl hk); omega) (by have := Pm.right_prop hr (Or.inl hk); omega)))
  clear h hs ha hn hr hk
  go_enter Try.func12, Try.ntmps12
  go_wp2_with fail
  refine (ours_any _ (HL.out.kept HB.out)).mono ?_
  rintro e w1 ⟨rfl, rfl⟩
  go_wp2_with (refine wpList_load_ag stT (by kernel_rfl) _ rfl _ rfl (A := #[.int .i64 s1, .int .i64 s2]) rfl HS0.out ?_)
  refine (onode_any s1 s2 _).mono ?_
  rw [HN.out]
  rintro e w2 ⟨rfl, hb2⟩
  replace HP := Lib.hid (HP.out.kept hb2)
  replace HO := Lib.hid (HO.out.kept hb2)
  replace HS0 := Lib.hid (HS0.out.kept hb2)
  replace HB := Lib.hid (HB.out.trans (hb2.mono HB.out.size))
  clear hb2
  go_wp2_with (refine wpList_load_opG otP (by kernel_rfl) _ rfl _ rfl x q c HO.out ?_)
  refine (oright_any x q c _ HSZ.out HP.out).mono ?_
  rw [HRT.out]
  rintro e w3 ⟨rfl, hb3⟩
  replace HP := Lib.hid (HP.out.kept hb3)
  replace HO := Lib.hid (HO.out.kept hb3)
  replace HS0 := Lib.hid (HS0.out.kept hb3)
  replace HB := Lib.hid (HB.out.trans (hb3.mono HB.out.size))
  clear hb3
  have HLW := Lib.hid (HL.out.kept HB.out)
  have HLP := Lib.hid (show P < w.heap.size from (HL.out.box).lt)
  have HLM := Lib.hid (show M1 < w.heap.size from (HL.out.v).lt)
  have y0 : w3.cell? ⟨w.heap.size + 1, 0, none⟩ = some (.int .i64 3) := by rw [← HK.out]; exact HO.out.cell 0
  go_upto_region 6 with fail
  clear y0
  refine wp_region_held_drew (S := fun W => Turns (fun k => k = M1) w3 W) (by kernel_rfl) (Turns.of_below (Below.drew (Below.refl _ _))) (fun hS => ?_)
  refine wpAnyH_take (i := 0) (v := ?_) rfl (by kernel_rfl) (by kernel_rfl) (by kernel_rfl) (fun _ _ _ h => h) (Or.inl ⟨by kernel_rfl, ?_⟩) hS ?_
  rotate_left
  · intro W hSW
    go_simp
    all_goals with_reducible rfl
  refine wpAnyH_take (i := 1) (v := ?_) rfl (by kernel_rfl) (by kernel_rfl) (by kernel_rfl) (fun _ _ _ h => h) (Or.inl ⟨by kernel_rfl, ?_⟩) hS ?_
  rotate_left
  · intro W hSW
    go_simp
    all_goals with_reducible rfl
  refine wpAnyH_take (i := 2) (v := ?_) rfl (by kernel_rfl) (by kernel_rfl) (by kernel_rfl) (fun _ _ _ h => h) (Or.inl ⟨by kernel_rfl, ?_⟩) hS ?_
  rotate_left
  · intro W hSW
    go_simp
    all_goals with_reducible rfl
  refine wpAnyH_take (i := 3) (v := ?_) rfl (by kernel_rfl) (by kernel_rfl) (by kernel_rfl) (fun _ _ _ h => h) (Or.inl ⟨by kernel_rfl, ?_⟩) hS ?_
  rotate_left
  · intro W hSW
    have y0 := (HLW.out.box.turn hSW (HLW.out.p1)).cell 0
    have y0 : W.cell? ⟨P, 0, none⟩ = some (.map (some M1)) := y0
    go_simp
    all_goals with_reducible rfl
  go_simp
  refine wpAnyH_take (i := 4) (v := ?_) rfl (by kernel_rfl) (by kernel_rfl) (by kernel_rfl) (fun _ _ _ h => h) (Or.inl ⟨by kernel_rfl, ?_⟩) hS ?_
  rotate_left
  · intro W hSW
    go_simp
    all_goals with_reducible rfl
  go_simp
  refine wpAnyH_take (i := 5) (v := .agg #[.int .i64 x.nt, .int .i64 x.nr]) rfl (by kernel_rfl) (by kernel_rfl) (by kernel_rfl) (fun _ _ _ h => h) (Or.inl ⟨by kernel_rfl, fun W hSW => exec_load_part stT rfl rfl (HO.out.turn hSW (by have := HLM.out; omega)) [.int .i64 x.nt, .int .i64 x.nr] (by intro j v hv; match j, hv with | 0, hv => exact hv | 1, hv => exact hv) rfl⟩) hS ?_
  refine wpAnyH_take (i := 6) (v := ?_) rfl (by kernel_rfl) (by kernel_rfl) (by kernel_rfl) (fun _ _ _ h => h) (Or.inl ⟨by kernel_rfl, ?_⟩) hS ?_
  rotate_left
  · intro W hSW
    go_simp
    all_goals with_reducible rfl
  refine wpAnyH_take (i := 7) (v := ?_) rfl (by kernel_rfl) (by kernel_rfl) (by kernel_rfl) (fun _ _ _ h => h) (Or.inl ⟨by kernel_rfl, ?_⟩) hS ?_
  rotate_left
  · intro W hSW
    have y0 : W.cell? ⟨w.heap.size + 1, 7, none⟩ = some (.int .i64 x.p) := (HO.out.turn hSW (by have := HLM.out; omega)).cell 7
    go_simp
    all_goals with_reducible rfl
  refine wpAnyH_take (i := 8) (v := ?_) rfl (by kernel_rfl) (by kernel_rfl) (by kernel_rfl) (fun _ _ _ h => h) (Or.inl ⟨by kernel_rfl, ?_⟩) hS ?_
  rotate_left
  · intro W hSW
    go_simp
    all_goals with_reducible rfl
  go_simp
  refine wpAnyH_take (i := 9) (v := .agg #[.int .i64 s1, .int .i64 s2]) rfl (by kernel_rfl) (by kernel_rfl) (by kernel_rfl) (fun _ _ _ h => h) (Or.inl ⟨by kernel_rfl, fun W hSW => exec_load_ag stT rfl rfl rfl (HS0.out.turn hSW (by have := HLM.out; omega))⟩) hS ?_
  refine wpAnyH_take (i := 10) (v := ?_) rfl (by kernel_rfl) (by kernel_rfl) (by kernel_rfl) (fun _ _ _ h => h) (Or.inl ⟨by kernel_rfl, ?_⟩) hS ?_
  rotate_left
  · intro W hSW
    go_simp
    all_goals with_reducible rfl
  go_simp
  refine wpAnyH_take (i := 11) (v := .agg #[.int .i64 x.vk, .int .i64 x.vn, .string x.vt]) rfl (by kernel_rfl) (by kernel_rfl) (by kernel_rfl) (fun _ _ _ h => h) (Or.inl ⟨by kernel_rfl, fun W hSW => exec_load_part vA rfl rfl (HO.out.turn hSW (by have := HLM.out; omega)) [.int .i64 x.vk, .int .i64 x.vn, .string x.vt] (by intro j v hv; match j, hv with | 0, hv => exact hv | 1, hv => exact hv | 2, hv => exact hv) rfl⟩) hS ?_
  go_simp
  refine wpAnyH_ready (rs := [12]) (by kernel_rfl) (by simp) ?_
  refine AllReadyH.cons rfl (fun K hK => ?_) AllReadyH.nil
  go_simp
  go_wp2_with ((go_at_call 29; refine (writeV_any M1 r.v (Pm.nameV (x.nt, x.nr) x.p) (s1, s2) (x.vk, x.vn, x.vt) _ (HLW.out.kept (Below.drew (Below.refl _ _))).v HWF.out).mono ?_; rintro e wm ⟨rfl, hrm, htm⟩))
  have HT := Lib.hid (show Turns (fun k => k = M1) w3 wm from (Turns.of_below (Below.drew (Below.refl _ _))).trans (htm.mono fun _ _ h => Or.inl h))
  have HRM := Lib.hid hrm
  refine hK.out _ _ HT.out (fun hS => ?_)
  clear hK K hrm htm
  refine wpAnyH_done (by kernel_rfl) ?_ _
  go_simp
  have HE := Lib.hid (show Done P M1 M2 M3 r ⟨(s1, s2), x⟩ w (.returned (.int .i64 0)) wm from ⟨by
    unfold Pm.doE
    rw [if_pos HOK.out, if_pos (by rw [HK.out]; decide)], by
    rw [Pm.doR_V HOK.out HK.out]
    exact ⟨HLW.out.box.turn HT.out HLW.out.p1, HRM.out, HLW.out.m.turns HT.out HLW.out.n12.symm, HLW.out.o.turns HT.out HLW.out.n13.symm, HLW.out.p1, HLW.out.p2, HLW.out.p3, HLW.out.n12, HLW.out.n13, HLW.out.n23⟩, (Turns.of_below HB.out).trans (HT.out.mono fun _ _ h => Or.inl (Or.inl h))⟩)
  clear hS HT HRM HLW HL
  go_wp2
  go_ret
  exact HE.out

set_option maxRecDepth 100000 in
set_option maxHeartbeats 4000000 in
theorem doM_any {P M1 M2 M3 : Nat} {r : Pm.Rs} (s : Qm.St) (x : Opp) (q : Option Addr) (c : Nat) (w : World) (h : Lay w P M1 M2 M3 r) (hs : Sz x) (ha : Pa w x q c) (hn : okNode s.1 s.2 = true) (hr : rightO x = true) (hk : x.k = 4) :
    Calls Try.prog 12 #[.pointer (some ⟨P, 0, none⟩), .agg #[.int .i64 s.1, .int .i64 s.2], .agg (opA x q c)] w (Done P M1 M2 M3 r ⟨s, x⟩ w) := by
  obtain ⟨s1, s2⟩ := s
  have HL := Lib.hid h
  have HSZ := Lib.hid hs
  have HS0 := Lib.hid ((AgAt.new w #[.int .i64 s1, .int .i64 s2] 32).kept ((Below.refl _ _).alloc (Nat.le_refl _) (.cells (opA x q c) 36)))
  have HO := Lib.hid (show AgAt ((w.alloc (.cells #[.int .i64 s1, .int .i64 s2] 32)).alloc (.cells (opA x q c) 36)) (w.heap.size + 1) (opA x q c) from by
    have := AgAt.new (w.alloc (.cells #[.int .i64 s1, .int .i64 s2] 32)) (opA x q c) 36
    rwa [World.size_alloc] at this)
  have HB := Lib.hid (((Below.refl w.heap.size w).alloc (Nat.le_refl _) (.cells #[.int .i64 s1, .int .i64 s2] 32)).alloc (by simp) (.cells (opA x q c) 36))
  have HP := Lib.hid (ha.kept HB.out)
  have HN := Lib.hid hn
  have HRT := Lib.hid hr
  have HOK := Lib.hid (show Pm.okW ⟨(s1, s2), x⟩ = true from by
    unfold Pm.okW
    rw [show okNode s1 s2 = true from hn, hr]
    rfl)
  have HK := Lib.hid hk
  have HWF := Lib.hid (show KWf 2 (Pm.nameM (x.nt, x.nr)) from wfM (okNode_wf (Pm.right_node hr (Or.inr (Or.inl hk)))).1 (okNode_wf (Pm.right_node hr (Or.inr (Or.inl hk)))).2)
  clear h hs ha hn hr hk
  go_enter Try.func12, Try.ntmps12
  go_wp2_with fail
  refine (ours_any _ (HL.out.kept HB.out)).mono ?_
  rintro e w1 ⟨rfl, rfl⟩
  go_wp2_with (refine wpList_load_ag stT (by kernel_rfl) _ rfl _ rfl (A := #[.int .i64 s1, .int .i64 s2]) rfl HS0.out ?_)
  refine (onode_any s1 s2 _).mono ?_
  rw [HN.out]
  rintro e w2 ⟨rfl, hb2⟩
  replace HP := Lib.hid (HP.out.kept hb2)
  replace HO := Lib.hid (HO.out.kept hb2)
  replace HS0 := Lib.hid (HS0.out.kept hb2)
  replace HB := Lib.hid (HB.out.trans (hb2.mono HB.out.size))
  clear hb2
  go_wp2_with (refine wpList_load_opG otP (by kernel_rfl) _ rfl _ rfl x q c HO.out ?_)
  refine (oright_any x q c _ HSZ.out HP.out).mono ?_
  rw [HRT.out]
  rintro e w3 ⟨rfl, hb3⟩
  replace HP := Lib.hid (HP.out.kept hb3)
  replace HO := Lib.hid (HO.out.kept hb3)
  replace HS0 := Lib.hid (HS0.out.kept hb3)
  replace HB := Lib.hid (HB.out.trans (hb3.mono HB.out.size))
  clear hb3
  have HLW := Lib.hid (HL.out.kept HB.out)
  have HLP := Lib.hid (show P < w.heap.size from (HL.out.box).lt)
  have HLM := Lib.hid (show M2 < w.heap.size from (HL.out.m).lt)
  have y0 : w3.cell? ⟨w.heap.size + 1, 0, none⟩ = some (.int .i64 4) := by rw [← HK.out]; exact HO.out.cell 0
  go_upto_region 8 with fail
  clear y0
  refine wp_region_held_drew (S := fun W => Turns (fun k => k = M2) w3 W) (by kernel_rfl) (Turns.of_below (Below.drew (Below.refl _ _))) (fun hS => ?_)
  refine wpAnyH_take (i := 0) (v := ?_) rfl (by kernel_rfl) (by kernel_rfl) (by kernel_rfl) (fun _ _ _ h => h) (Or.inl ⟨by kernel_rfl, ?_⟩) hS ?_
  rotate_left
  · intro W hSW
    go_simp
    all_goals with_reducible rfl
  refine wpAnyH_take (i := 1) (v := ?_) rfl (by kernel_rfl) (by kernel_rfl) (by kernel_rfl) (fun _ _ _ h => h) (Or.inl ⟨by kernel_rfl, ?_⟩) hS ?_
  rotate_left
  · intro W hSW
    go_simp
    all_goals with_reducible rfl
  refine wpAnyH_take (i := 2) (v := ?_) rfl (by kernel_rfl) (by kernel_rfl) (by kernel_rfl) (fun _ _ _ h => h) (Or.inl ⟨by kernel_rfl, ?_⟩) hS ?_
  rotate_left
  · intro W hSW
    go_simp
    all_goals with_reducible rfl
  refine wpAnyH_take (i := 3) (v := ?_) rfl (by kernel_rfl) (by kernel_rfl) (by kernel_rfl) (fun _ _ _ h => h) (Or.inl ⟨by kernel_rfl, ?_⟩) hS ?_
  rotate_left
  · intro W hSW
    have y0 := (HLW.out.box.turn hSW (HLW.out.p2)).cell 1
    have y0 : W.cell? ⟨P, 1, none⟩ = some (.map (some M2)) := y0
    go_simp
    all_goals with_reducible rfl
  go_simp
  refine wpAnyH_take (i := 4) (v := ?_) rfl (by kernel_rfl) (by kernel_rfl) (by kernel_rfl) (fun _ _ _ h => h) (Or.inl ⟨by kernel_rfl, ?_⟩) hS ?_
  rotate_left
  · intro W hSW
    go_simp
    all_goals with_reducible rfl
  go_simp
  refine wpAnyH_take (i := 5) (v := .agg #[.int .i64 x.nt, .int .i64 x.nr]) rfl (by kernel_rfl) (by kernel_rfl) (by kernel_rfl) (fun _ _ _ h => h) (Or.inl ⟨by kernel_rfl, fun W hSW => exec_load_part stT rfl rfl (HO.out.turn hSW (by have := HLM.out; omega)) [.int .i64 x.nt, .int .i64 x.nr] (by intro j v hv; match j, hv with | 0, hv => exact hv | 1, hv => exact hv) rfl⟩) hS ?_
  go_simp
  refine wpAnyH_take (i := 6) (v := .agg #[.int .i64 s1, .int .i64 s2]) rfl (by kernel_rfl) (by kernel_rfl) (by kernel_rfl) (fun _ _ _ h => h) (Or.inl ⟨by kernel_rfl, fun W hSW => exec_load_ag stT rfl rfl rfl (HS0.out.turn hSW (by have := HLM.out; omega))⟩) hS ?_
  refine wpAnyH_take (i := 7) (v := ?_) rfl (by kernel_rfl) (by kernel_rfl) (by kernel_rfl) (fun _ _ _ h => h) (Or.inl ⟨by kernel_rfl, ?_⟩) hS ?_
  rotate_left
  · intro W hSW
    go_simp
    all_goals with_reducible rfl
  refine wpAnyH_take (i := 8) (v := ?_) rfl (by kernel_rfl) (by kernel_rfl) (by kernel_rfl) (fun _ _ _ h => h) (Or.inl ⟨by kernel_rfl, ?_⟩) hS ?_
  rotate_left
  · intro W hSW
    have y0 : W.cell? ⟨w.heap.size + 1, 11, none⟩ = some (.bool x.on) := (HO.out.turn hSW (by have := HLM.out; omega)).cell 11
    go_simp
    all_goals with_reducible rfl
  go_simp
  refine wpAnyH_ready (rs := [9]) (by kernel_rfl) (by simp) ?_
  refine AllReadyH.cons rfl (fun K hK => ?_) AllReadyH.nil
  go_simp
  go_wp2_with ((go_at_call 30; refine (writeM_any M2 r.m (Pm.nameM (x.nt, x.nr)) (s1, s2) x.on _ (HLW.out.kept (Below.drew (Below.refl _ _))).m HWF.out).mono ?_; rintro e wm ⟨rfl, hrm, htm⟩))
  have HT := Lib.hid (show Turns (fun k => k = M2) w3 wm from (Turns.of_below (Below.drew (Below.refl _ _))).trans (htm.mono fun _ _ h => Or.inl h))
  have HRM := Lib.hid hrm
  refine hK.out _ _ HT.out (fun hS => ?_)
  clear hK K hrm htm
  refine wpAnyH_done (by kernel_rfl) ?_ _
  go_simp
  have HE := Lib.hid (show Done P M1 M2 M3 r ⟨(s1, s2), x⟩ w (.returned (.int .i64 0)) wm from ⟨by
    unfold Pm.doE
    rw [if_pos HOK.out, if_pos (by rw [HK.out]; decide)], by
    rw [Pm.doR_M HOK.out HK.out]
    exact ⟨HLW.out.box.turn HT.out HLW.out.p2, HLW.out.v.turns HT.out HLW.out.n12, HRM.out, HLW.out.o.turns HT.out HLW.out.n23.symm, HLW.out.p1, HLW.out.p2, HLW.out.p3, HLW.out.n12, HLW.out.n13, HLW.out.n23⟩, (Turns.of_below HB.out).trans (HT.out.mono fun _ _ h => Or.inl (Or.inr (Or.inl h)))⟩)
  clear hS HT HRM HLW HL
  go_wp2
  go_ret
  exact HE.out

set_option maxRecDepth 100000 in
set_option maxHeartbeats 4000000 in
theorem doO_any {P M1 M2 M3 : Nat} {r : Pm.Rs} (s : Qm.St) (x : Opp) (q : Option Addr) (c : Nat) (w : World) (h : Lay w P M1 M2 M3 r) (hs : Sz x) (ha : Pa w x q c) (hn : okNode s.1 s.2 = true) (hr : rightO x = true) (hk : x.k = 6) :
    Calls Try.prog 12 #[.pointer (some ⟨P, 0, none⟩), .agg #[.int .i64 s.1, .int .i64 s.2], .agg (opA x q c)] w (Done P M1 M2 M3 r ⟨s, x⟩ w) := by
  obtain ⟨s1, s2⟩ := s
  have HL := Lib.hid h
  have HSZ := Lib.hid hs
  have HS0 := Lib.hid ((AgAt.new w #[.int .i64 s1, .int .i64 s2] 32).kept ((Below.refl _ _).alloc (Nat.le_refl _) (.cells (opA x q c) 36)))
  have HO := Lib.hid (show AgAt ((w.alloc (.cells #[.int .i64 s1, .int .i64 s2] 32)).alloc (.cells (opA x q c) 36)) (w.heap.size + 1) (opA x q c) from by
    have := AgAt.new (w.alloc (.cells #[.int .i64 s1, .int .i64 s2] 32)) (opA x q c) 36
    rwa [World.size_alloc] at this)
  have HB := Lib.hid (((Below.refl w.heap.size w).alloc (Nat.le_refl _) (.cells #[.int .i64 s1, .int .i64 s2] 32)).alloc (by simp) (.cells (opA x q c) 36))
  have HP := Lib.hid (ha.kept HB.out)
  have HN := Lib.hid hn
  have HRT := Lib.hid hr
  have HOK := Lib.hid (show Pm.okW ⟨(s1, s2), x⟩ = true from by
    unfold Pm.okW
    rw [show okNode s1 s2 = true from hn, hr]
    rfl)
  have HK := Lib.hid hk
  have HWF := Lib.hid (show KWf 20 (Pm.nameO (x.nt, x.nr) x.path x.p) from wfO (okNode_wf (Pm.right_node hr (Or.inr (Or.inr hk)))).1 (okNode_wf (Pm.right_node hr (Or.inr (Or.inr hk)))).2 (i64wf (by have := Pm.right_prop hr (Or.inr hk); omega) (by have := Pm.right_prop hr (Or.inr hk); omega)) (fun s hs => okNode_wf (Pm.right_path hr hk s hs)) (by have := (Pm.right_QO hr hk).2; omega))
  clear h hs ha hn hr hk
  go_enter Try.func12, Try.ntmps12
  go_wp2_with fail
  refine (ours_any _ (HL.out.kept HB.out)).mono ?_
  rintro e w1 ⟨rfl, rfl⟩
  go_wp2_with (refine wpList_load_ag stT (by kernel_rfl) _ rfl _ rfl (A := #[.int .i64 s1, .int .i64 s2]) rfl HS0.out ?_)
  refine (onode_any s1 s2 _).mono ?_
  rw [HN.out]
  rintro e w2 ⟨rfl, hb2⟩
  replace HP := Lib.hid (HP.out.kept hb2)
  replace HO := Lib.hid (HO.out.kept hb2)
  replace HS0 := Lib.hid (HS0.out.kept hb2)
  replace HB := Lib.hid (HB.out.trans (hb2.mono HB.out.size))
  clear hb2
  go_wp2_with (refine wpList_load_opG otP (by kernel_rfl) _ rfl _ rfl x q c HO.out ?_)
  refine (oright_any x q c _ HSZ.out HP.out).mono ?_
  rw [HRT.out]
  rintro e w3 ⟨rfl, hb3⟩
  replace HP := Lib.hid (HP.out.kept hb3)
  replace HO := Lib.hid (HO.out.kept hb3)
  replace HS0 := Lib.hid (HS0.out.kept hb3)
  replace HB := Lib.hid (HB.out.trans (hb3.mono HB.out.size))
  clear hb3
  have HLW := Lib.hid (HL.out.kept HB.out)
  have HLP := Lib.hid (show P < w.heap.size from (HL.out.box).lt)
  have HLM := Lib.hid (show M3 < w.heap.size from (HL.out.o).lt)
  have y0 : w3.cell? ⟨w.heap.size + 1, 0, none⟩ = some (.int .i64 6) := by rw [← HK.out]; exact HO.out.cell 0
  go_upto_region 10 with fail
  clear y0
  refine wp_region_held_drew (S := fun W => Turns (fun k => k = M3) w3 W) (by kernel_rfl) (Turns.of_below (Below.drew (Below.refl _ _))) (fun hS => ?_)
  refine wpAnyH_take (i := 0) (v := ?_) rfl (by kernel_rfl) (by kernel_rfl) (by kernel_rfl) (fun _ _ _ h => h) (Or.inl ⟨by kernel_rfl, ?_⟩) hS ?_
  rotate_left
  · intro W hSW
    go_simp
    all_goals with_reducible rfl
  refine wpAnyH_take (i := 1) (v := ?_) rfl (by kernel_rfl) (by kernel_rfl) (by kernel_rfl) (fun _ _ _ h => h) (Or.inl ⟨by kernel_rfl, ?_⟩) hS ?_
  rotate_left
  · intro W hSW
    go_simp
    all_goals with_reducible rfl
  refine wpAnyH_take (i := 2) (v := ?_) rfl (by kernel_rfl) (by kernel_rfl) (by kernel_rfl) (fun _ _ _ h => h) (Or.inl ⟨by kernel_rfl, ?_⟩) hS ?_
  rotate_left
  · intro W hSW
    go_simp
    all_goals with_reducible rfl
  refine wpAnyH_take (i := 3) (v := ?_) rfl (by kernel_rfl) (by kernel_rfl) (by kernel_rfl) (fun _ _ _ h => h) (Or.inl ⟨by kernel_rfl, ?_⟩) hS ?_
  rotate_left
  · intro W hSW
    have y0 := (HLW.out.box.turn hSW (HLW.out.p3)).cell 2
    have y0 : W.cell? ⟨P, 2, none⟩ = some (.map (some M3)) := y0
    go_simp
    all_goals with_reducible rfl
  go_simp
  refine wpAnyH_take (i := 4) (v := ?_) rfl (by kernel_rfl) (by kernel_rfl) (by kernel_rfl) (fun _ _ _ h => h) (Or.inl ⟨by kernel_rfl, ?_⟩) hS ?_
  rotate_left
  · intro W hSW
    go_simp
    all_goals with_reducible rfl
  go_simp
  refine wpAnyH_take (i := 5) (v := .agg #[.int .i64 x.nt, .int .i64 x.nr]) rfl (by kernel_rfl) (by kernel_rfl) (by kernel_rfl) (fun _ _ _ h => h) (Or.inl ⟨by kernel_rfl, fun W hSW => exec_load_part stT rfl rfl (HO.out.turn hSW (by have := HLM.out; omega)) [.int .i64 x.nt, .int .i64 x.nr] (by intro j v hv; match j, hv with | 0, hv => exact hv | 1, hv => exact hv) rfl⟩) hS ?_
  refine wpAnyH_take (i := 6) (v := ?_) rfl (by kernel_rfl) (by kernel_rfl) (by kernel_rfl) (fun _ _ _ h => h) (Or.inl ⟨by kernel_rfl, ?_⟩) hS ?_
  rotate_left
  · intro W hSW
    go_simp
    all_goals with_reducible rfl
  refine wpAnyH_take (i := 7) (v := ?_) rfl (by kernel_rfl) (by kernel_rfl) (by kernel_rfl) (fun _ _ _ h => h) (Or.inl ⟨by kernel_rfl, ?_⟩) hS ?_
  rotate_left
  · intro W hSW
    have y0 : W.cell? ⟨w.heap.size + 1, 6, none⟩ = some (.slice q x.path.length c) := (HO.out.turn hSW (by have := HLM.out; omega)).cell 6
    go_simp
    all_goals with_reducible rfl
  refine wpAnyH_take (i := 8) (v := ?_) rfl (by kernel_rfl) (by kernel_rfl) (by kernel_rfl) (fun _ _ _ h => h) (Or.inl ⟨by kernel_rfl, ?_⟩) hS ?_
  rotate_left
  · intro W hSW
    go_simp
    all_goals with_reducible rfl
  go_simp
  refine wpAnyH_take (i := 9) (v := ?_) rfl (by kernel_rfl) (by kernel_rfl) (by kernel_rfl) (fun _ _ _ h => h) (Or.inl ⟨by kernel_rfl, ?_⟩) hS ?_
  rotate_left
  · intro W hSW
    have y0 : W.cell? ⟨w.heap.size + 1, 7, none⟩ = some (.int .i64 x.p) := (HO.out.turn hSW (by have := HLM.out; omega)).cell 7
    go_simp
    all_goals with_reducible rfl
  go_simp
  refine wpAnyH_take (i := 11) (v := .agg #[.int .i64 s1, .int .i64 s2]) rfl (by kernel_rfl) (by kernel_rfl) (by kernel_rfl) (fun _ _ _ h => h) (Or.inl ⟨by kernel_rfl, fun W hSW => exec_load_ag stT rfl rfl rfl (HS0.out.turn hSW (by have := HLM.out; omega))⟩) hS ?_
  refine wpAnyH_take (i := 12) (v := ?_) rfl (by kernel_rfl) (by kernel_rfl) (by kernel_rfl) (fun _ _ _ h => h) (Or.inl ⟨by kernel_rfl, ?_⟩) hS ?_
  rotate_left
  · intro W hSW
    go_simp
    all_goals with_reducible rfl
  go_simp
  refine wpAnyH_take (i := 13) (v := .agg #[.int .i64 x.vk, .int .i64 x.vn, .string x.vt]) rfl (by kernel_rfl) (by kernel_rfl) (by kernel_rfl) (fun _ _ _ h => h) (Or.inl ⟨by kernel_rfl, fun W hSW => exec_load_part vA rfl rfl (HO.out.turn hSW (by have := HLM.out; omega)) [.int .i64 x.vk, .int .i64 x.vn, .string x.vt] (by intro j v hv; match j, hv with | 0, hv => exact hv | 1, hv => exact hv | 2, hv => exact hv) rfl⟩) hS ?_
  go_simp
  refine wpAnyH_ready (rs := [10]) (by kernel_rfl) (by simp) ?_
  refine AllReadyH.cons rfl (fun K hK => ?_) AllReadyH.nil
  go_simp
  go_wp2_with ((go_at_call 32; refine (overOf_any (x.nt, x.nr) q x.path c x.p _ (HP.out.kept (Below.drew (Below.refl _ _))).rd).mono ?_; rintro e wn ⟨rfl, hbn⟩))
  have HBW := Lib.hid (show Below w3.heap.size w3 wn from (Below.drew (Below.refl _ _)).trans (hbn.mono (Nat.le_refl _)))
  refine hK.out _ _ (Turns.of_below HBW.out) (fun hS => ?_)
  clear hK K hbn
  refine wpAnyH_ready (rs := [14]) (by kernel_rfl) (by simp) ?_
  refine AllReadyH.cons rfl (fun K hK => ?_) AllReadyH.nil
  go_simp
  go_wp2_with ((go_at_call 31; refine (writeO_any M3 r.o (Pm.nameO (x.nt, x.nr) x.path x.p) (s1, s2) (x.vk, x.vn, x.vt) _ (HLW.out.kept HBW.out).o HWF.out).mono ?_; rintro e wm ⟨rfl, hrm, htm⟩))
  have HT := Lib.hid (show Turns (fun k => k = M3) w3 wm from (Turns.of_below HBW.out).trans (htm.mono fun _ _ h => Or.inl h))
  have HRM := Lib.hid hrm
  refine hK.out _ _ HT.out (fun hS => ?_)
  clear hK K hrm htm
  refine wpAnyH_done (by kernel_rfl) ?_ _
  go_simp
  have HE := Lib.hid (show Done P M1 M2 M3 r ⟨(s1, s2), x⟩ w (.returned (.int .i64 0)) wm from ⟨by
    unfold Pm.doE
    rw [if_pos HOK.out, if_pos (by rw [HK.out]; decide)], by
    rw [Pm.doR_O HOK.out HK.out]
    exact ⟨HLW.out.box.turn HT.out HLW.out.p3, HLW.out.v.turns HT.out HLW.out.n13, HLW.out.m.turns HT.out HLW.out.n23, HRM.out, HLW.out.p1, HLW.out.p2, HLW.out.p3, HLW.out.n12, HLW.out.n13, HLW.out.n23⟩, (Turns.of_below HB.out).trans (HT.out.mono fun _ _ h => Or.inl (Or.inr (Or.inr h)))⟩)
  clear hS HT HRM HLW HL
  go_wp2
  go_ret
  exact HE.out

theorem do_any {P M1 M2 M3 : Nat} {r : Pm.Rs} (s : Qm.St) (x : Opp) (q : Option Addr) (c : Nat) (w : World) (h : Lay w P M1 M2 M3 r) (hs : Sz x) (ha : Pa w x q c) :
    Calls Try.prog 12 #[.pointer (some ⟨P, 0, none⟩), .agg #[.int .i64 s.1, .int .i64 s.2], .agg (opA x q c)] w (Done P M1 M2 M3 r ⟨s, x⟩ w) := by
  cases hn : okNode s.1 s.2 with
  | false => exact do0_any s x q c w h hs ha hn
  | true =>
    cases hr : rightO x with
    | false => exact do1_any s x q c w h hs ha hn hr
    | true =>
      by_cases k3 : x.k = 3
      · exact doV_any s x q c w h hs ha hn hr k3
      by_cases k4 : x.k = 4
      · exact doM_any s x q c w h hs ha hn hr k4
      by_cases k6 : x.k = 6
      · exact doO_any s x q c w h hs ha hn hr k6
      exact doK_any s x q c w h hs ha hn hr k3 k4 k6

set_option maxRecDepth 100000 in
set_option maxHeartbeats 4000000 in
theorem do_no (v : Value) (s : Qm.St) (x : Opp) (q : Option Addr) (c : Nat) (w : World) (h : NoR w v) :
    Calls Try.prog 12 #[v, .agg #[.int .i64 s.1, .int .i64 s.2], .agg (opA x q c)] w fun e w' => e = .returned (.int .i64 1) ∧ Below w.heap.size w w' := by
  obtain ⟨s1, s2⟩ := s
  have HL := Lib.hid h
  have HB := Lib.hid (((Below.refl w.heap.size w).alloc (Nat.le_refl _) (.cells #[.int .i64 s1, .int .i64 s2] 32)).alloc (by simp) (.cells (opA x q c) 36))
  clear h
  go_enter Try.func12, Try.ntmps12
  go_wp2_with fail
  refine (ours_no _ _ (HL.out.kept HB.out)).mono ?_
  rintro e w1 ⟨rfl, rfl⟩
  go_wp2
  go_ret
  exact ⟨rfl, HB.out⟩
end Go.Proofs.Ytcenmkcencdlcaa
