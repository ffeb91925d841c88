/-
  THE LOOKS Marked, Over, Flag; what no registers, and those that nobody made, answer.
  No conditions but that words hold a name's numbers.
-/
import Derived.Test.YtcenmkcencdlcaaGO
namespace Go.Proofs.Ytcenmkcencdlcaa
open Go.RowKit

theorem results_two {t : TypeId} {n : Nat} {A : Array Value} {w : World} (V : AgT t n) {fn : Func} {p u : Tmp} (tmps : Array Value) {g : Nat} {v : Value} (h : fn.results = #[.cell p t, .tmp u]) (hn : A.size = n) (hv : AgAt w g A) (hp : tmps.getD p undef = .pointer (some ⟨g, 0, none⟩)) (hu : tmps.getD u undef = v) :
    (results fn tmps).run Try.prog w = .ok (.tuple #[.agg A, v]) w := by
  obtain ⟨T, hv⟩ := hv
  obtain ⟨d, hd⟩ := V.und
  rw [results_cell_tmp h, hp, hu]
  simp [asAddr, Result.andThen, run_loadVar_row w g T t _ (0, 0) _ hv hd rfl (by rw [hn]; exact V.size)]
theorem vl_eqB (p q : Pm.Vl) : ((p.1 == q.1) && ((p.2.1 == q.2.1) && (p.2.2.toList == q.2.2.toList))) = decide (p = q) := by
  have := vl_neB p q
  exact Bool.not_inj this
theorem run_build_vl0 (w : World) : (Instr.build 34 #[]).run Try.prog w = .ok (.agg #[.int .i64 0, .int .i64 0, .string ⟨#[]⟩]) w := by kernel_rfl

set_option maxRecDepth 100000 in
set_option maxHeartbeats 4000000 in
theorem value_no (v : Value) (n : Qm.St) (p : Int) (w : World) (h : NoR w v) :
    Calls Try.prog 16 #[v, .agg #[.int .i64 n.1, .int .i64 n.2], .int .i64 p] w fun e w' => e = .returned (.agg (vlA Pm.z0)) ∧ Below w.heap.size w w' := by
  obtain ⟨n1, n2⟩ := n
  have HL := Lib.hid h
  have HN0 := Lib.hid ((AgAt.new w #[.int .i64 n1, .int .i64 n2] 32).kept ((Below.refl _ _).alloc (Nat.le_refl _) (.cells #[.int .i64 0, .int .i64 0, .string ⟨#[]⟩] 34)))
  have HZ := Lib.hid (AgAt.new (w.alloc (.cells #[.int .i64 n1, .int .i64 n2] 32)) #[.int .i64 0, .int .i64 0, .string ⟨#[]⟩] 34)
  rw [World.size_alloc] at HZ
  have HB := Lib.hid (((Below.refl w.heap.size w).alloc (Nat.le_refl _) (.cells #[.int .i64 n1, .int .i64 n2] 32)).alloc (by simp) (.cells #[.int .i64 0, .int .i64 0, .string ⟨#[]⟩] 34))
  have hbv := run_build_vl0
  clear h
  go_enter Try.func16, Try.ntmps16
  go_wp2_with fail
  refine (ours_no _ _ (HL.out.kept HB.out)).mono ?_
  rintro e w1 ⟨rfl, rfl⟩
  go_wp2
  refine bodyPost_ret (results_ag vA _ rfl rfl HZ.out rfl) rfl ?_
  exact ⟨rfl, HB.out⟩

set_option maxRecDepth 100000 in
set_option maxHeartbeats 4000000 in
theorem marked_no (v : Value) (n : Qm.St) (w : World) (h : NoR w v) :
    Calls Try.prog 18 #[v, .agg #[.int .i64 n.1, .int .i64 n.2]] w fun e w' => e = .returned (.bool false) ∧ Below w.heap.size w w' := by
  obtain ⟨n1, n2⟩ := n
  have HL := Lib.hid h
  have HB := Lib.hid ((Below.refl w.heap.size w).alloc (Nat.le_refl _) (.cells #[.int .i64 n1, .int .i64 n2] 32))
  clear h
  go_enter Try.func18, Try.ntmps18
  go_upto_region 1 with fail
  generalize w.alloc (.cells #[.int .i64 n1, .int .i64 n2] 32) = wd at *
  refine wp_region_held_drew (S := fun W => Below wd.heap.size wd W) (by kernel_rfl) (Below.drew (Below.refl _ _)) (fun hS => ?_)
  refine wpAnyH_take (i := 0) (v := ?_) rfl (by kernel_rfl) (by kernel_rfl) (by kernel_rfl) (fun _ _ _ h => h) (Or.inl ⟨by kernel_rfl, ?_⟩) hS ?_
  rotate_left
  · intro W hSW
    go_simp
    all_goals with_reducible rfl
  go_simp
  refine wpAnyH_ready (rs := [1]) (by kernel_rfl) (by simp) ?_
  refine AllReadyH.cons rfl (fun K hK => ?_) AllReadyH.nil
  go_simp
  go_wp2_with ((go_at_call 26; refine (ours_no _ _ (HL.out.kept (HB.out.trans (hS.mono HB.out.size)))).mono ?_; rintro e wn ⟨rfl, rfl⟩))
  refine hK.out _ _ hS (fun hS => ?_)
  clear hK K
  refine wpAnyH_take (i := 2) (v := ?_) rfl (by kernel_rfl) (by kernel_rfl) (by kernel_rfl) (fun _ _ _ h => h) (Or.inl ⟨by kernel_rfl, ?_⟩) hS ?_
  rotate_left
  · intro W hSW
    go_simp
    all_goals with_reducible rfl
  go_simp
  refine wpAnyH_take (i := 3) (v := undef) rfl (by kernel_rfl) (by kernel_rfl) (by kernel_rfl) (fun _ _ _ h => h) (Or.inr ⟨by kernel_rfl, rfl⟩) hS ?_
  go_simp
  refine wpAnyH_take (i := 4) (v := undef) rfl (by kernel_rfl) (by kernel_rfl) (by kernel_rfl) (fun _ _ _ h => h) (Or.inr ⟨by kernel_rfl, rfl⟩) hS ?_
  go_simp
  refine wpAnyH_take (i := 5) (v := undef) rfl (by kernel_rfl) (by kernel_rfl) (by kernel_rfl) (fun _ _ _ h => h) (Or.inr ⟨by kernel_rfl, rfl⟩) hS ?_
  go_simp
  refine wpAnyH_take (i := 6) (v := undef) rfl (by kernel_rfl) (by kernel_rfl) (by kernel_rfl) (fun _ _ _ h => h) (Or.inr ⟨by kernel_rfl, rfl⟩) hS ?_
  go_simp
  refine wpAnyH_take (i := 7) (v := undef) rfl (by kernel_rfl) (by kernel_rfl) (by kernel_rfl) (fun _ _ _ h => h) (Or.inr ⟨by kernel_rfl, rfl⟩) hS ?_
  go_simp
  refine wpAnyH_take (i := 8) (v := undef) rfl (by kernel_rfl) (by kernel_rfl) (by kernel_rfl) (fun _ _ _ h => h) (Or.inr ⟨by kernel_rfl, rfl⟩) hS ?_
  refine wpAnyH_take (i := 9) (v := ?_) rfl (by kernel_rfl) (by kernel_rfl) (by kernel_rfl) (fun _ _ _ h => h) (Or.inl ⟨by kernel_rfl, ?_⟩) hS ?_
  rotate_left
  · intro W hSW
    go_simp
    all_goals with_reducible rfl
  refine wpAnyH_take (i := 10) (v := ?_) rfl (by kernel_rfl) (by kernel_rfl) (by kernel_rfl) (fun _ _ _ h => h) (Or.inl ⟨by kernel_rfl, ?_⟩) hS ?_
  rotate_left
  · intro W hSW
    go_simp
    all_goals with_reducible rfl
  go_simp
  refine wpAnyH_done (by kernel_rfl) ?_ _
  go_simp
  have HN := Lib.hid (HB.out.trans (hS.mono HB.out.size))
  clear hS
  go_wp2
  go_ret
  exact ⟨rfl, HN.out⟩

set_option maxRecDepth 100000 in
set_option maxHeartbeats 4000000 in
theorem marked_any {P M1 M2 M3 : Nat} {r : Pm.Rs} (n : Qm.St) (w : World) (h : Lay w P M1 M2 M3 r) (hx : KWf 2 (Pm.nameM n)) :
    Calls Try.prog 18 #[.pointer (some ⟨P, 0, none⟩), .agg #[.int .i64 n.1, .int .i64 n.2]] w fun e w' => e = .returned (.bool (r.m (Pm.nameM n)).2) ∧ Below w.heap.size w w' := by
  obtain ⟨n1, n2⟩ := n
  have HL := Lib.hid h
  have HN0 := Lib.hid (AgAt.new w #[.int .i64 n1, .int .i64 n2] 32)
  have HB := Lib.hid ((Below.refl w.heap.size w).alloc (Nat.le_refl _) (.cells #[.int .i64 n1, .int .i64 n2] 32))
  have HC := Lib.hid (fun W (hb : Below w.heap.size w W) => valueM_any M2 r.m (Pm.nameM (n1, n2)) W (h.m.below hb) hx)
  clear h hx
  generalize (r.m (Pm.nameM (n1, n2))).2 = u at *
  go_enter Try.func18, Try.ntmps18
  go_upto_region 1 with fail
  generalize w.alloc (.cells #[.int .i64 n1, .int .i64 n2] 32) = wd at *
  refine wp_region_held_drew (S := fun W => Below wd.heap.size wd W) (by kernel_rfl) (Below.drew (Below.refl _ _)) (fun hS => ?_)
  refine wpAnyH_take (i := 0) (v := ?_) rfl (by kernel_rfl) (by kernel_rfl) (by kernel_rfl) (fun _ _ _ h => h) (Or.inl ⟨by kernel_rfl, ?_⟩) hS ?_
  rotate_left
  · intro W hSW
    go_simp
    all_goals with_reducible rfl
  go_simp
  refine wpAnyH_ready (rs := [1]) (by kernel_rfl) (by simp) ?_
  refine AllReadyH.cons rfl (fun K hK => ?_) AllReadyH.nil
  go_simp
  go_wp2_with ((go_at_call 26; refine (ours_any _ (HL.out.kept (HB.out.trans (hS.mono HB.out.size)))).mono ?_; rintro e wn ⟨rfl, rfl⟩))
  refine hK.out _ _ hS (fun hS => ?_)
  clear hK K
  refine wpAnyH_take (i := 2) (v := ?_) rfl (by kernel_rfl) (by kernel_rfl) (by kernel_rfl) (fun _ _ _ h => h) (Or.inl ⟨by kernel_rfl, ?_⟩) hS ?_
  rotate_left
  · intro W hSW
    go_simp
    all_goals with_reducible rfl
  refine wpAnyH_take (i := 3) (v := ?_) rfl (by kernel_rfl) (by kernel_rfl) (by kernel_rfl) (fun _ _ _ h => h) (Or.inl ⟨by kernel_rfl, ?_⟩) hS ?_
  rotate_left
  · intro W hSW
    go_simp
    all_goals with_reducible rfl
  refine wpAnyH_take (i := 4) (v := ?_) rfl (by kernel_rfl) (by kernel_rfl) (by kernel_rfl) (fun _ _ _ h => h) (Or.inl ⟨by kernel_rfl, ?_⟩) hS ?_
  rotate_left
  · intro W hSW
    go_simp
    all_goals with_reducible rfl
  refine wpAnyH_take (i := 5) (v := ?_) rfl (by kernel_rfl) (by kernel_rfl) (by kernel_rfl) (fun _ _ _ h => h) (Or.inl ⟨by kernel_rfl, ?_⟩) hS ?_
  rotate_left
  · intro W hSW
    go_simp
    all_goals with_reducible rfl
  go_simp
  refine wpAnyH_take (i := 6) (v := ?_) rfl (by kernel_rfl) (by kernel_rfl) (by kernel_rfl) (fun _ _ _ h => h) (Or.inl ⟨by kernel_rfl, ?_⟩) hS ?_
  rotate_left
  · intro W hSW
    have y0 := (HL.out.kept (HB.out.trans (hSW.mono HB.out.size))).c1
    go_simp
    all_goals with_reducible rfl
  go_simp
  refine wpAnyH_take (i := 7) (v := .agg #[.int .i64 n1, .int .i64 n2]) rfl (by kernel_rfl) (by kernel_rfl) (by kernel_rfl) (fun _ _ _ h => h) (Or.inl ⟨by kernel_rfl, fun W hSW => exec_load_ag stT rfl rfl rfl (HN0.out.kept hSW)⟩) hS ?_
  go_simp
  refine wpAnyH_ready (rs := [8]) (by kernel_rfl) (by simp) ?_
  refine AllReadyH.cons rfl (fun K hK => ?_) AllReadyH.nil
  go_simp
  go_wp2_with ((go_at_call 38; refine (HC.out _ (HB.out.trans (hS.mono HB.out.size))).mono ?_; rintro e wn ⟨rfl, hbn⟩))
  refine hK.out _ _ (hS.trans (hbn.mono hS.size)) (fun hS => ?_)
  clear hK K hbn
  refine wpAnyH_take (i := 9) (v := ?_) rfl (by kernel_rfl) (by kernel_rfl) (by kernel_rfl) (fun _ _ _ h => h) (Or.inl ⟨by kernel_rfl, ?_⟩) hS ?_
  rotate_left
  · intro W hSW
    go_simp
    all_goals with_reducible rfl
  refine wpAnyH_take (i := 10) (v := ?_) rfl (by kernel_rfl) (by kernel_rfl) (by kernel_rfl) (fun _ _ _ h => h) (Or.inl ⟨by kernel_rfl, ?_⟩) hS ?_
  rotate_left
  · intro W hSW
    go_simp
    all_goals with_reducible rfl
  go_simp
  refine wpAnyH_done (by kernel_rfl) ?_ _
  go_simp
  have HN := Lib.hid (HB.out.trans (hS.mono HB.out.size))
  clear hS
  go_wp2
  go_ret
  exact ⟨rfl, HN.out⟩

set_option maxRecDepth 100000 in
set_option maxHeartbeats 4000000 in
theorem flag_any {P M1 M2 M3 : Nat} {r : Pm.Rs} (n : Qm.St) (p : Int) (w : World) (h : Lay w P M1 M2 M3 r) (hx : KWf 3 (Pm.nameV n p)) :
    Calls Try.prog 20 #[.pointer (some ⟨P, 0, none⟩), .agg #[.int .i64 n.1, .int .i64 n.2], .int .i64 p] w fun e w' => e = .returned (.bool (decide ((r.v (Pm.nameV n p)).2 = (4, 1, ⟨#[]⟩)))) ∧ Below w.heap.size w w' := by
  obtain ⟨n1, n2⟩ := n
  have HN0 := Lib.hid (AgAt.new w #[.int .i64 n1, .int .i64 n2] 32)
  have HB := Lib.hid ((Below.refl w.heap.size w).alloc (Nat.le_refl _) (.cells #[.int .i64 n1, .int .i64 n2] 32))
  have HC := Lib.hid (fun W (hb : Below w.heap.size w W) => value_any (n1, n2) p W (h.kept hb) hx)
  clear h
  generalize (r.v (Pm.nameV (n1, n2) p)).2 = u at *
  have hbl : ∀ W : World, (Instr.build 34 #[(0, .int .i64 4), (1, .int .i64 1)]).run Try.prog W = .ok (.agg #[.int .i64 4, .int .i64 1, .string ⟨#[]⟩]) W := fun W => by kernel_rfl
  go_enter Try.func20, Try.ntmps20
  go_wp2_with (refine wpList_load_ag stT rfl _ rfl _ rfl (A := #[.int .i64 n1, .int .i64 n2]) rfl HN0.out ?_)
  refine (HC.out _ HB.out).mono ?_
  rintro e w1 ⟨rfl, hb1⟩
  replace HB := Lib.hid (HB.out.trans (hb1.mono HB.out.size))
  clear hb1
  have HD := Lib.hid (vl_eqB u (4, 1, ⟨#[]⟩))
  obtain ⟨u1, u2, u3⟩ := u
  dsimp only at HD
  have he : (⟨#[]⟩ : ByteArray).toList = [] := by rw [ByteArray.toList_eq]
  rw [he] at HD
  go_wp2
  all_goals go_ret
  all_goals refine ⟨?_, HB.out⟩
  all_goals rw [← HD.out]
  all_goals simp [*]

set_option maxRecDepth 100000 in
set_option maxHeartbeats 4000000 in
theorem flag_no (v : Value) (n : Qm.St) (p : Int) (w : World) (h : NoR w v) :
    Calls Try.prog 20 #[v, .agg #[.int .i64 n.1, .int .i64 n.2], .int .i64 p] w fun e w' => e = .returned (.bool (decide (Pm.z0 = (4, 1, ⟨#[]⟩)))) ∧ Below w.heap.size w w' := by
  obtain ⟨n1, n2⟩ := n
  have HN0 := Lib.hid (AgAt.new w #[.int .i64 n1, .int .i64 n2] 32)
  have HB := Lib.hid ((Below.refl w.heap.size w).alloc (Nat.le_refl _) (.cells #[.int .i64 n1, .int .i64 n2] 32))
  have HC := Lib.hid (fun W (hb : Below w.heap.size w W) => value_no v (n1, n2) p W (h.kept hb))
  clear h
  generalize Pm.z0 = u at *
  have hbl : ∀ W : World, (Instr.build 34 #[(0, .int .i64 4), (1, .int .i64 1)]).run Try.prog W = .ok (.agg #[.int .i64 4, .int .i64 1, .string ⟨#[]⟩]) W := fun W => by kernel_rfl
  go_enter Try.func20, Try.ntmps20
  go_wp2_with (refine wpList_load_ag stT rfl _ rfl _ rfl (A := #[.int .i64 n1, .int .i64 n2]) rfl HN0.out ?_)
  refine (HC.out _ HB.out).mono ?_
  rintro e w1 ⟨rfl, hb1⟩
  replace HB := Lib.hid (HB.out.trans (hb1.mono HB.out.size))
  clear hb1
  have HD := Lib.hid (vl_eqB u (4, 1, ⟨#[]⟩))
  obtain ⟨u1, u2, u3⟩ := u
  dsimp only at HD
  have he : (⟨#[]⟩ : ByteArray).toList = [] := by rw [ByteArray.toList_eq]
  rw [he] at HD
  go_wp2
  all_goals go_ret
  all_goals refine ⟨?_, HB.out⟩
  all_goals rw [← HD.out]
  all_goals simp [*]

set_option maxRecDepth 100000 in
set_option maxHeartbeats 4000000 in
theorem over_no (v : Value) (n : Qm.St) (q : Option Addr) (l : List Qm.St) (c : Nat) (p : Int) (w : World) (h : NoR w v) :
    Calls Try.prog 14 #[v, .agg #[.int .i64 n.1, .int .i64 n.2], .slice q l.length c, .int .i64 p] w fun e w' => e = .returned (.tuple #[.agg (vlA Pm.z0), .bool false]) ∧ Below w.heap.size w w' := by
  obtain ⟨n1, n2⟩ := n
  have HL := Lib.hid h
  have HN0 := Lib.hid ((AgAt.new w #[.int .i64 n1, .int .i64 n2] 32).kept ((Below.refl _ _).alloc (Nat.le_refl _) (.cells #[.int .i64 0, .int .i64 0, .string ⟨#[]⟩] 34)))
  have HZ := Lib.hid (AgAt.new (w.alloc (.cells #[.int .i64 n1, .int .i64 n2] 32)) #[.int .i64 0, .int .i64 0, .string ⟨#[]⟩] 34)
  rw [World.size_alloc] at HZ
  have HB := Lib.hid (((Below.refl w.heap.size w).alloc (Nat.le_refl _) (.cells #[.int .i64 n1, .int .i64 n2] 32)).alloc (by simp) (.cells #[.int .i64 0, .int .i64 0, .string ⟨#[]⟩] 34))
  have hbv := run_build_vl0
  clear h
  go_enter Try.func14, Try.ntmps14
  go_wp2_with fail
  refine (ours_no _ _ (HL.out.kept HB.out)).mono ?_
  rintro e w1 ⟨rfl, rfl⟩
  go_wp2
  refine bodyPost_ret (results_two vA _ rfl rfl HZ.out rfl rfl) rfl ?_
  exact ⟨rfl, HB.out⟩

set_option maxRecDepth 100000 in
set_option maxHeartbeats 4000000 in
theorem over_any {P M1 M2 M3 : Nat} {r : Pm.Rs} (n : Qm.St) (q : Option Addr) (l : List Qm.St) (c : Nat) (p : Int) (w : World) (h : Lay w P M1 M2 M3 r) (hq : Rd w q (stCells l)) (hx : KWf 20 (Pm.nameO n l p)) :
    Calls Try.prog 14 #[.pointer (some ⟨P, 0, none⟩), .agg #[.int .i64 n.1, .int .i64 n.2], .slice q l.length c, .int .i64 p] w fun e w' => e = .returned (.tuple #[.agg (vlA (r.o (Pm.nameO n l p)).2), .bool ((r.o (Pm.nameO n l p)).2.1 != 0)]) ∧ Below w.heap.size w w' := by
  obtain ⟨n1, n2⟩ := n
  have HL := Lib.hid h
  have HN0 := Lib.hid ((AgAt.new w #[.int .i64 n1, .int .i64 n2] 32).kept ((Below.refl _ _).alloc (Nat.le_refl _) (.cells #[.int .i64 0, .int .i64 0, .string ⟨#[]⟩] 34)))
  have HZ := Lib.hid (AgAt.new (w.alloc (.cells #[.int .i64 n1, .int .i64 n2] 32)) #[.int .i64 0, .int .i64 0, .string ⟨#[]⟩] 34)
  rw [World.size_alloc] at HZ
  have HB := Lib.hid (((Below.refl w.heap.size w).alloc (Nat.le_refl _) (.cells #[.int .i64 n1, .int .i64 n2] 32)).alloc (by simp) (.cells #[.int .i64 0, .int .i64 0, .string ⟨#[]⟩] 34))
  have HC := Lib.hid (fun W (hb : Below w.heap.size w W) => valueO_any M3 r.o (Pm.nameO (n1, n2) l p) W (h.o.below hb) hx)
  have HO := Lib.hid (fun W (hb : Below w.heap.size w W) => overOf_any (n1, n2) q l c p W (hq.below hb))
  clear h hx hq
  generalize (r.o (Pm.nameO (n1, n2) l p)).2 = u at *
  generalize Pm.nameO (n1, n2) l p = nm at *
  obtain ⟨u1, u2, u3⟩ := u
  go_enter Try.func14, Try.ntmps14
  go_wp2_with fail
  refine (ours_any _ (HL.out.kept HB.out)).mono ?_
  rintro e w1 ⟨rfl, rfl⟩
  go_upto_region 3 with fail
  have HSZD := Lib.hid (show w.heap.size + 1 < ((w.alloc (.cells #[.int .i64 n1, .int .i64 n2] 32)).alloc (.cells #[.int .i64 0, .int .i64 0, .string ⟨#[]⟩] 34)).heap.size from by simp)
  generalize ((w.alloc (.cells #[.int .i64 n1, .int .i64 n2] 32)).alloc (.cells #[.int .i64 0, .int .i64 0, .string ⟨#[]⟩] 34)) = wd at *
  refine wp_region_held_drew (S := fun W => Below wd.heap.size wd W) (by kernel_rfl) (Below.drew (Below.refl _ _)) (fun hS => ?_)
  refine wpAnyH_take (i := 0) (v := ?_) rfl (by kernel_rfl) (by kernel_rfl) (by kernel_rfl) (fun _ _ _ h => h) (Or.inl ⟨by kernel_rfl, ?_⟩) hS ?_
  rotate_left
  · intro W hSW
    go_simp
    all_goals with_reducible rfl
  refine wpAnyH_take (i := 1) (v := ?_) rfl (by kernel_rfl) (by kernel_rfl) (by kernel_rfl) (fun _ _ _ h => h) (Or.inl ⟨by kernel_rfl, ?_⟩) hS ?_
  rotate_left
  · intro W hSW
    go_simp
    all_goals with_reducible rfl
  refine wpAnyH_take (i := 2) (v := ?_) rfl (by kernel_rfl) (by kernel_rfl) (by kernel_rfl) (fun _ _ _ h => h) (Or.inl ⟨by kernel_rfl, ?_⟩) hS ?_
  rotate_left
  · intro W hSW
    go_simp
    all_goals with_reducible rfl
  refine wpAnyH_take (i := 3) (v := ?_) rfl (by kernel_rfl) (by kernel_rfl) (by kernel_rfl) (fun _ _ _ h => h) (Or.inl ⟨by kernel_rfl, ?_⟩) hS ?_
  rotate_left
  · intro W hSW
    have y0 := (HL.out.kept (HB.out.trans (hSW.mono HB.out.size))).c2
    go_simp
    all_goals with_reducible rfl
  go_simp
  refine wpAnyH_take (i := 4) (v := .agg #[.int .i64 n1, .int .i64 n2]) rfl (by kernel_rfl) (by kernel_rfl) (by kernel_rfl) (fun _ _ _ h => h) (Or.inl ⟨by kernel_rfl, fun W hSW => exec_load_ag stT rfl rfl rfl (HN0.out.kept hSW)⟩) hS ?_
  refine wpAnyH_take (i := 5) (v := ?_) rfl (by kernel_rfl) (by kernel_rfl) (by kernel_rfl) (fun _ _ _ h => h) (Or.inl ⟨by kernel_rfl, ?_⟩) hS ?_
  rotate_left
  · intro W hSW
    go_simp
    all_goals with_reducible rfl
  refine wpAnyH_take (i := 6) (v := ?_) rfl (by kernel_rfl) (by kernel_rfl) (by kernel_rfl) (fun _ _ _ h => h) (Or.inl ⟨by kernel_rfl, ?_⟩) hS ?_
  rotate_left
  · intro W hSW
    go_simp
    all_goals with_reducible rfl
  go_simp
  refine wpAnyH_ready (rs := [7, 9]) (by kernel_rfl) (by simp) ?_
  refine AllReadyH.cons rfl (fun K hK => ?_) (AllReadyH.cons rfl (fun K hK => ?_) AllReadyH.nil)
  · go_simp
    go_wp2_with ((go_at_call 32; refine (HO.out _ (HB.out.trans (hS.mono HB.out.size))).mono ?_; rintro e wn0 ⟨rfl, hbn⟩))
    refine hK.out _ _ (hS.trans (hbn.mono hS.size)) (fun hS => ?_)
    clear hK K hbn
    refine wpAnyH_ready (rs := [8, 9]) (by kernel_rfl) (by simp) ?_
    refine AllReadyH.cons rfl (fun K hK => ?_) (AllReadyH.cons rfl (fun K hK => ?_) AllReadyH.nil)
    · go_simp
      go_wp2_with ((go_at_call 35; refine (HC.out _ (HB.out.trans (hS.mono HB.out.size))).mono ?_; rintro e wn1 ⟨rfl, hbn⟩))
      refine hK.out _ _ (hS.trans (hbn.mono hS.size)) (fun hS => ?_)
      clear hK K hbn
      refine wpAnyH_ready (rs := [9]) (by kernel_rfl) (by simp) ?_
      refine AllReadyH.cons rfl (fun K hK => ?_) AllReadyH.nil
      go_simp
      have hba := (Below.refl wn1.heap.size wn1).alloc (Nat.le_refl _) (.cells #[.int .i64 0, .int .i64 0, .string ⟨#[]⟩] 34)
      have HZ2 := Lib.hid (show AgAt _ wn1.heap.size _ from AgAt.new wn1 #[.int .i64 0, .int .i64 0, .string ⟨#[]⟩] 34)
      have HBK := Lib.hid (show wd.heap.size ≤ wn1.heap.size from hS.size)
      refine hK.out _ _ (hS.trans (hba.mono hS.size)) (fun hS => ?_)
      clear hK K hba
      refine wpAnyH_ready (rs := [10]) (by kernel_rfl) (by simp) ?_
      refine AllReadyH.cons rfl (fun K hK => ?_) AllReadyH.nil
      refine step_of (by kernel_rfl) ?_
      refine wp_store_ag vA _ _ rfl (wn1.heap.size) rfl _ HZ2.out rfl rfl rfl (vl_one (u1, u2, u3)) ?_
      intro w5 hv5 hko5 hsz5 hbn5
      have HV5 := Lib.hid hv5
      refine hK.out _ _ (hbn5 _ _ hS HBK.out) (fun hS => ?_)
      clear hK K hv5 hko5 hsz5 hbn5 HZ2
      refine wpAnyH_done (by kernel_rfl) ?_ _
      go_simp
      have HB5 := Lib.hid hS
      replace HZ := Lib.hid (HZ.out.kept hS)
      replace HB := Lib.hid (HB.out.trans (hS.mono HB.out.size))
      have HBL := Lib.hid (show w.heap.size + 1 < wd.heap.size from HSZD.out)
      clear hS
      go_upto_region 4 with fail
      refine wp_region_held_drew (S := fun W => Turns (fun k => k = w.heap.size + 1) w5 W) (by kernel_rfl) (Turns.of_below (Below.drew (Below.refl _ _))) (fun hS => ?_)
      refine wpAnyH_take (i := 0) (v := .agg #[.int .i64 u1, .int .i64 u2, .string u3]) rfl (by kernel_rfl) (by kernel_rfl) (by kernel_rfl) (fun _ _ _ h => h) (Or.inl ⟨by kernel_rfl, fun W hSW => exec_load_ag vA rfl rfl rfl (HV5.out.turn hSW (by have := HBL.out; have := HBK.out; omega))⟩) hS ?_
      refine wpAnyH_take (i := 1) (v := ?_) rfl (by kernel_rfl) (by kernel_rfl) (by kernel_rfl) (fun _ _ _ h => h) (Or.inl ⟨by kernel_rfl, ?_⟩) hS ?_
      rotate_left
      · intro W hSW
        go_simp
        all_goals with_reducible rfl
      refine wpAnyH_take (i := 2) (v := ?_) rfl (by kernel_rfl) (by kernel_rfl) (by kernel_rfl) (fun _ _ _ h => h) (Or.inl ⟨by kernel_rfl, ?_⟩) hS ?_
      rotate_left
      · intro W hSW
        have y0 : W.cell? ⟨(wn1.heap.size), 0, none⟩ = some (.int .i64 u1) := (HV5.out.turn hSW (by have := HBL.out; have := HBK.out; omega)).cell 0
        go_simp
        all_goals with_reducible rfl
      refine wpAnyH_take (i := 3) (v := ?_) rfl (by kernel_rfl) (by kernel_rfl) (by kernel_rfl) (fun _ _ _ h => h) (Or.inl ⟨by kernel_rfl, ?_⟩) hS ?_
      rotate_left
      · intro W hSW
        go_simp
        all_goals with_reducible rfl
      go_simp
      refine wpAnyH_ready (rs := [4]) (by kernel_rfl) (by simp) ?_
      refine AllReadyH.cons rfl (fun K hK => ?_) AllReadyH.nil
      have HZ2 := Lib.hid (HZ.out.kept (Below.drew (Below.refl _ _)))
      refine step_of (by kernel_rfl) ?_
      refine wp_store_ag vA _ _ rfl (w.heap.size + 1) rfl _ HZ2.out rfl rfl rfl (vl_one (u1, u2, u3)) ?_
      intro w6 hv6 hko6 hsz6 hbn6
      have HB6 := Lib.hid (hbn6 _ _ (HB.out.trans ((Below.drew (Below.refl _ _)).mono HB.out.size)) (by omega))
      have HV6 := Lib.hid hv6
      refine hK.out _ _ (hS.trans ((stored_turns hko6 hsz6 hbn6).mono fun _ _ h => Or.inl h)) (fun hS => ?_)
      clear hK K hv6 hko6 hsz6 hbn6
      refine wpAnyH_take (i := 5) (v := ?_) rfl (by kernel_rfl) (by kernel_rfl) (by kernel_rfl) (fun _ _ _ h => h) (Or.inl ⟨by kernel_rfl, ?_⟩) hS ?_
      rotate_left
      · intro W hSW
        go_simp
        all_goals with_reducible rfl
      go_simp
      refine wpAnyH_done (by kernel_rfl) ?_ _
      go_simp
      clear hS
      go_wp2
      refine bodyPost_ret (results_two vA _ rfl rfl HV6.out rfl rfl) rfl ?_
      exact ⟨rfl, HB6.out⟩
    · go_simp
      have hba := (Below.refl wn0.heap.size wn0).alloc (Nat.le_refl _) (.cells #[.int .i64 0, .int .i64 0, .string ⟨#[]⟩] 34)
      have HZ2 := Lib.hid (show AgAt _ wn0.heap.size _ from AgAt.new wn0 #[.int .i64 0, .int .i64 0, .string ⟨#[]⟩] 34)
      have HBK := Lib.hid (show wd.heap.size ≤ wn0.heap.size from hS.size)
      refine hK.out _ _ (hS.trans (hba.mono hS.size)) (fun hS => ?_)
      clear hK K hba
      refine wpAnyH_ready (rs := [8]) (by kernel_rfl) (by simp) ?_
      refine AllReadyH.cons rfl (fun K hK => ?_) AllReadyH.nil
      go_simp
      go_wp2_with ((go_at_call 35; refine (HC.out _ (HB.out.trans (hS.mono HB.out.size))).mono ?_; rintro e wn2 ⟨rfl, hbn⟩))
      refine hK.out _ _ (hS.trans (hbn.mono hS.size)) (fun hS => ?_)
      replace HZ2 := Lib.hid (HZ2.out.kept hbn)
      clear hK K hbn
      refine wpAnyH_ready (rs := [10]) (by kernel_rfl) (by simp) ?_
      refine AllReadyH.cons rfl (fun K hK => ?_) AllReadyH.nil
      refine step_of (by kernel_rfl) ?_
      refine wp_store_ag vA _ _ rfl (wn0.heap.size) rfl _ HZ2.out rfl rfl rfl (vl_one (u1, u2, u3)) ?_
      intro w5 hv5 hko5 hsz5 hbn5
      have HV5 := Lib.hid hv5
      refine hK.out _ _ (hbn5 _ _ hS HBK.out) (fun hS => ?_)
      clear hK K hv5 hko5 hsz5 hbn5 HZ2
      refine wpAnyH_done (by kernel_rfl) ?_ _
      go_simp
      have HB5 := Lib.hid hS
      replace HZ := Lib.hid (HZ.out.kept hS)
      replace HB := Lib.hid (HB.out.trans (hS.mono HB.out.size))
      have HBL := Lib.hid (show w.heap.size + 1 < wd.heap.size from HSZD.out)
      clear hS
      go_upto_region 4 with fail
      refine wp_region_held_drew (S := fun W => Turns (fun k => k = w.heap.size + 1) w5 W) (by kernel_rfl) (Turns.of_below (Below.drew (Below.refl _ _))) (fun hS => ?_)
      refine wpAnyH_take (i := 0) (v := .agg #[.int .i64 u1, .int .i64 u2, .string u3]) rfl (by kernel_rfl) (by kernel_rfl) (by kernel_rfl) (fun _ _ _ h => h) (Or.inl ⟨by kernel_rfl, fun W hSW => exec_load_ag vA rfl rfl rfl (HV5.out.turn hSW (by have := HBL.out; have := HBK.out; omega))⟩) hS ?_
      refine wpAnyH_take (i := 1) (v := ?_) rfl (by kernel_rfl) (by kernel_rfl) (by kernel_rfl) (fun _ _ _ h => h) (Or.inl ⟨by kernel_rfl, ?_⟩) hS ?_
      rotate_left
      · intro W hSW
        go_simp
        all_goals with_reducible rfl
      refine wpAnyH_take (i := 2) (v := ?_) rfl (by kernel_rfl) (by kernel_rfl) (by kernel_rfl) (fun _ _ _ h => h) (Or.inl ⟨by kernel_rfl, ?_⟩) hS ?_
      rotate_left
      · intro W hSW
        have y0 : W.cell? ⟨(wn0.heap.size), 0, none⟩ = some (.int .i64 u1) := (HV5.out.turn hSW (by have := HBL.out; have := HBK.out; omega)).cell 0
        go_simp
        all_goals with_reducible rfl
      refine wpAnyH_take (i := 3) (v := ?_) rfl (by kernel_rfl) (by kernel_rfl) (by kernel_rfl) (fun _ _ _ h => h) (Or.inl ⟨by kernel_rfl, ?_⟩) hS ?_
      rotate_left
      · intro W hSW
        go_simp
        all_goals with_reducible rfl
      go_simp
      refine wpAnyH_ready (rs := [4]) (by kernel_rfl) (by simp) ?_
      refine AllReadyH.cons rfl (fun K hK => ?_) AllReadyH.nil
      have HZ2 := Lib.hid (HZ.out.kept (Below.drew (Below.refl _ _)))
      refine step_of (by kernel_rfl) ?_
      refine wp_store_ag vA _ _ rfl (w.heap.size + 1) rfl _ HZ2.out rfl rfl rfl (vl_one (u1, u2, u3)) ?_
      intro w6 hv6 hko6 hsz6 hbn6
      have HB6 := Lib.hid (hbn6 _ _ (HB.out.trans ((Below.drew (Below.refl _ _)).mono HB.out.size)) (by omega))
      have HV6 := Lib.hid hv6
      refine hK.out _ _ (hS.trans ((stored_turns hko6 hsz6 hbn6).mono fun _ _ h => Or.inl h)) (fun hS => ?_)
      clear hK K hv6 hko6 hsz6 hbn6
      refine wpAnyH_take (i := 5) (v := ?_) rfl (by kernel_rfl) (by kernel_rfl) (by kernel_rfl) (fun _ _ _ h => h) (Or.inl ⟨by kernel_rfl, ?_⟩) hS ?_
      rotate_left
      · intro W hSW
        go_simp
        all_goals with_reducible rfl
      go_simp
      refine wpAnyH_done (by kernel_rfl) ?_ _
      go_simp
      clear hS
      go_wp2
      refine bodyPost_ret (results_two vA _ rfl rfl HV6.out rfl rfl) rfl ?_
      exact ⟨rfl, HB6.out⟩
  · go_simp
    have hba := (Below.refl wd.drew.heap.size wd.drew).alloc (Nat.le_refl _) (.cells #[.int .i64 0, .int .i64 0, .string ⟨#[]⟩] 34)
    have HZ2 := Lib.hid (show AgAt _ wd.heap.size _ from AgAt.new wd.drew #[.int .i64 0, .int .i64 0, .string ⟨#[]⟩] 34)
    have HBK := Lib.hid (show wd.heap.size ≤ wd.heap.size from hS.size)
    refine hK.out _ _ (hS.trans (hba.mono hS.size)) (fun hS => ?_)
    clear hK K hba
    refine wpAnyH_ready (rs := [7]) (by kernel_rfl) (by simp) ?_
    refine AllReadyH.cons rfl (fun K hK => ?_) AllReadyH.nil
    go_simp
    go_wp2_with ((go_at_call 32; refine (HO.out _ (HB.out.trans (hS.mono HB.out.size))).mono ?_; rintro e wn1 ⟨rfl, hbn⟩))
    refine hK.out _ _ (hS.trans (hbn.mono hS.size)) (fun hS => ?_)
    replace HZ2 := Lib.hid (HZ2.out.kept hbn)
    clear hK K hbn
    refine wpAnyH_ready (rs := [8]) (by kernel_rfl) (by simp) ?_
    refine AllReadyH.cons rfl (fun K hK => ?_) AllReadyH.nil
    go_simp
    go_wp2_with ((go_at_call 35; refine (HC.out _ (HB.out.trans (hS.mono HB.out.size))).mono ?_; rintro e wn2 ⟨rfl, hbn⟩))
    refine hK.out _ _ (hS.trans (hbn.mono hS.size)) (fun hS => ?_)
    replace HZ2 := Lib.hid (HZ2.out.kept hbn)
    clear hK K hbn
    refine wpAnyH_ready (rs := [10]) (by kernel_rfl) (by simp) ?_
    refine AllReadyH.cons rfl (fun K hK => ?_) AllReadyH.nil
    refine step_of (by kernel_rfl) ?_
    refine wp_store_ag vA _ _ rfl (wd.heap.size) rfl _ HZ2.out rfl rfl rfl (vl_one (u1, u2, u3)) ?_
    intro w5 hv5 hko5 hsz5 hbn5
    have HV5 := Lib.hid hv5
    refine hK.out _ _ (hbn5 _ _ hS HBK.out) (fun hS => ?_)
    clear hK K hv5 hko5 hsz5 hbn5 HZ2
    refine wpAnyH_done (by kernel_rfl) ?_ _
    go_simp
    have HB5 := Lib.hid hS
    replace HZ := Lib.hid (HZ.out.kept hS)
    replace HB := Lib.hid (HB.out.trans (hS.mono HB.out.size))
    have HBL := Lib.hid (show w.heap.size + 1 < wd.heap.size from HSZD.out)
    clear hS
    go_upto_region 4 with fail
    refine wp_region_held_drew (S := fun W => Turns (fun k => k = w.heap.size + 1) w5 W) (by kernel_rfl) (Turns.of_below (Below.drew (Below.refl _ _))) (fun hS => ?_)
    refine wpAnyH_take (i := 0) (v := .agg #[.int .i64 u1, .int .i64 u2, .string u3]) rfl (by kernel_rfl) (by kernel_rfl) (by kernel_rfl) (fun _ _ _ h => h) (Or.inl ⟨by kernel_rfl, fun W hSW => exec_load_ag vA rfl rfl rfl (HV5.out.turn hSW (by have := HBL.out; have := HBK.out; omega))⟩) hS ?_
    refine wpAnyH_take (i := 1) (v := ?_) rfl (by kernel_rfl) (by kernel_rfl) (by kernel_rfl) (fun _ _ _ h => h) (Or.inl ⟨by kernel_rfl, ?_⟩) hS ?_
    rotate_left
    · intro W hSW
      go_simp
      all_goals with_reducible rfl
    refine wpAnyH_take (i := 2) (v := ?_) rfl (by kernel_rfl) (by kernel_rfl) (by kernel_rfl) (fun _ _ _ h => h) (Or.inl ⟨by kernel_rfl, ?_⟩) hS ?_
    rotate_left
    · intro W hSW
      have y0 : W.cell? ⟨(wd.heap.size), 0, none⟩ = some (.int .i64 u1) := (HV5.out.turn hSW (by have := HBL.out; have := HBK.out; omega)).cell 0
      go_simp
      all_goals with_reducible rfl
    refine wpAnyH_take (i := 3) (v := ?_) rfl (by kernel_rfl) (by kernel_rfl) (by kernel_rfl) (fun _ _ _ h => h) (Or.inl ⟨by kernel_rfl, ?_⟩) hS ?_
    rotate_left
    · intro W hSW
      go_simp
      all_goals with_reducible rfl
    go_simp
    refine wpAnyH_ready (rs := [4]) (by kernel_rfl) (by simp) ?_
    refine AllReadyH.cons rfl (fun K hK => ?_) AllReadyH.nil
    have HZ2 := Lib.hid (HZ.out.kept (Below.drew (Below.refl _ _)))
    refine step_of (by kernel_rfl) ?_
    refine wp_store_ag vA _ _ rfl (w.heap.size + 1) rfl _ HZ2.out rfl rfl rfl (vl_one (u1, u2, u3)) ?_
    intro w6 hv6 hko6 hsz6 hbn6
    have HB6 := Lib.hid (hbn6 _ _ (HB.out.trans ((Below.drew (Below.refl _ _)).mono HB.out.size)) (by omega))
    have HV6 := Lib.hid hv6
    refine hK.out _ _ (hS.trans ((stored_turns hko6 hsz6 hbn6).mono fun _ _ h => Or.inl h)) (fun hS => ?_)
    clear hK K hv6 hko6 hsz6 hbn6
    refine wpAnyH_take (i := 5) (v := ?_) rfl (by kernel_rfl) (by kernel_rfl) (by kernel_rfl) (fun _ _ _ h => h) (Or.inl ⟨by kernel_rfl, ?_⟩) hS ?_
    rotate_left
    · intro W hSW
      go_simp
      all_goals with_reducible rfl
    go_simp
    refine wpAnyH_done (by kernel_rfl) ?_ _
    go_simp
    clear hS
    go_wp2
    refine bodyPost_ret (results_two vA _ rfl rfl HV6.out rfl rfl) rfl ?_
    exact ⟨rfl, HB6.out⟩
end Go.Proofs.Ytcenmkcencdlcaa
