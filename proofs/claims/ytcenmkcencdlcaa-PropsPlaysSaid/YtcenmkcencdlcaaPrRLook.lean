/-
  THE DOCUMENT's LOOKS: Value, Marked, Over, Flag.
  No conditions but sizes.
-/
import Derived.Test.YtcenmkcencdlcaaPrRLast
import Derived.Test.YtcenmkcencdlcaaPrLink
namespace Go.Proofs.Ytcenmkcencdlcaa
open Go.RowKit

/-- a list of bearable size -/
structure LSz (L : List WrE) : Prop where
  len : L.length ≤ 200
  each : ∀ e ∈ L, e.w.x.path.length ≤ 200
theorem field_op6 (y : Opp) (q : Option Addr) (c : Nat) (W : World) : (Instr.field 38 (.agg (opA y q c)) 6).run Try.prog W = .ok (.agg #[.int .i64 y.vk, .int .i64 y.vn, .string y.vt]) W := by kernel_rfl
theorem field_op7 (y : Opp) (q : Option Addr) (c : Nat) (W : World) : (Instr.field 38 (.agg (opA y q c)) 7).run Try.prog W = .ok (.bool y.on) W := by kernel_rfl
theorem build_qV (n1 n2 p : Int) (W : World) : (Instr.build 38 #[(0, .int .i64 3), (1, .agg #[.int .i64 n1, .int .i64 n2]), (5, .int .i64 p)]).run Try.prog W = .ok (.agg (opA (Pm.qV (n1, n2) p) none 0)) W := by kernel_rfl
theorem build_qM (n1 n2 : Int) (W : World) : (Instr.build 38 #[(0, .int .i64 4), (1, .agg #[.int .i64 n1, .int .i64 n2])]).run Try.prog W = .ok (.agg (opA (Pm.qM (n1, n2)) none 0)) W := by kernel_rfl
theorem build_qO (n1 n2 p : Int) (q : Option Addr) (l : List Qm.St) (c : Nat) (W : World) : (Instr.build 38 #[(0, .int .i64 6), (1, .agg #[.int .i64 n1, .int .i64 n2]), (4, .slice q l.length c), (5, .int .i64 p)]).run Try.prog W = .ok (.agg (opA (Pm.qO (n1, n2) l p) q c)) W := by kernel_rfl
section
variable {R : Nat} {L : List WrE} {pr : Option Addr} {cr B : Nat} {F : Nat → Prop}

set_option maxRecDepth 100000 in
set_option maxHeartbeats 4000000 in
theorem rvalue_any (n : Qm.St) (p : Int) (w : World) (h : RefL w R L pr cr B F) (hz : LSz L) :
    Calls Try.prog 17 #[.pointer (some ⟨R, 0, none⟩), .agg #[.int .i64 n.1, .int .i64 n.2], .int .i64 p] w fun e w' => e = .returned (.agg (vlA (Pm.val (Pm.lastR (pl L) (Pm.qV n p)).2))) ∧ Below w.heap.size w w' := by
  obtain ⟨n1, n2⟩ := n
  have HN0 := Lib.hid ((AgAt.new w #[.int .i64 n1, .int .i64 n2] 32).kept ((Below.refl _ _).alloc (Nat.le_refl _) (.cells #[.int .i64 0, .int .i64 0, .string ⟨#[]⟩] 34)))
  have HZ := Lib.hid (AgAt.new (w.alloc (.cells #[.int .i64 n1, .int .i64 n2] 32)) #[.int .i64 0, .int .i64 0, .string ⟨#[]⟩] 34)
  rw [World.size_alloc] at HZ
  have HB := Lib.hid (((Below.refl w.heap.size w).alloc (Nat.le_refl _) (.cells #[.int .i64 n1, .int .i64 n2] 32)).alloc (by simp) (.cells #[.int .i64 0, .int .i64 0, .string ⟨#[]⟩] 34))
  have HC := Lib.hid (fun W (hb : Below w.heap.size w W) => last12_any (Pm.qV (n1, n2) p) none 0 W (h.kept hb) (Pa.none W _ rfl) hz.len hz.each)
  have hbq := build_qV n1 n2 p
  clear h hz
  generalize (Pm.lastR (pl L) (Pm.qV (n1, n2) p)).2 = y at *
  go_enter Try.func17, Try.ntmps17
  go_wp2_with (refine wpList_load_ag stT rfl _ rfl _ rfl (A := #[.int .i64 n1, .int .i64 n2]) rfl HN0.out ?_)
  refine (HC.out _ HB.out).mono ?_
  rintro e w1 ⟨q', c', rfl, hb1⟩
  have HZ1 := Lib.hid (HZ.out.kept hb1)
  have HB1 := Lib.hid (HB.out.trans (hb1.mono HB.out.size))
  have hfd := field_op6 y q' c'
  clear hb1 hbq
  go_wp2_with (refine wpList_store_ag vA rfl _ _ rfl _ rfl _ HZ1.out rfl rfl rfl (vl_one (y.vk, y.vn, y.vt)) ?_; intro w2 hv2 hk2 hs2 hb2)
  refine bodyPost_ret (results_ag vA _ rfl rfl hv2 rfl) rfl ?_
  exact ⟨rfl, hb2 _ _ HB1.out (by omega)⟩

set_option maxRecDepth 100000 in
set_option maxHeartbeats 4000000 in
theorem rmarked_any (n : Qm.St) (w : World) (h : RefL w R L pr cr B F) (hz : LSz L) :
    Calls Try.prog 19 #[.pointer (some ⟨R, 0, none⟩), .agg #[.int .i64 n.1, .int .i64 n.2]] w fun e w' => e = .returned (.bool (Pm.lastR (pl L) (Pm.qM n)).2.on) ∧ Below w.heap.size w w' := by
  obtain ⟨n1, n2⟩ := n
  have HN0 := Lib.hid (AgAt.new w #[.int .i64 n1, .int .i64 n2] 32)
  have HB := Lib.hid ((Below.refl w.heap.size w).alloc (Nat.le_refl _) (.cells #[.int .i64 n1, .int .i64 n2] 32))
  have HC := Lib.hid (fun W (hb : Below w.heap.size w W) => last12_any (Pm.qM (n1, n2)) none 0 W (h.kept hb) (Pa.none W _ rfl) hz.len hz.each)
  have hbq := build_qM n1 n2
  clear h hz
  generalize (Pm.lastR (pl L) (Pm.qM (n1, n2))).2 = y at *
  go_enter Try.func19, Try.ntmps19
  go_wp2_with (refine wpList_load_ag stT rfl _ rfl _ rfl (A := #[.int .i64 n1, .int .i64 n2]) rfl HN0.out ?_)
  refine (HC.out _ HB.out).mono ?_
  rintro e w1 ⟨q', c', rfl, hb1⟩
  have HB1 := Lib.hid (HB.out.trans (hb1.mono HB.out.size))
  have hfd := field_op7 y q' c'
  clear hb1 hbq
  go_wp2
  go_ret
  exact ⟨rfl, HB1.out⟩

set_option maxRecDepth 100000 in
set_option maxHeartbeats 4000000 in
theorem rflag_any (n : Qm.St) (p : Int) (w : World) (h : RefL w R L pr cr B F) (hz : LSz L) :
    Calls Try.prog 21 #[.pointer (some ⟨R, 0, none⟩), .agg #[.int .i64 n.1, .int .i64 n.2], .int .i64 p] w fun e w' => e = .returned (.bool (decide (Pm.val (Pm.lastR (pl L) (Pm.qV n p)).2 = (4, 1, ⟨#[]⟩)))) ∧ Below w.heap.size w w' := by
  obtain ⟨n1, n2⟩ := n
  have HN0 := Lib.hid (AgAt.new w #[.int .i64 n1, .int .i64 n2] 32)
  have HB := Lib.hid ((Below.refl w.heap.size w).alloc (Nat.le_refl _) (.cells #[.int .i64 n1, .int .i64 n2] 32))
  have HC := Lib.hid (fun W (hb : Below w.heap.size w W) => rvalue_any (n1, n2) p W (h.kept hb) hz)
  clear h hz
  generalize Pm.val (Pm.lastR (pl L) (Pm.qV (n1, n2) p)).2 = u at *
  have hbl : ∀ W : World, (Instr.build 34 #[(0, .int .i64 4), (1, .int .i64 1)]).run Try.prog W = .ok (.agg #[.int .i64 4, .int .i64 1, .string ⟨#[]⟩]) W := fun W => by kernel_rfl
  go_enter Try.func21, Try.ntmps21
  go_wp2_with (refine wpList_load_ag stT rfl _ rfl _ rfl (A := #[.int .i64 n1, .int .i64 n2]) rfl HN0.out ?_)
  refine (HC.out _ HB.out).mono ?_
  rintro e w1 ⟨rfl, hb1⟩
  replace HB := Lib.hid (HB.out.trans (hb1.mono HB.out.size))
  clear hb1
  have HD := Lib.hid (vl_eqB u (4, 1, ⟨#[]⟩))
  obtain ⟨u1, u2, u3⟩ := u
  dsimp only at HD
  have he : (⟨#[]⟩ : ByteArray).toList = [] := by rw [ByteArray.toList_eq]
  rw [he] at HD
  go_wp2
  all_goals go_ret
  all_goals refine ⟨?_, HB.out⟩
  all_goals rw [← HD.out]
  all_goals simp [*]

set_option maxRecDepth 100000 in
set_option maxHeartbeats 4000000 in
theorem rover_any (n : Qm.St) (q : Option Addr) (l : List Qm.St) (c : Nat) (p : Int) (w : World) (h : RefL w R L pr cr B F) (hz : LSz L) (hq : Rd w q (stCells l)) (hn : q = none → c = 0) (hc : l.length ≤ c) :
    Calls Try.prog 15 #[.pointer (some ⟨R, 0, none⟩), .agg #[.int .i64 n.1, .int .i64 n.2], .slice q l.length c, .int .i64 p] w fun e w' => e = .returned (.tuple #[.agg (vlA (Pm.val (Pm.lastR (pl L) (Pm.qO n l p)).2)), .bool (!decide (Pm.val (Pm.lastR (pl L) (Pm.qO n l p)).2 = Pm.z0))]) ∧ Below w.heap.size w w' := by
  obtain ⟨n1, n2⟩ := n
  have HN0 := Lib.hid ((AgAt.new w #[.int .i64 n1, .int .i64 n2] 32).kept ((Below.refl _ _).alloc (Nat.le_refl _) (.cells #[.int .i64 0, .int .i64 0, .string ⟨#[]⟩] 34)))
  have HZ := Lib.hid (AgAt.new (w.alloc (.cells #[.int .i64 n1, .int .i64 n2] 32)) #[.int .i64 0, .int .i64 0, .string ⟨#[]⟩] 34)
  rw [World.size_alloc] at HZ
  have HB := Lib.hid (((Below.refl w.heap.size w).alloc (Nat.le_refl _) (.cells #[.int .i64 n1, .int .i64 n2] 32)).alloc (by simp) (.cells #[.int .i64 0, .int .i64 0, .string ⟨#[]⟩] 34))
  have HC := Lib.hid (fun W (hb : Below w.heap.size w W) => last12_any (Pm.qO (n1, n2) l p) q c W (h.kept hb) ⟨hq.below hb, hn, hc⟩ hz.len hz.each)
  have hbq := build_qO n1 n2 p q l c
  clear h hz hq hn hc
  generalize (Pm.lastR (pl L) (Pm.qO (n1, n2) l p)).2 = y at *
  go_enter Try.func15, Try.ntmps15
  go_wp2_with (refine wpList_load_ag stT rfl _ rfl _ rfl (A := #[.int .i64 n1, .int .i64 n2]) rfl HN0.out ?_)
  refine (HC.out _ HB.out).mono ?_
  rintro e w1 ⟨q', c', rfl, hb1⟩
  have HZ1 := Lib.hid (HZ.out.kept hb1)
  have HB1 := Lib.hid (HB.out.trans (hb1.mono HB.out.size))
  have hfd := field_op6 y q' c'
  have HA10 := Lib.hid (AgAt.new w1 #[.int .i64 0, .int .i64 0, .string ⟨#[]⟩] 34)
  have HBA := Lib.hid ((Below.refl w1.heap.size w1).alloc (Nat.le_refl _) (.cells #[.int .i64 0, .int .i64 0, .string ⟨#[]⟩] 34))
  have HS1 := Lib.hid (show w.heap.size + 1 < w1.heap.size from HZ1.out.lt)
  clear hb1 hbq
  go_upto_region 2 with (refine wpList_store_ag vA rfl _ _ rfl _ rfl _ HA10.out rfl rfl rfl (vl_one (y.vk, y.vn, y.vt)) ?_; intro w2 hv2 hk2 hs2 hb2)
  have HV2 := Lib.hid hv2
  have HZ2 := Lib.hid ((HZ1.out.kept HBA.out).block (hk2 _ (by have := HS1.out; omega)))
  have HB2 := Lib.hid (hb2 _ _ (HB1.out.trans (HBA.out.mono HB1.out.size)) (by have := HS1.out; omega))
  clear hv2 hk2 hs2 hb2 HZ1 HA10 HBA hfd
  refine wp_region_held_drew (S := fun W => Turns (fun k => k = w.heap.size + 1) w2 W) (by kernel_rfl) (Turns.of_below (Below.drew (Below.refl _ _))) (fun hS => ?_)
  refine wpAnyH_take (i := 0) (v := .agg (vlA (Pm.val y))) rfl (by kernel_rfl) (by kernel_rfl) (by kernel_rfl) (fun _ _ _ h => h) (Or.inl ⟨by kernel_rfl, fun W hSW => exec_load_ag vA rfl rfl rfl (HV2.out.turn hSW (by have := HS1.out; omega))⟩) hS ?_
  go_simp
  refine wpAnyH_take (i := 1) (v := .agg (vlA (Pm.val y))) rfl (by kernel_rfl) (by kernel_rfl) (by kernel_rfl) (fun _ _ _ h => h) (Or.inl ⟨by kernel_rfl, fun W hSW => exec_load_ag vA rfl rfl rfl (HV2.out.turn hSW (by have := HS1.out; omega))⟩) hS ?_
  refine wpAnyH_take (i := 2) (v := ?_) rfl (by kernel_rfl) (by kernel_rfl) (by kernel_rfl) (fun _ _ _ h => h) (Or.inl ⟨by kernel_rfl, ?_⟩) hS ?_
  rotate_left
  · intro W hSW
    have hbv := run_build_vl0
    go_simp
    all_goals with_reducible rfl
  go_simp
  refine wpAnyH_take (i := 3) (v := .bool (!decide (Pm.val y = Pm.z0))) rfl (by kernel_rfl) (by kernel_rfl) (by kernel_rfl) (fun _ _ _ h => h) (Or.inl ⟨by kernel_rfl, fun W hSW => exec_neq_vl rfl (Pm.val y) Pm.z0 rfl rfl⟩) hS ?_
  go_simp
  refine wpAnyH_ready (rs := [4]) (by kernel_rfl) (by simp) ?_
  refine AllReadyH.cons rfl (fun K hK => ?_) AllReadyH.nil
  have HZ3 := Lib.hid (HZ2.out.kept (Below.drew (Below.refl _ _)))
  refine step_of (by kernel_rfl) ?_
  refine wp_store_ag vA _ _ rfl (w.heap.size + 1) rfl _ HZ3.out rfl rfl rfl (vl_one (Pm.val y)) ?_
  intro w6 hv6 hko6 hsz6 hbn6
  have HB6 := Lib.hid (hbn6 _ _ (HB2.out.trans ((Below.drew (Below.refl _ _)).mono HB2.out.size)) (by omega))
  have HV6 := Lib.hid hv6
  refine hK.out _ _ (hS.trans ((stored_turns hko6 hsz6 hbn6).mono fun _ _ h => Or.inl h)) (fun hS => ?_)
  clear hK K hv6 hko6 hsz6 hbn6
  refine wpAnyH_take (i := 5) (v := ?_) rfl (by kernel_rfl) (by kernel_rfl) (by kernel_rfl) (fun _ _ _ h => h) (Or.inl ⟨by kernel_rfl, ?_⟩) hS ?_
  rotate_left
  · intro W hSW
    go_simp
    all_goals with_reducible rfl
  go_simp
  refine wpAnyH_done (by kernel_rfl) ?_ _
  go_simp
  clear hS
  go_wp2
  refine bodyPost_ret (results_two vA _ rfl rfl HV6.out rfl rfl) rfl ?_
  exact ⟨rfl, HB6.out⟩
end
end Go.Proofs.Ytcenmkcencdlcaa
