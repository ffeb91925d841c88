/-
  THE DOCUMENT's REGISTERS in memory: same, last, Value, Marked, Over, Flag.
  No conditions but sizes.
-/
import Derived.Test.YtcenmkcencdlcaaGP
import Derived.Test.YtcenmkcencdlcaaRoSame
import Derived.Test.YtcenmkcencdlcaaQCmp
namespace Go.Proofs.Ytcenmkcencdlcaa
open Go.RowKit

theorem exec_neq_b {c : Act} {o : Oper} {x y : Operand} {ty : TypeId} (ho : o.op = .binOp .neq 4 x y ty) {w : World} (p : Bool) (hx : c.eval x = .bool p) (hy : c.eval y = .bool p) :
    (execOp c.eval o).run Try.prog w = .ok (.value (.bool false)) w := by
  unfold execOp
  simp only [ho, hx, hy]
  go_simp
/-- the document's registers: their box, the row of all that was written; what of memory is theirs -/
structure RefL (w : World) (R : Nat) (L : List WrE) (p : Option Addr) (c B : Nat) (F : Nat → Prop) : Prop where
  box : AgAt w R #[.slice p L.length c]
  own : w.ownsRow B 40 14 (.slice p L.length c) L.length (L.flatMap ceW)
  pa : ∀ e ∈ L, Pa w e.w.x e.q e.c
  fR : F R
  fo : ∀ k, (Value.slice p L.length c).ownBlock = some k → F k ∧ k ≠ R
  fp : ∀ e ∈ L, 0 < e.w.x.path.length → ∀ a, e.q = some a → F a.block ∧ a.block ≠ R ∧ (Value.slice p L.length c).ownBlock ≠ some a.block
  lt : ∀ k, F k → k < w.heap.size
section
variable {w w' : World} {R : Nat} {L : List WrE} {p : Option Addr} {c B : Nat} {F G : Nat → Prop}
theorem Pa.turn {x : Opp} {q : Option Addr} {c : Nat} (h : Pa w x q c) (ht : Turns G w w') (hd : 0 < x.path.length → ∀ a, q = some a → ¬ G a.block) : Pa w' x q c := by
  refine ⟨fun h0 => ?_, h.nil, h.cap⟩
  obtain ⟨b, o, rfl, hc⟩ := h.rd h0
  rw [stCells_length] at h0
  exact ⟨b, o, rfl, fun i u hu => ht.cell (hc i u hu) (show ¬ G b from hd (by omega) ⟨b, o, Option.none⟩ rfl)⟩
theorem RefL.turns (h : RefL w R L p c B F) (ht : Turns G w w') (hd : ∀ k, F k → ¬ G k) : RefL w' R L p c B F :=
  ⟨h.box.turn ht (hd _ h.fR), ht.own h.own (fun g hg => hd _ (h.fo g hg).1), fun e he => (h.pa e he).turn ht fun h0 a ha => hd _ (h.fp e he h0 a ha).1, h.fR, h.fo, h.fp, fun k hk => Nat.lt_of_lt_of_le (h.lt k hk) ht.size⟩
theorem RefL.kept (h : RefL w R L p c B F) (hb : Below w.heap.size w w') : RefL w' R L p c B F := h.turns (G := fun _ => False) (Turns.of_below hb) fun _ _ h => h
theorem RefL.rd (h : RefL w R L p c B F) : Rd w p (L.flatMap ceW) := (own_rdK h.own).1
theorem RefL.c0 (h : RefL w R L p c B F) : w.cell? ⟨R, 0, none⟩ = some (.slice p L.length c) := h.box.cell 0
end

/-- the value of an op, made zero -/
theorem wpList_store_op3 {ops : Array Oper} {rest : List Oper} {o : Oper} {a : Act} {w : World} {Q : Exit → Act → World → Prop} (hgd : o.guard = none) (x y : Operand) (ho : o.op = .store 34 x y) (b : Nat) (hx : a.eval x = .pointer (some ⟨b, 8, none⟩)) (hy : a.eval y = .agg #[.int .i64 0, .int .i64 0, .string ⟨#[]⟩])
    {z : Opp} {q : Option Addr} {c : Nat} (hv : OpAt w b z q c)
    (h : ∀ w' : World, OpAt w' b { z with vk := 0, vn := 0, vt := ⟨#[]⟩ } q c → (∀ k, k ≠ b → w'.heap[k]? = w.heap[k]?) → w'.heap.size = w.heap.size → (∀ B w0, Below B w0 w → B ≤ b → Below B w0 w') → wpList Try.prog ops Q rest (a.put o.dst undef) w') : wpList Try.prog ops Q (o :: rest) a w := by
  obtain ⟨T, hg⟩ := hv
  have hth : w.there b 8 3 := fun j hj => ⟨by rw [cell_of_row w b _ _ T (0, 0) hg]; simp [opA, opL]; omega, frozen_of_row w b _ _ T hg⟩
  have e1 : w.setCells b 8 [.int .i64 0, .int .i64 0, .string ⟨#[]⟩] = ((w.setCell ⟨b, 8, none⟩ (.int .i64 0)).setCell ⟨b, 9, none⟩ (.int .i64 0)).setCell ⟨b, 10, none⟩ (.string ⟨#[]⟩) := rfl
  refine wpList_store_mid hgd 34 x y ho b 8 #[.int .i64 0, .int .i64 0, .string ⟨#[]⟩] hx hy hth (by kernel_rfl) (vl_one Pm.z0) ?_
  have e2 : (#[.int .i64 0, .int .i64 0, .string ⟨#[]⟩] : Array Value).toList = [.int .i64 0, .int .i64 0, .string ⟨#[]⟩] := rfl
  rw [e2, e1]
  refine h _ (OpAt.setV ⟨T, hg⟩ 0 0 ⟨#[]⟩) (fun k hk => ?_) (by simp) (fun B w0 hb hB => ?_)
  · rw [heap_setCell_other _ _ k _ hk, heap_setCell_other _ _ k _ hk, heap_setCell_other _ _ k _ hk]
  · exact hb.trans ⟨rfl, rfl, rfl, by simp, fun k hk => by rw [heap_setCell_other _ _ k _ (by show k ≠ b; omega), heap_setCell_other _ _ k _ (by show k ≠ b; omega), heap_setCell_other _ _ k _ (by show k ≠ b; omega)]⟩
theorem wpList_store_on {ops : Array Oper} {rest : List Oper} {o : Oper} {a : Act} {w : World} {Q : Exit → Act → World → Prop} (hgd : o.guard = none) (x y : Operand) (ho : o.op = .store 4 x y) (b : Nat) (hx : a.eval x = .pointer (some ⟨b, 11, none⟩)) (hy : a.eval y = .bool false)
    {z : Opp} {q : Option Addr} {c : Nat} (hv : OpAt w b z q c)
    (h : ∀ w' : World, OpAt w' b { z with on := false } q c → (∀ k, k ≠ b → w'.heap[k]? = w.heap[k]?) → w'.heap.size = w.heap.size → (∀ B w0, Below B w0 w → B ≤ b → Below B w0 w') → wpList Try.prog ops Q rest (a.put o.dst undef) w') : wpList Try.prog ops Q (o :: rest) a w := by
  have hc : w.cell? ⟨b, 11, none⟩ = some (.bool z.on) := by rw [hv.cell]; rfl
  have hf : w.frozen? ⟨b, 11, none⟩ = false := hv.free 11
  refine wpList_plain hgd fun K hK => ?_
  have hk : K (a.put o.dst undef) (w.setCell ⟨b, 11, none⟩ (.bool false)) := by
    refine hK _ _ (h _ (hv.setOn false) (fun k hk => heap_setCell_other _ _ k _ hk) (by simp) (fun B w0 hb hB => ?_))
    exact hb.trans ⟨rfl, rfl, rfl, by simp, fun k hk => heap_setCell_other _ _ k _ (by show k ≠ b; omega)⟩
  unfold Oper.wp execOp
  simp only [ho, hx, hy]
  go_simp
  exact hk

set_option maxRecDepth 100000 in
set_option maxHeartbeats 8000000 in
theorem same12_any (x y : Opp) (q r : Option Addr) (c d : Nat) (w : World) (hs : x.path.length ≤ 4611686018427387904) (ha : Pa w x q c) (hb : Pa w y r d) :
    Calls Try.prog 57 #[.agg (opA x q c), .agg (opA y r d)] w fun e w' => e = .returned (.bool (Pm.sameN x y)) ∧ Below w.heap.size w w' := by
  have HS := Lib.hid hs
  have HA := Lib.hid ha
  have HBB := Lib.hid hb
  have HX := Lib.hid ((OpAt.new w x q c 38).kept ((Below.refl _ _).alloc (Nat.le_refl _) (.cells (opA y r d) 38)))
  have HY := Lib.hid (OpAt.new (w.alloc (.cells (opA x q c) 38)) y r d 38)
  rw [World.size_alloc] at HY
  have HB := Lib.hid (((Below.refl w.heap.size w).alloc (Nat.le_refl _) (.cells (opA x q c) 38)).alloc (by simp) (.cells (opA y r d) 38))
  have hbv : ∀ W : World, (Instr.build 34 #[]).run Try.prog W = .ok (.agg #[.int .i64 0, .int .i64 0, .string ⟨#[]⟩]) W := run_build_vl0
  clear hs ha hb
  go_enter Try.func57, Try.ntmps57
  go_upto_region 1 with fail
  generalize (w.alloc (.cells (opA x q c) 38)).alloc (.cells (opA y r d) 38) = wd at *
  go_upto_region 5 with (first | (refine wpList_store_op3 rfl _ _ rfl (w.heap.size) rfl rfl HX.out ?_; intro wa hxa hka hsa hba) | (refine wpList_store_op3 rfl _ _ rfl (w.heap.size + 1) rfl rfl (HY.out.block (hka _ (Nat.succ_ne_self _))) ?_; intro wb hyb hkb hsb hbb) | (refine wpList_store_on rfl _ _ rfl (w.heap.size) rfl rfl (hxa.block (hkb _ (by omega))) ?_; intro wc hxc hkc hsc hbc) | (refine wpList_store_on rfl _ _ rfl (w.heap.size + 1) rfl rfl (hyb.block (hkc _ (Nat.succ_ne_self _))) ?_; intro we hye hke hse hbe))
  have hb5 := hbe _ _ (hbc _ _ (hbb _ _ (hba _ _ HB.out (Nat.le_refl _)) (Nat.le_succ _)) (Nat.le_refl _)) (Nat.le_succ _)
  have HX5 := Lib.hid (show OpAt we w.heap.size (Pm.bare x) q c from hxc.block (hke _ (by omega)))
  have HY5 := Lib.hid (show OpAt we (w.heap.size + 1) (Pm.bare y) r d from hye)
  have HB5 := Lib.hid hb5
  have HPX := Lib.hid (show Pa we (Pm.bare x) q c from ⟨(HA.out.kept hb5).rd, HA.out.nil, HA.out.cap⟩)
  have HPY := Lib.hid (show Pa we (Pm.bare y) r d from ⟨(HBB.out.kept hb5).rd, HBB.out.nil, HBB.out.cap⟩)
  clear hb5 hxa hka hsa hba hyb hkb hsb hbb hxc hkc hsc hbc hye hke hse hbe HX HY HB HA HBB hbv
  go_wp2_with (first | (refine wpList_load_op otR rfl _ rfl (w.heap.size) rfl (Pm.bare x) q c HX5.out ?_) | (refine wpList_load_op otR rfl _ rfl (w.heap.size + 1) rfl (Pm.bare y) r d HY5.out ?_))
  refine (rsame_any (Pm.bare x) (Pm.bare y) q r c d we HS.out HPX.out HPY.out).mono ?_
  rintro e wf ⟨rfl, hbf⟩
  have HN := Lib.hid (HB5.out.trans (hbf.mono HB5.out.size))
  clear hbf
  go_wp2
  go_ret
  exact ⟨rfl, HN.out⟩
end Go.Proofs.Ytcenmkcencdlcaa
