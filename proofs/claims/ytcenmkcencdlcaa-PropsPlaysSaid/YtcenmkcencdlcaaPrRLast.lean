/-
  THE DOCUMENT's last: what stands in the register that an op writes.
  No conditions but sizes.
-/
import Derived.Test.YtcenmkcencdlcaaPrRef
namespace Go.Proofs.Ytcenmkcencdlcaa
open Go.RowKit

theorem wpList_exec {P : Program} {ops : Array Oper} {rest : List Oper} {o : Oper} {a : Act} {w : World} {Q : Exit → Act → World → Prop} {v : Value} (hgd : o.guard = none) (hr : (execOp a.eval o).run P w = .ok (.value v) w) (h : wpList P ops Q rest (a.put o.dst v) w) : wpList P ops Q (o :: rest) a w := by
  refine wpList_plain hgd fun K hK => ?_
  unfold Oper.wp
  rw [hr]
  exact hK _ _ h
theorem exec_gtr {c : Act} {o : Oper} {x y : Operand} {ty : TypeId} (ho : o.op = .binOp .gtr 3 x y ty) {w : World} (n : Int) (hx : c.eval x = .int .i64 n) (hy : c.eval y = .int .i64 0) {b : Bool} (h : decide (0 < n) = b) :
    (execOp c.eval o).run Try.prog w = .ok (.value (.bool b)) w := by
  subst h
  unfold execOp
  simp only [ho, hx, hy]
  go_simp
theorem qcmp_gt (a b : Qm.St) : decide (0 < qcmpS a.1 a.2 b.1 b.2) = decide (Qm.ltS b a) := by
  unfold qcmpS Qm.ltS
  by_cases e1 : a.1 = b.1
  · by_cases e2 : a.2 = b.2
    · simp [e1, e2]
    · by_cases e3 : a.2 < b.2
      · have : ¬ b.2 < a.2 := by omega
        simp [e1, e2, e3, this]
      · have : b.2 < a.2 := by omega
        simp [e1, e2, e3, this]
  · have e1' : ¬ b.1 = a.1 := fun h => e1 h.symm
    by_cases e3 : a.1 < b.1
    · have : ¬ b.1 < a.1 := by omega
      simp [e1, e1', e3, this]
    · have : b.1 < a.1 := by omega
      simp [e1, e3, this]
theorem run_build_op0 (w : World) : (Instr.build 38 #[]).run Try.prog w = .ok (.agg (opA Opp.zero none 0)) w := by kernel_rfl
theorem run_build_st0 (w : World) : (Instr.build 32 #[]).run Try.prog w = .ok (.agg #[.int .i64 0, .int .i64 0]) w := by kernel_rfl

set_option maxRecDepth 100000 in
set_option maxHeartbeats 8000000 in
theorem last12_any {R : Nat} {L : List WrE} {p : Option Addr} {c B : Nat} {F : Nat → Prop} (x : Opp) (q : Option Addr) (cx : Nat) (w : World) (h : RefL w R L p c B F) (ha : Pa w x q cx) (hl : L.length ≤ 200) (hs : ∀ e ∈ L, e.w.x.path.length ≤ 200) :
    Calls Try.prog 36 #[.pointer (some ⟨R, 0, none⟩), .agg (opA x q cx)] w fun e w' => ∃ q' c', e = .returned (.agg (opA (Pm.lastR (pl L) x).2 q' c')) ∧ Below w.heap.size w w' := by
  have HL := Lib.hid h
  have HSM0 := Lib.hid (fun (e : WrE) (he : e ∈ L) (W : World) (hb : Below w.heap.size w W) => same12_any e.w.x x e.q q e.c cx W (by have := hs e he; omega) ((h.pa e he).kept hb) (ha.kept hb))
  have h1 : ∀ (w : World) (o : Obj), Below w.heap.size w (w.alloc o) := fun w o => (Below.refl _ _).alloc (Nat.le_refl _) _
  have HX0 := Lib.hid (AgAt.new w (opA x q cx) 38)
  have HR0 := Lib.hid (AgAt.new (w.alloc (.cells (opA x q cx) 38)) (opA Opp.zero none 0) 38)
  have HO0 := Lib.hid (AgAt.new ((w.alloc (.cells (opA x q cx) 38)).alloc (.cells (opA Opp.zero none 0) 38)) (opA Opp.zero none 0) 38)
  have HB3 := Lib.hid (((h1 w (.cells (opA x q cx) 38)).alloc (by simp) (.cells (opA Opp.zero none 0) 38)).alloc (by simp; omega) (.cells (opA Opp.zero none 0) 38))
  rw [World.size_alloc] at HR0
  rw [World.size_alloc, World.size_alloc] at HO0
  replace HX0 := Lib.hid ((HX0.out.kept (h1 _ (.cells (opA Opp.zero none 0) 38))).kept (h1 _ (.cells (opA Opp.zero none 0) 38)))
  replace HR0 := Lib.hid (HR0.out.kept (h1 _ (.cells (opA Opp.zero none 0) 38)))
  have hbo := run_build_op0
  have hbs := run_build_st0
  clear h ha hs h1
  go_enter Try.func36, Try.ntmps36
  go_upto_region 2 with (refine wpList_store_ag opT12 rfl _ _ rfl _ rfl _ HO0.out rfl rfl rfl (opA_one Opp.zero none 0) ?_; intro wa hva hka hsa hba)
  have HXA := Lib.hid (HX0.out.block (hka _ (by omega)))
  have HRA := Lib.hid (HR0.out.block (hka _ (by omega)))
  have HOA := Lib.hid hva
  have HBA := Lib.hid (hba _ _ HB3.out (by omega))
  have HSZ := Lib.hid (show w.heap.size + 2 < wa.heap.size from hva.lt)
  clear hva hka hsa hba HX0 HR0 HO0 HB3
  have HBS := Lib.hid ((Below.refl wa.heap.size wa).alloc (Nat.le_refl _) (.cells #[.int .i64 0, .int .i64 0] 32))
  have HSA := Lib.hid (AgAt.new wa #[.int .i64 0, .int .i64 0] 32)
  go_upto_region 3 with fail
  replace HXA := Lib.hid (HXA.out.kept HBS.out)
  replace HRA := Lib.hid (HRA.out.kept HBS.out)
  replace HOA := Lib.hid (HOA.out.kept HBS.out)
  replace HBA := Lib.hid (HBA.out.trans (HBS.out.mono HBA.out.size))
  have HB6 := Lib.hid (show w.heap.size ≤ wa.heap.size from by have := HSZ.out; omega)
  have HB6b := Lib.hid (show w.heap.size + 2 < wa.heap.size from HSZ.out)
  clear HBS hbo hbs
  obtain ⟨b6, hb6⟩ : ∃ b, b = wa.heap.size := ⟨_, rfl⟩
  rw [← hb6] at HSA HB6 HB6b
  simp only [← hb6]
  generalize wa.alloc (.cells #[.int .i64 0, .int .i64 0] 32) = w4 at *
  clear hb6 HSZ
  go_wp2
  go_loopw [7] (fun i wr => ∃ (k : Nat) (ys : Qm.St × Opp) (qo : Option Addr) (co : Nat), k ≤ L.length ∧ i = .int .i64 (k : Int) ∧ ((pl L).take k).foldl (Pm.lastS x) ((0, 0), Opp.zero) = ys ∧ AgAt wr (w.heap.size + 2) (opA ys.2 qo co) ∧ AgAt wr b6 #[.int .i64 ys.1.1, .int .i64 ys.1.2] ∧ AgAt wr w.heap.size (opA x q cx) ∧ AgAt wr (w.heap.size + 1) (opA Opp.zero none 0) ∧ Below w.heap.size w wr) (fun i _ => L.length - (intOf i).toNat)
  case atStart => exact ⟨0, _, none, 0, Nat.zero_le _, rfl, rfl, HOA.out, HSA.out, HXA.out, HRA.out, HBA.out⟩
  case round =>
    clear HOA HSA HXA HRA HBA
    obtain ⟨k, ⟨⟨y1, y2⟩, yo⟩, qo, co, hk, rfl, hf, hob, hsb, hxb, hrb, hbw⟩ := hrel
    have HFO := Lib.hid hf
    have HOB := Lib.hid hob
    have HSB := Lib.hid hsb
    have HXB := Lib.hid hxb
    have HRB := Lib.hid hrb
    have HB := Lib.hid hbw
    clear hf hob hsb hxb hrb hbw
    have c0 := (HL.out.kept HB.out).c0
    by_cases hlt : k < L.length
    · have d0 : decide ((k : Int) < (L.length : Int)) = true := decide_eq_true (by omega)
      obtain ⟨b, o, hp, -⟩ := HL.out.rd.addr (by rw [wrK.length]; omega)
      subst hp
      obtain ⟨e, he⟩ : ∃ e, L[k]? = some e := ⟨_, List.getElem?_eq_getElem hlt⟩
      have HTK := Lib.hid (pl_take he)
      have HSMe := Lib.hid (HSM0.out e (List.mem_of_getElem? he))
      obtain ⟨⟨⟨s1, s2⟩, y⟩, qy, cy⟩ := e
      have HE := Lib.hid he
      have HST := Lib.hid (show ((pl L).take (k + 1)).foldl (Pm.lastS x) ((0, 0), Opp.zero) = Pm.lastS x ((y1, y2), yo) ⟨(s1, s2), y⟩ from by rw [HTK.out, List.foldl_append, HFO.out]; rfl)
      clear he HFO HTK
      cases hsm : Pm.sameN y x with
      | false =>
        have HSM := Lib.hid (show ∀ W, Below w.heap.size w W → Calls Try.prog 57 #[.agg (opA y qy cy), .agg (opA x q cx)] W fun e w' => e = .returned (.bool false) ∧ Below W.heap.size W w' from fun W hb => by have h := HSMe.out W hb; rw [hsm] at h; exact h)
        have HF := Lib.hid (show ((pl L).take (k + 1)).foldl (Pm.lastS x) ((0, 0), Opp.zero) = ((y1, y2), yo) from by
          rw [HST.out]
          unfold Pm.lastS
          rw [hsm, if_neg (by simp)])
        clear hsm HSMe HST
        go_upto_region 6 with fail
        refine wp_region_held_drew (S := fun W => Below wr.heap.size wr W) (by kernel_rfl) (Below.drew (Below.refl _ _)) (fun hS => ?_)
        refine wpAnyH_take (i := 0) (v := ?_) rfl (by kernel_rfl) (by kernel_rfl) (by kernel_rfl) (fun _ _ _ h => h) (Or.inl ⟨by kernel_rfl, ?_⟩) hS ?_
        rotate_left
        · intro W hSW
          go_simp
          all_goals with_reducible rfl
        refine wpAnyH_take (i := 1) (v := ?_) rfl (by kernel_rfl) (by kernel_rfl) (by kernel_rfl) (fun _ _ _ h => h) (Or.inl ⟨by kernel_rfl, ?_⟩) hS ?_
        rotate_left
        · intro W hSW
          go_simp
          all_goals with_reducible rfl
        refine wpAnyH_take (i := 2) (v := ?_) rfl (by kernel_rfl) (by kernel_rfl) (by kernel_rfl) (fun _ _ _ h => h) (Or.inl ⟨by kernel_rfl, ?_⟩) hS ?_
        rotate_left
        · intro W hSW
          go_simp
          all_goals with_reducible rfl
        refine wpAnyH_take (i := 3) (v := ?_) rfl (by kernel_rfl) (by kernel_rfl) (by kernel_rfl) (fun _ _ _ h => h) (Or.inl ⟨by kernel_rfl, ?_⟩) hS ?_
        rotate_left
        · intro W hSW
          have c0 := (HL.out.kept (HB.out.trans (hSW.mono HB.out.size))).c0
          go_simp
          all_goals with_reducible rfl
        go_simp
        refine wpAnyH_take (i := 4) (v := ?_) rfl (by kernel_rfl) (by kernel_rfl) (by kernel_rfl) (fun _ _ _ h => h) (Or.inl ⟨by kernel_rfl, ?_⟩) hS ?_
        rotate_left
        · intro W hSW
          go_simp
          all_goals with_reducible rfl
        refine wpAnyH_take (i := 5) (v := ?_) rfl (by kernel_rfl) (by kernel_rfl) (by kernel_rfl) (fun _ _ _ h => h) (Or.inl ⟨by kernel_rfl, ?_⟩) hS ?_
        rotate_left
        · intro W hSW
          go_simp
          all_goals with_reducible rfl
        refine wpAnyH_take (i := 6) (v := ?_) rfl (by kernel_rfl) (by kernel_rfl) (by kernel_rfl) (fun _ _ _ h => h) (Or.inl ⟨by kernel_rfl, ?_⟩) hS ?_
        rotate_left
        · intro W hSW
          go_simp
          all_goals with_reducible rfl
        go_simp
        refine wpAnyH_take (i := 7) (v := .agg (opA y qy cy)) rfl (by kernel_rfl) (by kernel_rfl) (by kernel_rfl) (fun _ _ _ h => h) (Or.inl ⟨by kernel_rfl, fun W hSW => exec_wr_op rfl rfl (HL.out.rd.below (HB.out.trans (hSW.mono HB.out.size))) HE.out⟩) hS ?_
        go_simp
        refine wpAnyH_take (i := 8) (v := .agg (opA x q cx)) rfl (by kernel_rfl) (by kernel_rfl) (by kernel_rfl) (fun _ _ _ h => h) (Or.inl ⟨by kernel_rfl, fun W hSW => exec_load_ag opT12 rfl rfl rfl (HXB.out.kept hSW)⟩) hS ?_
        go_simp
        refine wpAnyH_ready (rs := [9]) (by kernel_rfl) (by simp) ?_
        refine AllReadyH.cons rfl (fun K hK => ?_) AllReadyH.nil
        go_simp
        go_wp2_with ((go_at_call 57; refine (HSM.out _ (HB.out.trans (hS.mono HB.out.size))).mono ?_; rintro e wn ⟨rfl, hbn⟩))
        refine hK.out _ _ (hS.trans (hbn.mono hS.size)) (fun hS => ?_)
        clear hK K hbn
        refine wpAnyH_take (i := 10) (v := ?_) rfl (by kernel_rfl) (by kernel_rfl) (by kernel_rfl) (fun _ _ _ h => h) (Or.inl ⟨by kernel_rfl, ?_⟩) hS ?_
        rotate_left
        · intro W hSW
          go_simp
          all_goals with_reducible rfl
        go_simp
        refine wpAnyH_take (i := 11) (v := undef) rfl (by kernel_rfl) (by kernel_rfl) (by kernel_rfl) (fun _ _ _ h => h) (Or.inr ⟨by kernel_rfl, rfl⟩) hS ?_
        go_simp
        refine wpAnyH_take (i := 12) (v := undef) rfl (by kernel_rfl) (by kernel_rfl) (by kernel_rfl) (fun _ _ _ h => h) (Or.inr ⟨by kernel_rfl, rfl⟩) hS ?_
        go_simp
        refine wpAnyH_take (i := 13) (v := undef) rfl (by kernel_rfl) (by kernel_rfl) (by kernel_rfl) (fun _ _ _ h => h) (Or.inr ⟨by kernel_rfl, rfl⟩) hS ?_
        go_simp
        refine wpAnyH_take (i := 14) (v := undef) rfl (by kernel_rfl) (by kernel_rfl) (by kernel_rfl) (fun _ _ _ h => h) (Or.inr ⟨by kernel_rfl, rfl⟩) hS ?_
        go_simp
        refine wpAnyH_take (i := 15) (v := undef) rfl (by kernel_rfl) (by kernel_rfl) (by kernel_rfl) (fun _ _ _ h => h) (Or.inr ⟨by kernel_rfl, rfl⟩) hS ?_
        go_simp
        refine wpAnyH_take (i := 16) (v := undef) rfl (by kernel_rfl) (by kernel_rfl) (by kernel_rfl) (fun _ _ _ h => h) (Or.inr ⟨by kernel_rfl, rfl⟩) hS ?_
        go_simp
        refine wpAnyH_take (i := 17) (v := undef) rfl (by kernel_rfl) (by kernel_rfl) (by kernel_rfl) (fun _ _ _ h => h) (Or.inr ⟨by kernel_rfl, rfl⟩) hS ?_
        go_simp
        refine wpAnyH_take (i := 18) (v := undef) rfl (by kernel_rfl) (by kernel_rfl) (by kernel_rfl) (fun _ _ _ h => h) (Or.inr ⟨by kernel_rfl, rfl⟩) hS ?_
        go_simp
        refine wpAnyH_take (i := 19) (v := undef) rfl (by kernel_rfl) (by kernel_rfl) (by kernel_rfl) (fun _ _ _ h => h) (Or.inr ⟨by kernel_rfl, rfl⟩) hS ?_
        go_simp
        refine wpAnyH_take (i := 20) (v := undef) rfl (by kernel_rfl) (by kernel_rfl) (by kernel_rfl) (fun _ _ _ h => h) (Or.inr ⟨by kernel_rfl, rfl⟩) hS ?_
        go_simp
        refine wpAnyH_take (i := 21) (v := undef) rfl (by kernel_rfl) (by kernel_rfl) (by kernel_rfl) (fun _ _ _ h => h) (Or.inr ⟨by kernel_rfl, rfl⟩) hS ?_
        refine wpAnyH_take (i := 22) (v := ?_) rfl (by kernel_rfl) (by kernel_rfl) (by kernel_rfl) (fun _ _ _ h => h) (Or.inl ⟨by kernel_rfl, ?_⟩) hS ?_
        rotate_left
        · intro W hSW
          go_simp
          all_goals with_reducible rfl
        go_simp
        refine wpAnyH_done (by kernel_rfl) ?_ _
        go_simp
        replace HXB := Lib.hid (HXB.out.kept hS)
        replace HRB := Lib.hid (HRB.out.kept hS)
        replace HOB := Lib.hid (HOB.out.kept hS)
        replace HSB := Lib.hid (HSB.out.kept hS)
        replace HB := Lib.hid (HB.out.trans (hS.mono HB.out.size))
        clear hS
        go_wp2
        go_roundw
        case rel => exact ⟨k + 1, ((y1, y2), yo), qo, co, by omega, by go_num, HF.out, HOB.out, HSB.out, HXB.out, HRB.out, HB.out⟩
        case measure => simp [intOf]; omega
      | true =>
        have HSM := Lib.hid (show ∀ W, Below w.heap.size w W → Calls Try.prog 57 #[.agg (opA y qy cy), .agg (opA x q cx)] W fun e w' => e = .returned (.bool true) ∧ Below W.heap.size W w' from fun W hb => by have h := HSMe.out W hb; rw [hsm] at h; exact h)
        have HCM := Lib.hid (fun W => qrefCompare_any s1 s2 y1 y2 W)
        by_cases hlt2 : Qm.ltS (y1, y2) (s1, s2)
        · have HD := Lib.hid (show decide (0 < qcmpS s1 s2 y1 y2) = true from (qcmp_gt (s1, s2) (y1, y2)).trans (decide_eq_true hlt2))
          have HF := Lib.hid (show ((pl L).take (k + 1)).foldl (Pm.lastS x) ((0, 0), Opp.zero) = ((s1, s2), y) from by
            rw [HST.out]
            unfold Pm.lastS
            rw [if_pos ⟨hsm, hlt2⟩])
          clear hsm HSMe HST hlt2
          go_upto_region 6 with fail
          refine wp_region_held_drew (S := fun W => Below wr.heap.size wr W) (by kernel_rfl) (Below.drew (Below.refl _ _)) (fun hS => ?_)
          refine wpAnyH_take (i := 0) (v := ?_) rfl (by kernel_rfl) (by kernel_rfl) (by kernel_rfl) (fun _ _ _ h => h) (Or.inl ⟨by kernel_rfl, ?_⟩) hS ?_
          rotate_left
          · intro W hSW
            go_simp
            all_goals with_reducible rfl
          refine wpAnyH_take (i := 1) (v := ?_) rfl (by kernel_rfl) (by kernel_rfl) (by kernel_rfl) (fun _ _ _ h => h) (Or.inl ⟨by kernel_rfl, ?_⟩) hS ?_
          rotate_left
          · intro W hSW
            go_simp
            all_goals with_reducible rfl
          refine wpAnyH_take (i := 2) (v := ?_) rfl (by kernel_rfl) (by kernel_rfl) (by kernel_rfl) (fun _ _ _ h => h) (Or.inl ⟨by kernel_rfl, ?_⟩) hS ?_
          rotate_left
          · intro W hSW
            go_simp
            all_goals with_reducible rfl
          refine wpAnyH_take (i := 3) (v := ?_) rfl (by kernel_rfl) (by kernel_rfl) (by kernel_rfl) (fun _ _ _ h => h) (Or.inl ⟨by kernel_rfl, ?_⟩) hS ?_
          rotate_left
          · intro W hSW
            have c0 := (HL.out.kept (HB.out.trans (hSW.mono HB.out.size))).c0
            go_simp
            all_goals with_reducible rfl
          go_simp
          refine wpAnyH_take (i := 4) (v := ?_) rfl (by kernel_rfl) (by kernel_rfl) (by kernel_rfl) (fun _ _ _ h => h) (Or.inl ⟨by kernel_rfl, ?_⟩) hS ?_
          rotate_left
          · intro W hSW
            go_simp
            all_goals with_reducible rfl
          refine wpAnyH_take (i := 5) (v := ?_) rfl (by kernel_rfl) (by kernel_rfl) (by kernel_rfl) (fun _ _ _ h => h) (Or.inl ⟨by kernel_rfl, ?_⟩) hS ?_
          rotate_left
          · intro W hSW
            go_simp
            all_goals with_reducible rfl
          refine wpAnyH_take (i := 6) (v := ?_) rfl (by kernel_rfl) (by kernel_rfl) (by kernel_rfl) (fun _ _ _ h => h) (Or.inl ⟨by kernel_rfl, ?_⟩) hS ?_
          rotate_left
          · intro W hSW
            go_simp
            all_goals with_reducible rfl
          go_simp
          refine wpAnyH_take (i := 7) (v := .agg (opA y qy cy)) rfl (by kernel_rfl) (by kernel_rfl) (by kernel_rfl) (fun _ _ _ h => h) (Or.inl ⟨by kernel_rfl, fun W hSW => exec_wr_op rfl rfl (HL.out.rd.below (HB.out.trans (hSW.mono HB.out.size))) HE.out⟩) hS ?_
          go_simp
          refine wpAnyH_take (i := 8) (v := .agg (opA x q cx)) rfl (by kernel_rfl) (by kernel_rfl) (by kernel_rfl) (fun _ _ _ h => h) (Or.inl ⟨by kernel_rfl, fun W hSW => exec_load_ag opT12 rfl rfl rfl (HXB.out.kept hSW)⟩) hS ?_
          go_simp
          refine wpAnyH_ready (rs := [9]) (by kernel_rfl) (by simp) ?_
          refine AllReadyH.cons rfl (fun K hK => ?_) AllReadyH.nil
          go_simp
          go_wp2_with ((go_at_call 57; refine (HSM.out _ (HB.out.trans (hS.mono HB.out.size))).mono ?_; rintro e wn ⟨rfl, hbn⟩))
          refine hK.out _ _ (hS.trans (hbn.mono hS.size)) (fun hS => ?_)
          clear hK K hbn
          refine wpAnyH_take (i := 10) (v := ?_) rfl (by kernel_rfl) (by kernel_rfl) (by kernel_rfl) (fun _ _ _ h => h) (Or.inl ⟨by kernel_rfl, ?_⟩) hS ?_
          rotate_left
          · intro W hSW
            go_simp
            all_goals with_reducible rfl
          refine wpAnyH_take (i := 11) (v := ?_) rfl (by kernel_rfl) (by kernel_rfl) (by kernel_rfl) (fun _ _ _ h => h) (Or.inl ⟨by kernel_rfl, ?_⟩) hS ?_
          rotate_left
          · intro W hSW
            go_simp
            all_goals with_reducible rfl
          refine wpAnyH_take (i := 12) (v := ?_) rfl (by kernel_rfl) (by kernel_rfl) (by kernel_rfl) (fun _ _ _ h => h) (Or.inl ⟨by kernel_rfl, ?_⟩) hS ?_
          rotate_left
          · intro W hSW
            go_simp
            all_goals with_reducible rfl
          refine wpAnyH_take (i := 13) (v := ?_) rfl (by kernel_rfl) (by kernel_rfl) (by kernel_rfl) (fun _ _ _ h => h) (Or.inl ⟨by kernel_rfl, ?_⟩) hS ?_
          rotate_left
          · intro W hSW
            go_simp
            all_goals with_reducible rfl
          go_simp
          refine wpAnyH_take (i := 14) (v := ?_) rfl (by kernel_rfl) (by kernel_rfl) (by kernel_rfl) (fun _ _ _ h => h) (Or.inl ⟨by kernel_rfl, ?_⟩) hS ?_
          rotate_left
          · intro W hSW
            have c0 := (HL.out.kept (HB.out.trans (hSW.mono HB.out.size))).c0
            go_simp
            all_goals with_reducible rfl
          refine wpAnyH_take (i := 15) (v := ?_) rfl (by kernel_rfl) (by kernel_rfl) (by kernel_rfl) (fun _ _ _ h => h) (Or.inl ⟨by kernel_rfl, ?_⟩) hS ?_
          rotate_left
          · intro W hSW
            go_simp
            all_goals with_reducible rfl
          refine wpAnyH_take (i := 16) (v := ?_) rfl (by kernel_rfl) (by kernel_rfl) (by kernel_rfl) (fun _ _ _ h => h) (Or.inl ⟨by kernel_rfl, ?_⟩) hS ?_
          rotate_left
          · intro W hSW
            go_simp
            all_goals with_reducible rfl
          refine wpAnyH_take (i := 17) (v := ?_) rfl (by kernel_rfl) (by kernel_rfl) (by kernel_rfl) (fun _ _ _ h => h) (Or.inl ⟨by kernel_rfl, ?_⟩) hS ?_
          rotate_left
          · intro W hSW
            go_simp
            all_goals with_reducible rfl
          go_simp
          refine wpAnyH_take (i := 18) (v := .agg #[.int .i64 s1, .int .i64 s2]) rfl (by kernel_rfl) (by kernel_rfl) (by kernel_rfl) (fun _ _ _ h => h) (Or.inl ⟨by kernel_rfl, fun W hSW => exec_wr_st rfl rfl (HL.out.rd.below (HB.out.trans (hSW.mono HB.out.size))) HE.out⟩) hS ?_
          go_simp
          refine wpAnyH_take (i := 19) (v := .agg #[.int .i64 y1, .int .i64 y2]) rfl (by kernel_rfl) (by kernel_rfl) (by kernel_rfl) (fun _ _ _ h => h) (Or.inl ⟨by kernel_rfl, fun W hSW => exec_load_ag stT rfl rfl rfl (HSB.out.kept hSW)⟩) hS ?_
          go_simp
          refine wpAnyH_ready (rs := [20]) (by kernel_rfl) (by simp) ?_
          refine AllReadyH.cons rfl (fun K hK => ?_) AllReadyH.nil
          go_simp
          go_wp2_with ((go_at_call 58; refine (HCM.out _).mono ?_; rintro e wn ⟨rfl, hbn⟩))
          refine hK.out _ _ (hS.trans (hbn.mono hS.size)) (fun hS => ?_)
          clear hK K hbn
          refine wpAnyH_take (i := 21) (v := .bool true) rfl (by kernel_rfl) (by kernel_rfl) (by kernel_rfl) (fun _ _ _ h => h) (Or.inl ⟨by kernel_rfl, fun W hSW => exec_gtr rfl _ rfl rfl HD.out⟩) hS ?_
          refine wpAnyH_take (i := 22) (v := ?_) rfl (by kernel_rfl) (by kernel_rfl) (by kernel_rfl) (fun _ _ _ h => h) (Or.inl ⟨by kernel_rfl, ?_⟩) hS ?_
          rotate_left
          · intro W hSW
            go_simp
            all_goals with_reducible rfl
          go_simp
          refine wpAnyH_done (by kernel_rfl) ?_ _
          go_simp
          replace HXB := Lib.hid (HXB.out.kept hS)
          replace HRB := Lib.hid (HRB.out.kept hS)
          replace HOB := Lib.hid (HOB.out.kept hS)
          replace HSB := Lib.hid (HSB.out.kept hS)
          replace HB := Lib.hid (HB.out.trans (hS.mono HB.out.size))
          clear hS
          have HLc := Lib.hid (HL.out.kept HB.out)
          have c0 := HLc.out.c0
          generalize wn = wv at *
          go_upto_region 8 with (first | (refine wpList_exec rfl (exec_wr_st rfl rfl HLc.out.rd HE.out) ?_) | (refine wpList_store_ag stT rfl _ _ rfl _ rfl _ HSB.out rfl rfl rfl (stA_one s1 s2) ?_; intro wa hva hka hsa hba))
          have hba1 := hba _ _ HB.out HB6.out
          have HSB2 := Lib.hid hva
          replace HXB := Lib.hid (HXB.out.block (hka _ (by have := HB6b.out; omega)))
          replace HRB := Lib.hid (HRB.out.block (hka _ (by have := HB6b.out; omega)))
          replace HOB := Lib.hid (HOB.out.block (hka _ (by have := HB6b.out; omega)))
          replace HB := Lib.hid hba1
          replace HLc := Lib.hid (HL.out.kept hba1)
          have c0 := HLc.out.c0
          clear hva hka hsa hba hba1 HSB
          go_wp2_with (first | (refine wpList_exec rfl (exec_wr_op rfl rfl HLc.out.rd HE.out) ?_) | (refine wpList_store_ag opT12 rfl _ _ rfl _ rfl _ HOB.out rfl rfl rfl (opA_one y qy cy) ?_; intro wb hvb hkb hsb hbb))
          have HB2 := Lib.hid (hbb _ _ HB.out (by omega))
          have HOB2 := Lib.hid hvb
          replace HXB := Lib.hid (HXB.out.block (hkb _ (by omega)))
          replace HRB := Lib.hid (HRB.out.block (hkb _ (by omega)))
          replace HSB2 := Lib.hid (HSB2.out.block (hkb _ (by have := HB6b.out; omega)))
          clear hvb hkb hsb hbb HLc HOB HB
          go_roundw
          case rel => exact ⟨k + 1, ((s1, s2), y), qy, cy, by omega, by go_num, HF.out, HOB2.out, HSB2.out, HXB.out, HRB.out, HB2.out⟩
          case measure => simp [intOf]; omega
        · have HD := Lib.hid (show decide (0 < qcmpS s1 s2 y1 y2) = false from (qcmp_gt (s1, s2) (y1, y2)).trans (decide_eq_false hlt2))
          have HF := Lib.hid (show ((pl L).take (k + 1)).foldl (Pm.lastS x) ((0, 0), Opp.zero) = ((y1, y2), yo) from by
            rw [HST.out]
            unfold Pm.lastS
            rw [if_neg (fun h => hlt2 h.2)])
          clear hsm HSMe HST hlt2
          go_upto_region 6 with fail
          refine wp_region_held_drew (S := fun W => Below wr.heap.size wr W) (by kernel_rfl) (Below.drew (Below.refl _ _)) (fun hS => ?_)
          refine wpAnyH_take (i := 0) (v := ?_) rfl (by kernel_rfl) (by kernel_rfl) (by kernel_rfl) (fun _ _ _ h => h) (Or.inl ⟨by kernel_rfl, ?_⟩) hS ?_
          rotate_left
          · intro W hSW
            go_simp
            all_goals with_reducible rfl
          refine wpAnyH_take (i := 1) (v := ?_) rfl (by kernel_rfl) (by kernel_rfl) (by kernel_rfl) (fun _ _ _ h => h) (Or.inl ⟨by kernel_rfl, ?_⟩) hS ?_
          rotate_left
          · intro W hSW
            go_simp
            all_goals with_reducible rfl
          refine wpAnyH_take (i := 2) (v := ?_) rfl (by kernel_rfl) (by kernel_rfl) (by kernel_rfl) (fun _ _ _ h => h) (Or.inl ⟨by kernel_rfl, ?_⟩) hS ?_
          rotate_left
          · intro W hSW
            go_simp
            all_goals with_reducible rfl
          refine wpAnyH_take (i := 3) (v := ?_) rfl (by kernel_rfl) (by kernel_rfl) (by kernel_rfl) (fun _ _ _ h => h) (Or.inl ⟨by kernel_rfl, ?_⟩) hS ?_
          rotate_left
          · intro W hSW
            have c0 := (HL.out.kept (HB.out.trans (hSW.mono HB.out.size))).c0
            go_simp
            all_goals with_reducible rfl
          go_simp
          refine wpAnyH_take (i := 4) (v := ?_) rfl (by kernel_rfl) (by kernel_rfl) (by kernel_rfl) (fun _ _ _ h => h) (Or.inl ⟨by kernel_rfl, ?_⟩) hS ?_
          rotate_left
          · intro W hSW
            go_simp
            all_goals with_reducible rfl
          refine wpAnyH_take (i := 5) (v := ?_) rfl (by kernel_rfl) (by kernel_rfl) (by kernel_rfl) (fun _ _ _ h => h) (Or.inl ⟨by kernel_rfl, ?_⟩) hS ?_
          rotate_left
          · intro W hSW
            go_simp
            all_goals with_reducible rfl
          refine wpAnyH_take (i := 6) (v := ?_) rfl (by kernel_rfl) (by kernel_rfl) (by kernel_rfl) (fun _ _ _ h => h) (Or.inl ⟨by kernel_rfl, ?_⟩) hS ?_
          rotate_left
          · intro W hSW
            go_simp
            all_goals with_reducible rfl
          go_simp
          refine wpAnyH_take (i := 7) (v := .agg (opA y qy cy)) rfl (by kernel_rfl) (by kernel_rfl) (by kernel_rfl) (fun _ _ _ h => h) (Or.inl ⟨by kernel_rfl, fun W hSW => exec_wr_op rfl rfl (HL.out.rd.below (HB.out.trans (hSW.mono HB.out.size))) HE.out⟩) hS ?_
          go_simp
          refine wpAnyH_take (i := 8) (v := .agg (opA x q cx)) rfl (by kernel_rfl) (by kernel_rfl) (by kernel_rfl) (fun _ _ _ h => h) (Or.inl ⟨by kernel_rfl, fun W hSW => exec_load_ag opT12 rfl rfl rfl (HXB.out.kept hSW)⟩) hS ?_
          go_simp
          refine wpAnyH_ready (rs := [9]) (by kernel_rfl) (by simp) ?_
          refine AllReadyH.cons rfl (fun K hK => ?_) AllReadyH.nil
          go_simp
          go_wp2_with ((go_at_call 57; refine (HSM.out _ (HB.out.trans (hS.mono HB.out.size))).mono ?_; rintro e wn ⟨rfl, hbn⟩))
          refine hK.out _ _ (hS.trans (hbn.mono hS.size)) (fun hS => ?_)
          clear hK K hbn
          refine wpAnyH_take (i := 10) (v := ?_) rfl (by kernel_rfl) (by kernel_rfl) (by kernel_rfl) (fun _ _ _ h => h) (Or.inl ⟨by kernel_rfl, ?_⟩) hS ?_
          rotate_left
          · intro W hSW
            go_simp
            all_goals with_reducible rfl
          refine wpAnyH_take (i := 11) (v := ?_) rfl (by kernel_rfl) (by kernel_rfl) (by kernel_rfl) (fun _ _ _ h => h) (Or.inl ⟨by kernel_rfl, ?_⟩) hS ?_
          rotate_left
          · intro W hSW
            go_simp
            all_goals with_reducible rfl
          refine wpAnyH_take (i := 12) (v := ?_) rfl (by kernel_rfl) (by kernel_rfl) (by kernel_rfl) (fun _ _ _ h => h) (Or.inl ⟨by kernel_rfl, ?_⟩) hS ?_
          rotate_left
          · intro W hSW
            go_simp
            all_goals with_reducible rfl
          refine wpAnyH_take (i := 13) (v := ?_) rfl (by kernel_rfl) (by kernel_rfl) (by kernel_rfl) (fun _ _ _ h => h) (Or.inl ⟨by kernel_rfl, ?_⟩) hS ?_
          rotate_left
          · intro W hSW
            go_simp
            all_goals with_reducible rfl
          go_simp
          refine wpAnyH_take (i := 14) (v := ?_) rfl (by kernel_rfl) (by kernel_rfl) (by kernel_rfl) (fun _ _ _ h => h) (Or.inl ⟨by kernel_rfl, ?_⟩) hS ?_
          rotate_left
          · intro W hSW
            have c0 := (HL.out.kept (HB.out.trans (hSW.mono HB.out.size))).c0
            go_simp
            all_goals with_reducible rfl
          refine wpAnyH_take (i := 15) (v := ?_) rfl (by kernel_rfl) (by kernel_rfl) (by kernel_rfl) (fun _ _ _ h => h) (Or.inl ⟨by kernel_rfl, ?_⟩) hS ?_
          rotate_left
          · intro W hSW
            go_simp
            all_goals with_reducible rfl
          refine wpAnyH_take (i := 16) (v := ?_) rfl (by kernel_rfl) (by kernel_rfl) (by kernel_rfl) (fun _ _ _ h => h) (Or.inl ⟨by kernel_rfl, ?_⟩) hS ?_
          rotate_left
          · intro W hSW
            go_simp
            all_goals with_reducible rfl
          refine wpAnyH_take (i := 17) (v := ?_) rfl (by kernel_rfl) (by kernel_rfl) (by kernel_rfl) (fun _ _ _ h => h) (Or.inl ⟨by kernel_rfl, ?_⟩) hS ?_
          rotate_left
          · intro W hSW
            go_simp
            all_goals with_reducible rfl
          go_simp
          refine wpAnyH_take (i := 18) (v := .agg #[.int .i64 s1, .int .i64 s2]) rfl (by kernel_rfl) (by kernel_rfl) (by kernel_rfl) (fun _ _ _ h => h) (Or.inl ⟨by kernel_rfl, fun W hSW => exec_wr_st rfl rfl (HL.out.rd.below (HB.out.trans (hSW.mono HB.out.size))) HE.out⟩) hS ?_
          go_simp
          refine wpAnyH_take (i := 19) (v := .agg #[.int .i64 y1, .int .i64 y2]) rfl (by kernel_rfl) (by kernel_rfl) (by kernel_rfl) (fun _ _ _ h => h) (Or.inl ⟨by kernel_rfl, fun W hSW => exec_load_ag stT rfl rfl rfl (HSB.out.kept hSW)⟩) hS ?_
          go_simp
          refine wpAnyH_ready (rs := [20]) (by kernel_rfl) (by simp) ?_
          refine AllReadyH.cons rfl (fun K hK => ?_) AllReadyH.nil
          go_simp
          go_wp2_with ((go_at_call 58; refine (HCM.out _).mono ?_; rintro e wn ⟨rfl, hbn⟩))
          refine hK.out _ _ (hS.trans (hbn.mono hS.size)) (fun hS => ?_)
          clear hK K hbn
          refine wpAnyH_take (i := 21) (v := .bool false) rfl (by kernel_rfl) (by kernel_rfl) (by kernel_rfl) (fun _ _ _ h => h) (Or.inl ⟨by kernel_rfl, fun W hSW => exec_gtr rfl _ rfl rfl HD.out⟩) hS ?_
          refine wpAnyH_take (i := 22) (v := ?_) rfl (by kernel_rfl) (by kernel_rfl) (by kernel_rfl) (fun _ _ _ h => h) (Or.inl ⟨by kernel_rfl, ?_⟩) hS ?_
          rotate_left
          · intro W hSW
            go_simp
            all_goals with_reducible rfl
          go_simp
          refine wpAnyH_done (by kernel_rfl) ?_ _
          go_simp
          replace HXB := Lib.hid (HXB.out.kept hS)
          replace HRB := Lib.hid (HRB.out.kept hS)
          replace HOB := Lib.hid (HOB.out.kept hS)
          replace HSB := Lib.hid (HSB.out.kept hS)
          replace HB := Lib.hid (HB.out.trans (hS.mono HB.out.size))
          clear hS
          go_wp2
          go_roundw
          case rel => exact ⟨k + 1, ((y1, y2), yo), qo, co, by omega, by go_num, HF.out, HOB.out, HSB.out, HXB.out, HRB.out, HB.out⟩
          case measure => simp [intOf]; omega
    · obtain rfl : k = L.length := by omega
      have d0 : decide ((L.length : Int) < (L.length : Int)) = false := decide_eq_false (by omega)
      have HF := Lib.hid (show (Pm.lastR (pl L) x).2 = yo from by
        have h := HFO.out
        rw [List.take_of_length_le (by unfold pl; rw [List.length_map]; exact Nat.le_refl _)] at h
        unfold Pm.lastR
        rw [h])
      clear HFO
      go_wp2_with (first | (refine wpList_load_ag opT12 rfl _ rfl _ rfl rfl HOB.out ?_) | (refine wpList_store_ag opT12 rfl _ _ rfl _ rfl _ HRB.out rfl rfl rfl (opA_one yo qo co) ?_; intro wb hvb hkb hsb hbb))
      have HB2 := Lib.hid (hbb _ _ HB.out (by omega))
      refine bodyPost_ret (results_ag opT12 _ rfl rfl hvb rfl) rfl ?_
      exact ⟨⟨qo, co, by rw [HF.out]⟩, HB2.out⟩
end Go.Proofs.Ytcenmkcencdlcaa
