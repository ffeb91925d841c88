/-
  maps.Equal of two trees' spots, where both tell the same.
  No conditions.
-/
import Derived.Test.YtljojdabmjkkcaaTClone
namespace Go.Proofs.Ytljojdabmjkkcaa
open Go.RowKit
open Tm (Sp Tr has put cut kids)
attribute [local go_sem] Oper.semAt_some

theorem exec_neq_sp {c : Act} {o : Oper} {x y : Operand} {ty : TypeId} (ho : o.op = .binOp .neq 38 x y ty) {w : World} (s : Sp) (hx : c.eval x = .agg (spA s)) (hy : c.eval y = .agg (spA s)) :
    (execOp c.eval o).run Try.prog w = .ok (.value (.bool false)) w := by
  obtain ⟨⟨a, b⟩, k⟩ := s
  unfold execOp
  simp only [ho, hx, hy, spA]
  go_simp

/-- a comparison under way -/
structure EqI (w : World) (r M1 M2 : Nat) (T U left : Tr) (wr : World) : Prop where
  sub : ∀ e ∈ left, e ∈ T
  it : SIt wr r M1 (spots T) (spots left)
  two : SMap wr M2 (spots U)
  bel : Below w.heap.size w wr

set_option maxRecDepth 100000 in
set_option maxHeartbeats 8000000 in
theorem equal_any {M1 M2 : Nat} {T U : Tr} (w : World) (h1 : SMap w M1 (spots T)) (h2 : SMap w M2 (spots U)) (ha : Tm.Alike T U) :
    Calls Try.prog 32 #[.map (some M1), .map (some M2)] w fun e w' => e = .returned (.bool true) ∧ Below w.heap.size w w' := by
  have hln1 := h1.len mtSpots 3
  have hln2 := h2.len mtSpots 3
  rw [show (spots T).length = T.length from by simp [spots]] at hln1
  rw [show (spots U).length = T.length from by simp [spots, ha.1]] at hln2
  obtain ⟨o, hrg, hit⟩ := h1.range mtSpots
  have hb2 := (Below.refl w.heap.size w).alloc (Nat.le_refl _) o
  have HND := Lib.hid (show (T.map Prod.fst).Nodup from by
    have := h1.nd
    unfold spots at this
    rwa [List.map_map] at this)
  have HWF := Lib.hid (fun e he => h1.wf (e.1, spV e.2) (List.mem_map.2 ⟨e, he, rfl⟩) : ∀ e ∈ T, StWf e.1)
  have HM2 := Lib.hid h2.lt
  have HA := Lib.hid ha.2
  have HK := Lib.hid (show EqI w w.heap.size M1 M2 T U T (w.alloc o) from ⟨fun _ h => h, hit, h2.below hb2, hb2⟩)
  clear h1 h2 ha hit hb2
  go_enter Try.func32, Try.ntmps32
  go_wp2_with fail
  clear hrg hln1 hln2
  generalize w.alloc o = w2 at *
  go_loopg [] (T.length + 1) (fun g wr => ∃ left, EqI w w.heap.size M1 M2 T U left wr ∧ left.length < g)
  case atStart => exact ⟨_, HK.out, Nat.lt_succ_self _⟩
  case round =>
    clear HK
    obtain ⟨left, hK, hlg⟩ := hrel
    obtain ⟨g1, rfl⟩ : ∃ g1, gk = g1 + 1 := ⟨gk - 1, by omega⟩
    have HK := Lib.hid hK
    have HLG := Lib.hid hlg
    clear hK hlg
    rcases HK.out.it.next 0 with ⟨h0, hnx⟩ | ⟨b, left', w3, hp, hnx, ht2, hit2, hen⟩
    · have HE := Lib.hid HK.out.bel
      clear HK HLG h0
      go_wp2
      go_ret
      exact ⟨rfl, HE.out⟩
    · obtain ⟨k, hk, hkp⟩ := perm_map_inv (fun e : Qm.St × Sp => (e.1, spV e.2)) hp
      cases k with
      | nil => cases hk
      | cons e left'' =>
        obtain ⟨n, s⟩ := e
        rw [List.map_cons, List.cons.injEq] at hk
        obtain ⟨rfl, rfl⟩ := hk
        have HLT2 := Lib.hid (show left''.length < g1 from by have h1 := hkp.length_eq; have h2 := HLG.out; simp only [List.length_cons] at h1; omega)
        have HMEM := Lib.hid (show (n, s) ∈ T from HK.out.sub _ (hkp.mem_iff.1 (by simp)))
        have HSUB := Lib.hid (show ∀ e ∈ left'', e ∈ T from fun e he => HK.out.sub _ (hkp.mem_iff.1 (List.mem_cons_of_mem _ he)))
        have HLK := Lib.hid (show lk (spots U) n = some (spV s) from by rw [lk_spots, ← HA.out, Tm.look_some HND.out HMEM.out]; rfl)
        have HB2 := Lib.hid (show Below w.heap.size w w3 from HK.out.bel.trans (ht2.below (fun k _ hk => by rw [hk]; exact Nat.le_refl _) HK.out.bel.size))
        have HS2 := Lib.hid (HK.out.two.turns ht2 (by have := HM2.out; omega))
        have HIT2 := Lib.hid hit2
        clear hp hkp ht2 hit2 HLG HK
        have HZ1 := Lib.hid ((AgAt.new w3 #[.int .i64 0, .int .i64 0] 29).kept ((Below.refl _ _).alloc (Nat.le_refl _) (.cells (spA zS) 38)))
        have HZ2 := Lib.hid (show AgAt ((w3.alloc (.cells #[.int .i64 0, .int .i64 0] 29)).alloc (.cells (spA zS) 38)) (w3.heap.size + 1) (spA zS) from by
          have := AgAt.new (w3.alloc (.cells #[.int .i64 0, .int .i64 0] 29)) (spA zS) 38
          rw [show (w3.alloc (.cells #[.int .i64 0, .int .i64 0] 29)).heap.size = w3.heap.size + 1 from by simp] at this
          exact this)
        have HBZ := Lib.hid (show Below w3.heap.size w3 ((w3.alloc (.cells #[.int .i64 0, .int .i64 0] 29)).alloc (.cells (spA zS) 38)) from ((Below.refl _ _).alloc (Nat.le_refl _) _).alloc (by simp) _)
        go_upto_region 6 with (first | (refine wpList_store_ag stT rfl _ _ rfl _ rfl _ HZ1.out rfl rfl rfl (stA_one _ _) ?_; intro w4 hv4 hko4 hsz4 hbn4) | (refine wpList_store_ag spT rfl _ _ rfl _ rfl _ (HZ2.out.block (hko4 _ (Nat.succ_ne_self _))) rfl rfl rfl (spA_one _) ?_; intro w5 hv5 hko5 hsz5 hbn5))
        have HB5 := Lib.hid (hbn5 _ _ (hbn4 _ _ HBZ.out (Nat.le_refl _)) (Nat.le_succ _))
        have HV4 := Lib.hid (AgAt.block hv4 (hko5 _ (by omega)))
        have HV5 := Lib.hid hv5
        replace HB2 := Lib.hid (HB2.out.trans (HB5.out.mono HB2.out.size))
        replace HIT2 := Lib.hid (HIT2.out.below HB5.out)
        replace HS2 := Lib.hid (HS2.out.below HB5.out)
        clear hv4 hv5 hko4 hko5 hsz4 hsz5 hbn4 hbn5 hen hnx HZ1 HZ2 HBZ HB5
        have HLO := Lib.hid (show (Instr.lookup 51 (.map (some M2)) (snV n) true).run Try.prog w5 = .ok (.tuple #[.agg (spA s), .bool true]) w5 from by
          rw [HS2.out.lookOk mtSpots n (HWF.out _ HMEM.out), HLK.out]; rfl)
        go_upto_region 7 with (first
          | (refine wpList_load_ag stT rfl _ rfl _ rfl (A := #[.int .i64 n.1, .int .i64 n.2]) rfl HV4.out ?_)
          | (refine wpList_value rfl (exec_lookup rfl rfl rfl HLO.out) ?_)
          | (refine wpList_store_newag spT rfl _ _ rfl rfl _ (A := spA s) rfl rfl rfl (spA_one _) ?_; intro w6 hv6 hb6))
        have HV6 := Lib.hid hv6
        replace HV5 := Lib.hid (AgAt.kept HV5.out hb6)
        have HK6 := Lib.hid (show EqI w w.heap.size M1 M2 T U left'' w6 from ⟨HSUB.out, HIT2.out.below hb6, HS2.out.below hb6, HB2.out.trans (hb6.mono HB2.out.size)⟩)
        clear HB2 HIT2 HS2 HLO HV4 HSUB HLK HMEM hv6 hb6
        go_wp2_with (first
          | (refine wpList_value rfl (exec_load_ag spT rfl rfl rfl HV5.out) ?_)
          | (refine wpList_value rfl (exec_load_ag spT rfl rfl rfl HV6.out) ?_)
          | (refine wpList_value rfl (exec_neq_sp rfl s rfl rfl) ?_))
        go_roundg g1
        case rel => exact ⟨_, HK6.out, HLT2.out⟩
        case measure => omega
end Go.Proofs.Ytljojdabmjkkcaa
