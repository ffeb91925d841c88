/-
  THE DOCUMENT's READING, whatever the reader's error is: numbers, stamps, texts, values.
  No conditions.
-/
import Derived.Test.YthpdphlkmleldaaGreatRoVt
import Derived.Test.YthpdphlkmleldaaGreatGG
namespace Go.Proofs.YthpdphlkmleldaaGreat
open Go.RowKit

theorem vlT : AgT 50 3 := ⟨⟨_, Tryz.underlying50⟩, by kernel_rfl⟩
theorem vlA_one (a b : Int) (t : ByteArray) : (#[Value.int .i64 a, .int .i64 b, .string t] : Array Value).all (·.oneCell') = true := all_oneCell_toArray (cs := [.int .i64 a, .int .i64 b, .string t]) (by
  intro v hv
  simp only [List.mem_cons, List.not_mem_nil, or_false] at hv
  rcases hv with rfl | rfl | rfl <;> rfl)
theorem ruptos_any (B b : Nat) (m : Int) (s : RS) (w : World) (h : RrS w B b s) : Calls Tryz.prog 56 #[.pointer (some ⟨b, 0, none⟩), .int .i64 m] w fun e w' => e = .returned (.int .i64 ((uptoS m s).1 : Nat)) ∧ RrS w' B b (uptoS m s).2 ∧ Only b w w' := by
  obtain ⟨l, e⟩ := s
  by_cases he : e = 0
  · subst he
    have : uptoS m (l, 0) = uptoR l m := by unfold uptoS; rw [if_neg (by simp)]
    rw [this]
    exact refUpto_any B b l m w h
  · have : uptoS m (l, e) = (0, (l, e)) := by unfold uptoS; rw [if_pos he]
    rw [this]
    refine (refUpto_bad B b l e m w h he).mono ?_
    rintro e w' ⟨rfl, rfl⟩
    exact ⟨rfl, h, Only.refl _ _⟩
set_option maxRecDepth 100000 in
theorem rnums_any (B b : Nat) (s : RS) (w : World) (h : RrS w B b s) : Calls Tryz.prog 57 #[.pointer (some ⟨b, 0, none⟩)] w fun e w' => e = .returned (.int .i64 ((numS s).1 : Nat)) ∧ RrS w' B b (numS s).2 ∧ Only b w w' := by
  obtain ⟨l, e⟩ := s
  by_cases he : e = 0
  · subst he
    have : numS (l, 0) = uptoR l 281474976710655 := by unfold numS; rw [if_neg (by simp)]
    rw [this]
    exact refNumM_any B b l w h
  · have HN := Lib.hid (show numS (l, e) = (0, (l, e)) by unfold numS; rw [if_pos he])
    have HR := Lib.hid h
    have HE := Lib.hid he
    clear h he
    go_enter Tryz.func57, Tryz.ntmps57
    go_wp2_with fail
    refine (refUpto_bad B b l e 281474976710655 w HR.out HE.out).mono ?_
    rintro e w' ⟨rfl, rfl⟩
    go_wp2
    go_ret
    rw [HN.out]
    exact ⟨rfl, HR.out, Only.refl _ _⟩
set_option maxRecDepth 100000 in
theorem rtexts_any (B b : Nat) (s : RS) (w : World) (h : RrS w B b s) : Calls Tryz.prog 86 #[.pointer (some ⟨b, 0, none⟩)] w fun e w' => e = .returned (.string (txS s).1) ∧ RrS w' B b (txS s).2 ∧ Only b w w' := by
  obtain ⟨l, e⟩ := s
  by_cases he : e = 0
  · subst he
    have : txS (l, 0) = (strB (textR l).1, (textR l).2) := by unfold txS; rw [if_neg (by simp)]
    rw [this]
    exact refText_rd B b l w h
  · have HN := Lib.hid (show txS (l, e) = (⟨#[]⟩, (l, e)) by unfold txS; rw [if_pos he])
    have HR := Lib.hid h
    have c2 := h.err
    have te : ((e : Int) != 0) = true := by rw [bne_iff_ne]; omega
    clear h he
    dsimp only at c2
    go_enter Tryz.func86, Tryz.ntmps86
    go_wp2
    go_ret
    rw [HN.out]
    exact ⟨rfl, HR.out, Only.refl _ _⟩
set_option maxRecDepth 100000 in
set_option maxHeartbeats 1000000 in
theorem rsts_any (B b : Nat) (s : RS) (w : World) (h : RrS w B b s) : Calls Tryz.prog 85 #[.pointer (some ⟨b, 0, none⟩)] w fun e w' => e = .returned (.agg #[.int .i64 (stS s).1.1, .int .i64 (stS s).1.2]) ∧ RrS w' B b (stS s).2 ∧ Only b w w' := by
  obtain ⟨l, e⟩ := s
  by_cases he : e = 0
  · subst he
    have : stS (l, 0) = (((takeR l).1, (takeR l).2.1), (takeR l).2.2) := by unfold stS; rw [if_neg (by simp)]
    rw [this]
    exact refTake_any B b l w h
  · have HN := Lib.hid (show stS (l, e) = ((0, 0), (l, e)) by unfold stS; rw [if_pos he])
    have hb := (Below.refl w.heap.size w).alloc (Nat.le_refl _) (.cells #[.int .i64 0, .int .i64 0] 47)
    have HO0 := Lib.hid (Only.of_below (b := b) hb)
    have HR := Lib.hid (show RRdr _ B b l e from RRdr.kept h hb)
    have HE := Lib.hid he
    have te : ((e : Int) != 0) = true := by rw [bne_iff_ne]; omega
    have c2 := RrS.err (s := (l, e)) HR.out
    dsimp only at c2
    clear h he hb
    go_enter Tryz.func85, Tryz.ntmps85
    go_wp2_with fail
    refine (refUpto_bad B b l e 1099511627776 _ HR.out HE.out).mono ?_
    rintro e w' ⟨rfl, rfl⟩
    go_wp2_with fail
    refine (refUpto_bad B b l _ 15 _ HR.out HE.out).mono ?_
    rintro e w' ⟨rfl, rfl⟩
    go_wp2
    refine bodyPost_ret (v := .agg #[.int .i64 0, .int .i64 0]) (by simp [results, Tryz.results85, go_sem]) rfl ?_
    rw [HN.out]
    exact ⟨rfl, HR.out, HO0.out⟩
set_option maxRecDepth 100000 in
set_option maxHeartbeats 1000000 in
theorem rvls_any (B b : Nat) (s : RS) (w : World) (h : RrS w B b s) : Calls Tryz.prog 87 #[.pointer (some ⟨b, 0, none⟩)] w fun e w' => e = .returned (.agg #[.int .i64 (vlS s).1.1, .int .i64 (vlS s).1.2.1, .string (vlS s).1.2.2]) ∧ RrS w' B b (vlS s).2 ∧ Only b w w' := by
  obtain ⟨l, e⟩ := s
  by_cases he : e = 0
  · subst he
    have : vlS (l, 0) = (((takeV l).1, (takeV l).2.1, strB (takeV l).2.2.1), (takeV l).2.2.2) := by unfold vlS; rw [if_neg (by simp)]
    rw [this]
    exact refVtake_any B b l w h
  · have HN := Lib.hid (show vlS (l, e) = ((0, 0, ⟨#[]⟩), (l, e)) by unfold vlS; rw [if_pos he])
    have HNN := Lib.hid (show numS (l, e) = (0, (l, e)) by unfold numS; rw [if_pos he])
    have hb := (Below.refl w.heap.size w).alloc (Nat.le_refl _) (.cells #[.int .i64 0, .int .i64 0, .string ⟨#[]⟩] 50)
    have HO0 := Lib.hid (Only.of_below (b := b) hb)
    have HR := Lib.hid (show RrS _ B b (l, e) from RRdr.kept h hb)
    have te : ((e : Int) != 0) = true := by rw [bne_iff_ne]; omega
    have HZ0 := Lib.hid (AgAt.new w #[.int .i64 0, .int .i64 0, .string ⟨#[]⟩] 50)
    have hbl := h.lt
    clear h he hb
    go_enter Tryz.func87, Tryz.ntmps87
    go_wp2_with fail
    refine (rnums_any B b (l, e) _ HR.out).mono ?_
    rw [HNN.out]
    rintro e' w1 ⟨rfl, hr1, ho1⟩
    dsimp only at hr1
    have hb2 := (Below.refl w1.heap.size w1).alloc (Nat.le_refl _) (.cells #[.int .i64 0, .int .i64 0, .string ⟨#[]⟩] 50)
    have HR2 := Lib.hid (show RrS _ B b (l, e) from RRdr.kept hr1 hb2)
    have HO2 := Lib.hid ((HO0.out.trans ho1).trans (Only.of_below hb2))
    have c2 := HR2.out.err
    dsimp only at c2
    have HZ := Lib.hid ((HZ0.out.only ho1 (by omega)).kept hb2)
    clear hr1 ho1 hb2
    go_wp2_with (refine wpList_store_ag vlT rfl _ _ rfl _ rfl _ HZ.out rfl rfl rfl (vlA_one _ _ _) ?_; intro w3 hv3 hko hsz hbn)
    refine bodyPost_ret (results_ag vlT _ rfl rfl hv3 rfl) rfl ?_
    rw [HN.out]
    have hb4 := hbn _ _ (Below.refl w.heap.size _) (Nat.le_refl _)
    exact ⟨rfl, HR2.out.under hb4 hbl, HO2.out.then_new (hb4.mono (Nat.le_refl _))⟩
theorem rfails_any (B b : Nat) (s : RS) (w : World) (h : RrS w B b s) : Calls Tryz.prog 59 #[.pointer (some ⟨b, 0, none⟩), .int .i64 21] w fun e w' => e = .returned (.tuple #[]) ∧ RrS w' B b (failS 21 s) ∧ Only b w w' := refFail_any B b s.1 s.2 21 w h
end Go.Proofs.YthpdphlkmleldaaGreat
