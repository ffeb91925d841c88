/-
  ONE TURN ON BOTH CLOCKS: the law's helper 'step' answers true, and both clocks go on alike.
  No conditions.
-/
import Derived.Test.YtbggbpdkphhhdaaDoorRefClock
import Derived.Deep.DeepCutAuto
import Derived.Deep.RegionHeld3
namespace Go.Proofs.YtbggbpdkphhhdaaDoor
open Go.RowKit

/-- only two blocks have turned -/
def Only2 (b c : Nat) (w w' : World) : Prop := w'.os = w.os ∧ w'.tape = w.tape ∧ w'.output = w.output ∧ w.heap.size ≤ w'.heap.size ∧ ∀ k, k < w.heap.size → k ≠ b → k ≠ c → w'.heap[k]? = w.heap[k]?
theorem Only.left {b : Nat} {w w' : World} (h : Only b w w') (c : Nat) : Only2 b c w w' := ⟨h.os, h.tape, h.output, h.size, fun k hk h1 _ => h.block k hk (by simpa using h1)⟩
theorem Only.right {c : Nat} {w w' : World} (h : Only c w w') (b : Nat) : Only2 b c w w' := ⟨h.os, h.tape, h.output, h.size, fun k hk _ h2 => h.block k hk (by simpa using h2)⟩
theorem Only2.trans {b c : Nat} {x y z : World} (h : Only2 b c x y) (k : Only2 b c y z) : Only2 b c x z :=
  ⟨k.1.trans h.1, k.2.1.trans h.2.1, k.2.2.1.trans h.2.2.1, Nat.le_trans h.2.2.2.1 k.2.2.2.1, fun i hi h1 h2 => (k.2.2.2.2 i (Nat.lt_of_lt_of_le hi h.2.2.2.1) h1 h2).trans (h.2.2.2.2 i hi h1 h2)⟩
theorem Only2.of_below {b c : Nat} {w w' : World} (h : Below w.heap.size w w') : Only2 b c w w' := (Only.of_below (b := b) h).left c
theorem Only2.size {b c : Nat} {w w' : World} (h : Only2 b c w w') : w.heap.size ≤ w'.heap.size := h.2.2.2.1
theorem Only2.below {b c B : Nat} {w0 w w' : World} (h : Only2 b c w w') (h0 : Below B w0 w) (h1 : B ≤ b) (h2 : B ≤ c) (hs : B ≤ w.heap.size) : Below B w0 w' :=
  h0.trans ⟨h.1, h.2.1, h.2.2.1, h.2.2.2.1, fun k hk => h.2.2.2.2 k (by omega) (by omega) (by omega)⟩
theorem Only2.cell {b c : Nat} {w w' : World} (h : Only2 b c w w') {k o : Nat} (hk : k < w.heap.size) (h1 : k ≠ b) (h2 : k ≠ c) : w'.cell? ⟨k, o, none⟩ = w.cell? ⟨k, o, none⟩ := by
  have := h.2.2.2.2 k hk h1 h2
  simp [World.cell?, this]
theorem Only2.frozen {b c : Nat} {w w' : World} (h : Only2 b c w w') {k o : Nat} (hk : k < w.heap.size) (h1 : k ≠ b) (h2 : k ≠ c) : w'.frozen? ⟨k, o, none⟩ = w.frozen? ⟨k, o, none⟩ := by
  have := h.2.2.2.2 k hk h1 h2
  simp [World.frozen?, this]
theorem Clk.only2 {w w' : World} {b x y : Nat} {rep tm : Int} (h : Clk w b rep tm) (ho : Only2 x y w w') (h1 : b ≠ x) (h2 : b ≠ y) : Clk w' b rep tm := by
  have hlt := h.lt
  obtain ⟨k0, k1, k2, k3⟩ := h
  exact ⟨by rw [ho.cell hlt h1 h2]; exact k0, by rw [ho.cell hlt h1 h2]; exact k1, by rw [ho.cell hlt h1 h2]; exact k2, by rw [ho.frozen hlt h1 h2]; exact k3⟩
theorem RClk.only2 {w w' : World} {b x y : Nat} {rep tm : Int} (h : RClk w b rep tm) (ho : Only2 x y w w') (h1 : b ≠ x) (h2 : b ≠ y) : RClk w' b rep tm := by
  have hlt := h.lt
  obtain ⟨k0, k1, k3⟩ := h
  exact ⟨by rw [ho.cell hlt h1 h2]; exact k0, by rw [ho.cell hlt h1 h2]; exact k1, by rw [ho.frozen hlt h1 h2]; exact k3⟩

/-- two clocks that are alike -/
def Pair (w : World) (bc br : Nat) (rep tm : Int) : Prop := Clk w bc rep tm ∧ RClk w br rep tm ∧ bc ≠ br ∧ 0 ≤ tm ∧ tm ≤ 1099511627776
def Stepped (bc br : Nat) (rep : Int) (w : World) (e : Ending) (w' : World) : Prop := e = .returned (.bool true) ∧ (∃ tm, Pair w' bc br rep tm) ∧ Only2 bc br w w'

theorem nextR_bd (rep tm c : Int) (h0 : 0 ≤ tm) (h1 : tm ≤ 1099511627776) : 0 ≤ (nextR rep tm c).2.2.2 ∧ (nextR rep tm c).2.2.2 ≤ 1099511627776 := by
  unfold nextR
  repeat' split
  all_goals (simp; omega)
theorem seeR_bd (tm t r : Int) (h0 : 0 ≤ tm) (h1 : tm ≤ 1099511627776) : 0 ≤ (seeR tm t r).2 ∧ (seeR tm t r).2 ≤ 1099511627776 := by
  unfold seeR
  split
  · next h => have := rightB_yes h; simp only; omega
  · simp only; omega

theorem num_quiet (k : Int) (w : World) : Calls Tryd.prog 16 #[.int .i64 k] w fun e w' => e = .returned (.int .i64 k) ∧ w' = w := (lawNum2_any k w).mono fun _ _ h => ⟨h.1, h.2.symm⟩
theorem time_quiet (b : Nat) (rep tm : Int) (w : World) (h : Clk w b rep tm) : Calls Tryd.prog 38 #[.pointer (some ⟨b, 0, none⟩)] w fun e w' => e = .returned (.int .i64 tm) ∧ w' = w := (time_live b rep tm w h).mono fun _ _ h => ⟨h.1, h.2.symm⟩

set_option maxRecDepth 100000 in
set_option maxHeartbeats 4000000 in
theorem step_next (bc br : Nat) (rep tm n t r : Int) (w : World) (h : Pair w bc br rep tm) :
    Calls Tryd.prog 35 #[.pointer (some ⟨bc, 0, none⟩), .pointer (some ⟨br, 0, none⟩), .agg #[.int .i64 0, .int .i64 n, .int .i64 t, .int .i64 r]] w (Stepped bc br rep w) := by
  obtain ⟨hc, hr, hne, h0, h1⟩ := h
  have hb := (Below.refl w.heap.size w).alloc (Nat.le_refl _) (.cells #[.int .i64 0, .int .i64 n, .int .i64 t, .int .i64 r] 58)
  have HB := Lib.hid hb
  have HN := Lib.hid hne
  have hk := Lib.hid (hc.kept hb)
  have hrk := Lib.hid (hr.kept hb)
  have hclt := hc.lt
  have hrlt := hr.lt
  have HC := Lib.hid (next_live bc rep tm n _ hk.out h0 h1)
  have HR := Lib.hid (fun W h => refNext_any br rep tm n W h h0 h1)
  have HBD := Lib.hid (nextR_bd rep tm n h0 h1)
  generalize nextR rep tm n = q at *
  obtain ⟨s1, s2, en, tm'⟩ := q
  dsimp only at *
  clear hb hc hr hne h0 h1
  go_enter Tryd.func35, Tryd.ntmps35
  go_wp2_with fail
  refine HC.out.mono ?_
  rintro e w1 ⟨rfl, hc1, ho1⟩
  have hs1 := ho1.size
  have HO1 := Lib.hid ho1
  have c1 := ho1.cell (k := w.heap.size) (o := 1) (by simp) (by omega)
  rw [World.cell?_alloc_at _ _ _ _ rfl] at c1
  have c1' : w1.cell? ⟨w.heap.size, 1, none⟩ = some (.int .i64 n) := c1
  have hl1 : w.heap.size < w1.heap.size := by have : w.heap.size + 1 ≤ w1.heap.size := by simpa using hs1
                                              omega
  have hb2 := (Below.refl w1.heap.size w1).alloc (Nat.le_refl _) (.cells #[.int .i64 s1, .int .i64 s2] 23)
  have HC1 := Lib.hid (hc1.kept hb2)
  have HR1 := Lib.hid ((hrk.out.only ho1 (Ne.symm HN.out)).kept hb2)
  have HB2 := Lib.hid hb2
  clear hc1 ho1 c1 hs1 hb2
  go_wp2_with fail
  refine (HR.out _ HR1.out).mono ?_
  rintro e w2 ⟨rfl, hr2, ho2⟩
  have hs2 := ho2.size
  have d0 := ho2.cell (k := w1.heap.size) (o := 0) (by simp) (by omega)
  have d1 := ho2.cell (k := w1.heap.size) (o := 1) (by simp) (by omega)
  rw [World.cell?_alloc_at _ _ _ _ rfl] at d0 d1
  have d0' : w2.cell? ⟨w1.heap.size, 0, none⟩ = some (.int .i64 s1) := d0
  have d1' : w2.cell? ⟨w1.heap.size, 1, none⟩ = some (.int .i64 s2) := d1
  have hl2 : w1.heap.size < w2.heap.size := by have : w1.heap.size + 1 ≤ w2.heap.size := by simpa using hs2
                                               omega
  have hb3 := (Below.refl w2.heap.size w2).alloc (Nat.le_refl _) (.cells #[.int .i64 s1, .int .i64 s2] 23)
  have HC2 := Lib.hid ((HC1.out.only ho2 HN.out).kept hb3)
  have HR2 := Lib.hid (hr2.kept hb3)
  have HB3 := Lib.hid hb3
  have HO2 := Lib.hid ho2
  obtain ⟨-, r1, -⟩ := hr2
  have hrl2 : br < w2.heap.size := by omega
  clear hb3 ho2 d0 d1 hs2
  go_wp2
  go_quiet ((first | (go_at_call 16; exact Calls.quiet_of_same (num_quiet en _)) | (go_at_call 38; exact Calls.quiet_of_same (time_quiet bc rep tm' _ (by first | exact HC2.out | exact HC2.out.kept (below_drewN (Below.refl _ _) _))))))
  go_wp2
  go_ret
  exact ⟨rfl, ⟨tm', HC2.out.kept (below_drewN (Below.refl _ _) _), HR2.out.kept (below_drewN (Below.refl _ _) _), HN.out, HBD.out.1, HBD.out.2⟩,
    ((((Only2.of_below HB.out).trans (HO1.out.left br)).trans (Only2.of_below HB2.out)).trans (HO2.out.right bc)).trans ((Only2.of_below HB3.out).trans (Only2.of_below (below_drewN (Below.refl _ _) _)))⟩

set_option maxRecDepth 100000 in
set_option maxHeartbeats 4000000 in
theorem step_see (bc br : Nat) (rep tm kd n t r : Int) (w : World) (h : Pair w bc br rep tm) (hkd : kd ≠ 0) :
    Calls Tryd.prog 35 #[.pointer (some ⟨bc, 0, none⟩), .pointer (some ⟨br, 0, none⟩), .agg #[.int .i64 kd, .int .i64 n, .int .i64 t, .int .i64 r]] w (Stepped bc br rep w) := by
  have te : (kd == 0) = false := by rw [beq_eq_false_iff_ne]; exact hkd
  obtain ⟨hc, hr, hne, h0, h1⟩ := h
  have hb := (Below.refl w.heap.size w).alloc (Nat.le_refl _) (.cells #[.int .i64 kd, .int .i64 n, .int .i64 t, .int .i64 r] 58)
  have HB := Lib.hid hb
  have HN := Lib.hid hne
  have hk := Lib.hid (hc.kept hb)
  have hrk := Lib.hid (hr.kept hb)
  have hclt := hc.lt
  have hrlt := hr.lt
  have HC := Lib.hid (fun W h => see_live bc rep tm t r W h)
  have HR := Lib.hid (fun W h => refSee_any br rep tm t r W h)
  have HBD := Lib.hid (seeR_bd tm t r h0 h1)
  generalize seeR tm t r = q at *
  obtain ⟨en, tm'⟩ := q
  dsimp only at *
  have C2 : Hid ((w.alloc (.cells #[.int .i64 kd, .int .i64 n, .int .i64 t, .int .i64 r] 58)).drew.cell? ⟨w.heap.size, 2, none⟩ = some (.int .i64 t)) := Lib.hid (by rw [World.cell?_drew, World.cell?_alloc_at _ _ _ _ rfl]; rfl)
  have C3 : Hid ((w.alloc (.cells #[.int .i64 kd, .int .i64 n, .int .i64 t, .int .i64 r] 58)).drew.cell? ⟨w.heap.size, 3, none⟩ = some (.int .i64 r)) := Lib.hid (by rw [World.cell?_drew, World.cell?_alloc_at _ _ _ _ rfl]; rfl)
  clear hb hc hr hne h0 h1 hkd
  go_enter Tryd.func35, Tryd.ntmps35
  go_wp2
  go_upto_region 5 with fail
  refine wp_region_any (by kernel_rfl) ?_
  try (change wpAny _ _ _ _ _ _ _ (World.drew _))
  refine wpAny_take (i := 0) (v := ?_) rfl (by kernel_rfl) (by kernel_rfl) (by kernel_rfl) (fun _ _ _ h => h) (Or.inl ⟨by kernel_rfl, ?_⟩) ?_
  rotate_left
  · intro w; go_simp
    all_goals with_reducible rfl
  refine wpAny_take (i := 1) (v := ?_) rfl (by kernel_rfl) (by kernel_rfl) (by kernel_rfl) (fun _ _ _ h => h) (Or.inl ⟨by kernel_rfl, ?_⟩) ?_
  rotate_left
  · intro w; go_simp
    all_goals with_reducible rfl
  refine wpAny_take (i := 5) (v := ?_) rfl (by kernel_rfl) (by kernel_rfl) (by kernel_rfl) (fun _ _ _ h => h) (Or.inl ⟨by kernel_rfl, ?_⟩) ?_
  rotate_left
  · intro w; go_simp
    all_goals with_reducible rfl
  refine wpAny_take (i := 6) (v := ?_) rfl (by kernel_rfl) (by kernel_rfl) (by kernel_rfl) (fun _ _ _ h => h) (Or.inl ⟨by kernel_rfl, ?_⟩) ?_
  rotate_left
  · intro w; go_simp
    all_goals with_reducible rfl
  refine wpAny_ready (rs := [2, 7]) (by kernel_rfl) (by simp) ?_
  refine AllReady.cons rfl (fun K hK => ?_) (AllReady.cons rfl (fun K hK => ?_) (AllReady.nil))
  ·
    go_simp
    try (refine hK _ _ ?_)
    try (clear hK K)
    refine wpAny_ready (rs := [3, 7]) (by kernel_rfl) (by simp) ?_
    refine AllReady.cons rfl (fun K hK => ?_) (AllReady.cons rfl (fun K hK => ?_) (AllReady.nil))
    ·
      go_simp
      go_wp2_with (go_at_call 37; refine (HC.out _ (hk.out.kept ((Below.refl _ _).drew))).mono ?_; rintro e w1 ⟨rfl, hc1, ho1⟩; have HO1 := Lib.hid ho1; have y2 := (ho1.cell (k := w.heap.size) (o := 2) (by simp) (by omega)).trans C2.out; have y3 := (ho1.cell (k := w.heap.size) (o := 3) (by simp) (by omega)).trans C3.out; have HC1 := Lib.hid hc1; have HR1 := Lib.hid ((hrk.out.kept ((Below.refl _ _).drew)).only ho1 (Ne.symm HN.out)); clear hc1 ho1)
      try (refine hK _ _ ?_)
      try (clear hK K)
      refine wpAny_ready (rs := [4, 7]) (by kernel_rfl) (by simp) ?_
      refine AllReady.cons rfl (fun K hK => ?_) (AllReady.cons rfl (fun K hK => ?_) (AllReady.nil))
      ·
        go_simp
        go_wp2_with (go_at_call 16; refine (lawNum2_any en _).mono ?_; rintro e w' ⟨rfl, rfl⟩)
        try (refine hK _ _ ?_)
        try (clear hK K)
        refine wpAny_ready (rs := [7]) (by kernel_rfl) (by simp) ?_
        refine AllReady.cons rfl (fun K hK => ?_) (AllReady.nil)
        go_simp
        try (refine hK _ _ ?_)
        try (clear hK K)
        refine wpAny_ready (rs := [8]) (by kernel_rfl) (by simp) ?_
        refine AllReady.cons rfl (fun K hK => ?_) (AllReady.nil)
        go_simp
        go_wp2_with (go_at_call 52; refine (HR.out _ HR1.out).mono ?_; rintro e w2 ⟨rfl, hr2, ho2⟩; have HO2 := Lib.hid ho2; have HC2 := Lib.hid (HC1.out.only ho2 HN.out); have HR2 := Lib.hid hr2; obtain ⟨-, r1, -⟩ := hr2; clear ho2)
        try (refine hK _ _ ?_)
        try (clear hK K)
        refine wpAny_take (i := 9) (v := ?_) rfl (by kernel_rfl) (by kernel_rfl) (by kernel_rfl) (fun _ _ _ h => h) (Or.inl ⟨by kernel_rfl, ?_⟩) ?_
        rotate_left
        · intro w; go_simp
          all_goals with_reducible rfl
        refine wpAny_take (i := 10) (v := ?_) rfl (by kernel_rfl) (by kernel_rfl) (by kernel_rfl) (fun _ _ _ h => h) (Or.inl ⟨by kernel_rfl, ?_⟩) ?_
        rotate_left
        · intro w; go_simp
          all_goals with_reducible rfl
        refine wpAny_take (i := 11) (v := ?_) rfl (by kernel_rfl) (by kernel_rfl) (by kernel_rfl) (fun _ _ _ h => h) (Or.inl ⟨by kernel_rfl, ?_⟩) ?_
        rotate_left
        · intro w; go_simp
          all_goals with_reducible rfl
        refine wpAny_take (i := 13) (v := ?_) rfl (by kernel_rfl) (by kernel_rfl) (by kernel_rfl) (fun _ _ _ h => h) (Or.inl ⟨by kernel_rfl, ?_⟩) ?_
        rotate_left
        · intro w; go_simp
          all_goals with_reducible rfl
        refine wpAny_take (i := 14) (v := ?_) rfl (by kernel_rfl) (by kernel_rfl) (by kernel_rfl) (fun _ _ _ h => h) (Or.inl ⟨by kernel_rfl, ?_⟩) ?_
        rotate_left
        · intro w; go_simp
          all_goals with_reducible rfl
        refine wpAny_take (i := 15) (v := ?_) rfl (by kernel_rfl) (by kernel_rfl) (by kernel_rfl) (fun _ _ _ h => h) (Or.inl ⟨by kernel_rfl, ?_⟩) ?_
        rotate_left
        · intro w; go_simp
          all_goals with_reducible rfl
        refine wpAny_ready (rs := [12, 16]) (by kernel_rfl) (by simp) ?_
        refine AllReady.cons rfl (fun K hK => ?_) (AllReady.cons rfl (fun K hK => ?_) (AllReady.nil))
        ·
          go_simp
          go_wp2_with (go_at_call 38; refine (time_live bc rep tm' _ HC2.out).mono ?_; rintro e w' ⟨rfl, rfl⟩)
          try (refine hK _ _ ?_)
          try (clear hK K)
          refine wpAny_ready (rs := [16]) (by kernel_rfl) (by simp) ?_
          refine AllReady.cons rfl (fun K hK => ?_) (AllReady.nil)
          go_simp
          try (refine hK _ _ ?_)
          try (clear hK K)
          refine wpAny_take (i := 17) (v := ?_) rfl (by kernel_rfl) (by kernel_rfl) (by kernel_rfl) (fun _ _ _ h => h) (Or.inl ⟨by kernel_rfl, ?_⟩) ?_
          rotate_left
          · intro w; go_simp
            all_goals with_reducible rfl
          refine wpAny_take (i := 18) (v := ?_) rfl (by kernel_rfl) (by kernel_rfl) (by kernel_rfl) (fun _ _ _ h => h) (Or.inl ⟨by kernel_rfl, ?_⟩) ?_
          rotate_left
          · intro w; go_simp
            all_goals with_reducible rfl
          refine wpAny_take (i := 19) (v := ?_) rfl (by kernel_rfl) (by kernel_rfl) (by kernel_rfl) (fun _ _ _ h => h) (Or.inl ⟨by kernel_rfl, ?_⟩) ?_
          rotate_left
          · intro w; go_simp
            all_goals with_reducible rfl
          refine wpAny_done (by kernel_rfl) ?_ _
          go_wp2
          go_ret
          exact ⟨rfl, ⟨tm', HC2.out, HR2.out, HN.out, HBD.out.1, HBD.out.2⟩, (((Only2.of_below HB.out).trans (Only2.of_below ((Below.refl _ _).drew))).trans (HO1.out.left br)).trans (HO2.out.right bc)⟩
        ·
          go_simp
          try (refine hK _ _ ?_)
          try (clear hK K)
          refine wpAny_ready (rs := [12]) (by kernel_rfl) (by simp) ?_
          refine AllReady.cons rfl (fun K hK => ?_) (AllReady.nil)
          go_simp
          go_wp2_with (go_at_call 38; refine (time_live bc rep tm' _ HC2.out).mono ?_; rintro e w' ⟨rfl, rfl⟩)
          try (refine hK _ _ ?_)
          try (clear hK K)
          refine wpAny_take (i := 17) (v := ?_) rfl (by kernel_rfl) (by kernel_rfl) (by kernel_rfl) (fun _ _ _ h => h) (Or.inl ⟨by kernel_rfl, ?_⟩) ?_
          rotate_left
          · intro w; go_simp
            all_goals with_reducible rfl
          refine wpAny_take (i := 18) (v := ?_) rfl (by kernel_rfl) (by kernel_rfl) (by kernel_rfl) (fun _ _ _ h => h) (Or.inl ⟨by kernel_rfl, ?_⟩) ?_
          rotate_left
          · intro w; go_simp
            all_goals with_reducible rfl
          refine wpAny_take (i := 19) (v := ?_) rfl (by kernel_rfl) (by kernel_rfl) (by kernel_rfl) (fun _ _ _ h => h) (Or.inl ⟨by kernel_rfl, ?_⟩) ?_
          rotate_left
          · intro w; go_simp
            all_goals with_reducible rfl
          refine wpAny_done (by kernel_rfl) ?_ _
          go_wp2
          go_ret
          exact ⟨rfl, ⟨tm', HC2.out, HR2.out, HN.out, HBD.out.1, HBD.out.2⟩, (((Only2.of_below HB.out).trans (Only2.of_below ((Below.refl _ _).drew))).trans (HO1.out.left br)).trans (HO2.out.right bc)⟩
      ·
        go_simp
        try (refine hK _ _ ?_)
        try (clear hK K)
        refine wpAny_ready (rs := [4]) (by kernel_rfl) (by simp) ?_
        refine AllReady.cons rfl (fun K hK => ?_) (AllReady.nil)
        go_simp
        go_wp2_with (go_at_call 16; refine (lawNum2_any en _).mono ?_; rintro e w' ⟨rfl, rfl⟩)
        try (refine hK _ _ ?_)
        try (clear hK K)
        refine wpAny_ready (rs := [8]) (by kernel_rfl) (by simp) ?_
        refine AllReady.cons rfl (fun K hK => ?_) (AllReady.nil)
        go_simp
        go_wp2_with (go_at_call 52; refine (HR.out _ HR1.out).mono ?_; rintro e w2 ⟨rfl, hr2, ho2⟩; have HO2 := Lib.hid ho2; have HC2 := Lib.hid (HC1.out.only ho2 HN.out); have HR2 := Lib.hid hr2; obtain ⟨-, r1, -⟩ := hr2; clear ho2)
        try (refine hK _ _ ?_)
        try (clear hK K)
        refine wpAny_take (i := 9) (v := ?_) rfl (by kernel_rfl) (by kernel_rfl) (by kernel_rfl) (fun _ _ _ h => h) (Or.inl ⟨by kernel_rfl, ?_⟩) ?_
        rotate_left
        · intro w; go_simp
          all_goals with_reducible rfl
        refine wpAny_take (i := 10) (v := ?_) rfl (by kernel_rfl) (by kernel_rfl) (by kernel_rfl) (fun _ _ _ h => h) (Or.inl ⟨by kernel_rfl, ?_⟩) ?_
        rotate_left
        · intro w; go_simp
          all_goals with_reducible rfl
        refine wpAny_take (i := 11) (v := ?_) rfl (by kernel_rfl) (by kernel_rfl) (by kernel_rfl) (fun _ _ _ h => h) (Or.inl ⟨by kernel_rfl, ?_⟩) ?_
        rotate_left
        · intro w; go_simp
          all_goals with_reducible rfl
        refine wpAny_take (i := 13) (v := ?_) rfl (by kernel_rfl) (by kernel_rfl) (by kernel_rfl) (fun _ _ _ h => h) (Or.inl ⟨by kernel_rfl, ?_⟩) ?_
        rotate_left
        · intro w; go_simp
          all_goals with_reducible rfl
        refine wpAny_take (i := 14) (v := ?_) rfl (by kernel_rfl) (by kernel_rfl) (by kernel_rfl) (fun _ _ _ h => h) (Or.inl ⟨by kernel_rfl, ?_⟩) ?_
        rotate_left
        · intro w; go_simp
          all_goals with_reducible rfl
        refine wpAny_take (i := 15) (v := ?_) rfl (by kernel_rfl) (by kernel_rfl) (by kernel_rfl) (fun _ _ _ h => h) (Or.inl ⟨by kernel_rfl, ?_⟩) ?_
        rotate_left
        · intro w; go_simp
          all_goals with_reducible rfl
        refine wpAny_ready (rs := [12, 16]) (by kernel_rfl) (by simp) ?_
        refine AllReady.cons rfl (fun K hK => ?_) (AllReady.cons rfl (fun K hK => ?_) (AllReady.nil))
        ·
          go_simp
          go_wp2_with (go_at_call 38; refine (time_live bc rep tm' _ HC2.out).mono ?_; rintro e w' ⟨rfl, rfl⟩)
          try (refine hK _ _ ?_)
          try (clear hK K)
          refine wpAny_ready (rs := [16]) (by kernel_rfl) (by simp) ?_
          refine AllReady.cons rfl (fun K hK => ?_) (AllReady.nil)
          go_simp
          try (refine hK _ _ ?_)
          try (clear hK K)
          refine wpAny_take (i := 17) (v := ?_) rfl (by kernel_rfl) (by kernel_rfl) (by kernel_rfl) (fun _ _ _ h => h) (Or.inl ⟨by kernel_rfl, ?_⟩) ?_
          rotate_left
          · intro w; go_simp
            all_goals with_reducible rfl
          refine wpAny_take (i := 18) (v := ?_) rfl (by kernel_rfl) (by kernel_rfl) (by kernel_rfl) (fun _ _ _ h => h) (Or.inl ⟨by kernel_rfl, ?_⟩) ?_
          rotate_left
          · intro w; go_simp
            all_goals with_reducible rfl
          refine wpAny_take (i := 19) (v := ?_) rfl (by kernel_rfl) (by kernel_rfl) (by kernel_rfl) (fun _ _ _ h => h) (Or.inl ⟨by kernel_rfl, ?_⟩) ?_
          rotate_left
          · intro w; go_simp
            all_goals with_reducible rfl
          refine wpAny_done (by kernel_rfl) ?_ _
          go_wp2
          go_ret
          exact ⟨rfl, ⟨tm', HC2.out, HR2.out, HN.out, HBD.out.1, HBD.out.2⟩, (((Only2.of_below HB.out).trans (Only2.of_below ((Below.refl _ _).drew))).trans (HO1.out.left br)).trans (HO2.out.right bc)⟩
        ·
          go_simp
          try (refine hK _ _ ?_)
          try (clear hK K)
          refine wpAny_ready (rs := [12]) (by kernel_rfl) (by simp) ?_
          refine AllReady.cons rfl (fun K hK => ?_) (AllReady.nil)
          go_simp
          go_wp2_with (go_at_call 38; refine (time_live bc rep tm' _ HC2.out).mono ?_; rintro e w' ⟨rfl, rfl⟩)
          try (refine hK _ _ ?_)
          try (clear hK K)
          refine wpAny_take (i := 17) (v := ?_) rfl (by kernel_rfl) (by kernel_rfl) (by kernel_rfl) (fun _ _ _ h => h) (Or.inl ⟨by kernel_rfl, ?_⟩) ?_
          rotate_left
          · intro w; go_simp
            all_goals with_reducible rfl
          refine wpAny_take (i := 18) (v := ?_) rfl (by kernel_rfl) (by kernel_rfl) (by kernel_rfl) (fun _ _ _ h => h) (Or.inl ⟨by kernel_rfl, ?_⟩) ?_
          rotate_left
          · intro w; go_simp
            all_goals with_reducible rfl
          refine wpAny_take (i := 19) (v := ?_) rfl (by kernel_rfl) (by kernel_rfl) (by kernel_rfl) (fun _ _ _ h => h) (Or.inl ⟨by kernel_rfl, ?_⟩) ?_
          rotate_left
          · intro w; go_simp
            all_goals with_reducible rfl
          refine wpAny_done (by kernel_rfl) ?_ _
          go_wp2
          go_ret
          exact ⟨rfl, ⟨tm', HC2.out, HR2.out, HN.out, HBD.out.1, HBD.out.2⟩, (((Only2.of_below HB.out).trans (Only2.of_below ((Below.refl _ _).drew))).trans (HO1.out.left br)).trans (HO2.out.right bc)⟩
    ·
      go_simp
      try (refine hK _ _ ?_)
      try (clear hK K)
      refine wpAny_ready (rs := [3]) (by kernel_rfl) (by simp) ?_
      refine AllReady.cons rfl (fun K hK => ?_) (AllReady.nil)
      go_simp
      go_wp2_with (go_at_call 37; refine (HC.out _ (hk.out.kept ((Below.refl _ _).drew))).mono ?_; rintro e w1 ⟨rfl, hc1, ho1⟩; have HO1 := Lib.hid ho1; have y2 := (ho1.cell (k := w.heap.size) (o := 2) (by simp) (by omega)).trans C2.out; have y3 := (ho1.cell (k := w.heap.size) (o := 3) (by simp) (by omega)).trans C3.out; have HC1 := Lib.hid hc1; have HR1 := Lib.hid ((hrk.out.kept ((Below.refl _ _).drew)).only ho1 (Ne.symm HN.out)); clear hc1 ho1)
      try (refine hK _ _ ?_)
      try (clear hK K)
      refine wpAny_ready (rs := [4]) (by kernel_rfl) (by simp) ?_
      refine AllReady.cons rfl (fun K hK => ?_) (AllReady.nil)
      go_simp
      go_wp2_with (go_at_call 16; refine (lawNum2_any en _).mono ?_; rintro e w' ⟨rfl, rfl⟩)
      try (refine hK _ _ ?_)
      try (clear hK K)
      refine wpAny_ready (rs := [8]) (by kernel_rfl) (by simp) ?_
      refine AllReady.cons rfl (fun K hK => ?_) (AllReady.nil)
      go_simp
      go_wp2_with (go_at_call 52; refine (HR.out _ HR1.out).mono ?_; rintro e w2 ⟨rfl, hr2, ho2⟩; have HO2 := Lib.hid ho2; have HC2 := Lib.hid (HC1.out.only ho2 HN.out); have HR2 := Lib.hid hr2; obtain ⟨-, r1, -⟩ := hr2; clear ho2)
      try (refine hK _ _ ?_)
      try (clear hK K)
      refine wpAny_take (i := 9) (v := ?_) rfl (by kernel_rfl) (by kernel_rfl) (by kernel_rfl) (fun _ _ _ h => h) (Or.inl ⟨by kernel_rfl, ?_⟩) ?_
      rotate_left
      · intro w; go_simp
        all_goals with_reducible rfl
      refine wpAny_take (i := 10) (v := ?_) rfl (by kernel_rfl) (by kernel_rfl) (by kernel_rfl) (fun _ _ _ h => h) (Or.inl ⟨by kernel_rfl, ?_⟩) ?_
      rotate_left
      · intro w; go_simp
        all_goals with_reducible rfl
      refine wpAny_take (i := 11) (v := ?_) rfl (by kernel_rfl) (by kernel_rfl) (by kernel_rfl) (fun _ _ _ h => h) (Or.inl ⟨by kernel_rfl, ?_⟩) ?_
      rotate_left
      · intro w; go_simp
        all_goals with_reducible rfl
      refine wpAny_take (i := 13) (v := ?_) rfl (by kernel_rfl) (by kernel_rfl) (by kernel_rfl) (fun _ _ _ h => h) (Or.inl ⟨by kernel_rfl, ?_⟩) ?_
      rotate_left
      · intro w; go_simp
        all_goals with_reducible rfl
      refine wpAny_take (i := 14) (v := ?_) rfl (by kernel_rfl) (by kernel_rfl) (by kernel_rfl) (fun _ _ _ h => h) (Or.inl ⟨by kernel_rfl, ?_⟩) ?_
      rotate_left
      · intro w; go_simp
        all_goals with_reducible rfl
      refine wpAny_take (i := 15) (v := ?_) rfl (by kernel_rfl) (by kernel_rfl) (by kernel_rfl) (fun _ _ _ h => h) (Or.inl ⟨by kernel_rfl, ?_⟩) ?_
      rotate_left
      · intro w; go_simp
        all_goals with_reducible rfl
      refine wpAny_ready (rs := [12, 16]) (by kernel_rfl) (by simp) ?_
      refine AllReady.cons rfl (fun K hK => ?_) (AllReady.cons rfl (fun K hK => ?_) (AllReady.nil))
      ·
        go_simp
        go_wp2_with (go_at_call 38; refine (time_live bc rep tm' _ HC2.out).mono ?_; rintro e w' ⟨rfl, rfl⟩)
        try (refine hK _ _ ?_)
        try (clear hK K)
        refine wpAny_ready (rs := [16]) (by kernel_rfl) (by simp) ?_
        refine AllReady.cons rfl (fun K hK => ?_) (AllReady.nil)
        go_simp
        try (refine hK _ _ ?_)
        try (clear hK K)
        refine wpAny_take (i := 17) (v := ?_) rfl (by kernel_rfl) (by kernel_rfl) (by kernel_rfl) (fun _ _ _ h => h) (Or.inl ⟨by kernel_rfl, ?_⟩) ?_
        rotate_left
        · intro w; go_simp
          all_goals with_reducible rfl
        refine wpAny_take (i := 18) (v := ?_) rfl (by kernel_rfl) (by kernel_rfl) (by kernel_rfl) (fun _ _ _ h => h) (Or.inl ⟨by kernel_rfl, ?_⟩) ?_
        rotate_left
        · intro w; go_simp
          all_goals with_reducible rfl
        refine wpAny_take (i := 19) (v := ?_) rfl (by kernel_rfl) (by kernel_rfl) (by kernel_rfl) (fun _ _ _ h => h) (Or.inl ⟨by kernel_rfl, ?_⟩) ?_
        rotate_left
        · intro w; go_simp
          all_goals with_reducible rfl
        refine wpAny_done (by kernel_rfl) ?_ _
        go_wp2
        go_ret
        exact ⟨rfl, ⟨tm', HC2.out, HR2.out, HN.out, HBD.out.1, HBD.out.2⟩, (((Only2.of_below HB.out).trans (Only2.of_below ((Below.refl _ _).drew))).trans (HO1.out.left br)).trans (HO2.out.right bc)⟩
      ·
        go_simp
        try (refine hK _ _ ?_)
        try (clear hK K)
        refine wpAny_ready (rs := [12]) (by kernel_rfl) (by simp) ?_
        refine AllReady.cons rfl (fun K hK => ?_) (AllReady.nil)
        go_simp
        go_wp2_with (go_at_call 38; refine (time_live bc rep tm' _ HC2.out).mono ?_; rintro e w' ⟨rfl, rfl⟩)
        try (refine hK _ _ ?_)
        try (clear hK K)
        refine wpAny_take (i := 17) (v := ?_) rfl (by kernel_rfl) (by kernel_rfl) (by kernel_rfl) (fun _ _ _ h => h) (Or.inl ⟨by kernel_rfl, ?_⟩) ?_
        rotate_left
        · intro w; go_simp
          all_goals with_reducible rfl
        refine wpAny_take (i := 18) (v := ?_) rfl (by kernel_rfl) (by kernel_rfl) (by kernel_rfl) (fun _ _ _ h => h) (Or.inl ⟨by kernel_rfl, ?_⟩) ?_
        rotate_left
        · intro w; go_simp
          all_goals with_reducible rfl
        refine wpAny_take (i := 19) (v := ?_) rfl (by kernel_rfl) (by kernel_rfl) (by kernel_rfl) (fun _ _ _ h => h) (Or.inl ⟨by kernel_rfl, ?_⟩) ?_
        rotate_left
        · intro w; go_simp
          all_goals with_reducible rfl
        refine wpAny_done (by kernel_rfl) ?_ _
        go_wp2
        go_ret
        exact ⟨rfl, ⟨tm', HC2.out, HR2.out, HN.out, HBD.out.1, HBD.out.2⟩, (((Only2.of_below HB.out).trans (Only2.of_below ((Below.refl _ _).drew))).trans (HO1.out.left br)).trans (HO2.out.right bc)⟩
  ·
    go_simp
    try (refine hK _ _ ?_)
    try (clear hK K)
    refine wpAny_ready (rs := [2]) (by kernel_rfl) (by simp) ?_
    refine AllReady.cons rfl (fun K hK => ?_) (AllReady.nil)
    go_simp
    try (refine hK _ _ ?_)
    try (clear hK K)
    refine wpAny_ready (rs := [3]) (by kernel_rfl) (by simp) ?_
    refine AllReady.cons rfl (fun K hK => ?_) (AllReady.nil)
    go_simp
    go_wp2_with (go_at_call 37; refine (HC.out _ (hk.out.kept ((Below.refl _ _).drew))).mono ?_; rintro e w1 ⟨rfl, hc1, ho1⟩; have HO1 := Lib.hid ho1; have y2 := (ho1.cell (k := w.heap.size) (o := 2) (by simp) (by omega)).trans C2.out; have y3 := (ho1.cell (k := w.heap.size) (o := 3) (by simp) (by omega)).trans C3.out; have HC1 := Lib.hid hc1; have HR1 := Lib.hid ((hrk.out.kept ((Below.refl _ _).drew)).only ho1 (Ne.symm HN.out)); clear hc1 ho1)
    try (refine hK _ _ ?_)
    try (clear hK K)
    refine wpAny_ready (rs := [4]) (by kernel_rfl) (by simp) ?_
    refine AllReady.cons rfl (fun K hK => ?_) (AllReady.nil)
    go_simp
    go_wp2_with (go_at_call 16; refine (lawNum2_any en _).mono ?_; rintro e w' ⟨rfl, rfl⟩)
    try (refine hK _ _ ?_)
    try (clear hK K)
    refine wpAny_ready (rs := [8]) (by kernel_rfl) (by simp) ?_
    refine AllReady.cons rfl (fun K hK => ?_) (AllReady.nil)
    go_simp
    go_wp2_with (go_at_call 52; refine (HR.out _ HR1.out).mono ?_; rintro e w2 ⟨rfl, hr2, ho2⟩; have HO2 := Lib.hid ho2; have HC2 := Lib.hid (HC1.out.only ho2 HN.out); have HR2 := Lib.hid hr2; obtain ⟨-, r1, -⟩ := hr2; clear ho2)
    try (refine hK _ _ ?_)
    try (clear hK K)
    refine wpAny_take (i := 9) (v := ?_) rfl (by kernel_rfl) (by kernel_rfl) (by kernel_rfl) (fun _ _ _ h => h) (Or.inl ⟨by kernel_rfl, ?_⟩) ?_
    rotate_left
    · intro w; go_simp
      all_goals with_reducible rfl
    refine wpAny_take (i := 10) (v := ?_) rfl (by kernel_rfl) (by kernel_rfl) (by kernel_rfl) (fun _ _ _ h => h) (Or.inl ⟨by kernel_rfl, ?_⟩) ?_
    rotate_left
    · intro w; go_simp
      all_goals with_reducible rfl
    refine wpAny_take (i := 11) (v := ?_) rfl (by kernel_rfl) (by kernel_rfl) (by kernel_rfl) (fun _ _ _ h => h) (Or.inl ⟨by kernel_rfl, ?_⟩) ?_
    rotate_left
    · intro w; go_simp
      all_goals with_reducible rfl
    refine wpAny_take (i := 13) (v := ?_) rfl (by kernel_rfl) (by kernel_rfl) (by kernel_rfl) (fun _ _ _ h => h) (Or.inl ⟨by kernel_rfl, ?_⟩) ?_
    rotate_left
    · intro w; go_simp
      all_goals with_reducible rfl
    refine wpAny_take (i := 14) (v := ?_) rfl (by kernel_rfl) (by kernel_rfl) (by kernel_rfl) (fun _ _ _ h => h) (Or.inl ⟨by kernel_rfl, ?_⟩) ?_
    rotate_left
    · intro w; go_simp
      all_goals with_reducible rfl
    refine wpAny_take (i := 15) (v := ?_) rfl (by kernel_rfl) (by kernel_rfl) (by kernel_rfl) (fun _ _ _ h => h) (Or.inl ⟨by kernel_rfl, ?_⟩) ?_
    rotate_left
    · intro w; go_simp
      all_goals with_reducible rfl
    refine wpAny_ready (rs := [12, 16]) (by kernel_rfl) (by simp) ?_
    refine AllReady.cons rfl (fun K hK => ?_) (AllReady.cons rfl (fun K hK => ?_) (AllReady.nil))
    ·
      go_simp
      go_wp2_with (go_at_call 38; refine (time_live bc rep tm' _ HC2.out).mono ?_; rintro e w' ⟨rfl, rfl⟩)
      try (refine hK _ _ ?_)
      try (clear hK K)
      refine wpAny_ready (rs := [16]) (by kernel_rfl) (by simp) ?_
      refine AllReady.cons rfl (fun K hK => ?_) (AllReady.nil)
      go_simp
      try (refine hK _ _ ?_)
      try (clear hK K)
      refine wpAny_take (i := 17) (v := ?_) rfl (by kernel_rfl) (by kernel_rfl) (by kernel_rfl) (fun _ _ _ h => h) (Or.inl ⟨by kernel_rfl, ?_⟩) ?_
      rotate_left
      · intro w; go_simp
        all_goals with_reducible rfl
      refine wpAny_take (i := 18) (v := ?_) rfl (by kernel_rfl) (by kernel_rfl) (by kernel_rfl) (fun _ _ _ h => h) (Or.inl ⟨by kernel_rfl, ?_⟩) ?_
      rotate_left
      · intro w; go_simp
        all_goals with_reducible rfl
      refine wpAny_take (i := 19) (v := ?_) rfl (by kernel_rfl) (by kernel_rfl) (by kernel_rfl) (fun _ _ _ h => h) (Or.inl ⟨by kernel_rfl, ?_⟩) ?_
      rotate_left
      · intro w; go_simp
        all_goals with_reducible rfl
      refine wpAny_done (by kernel_rfl) ?_ _
      go_wp2
      go_ret
      exact ⟨rfl, ⟨tm', HC2.out, HR2.out, HN.out, HBD.out.1, HBD.out.2⟩, (((Only2.of_below HB.out).trans (Only2.of_below ((Below.refl _ _).drew))).trans (HO1.out.left br)).trans (HO2.out.right bc)⟩
    ·
      go_simp
      try (refine hK _ _ ?_)
      try (clear hK K)
      refine wpAny_ready (rs := [12]) (by kernel_rfl) (by simp) ?_
      refine AllReady.cons rfl (fun K hK => ?_) (AllReady.nil)
      go_simp
      go_wp2_with (go_at_call 38; refine (time_live bc rep tm' _ HC2.out).mono ?_; rintro e w' ⟨rfl, rfl⟩)
      try (refine hK _ _ ?_)
      try (clear hK K)
      refine wpAny_take (i := 17) (v := ?_) rfl (by kernel_rfl) (by kernel_rfl) (by kernel_rfl) (fun _ _ _ h => h) (Or.inl ⟨by kernel_rfl, ?_⟩) ?_
      rotate_left
      · intro w; go_simp
        all_goals with_reducible rfl
      refine wpAny_take (i := 18) (v := ?_) rfl (by kernel_rfl) (by kernel_rfl) (by kernel_rfl) (fun _ _ _ h => h) (Or.inl ⟨by kernel_rfl, ?_⟩) ?_
      rotate_left
      · intro w; go_simp
        all_goals with_reducible rfl
      refine wpAny_take (i := 19) (v := ?_) rfl (by kernel_rfl) (by kernel_rfl) (by kernel_rfl) (fun _ _ _ h => h) (Or.inl ⟨by kernel_rfl, ?_⟩) ?_
      rotate_left
      · intro w; go_simp
        all_goals with_reducible rfl
      refine wpAny_done (by kernel_rfl) ?_ _
      go_wp2
      go_ret
      exact ⟨rfl, ⟨tm', HC2.out, HR2.out, HN.out, HBD.out.1, HBD.out.2⟩, (((Only2.of_below HB.out).trans (Only2.of_below ((Below.refl _ _).drew))).trans (HO1.out.left br)).trans (HO2.out.right bc)⟩

end Go.Proofs.YtbggbpdkphhhdaaDoor
