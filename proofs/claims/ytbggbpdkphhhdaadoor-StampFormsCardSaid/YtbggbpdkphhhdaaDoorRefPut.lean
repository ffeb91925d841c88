/-
  THE DOCUMENT's Put; append inside a region that draws its order.
  No conditions.
-/
import Derived.Test.YtbggbpdkphhhdaaDoorRefClock
import Derived.Test.YtbggbpdkphhhdaaDoorPutTake
import Derived.Test.YtbggbpdkphhhdaaDoorRef
namespace Go.Proofs.YtbggbpdkphhhdaaDoor
open Go.RowKit

/-- THE OPERATION, inside a region that draws its order: append of a slice of bytes. -/
theorem step_append_bs {P : Program} {w : World} {ops : Array Oper} {o : Oper} {a : Act} {K : Act → World → Prop} {Q : Exit → Act → World → Prop} {E : Prop} (hw : Region.wanted o (yielded ops a.tmps) = true) (s x : Operand) (t : TypeId)
    (ho : o.op = .call { callee := .builtin .append, args := #[s, x], argTypes := #[t, t] })
    (base : Nat) (e : TypeId) (i : TypeInfo) (ht : P.underlying t = some (.slice e)) (hi : P.info? e = some i) (hz : i.zero = some (.int .u8 0))
    (hsize : i.size = 1) (hby : i.bytes = 1)
    (v : Value) (xs : List UInt8) (hs : a.eval s = v) (hown : Own e w base v xs)
    (p : Option Addr) (c : Nat) (l : List UInt8) (hx : a.eval x = .slice p l.length c) (hbs : Bs w p l) (hpn : p = none → c = 0)
    (hbytes : xs.length + l.length ≤ 211106232532992) (hbase : base ≤ w.heap.size)
    (h : ∀ v' w', Own e w' base v' (xs ++ l) → Below base w w' → K (a.put o.dst v') w') : if Region.wanted o (yielded ops a.tmps) = true then Oper.wp P o a w K Q else E := by
  rw [if_pos hw]
  obtain ⟨v', w', hr, h2, h3, -⟩ := run_append_rd (P := P) w base t o.type e i (.int .u8 0) 1 ht hi hz hsize hby (by decide) rfl v xs.length (vals xs) hown p c (vals l) hbs.rd hpn vals_one
    (by rw [vals_length]; omega) (by rw [vals_length]; unfold maxLen; omega) hbase
  rw [vals_length] at hr h2
  unfold Oper.wp execOp
  simp only [ho, resolve, invoke, builtin, Sem.run_bind, Sem.run_pure, Result.andThen_ok, List.map_toArray, List.map_cons, List.map_nil, hs, hx, hr]
  refine h v' w' ?_ ?_
  · unfold Own; rw [vals_append, List.length_append]; exact h2
  · exact (Below.refl _ _).grown h3 hbase fun k hk => (World.ownsRow.lt hown k hk).1

set_option maxRecDepth 100000 in
set_option maxHeartbeats 4000000 in
theorem refPut_any (t r : Int) (w : World) : Calls Tryd.prog 13 #[.agg #[.int .i64 t, .int .i64 r]] w (Made 5 w (putW t r).1) := by
  obtain ⟨i0, hi, hz0, hz1, hz2⟩ := info_parts info_u8
  have hb := (Below.refl w.heap.size w).alloc (Nat.le_refl _) (.cells #[.int .i64 t, .int .i64 r] 23)
  have HB := Lib.hid hb
  cases hR : rightB t r with
  | false =>
    have HR := Lib.hid (show putW t r = ([], 1) by unfold putW; rw [if_neg (by simp [hR])])
    have HRB := Lib.hid hR
    clear hR hb
    go_enter Tryd.func13, Tryd.ntmps13
    go_wp2_with fail
    refine (refRight_any t r _).mono ?_
    rw [HRB.out]
    rintro e w1 ⟨rfl, hb1⟩
    have HB1 := Lib.hid (HB.out.trans (hb1.mono (by simp)))
    clear hb1
    go_wp2
    go_ret
    rw [HR.out]
    exact ⟨_, rfl, Own.nil _ _ _, HB1.out⟩
  | true =>
    obtain ⟨h0, h1, h2, h3⟩ := rightB_yes hR
    have HR := Lib.hid (show putW t r = (Wm.numB t.toNat ++ Wm.numB r.toNat, 0) by unfold putW; rw [if_pos hR])
    have HRB := Lib.hid hR
    have HN1 := Lib.hid (show (numW t).1 = Wm.numB t.toNat by unfold numW; rw [if_pos (by omega)])
    have HN2 := Lib.hid (show (numW r).1 = Wm.numB r.toNat by unfold numW; rw [if_pos (by omega)])
    have s1 := numB_small t.toNat
    have s2 := numB_small r.toNat
    generalize Wm.numB t.toNat = x at *
    generalize Wm.numB r.toNat = y at *
    clear hR hb h0 h1 h2 h3
    go_enter Tryd.func13, Tryd.ntmps13
    go_wp2_with fail
    refine (refRight_any t r _).mono ?_
    rw [HRB.out]
    rintro e w1 ⟨rfl, hb1⟩
    have HTW := Lib.hid (((TwoAt.start w t r).kept hb1).kept ((Below.refl w1.heap.size w1).drew))
    have c0 := (TwoAt.start w t r).kept hb1 |>.cell0
    have c1 := (TwoAt.start w t r).kept hb1 |>.cell1
    have HB1 := Lib.hid ((HB.out.trans (hb1.mono (by simp))).trans (((Below.refl w1.heap.size w1).drew).mono (Nat.le_of_lt (cell_lt c0))))
    have hl1 : w.heap.size < w1.heap.size := cell_lt c0
    clear hb1
    go_wp2
    refine wp_region_any (by kernel_rfl) ?_
    try (change wpAny _ _ _ _ _ _ _ (World.drew _))
    refine wpAny_take (i := 0) (v := ?_) rfl (by kernel_rfl) (by kernel_rfl) (by kernel_rfl) (fun _ _ _ h => h) (Or.inl ⟨by kernel_rfl, ?_⟩) ?_
    rotate_left
    · intro w; go_simp
      all_goals with_reducible rfl
    refine wpAny_take (i := 3) (v := ?_) rfl (by kernel_rfl) (by kernel_rfl) (by kernel_rfl) (fun _ _ _ h => h) (Or.inl ⟨by kernel_rfl, ?_⟩) ?_
    rotate_left
    · intro w; go_simp
      all_goals with_reducible rfl
    refine wpAny_ready (rs := [1, 4]) (by kernel_rfl) (by simp) ?_
    refine AllReady.cons rfl (fun K hK => ?_) (AllReady.cons rfl (fun K hK => ?_) (AllReady.nil))
    ·
      go_simp
      try (refine hK _ _ ?_)
      try (clear hK K)
      refine wpAny_ready (rs := [2, 4]) (by kernel_rfl) (by simp) ?_
      refine AllReady.cons rfl (fun K hK => ?_) (AllReady.cons rfl (fun K hK => ?_) (AllReady.nil))
      ·
        go_simp
        go_wp2_with (go_at_call 41; refine (refNum_any t _).mono ?_; rw [HN1.out]; rintro e w2 ⟨v2, rfl, hown2, hb2⟩; have HO2 := Lib.hid (hown2.base (show w.heap.size ≤ w1.drew.heap.size from Nat.le_of_lt hl1)); have HB2 := Lib.hid (HB1.out.trans (hb2.mono HB1.out.size)); have y1 := (HTW.out.kept hb2).cell1; clear hown2 hb2)
        try (refine hK _ _ ?_)
        try (clear hK K)
        refine wpAny_ready (rs := [4]) (by kernel_rfl) (by simp) ?_
        refine AllReady.cons rfl (fun K hK => ?_) (AllReady.nil)
        go_simp
        try (refine hK _ _ ?_)
        try (clear hK K)
        refine wpAny_ready (rs := [5]) (by kernel_rfl) (by simp) ?_
        refine AllReady.cons rfl (fun K hK => ?_) (AllReady.nil)
        go_simp
        go_wp2_with (go_at_call 41; refine (refNum_any r _).mono ?_; rw [HN2.out]; rintro e w3 ⟨v3, rfl, hown3, hb3⟩; obtain ⟨p3, k3, rfl, hbs3, -, -, hpn3, -⟩ := hown3.bs; have HO3 := Lib.hid (HO2.out.below hb3); have HBS := Lib.hid hbs3; have HB3 := Lib.hid (HB2.out.trans (hb3.mono HB2.out.size)); have hs3 : w.heap.size ≤ w3.heap.size := HB3.out.size; clear hown3 hbs3 hb3)
        try (refine hK _ _ ?_)
        try (clear hK K)
        refine wpAny_ready (rs := [6]) (by kernel_rfl) (by simp) ?_
        refine AllReady.cons rfl (fun K hK => ?_) (AllReady.nil)
        refine step_append_bs (by kernel_rfl) _ _ 25 rfl w.heap.size 5 i0 Tryd.underlying25 hi hz0 hz1 hz2 _ x rfl HO3.out p3 k3 y rfl HBS.out hpn3 (by omega) hs3 ?_
        intro v4 w4 hown4 hbel4
        have HO4 := Lib.hid hown4
        have HB4 := Lib.hid (HB3.out.trans hbel4)
        clear hown4 hbel4
        refine hK _ _ ?_
        clear hK K
        refine wpAny_take (i := 7) (v := ?_) rfl (by kernel_rfl) (by kernel_rfl) (by kernel_rfl) (fun _ _ _ h => h) (Or.inl ⟨by kernel_rfl, ?_⟩) ?_
        rotate_left
        · intro w; go_simp
          all_goals with_reducible rfl
        refine wpAny_done (by kernel_rfl) ?_ _
        go_wp2
        go_ret
        rw [HR.out]
        exact ⟨_, rfl, HO4.out, HB4.out⟩
      ·
        go_simp
        try (refine hK _ _ ?_)
        try (clear hK K)
        refine wpAny_ready (rs := [2]) (by kernel_rfl) (by simp) ?_
        refine AllReady.cons rfl (fun K hK => ?_) (AllReady.nil)
        go_simp
        go_wp2_with (go_at_call 41; refine (refNum_any t _).mono ?_; rw [HN1.out]; rintro e w2 ⟨v2, rfl, hown2, hb2⟩; have HO2 := Lib.hid (hown2.base (show w.heap.size ≤ w1.drew.heap.size from Nat.le_of_lt hl1)); have HB2 := Lib.hid (HB1.out.trans (hb2.mono HB1.out.size)); have y1 := (HTW.out.kept hb2).cell1; clear hown2 hb2)
        try (refine hK _ _ ?_)
        try (clear hK K)
        refine wpAny_ready (rs := [5]) (by kernel_rfl) (by simp) ?_
        refine AllReady.cons rfl (fun K hK => ?_) (AllReady.nil)
        go_simp
        go_wp2_with (go_at_call 41; refine (refNum_any r _).mono ?_; rw [HN2.out]; rintro e w3 ⟨v3, rfl, hown3, hb3⟩; obtain ⟨p3, k3, rfl, hbs3, -, -, hpn3, -⟩ := hown3.bs; have HO3 := Lib.hid (HO2.out.below hb3); have HBS := Lib.hid hbs3; have HB3 := Lib.hid (HB2.out.trans (hb3.mono HB2.out.size)); have hs3 : w.heap.size ≤ w3.heap.size := HB3.out.size; clear hown3 hbs3 hb3)
        try (refine hK _ _ ?_)
        try (clear hK K)
        refine wpAny_ready (rs := [6]) (by kernel_rfl) (by simp) ?_
        refine AllReady.cons rfl (fun K hK => ?_) (AllReady.nil)
        refine step_append_bs (by kernel_rfl) _ _ 25 rfl w.heap.size 5 i0 Tryd.underlying25 hi hz0 hz1 hz2 _ x rfl HO3.out p3 k3 y rfl HBS.out hpn3 (by omega) hs3 ?_
        intro v4 w4 hown4 hbel4
        have HO4 := Lib.hid hown4
        have HB4 := Lib.hid (HB3.out.trans hbel4)
        clear hown4 hbel4
        refine hK _ _ ?_
        clear hK K
        refine wpAny_take (i := 7) (v := ?_) rfl (by kernel_rfl) (by kernel_rfl) (by kernel_rfl) (fun _ _ _ h => h) (Or.inl ⟨by kernel_rfl, ?_⟩) ?_
        rotate_left
        · intro w; go_simp
          all_goals with_reducible rfl
        refine wpAny_done (by kernel_rfl) ?_ _
        go_wp2
        go_ret
        rw [HR.out]
        exact ⟨_, rfl, HO4.out, HB4.out⟩
    ·
      go_simp
      try (refine hK _ _ ?_)
      try (clear hK K)
      refine wpAny_ready (rs := [1]) (by kernel_rfl) (by simp) ?_
      refine AllReady.cons rfl (fun K hK => ?_) (AllReady.nil)
      go_simp
      try (refine hK _ _ ?_)
      try (clear hK K)
      refine wpAny_ready (rs := [2]) (by kernel_rfl) (by simp) ?_
      refine AllReady.cons rfl (fun K hK => ?_) (AllReady.nil)
      go_simp
      go_wp2_with (go_at_call 41; refine (refNum_any t _).mono ?_; rw [HN1.out]; rintro e w2 ⟨v2, rfl, hown2, hb2⟩; have HO2 := Lib.hid (hown2.base (show w.heap.size ≤ w1.drew.heap.size from Nat.le_of_lt hl1)); have HB2 := Lib.hid (HB1.out.trans (hb2.mono HB1.out.size)); have y1 := (HTW.out.kept hb2).cell1; clear hown2 hb2)
      try (refine hK _ _ ?_)
      try (clear hK K)
      refine wpAny_ready (rs := [5]) (by kernel_rfl) (by simp) ?_
      refine AllReady.cons rfl (fun K hK => ?_) (AllReady.nil)
      go_simp
      go_wp2_with (go_at_call 41; refine (refNum_any r _).mono ?_; rw [HN2.out]; rintro e w3 ⟨v3, rfl, hown3, hb3⟩; obtain ⟨p3, k3, rfl, hbs3, -, -, hpn3, -⟩ := hown3.bs; have HO3 := Lib.hid (HO2.out.below hb3); have HBS := Lib.hid hbs3; have HB3 := Lib.hid (HB2.out.trans (hb3.mono HB2.out.size)); have hs3 : w.heap.size ≤ w3.heap.size := HB3.out.size; clear hown3 hbs3 hb3)
      try (refine hK _ _ ?_)
      try (clear hK K)
      refine wpAny_ready (rs := [6]) (by kernel_rfl) (by simp) ?_
      refine AllReady.cons rfl (fun K hK => ?_) (AllReady.nil)
      refine step_append_bs (by kernel_rfl) _ _ 25 rfl w.heap.size 5 i0 Tryd.underlying25 hi hz0 hz1 hz2 _ x rfl HO3.out p3 k3 y rfl HBS.out hpn3 (by omega) hs3 ?_
      intro v4 w4 hown4 hbel4
      have HO4 := Lib.hid hown4
      have HB4 := Lib.hid (HB3.out.trans hbel4)
      clear hown4 hbel4
      refine hK _ _ ?_
      clear hK K
      refine wpAny_take (i := 7) (v := ?_) rfl (by kernel_rfl) (by kernel_rfl) (by kernel_rfl) (fun _ _ _ h => h) (Or.inl ⟨by kernel_rfl, ?_⟩) ?_
      rotate_left
      · intro w; go_simp
        all_goals with_reducible rfl
      refine wpAny_done (by kernel_rfl) ?_ _
      go_wp2
      go_ret
      rw [HR.out]
      exact ⟨_, rfl, HO4.out, HB4.out⟩

end Go.Proofs.YtbggbpdkphhhdaaDoor
