/-
  THE DOCUMENT's Parse: the walk over the text.
  No conditions.
-/
import Derived.Test.YtfakbbbkfmnnhaaGreatDoorRefNumS
namespace Go.Proofs.YtfakbbbkfmnnhaaGreatDoor
open Go.RowKit Go.Lib

theorem below_drew_alloc (w : World) (o : Obj) : Below w.heap.size w (w.alloc o).drew := ((Below.refl _ _).alloc (Nat.le_refl _) o).drew
theorem cell_drew_alloc (w : World) (xs : Array Value) (i : Nat) : (w.alloc (.cells xs 79)).drew.cell? ⟨w.heap.size, i, none⟩ = xs[i]? := by rw [World.cell?_drew, World.cell?_alloc_at _ _ _ _ rfl]

theorem cut_at (l : List UInt8) (k : Nat) (hk : k < l.length) (hn : (64 : UInt8) ∉ l.take k) (hc : l[k] = 64) : cutB l = (l.take k, l.drop (k + 1), true) := by
  have e : l = l.take k ++ 64 :: l.drop (k + 1) := by rw [← hc, ← List.drop_eq_getElem_cons hk, List.take_append_drop]
  have h := cutB_app (l.take k) (l.drop (k + 1)) hn
  rw [← e] at h
  exact h
theorem cut_none (l : List UInt8) (hn : (64 : UInt8) ∉ l) : (cutB l).2.2 = false := by
  cases h : (cutB l).2.2 with
  | false => rfl
  | true =>
    exfalso
    obtain ⟨e, -⟩ := cutB_true l h
    exact hn (by rw [e]; simp)
theorem char_of {c : UInt8} {b : Bool} (h : ((c.toNat : Int) == 64) = b) : (c == 64) = b := by
  rw [← h]
  by_cases hc : c = 64
  · subst hc; rfl
  · have h1 : (c == 64) = false := by rw [beq_eq_false_iff_ne]; exact hc
    have h2 : ((c.toNat : Int) == 64) = false := by
      rw [beq_eq_false_iff_ne]
      intro e
      exact hc (UInt8.toNat_inj.1 (by show c.toNat = 64; omega))
    rw [h1, h2]

set_option maxRecDepth 100000 in
set_option maxHeartbeats 4000000 in
theorem refParse_any (s : ByteArray) (w : World) (hs : s.size ≤ 9223372036854775806) :
    Calls Tryz.prog 54 #[.string s] w fun e w' => e = .returned (.tuple #[.agg #[.int .i64 (refParseR s.data.toList).1, .int .i64 (refParseR s.data.toList).2.1], .bool (refParseR s.data.toList).2.2]) ∧ Below w.heap.size w w' := by
  have hsl : s.data.toList.length = s.size := by rw [Array.length_toList]; rfl
  have HSL := Lib.hid hsl
  have HR0 := Lib.hid (Res.start w)
  clear hsl
  go_enter Tryz.func54, Tryz.ntmps54
  go_wp2
  generalize hw1 : w.alloc (.cells #[.int .i64 0, .int .i64 0] 79) = w1 at *
  have HW1 := Lib.hid hw1
  clear hw1
  have HRS := Lib.hid HR0.out
  clear HR0
  go_loop [4] (fun i => ∃ k : Nat, k ≤ s.size ∧ i = .int .i64 k ∧ (64 : UInt8) ∉ s.data.toList.take k) (fun i => s.size - (RowKit.intOf i).toNat)
  case atStart => exact ⟨0, Nat.zero_le _, rfl, by simp⟩
  case round =>
    obtain ⟨k, hk, rfl, hn⟩ := hrel
    have HN := Lib.hid hn
    clear hn
    by_cases hlt : k < s.size
    · cases hc : (((s[k]'hlt).toNat : Int) == 64) with
      | false =>
        have HN2 := Lib.hid (show (64 : UInt8) ∉ s.data.toList.take (k + 1) by
          rw [take_dec s k hlt]
          intro h
          rcases List.mem_append.1 h with h | h
          · exact HN.out h
          · have := char_of hc
            simp only [List.mem_singleton] at h
            rw [← h] at this
            simp at this)
        go_wp2
        go_round
        case rel => exact ⟨k + 1, by omega, by go_num, HN2.out⟩
        case measure => simp [RowKit.intOf]; omega
      | true =>
        have hcut : cutB s.data.toList = (s.data.toList.take k, s.data.toList.drop (k + 1), true) := cut_at _ k (by rw [HSL.out]; exact hlt) HN.out (by have h := char_of hc; rw [beq_iff_eq] at h; exact h)
        have hA1 : s.extract 0 k = strB (s.data.toList.take k) := by rw [extract_strB]; simp
        have hB1 : s.extract (k + 1) s.size = strB (s.data.toList.drop (k + 1)) := by rw [extract_strB, List.take_of_length_le]; rw [List.length_drop, HSL.out]; omega
        have HA := Lib.hid (fun W => refNumS_any (s.extract 0 k) W (by rw [hA1, strB_size, List.length_take, HSL.out]; omega))
        have HB := Lib.hid (fun W => refNumS_any (s.extract (k + 1) s.size) W (by rw [hB1, strB_size, List.length_drop, HSL.out]; omega))
        rw [show (s.extract 0 k).data.toList = s.data.toList.take k by rw [hA1, strB_toList]] at HA
        rw [show (s.extract (k + 1) s.size).data.toList = s.data.toList.drop (k + 1) by rw [hB1, strB_toList]] at HB
        have hP : refParseR s.data.toList = (if rightB (numS (s.data.toList.take k)) (numS (s.data.toList.drop (k + 1))) = true then (numS (s.data.toList.take k), numS (s.data.toList.drop (k + 1)), true) else (0, 0, false)) := by unfold refParseR; rw [hcut]; rfl
        have hwr : IntKind.i64.wrap ((k : Int) + 1) = (k : Int) + 1 := by rw [IntKind.wrap_i64]; omega
        have e1 : ((k : Int) + 1).toNat = k + 1 := by omega
        have h7 : 0 ≤ (k : Int) + 1 := by omega
        have h8 : (k : Int) + 1 ≤ (s.size : Int) := by omega
        generalize numS (s.data.toList.take k) = x at *
        generalize numS (s.data.toList.drop (k + 1)) = y at *
        clear hcut hA1 hB1
        cases hRB : rightB x y with
        | true =>
          have HP : Hid (refParseR s.data.toList = (x, y, true)) := Lib.hid (by rw [hP, if_pos hRB])
          have HRB := Lib.hid hRB
          clear hP hRB
          go_wp2
          refine wp_region_any (by kernel_rfl) ?_
          try (change wpAny _ _ _ _ _ _ _ (World.drew _))
          refine wpAny_take (i := 0) (v := ?_) rfl (by kernel_rfl) (by kernel_rfl) (by kernel_rfl) (fun _ _ _ h => h) (Or.inl ⟨by kernel_rfl, ?_⟩) ?_
          rotate_left
          · intro w; go_simp
            all_goals with_reducible rfl
          refine wpAny_take (i := 1) (v := ?_) rfl (by kernel_rfl) (by kernel_rfl) (by kernel_rfl) (fun _ _ _ h => h) (Or.inl ⟨by kernel_rfl, ?_⟩) ?_
          rotate_left
          · intro w; go_simp
            all_goals with_reducible rfl
          refine wpAny_take (i := 2) (v := ?_) rfl (by kernel_rfl) (by kernel_rfl) (by kernel_rfl) (fun _ _ _ h => h) (Or.inl ⟨by kernel_rfl, ?_⟩) ?_
          rotate_left
          · intro w; go_simp
            all_goals with_reducible rfl
          refine wpAny_take (i := 4) (v := ?_) rfl (by kernel_rfl) (by kernel_rfl) (by kernel_rfl) (fun _ _ _ h => h) (Or.inl ⟨by kernel_rfl, ?_⟩) ?_
          rotate_left
          · intro w; go_simp
            all_goals with_reducible rfl
          refine wpAny_take (i := 5) (v := ?_) rfl (by kernel_rfl) (by kernel_rfl) (by kernel_rfl) (fun _ _ _ h => h) (Or.inl ⟨by kernel_rfl, ?_⟩) ?_
          rotate_left
          · intro w; go_simp
            all_goals with_reducible rfl
          refine wpAny_take (i := 6) (v := ?_) rfl (by kernel_rfl) (by kernel_rfl) (by kernel_rfl) (fun _ _ _ h => h) (Or.inl ⟨by kernel_rfl, ?_⟩) ?_
          rotate_left
          · intro w; go_simp
            all_goals with_reducible rfl
          refine wpAny_take (i := 7) (v := ?_) rfl (by kernel_rfl) (by kernel_rfl) (by kernel_rfl) (fun _ _ _ h => h) (Or.inl ⟨by kernel_rfl, ?_⟩) ?_
          rotate_left
          · intro w; go_simp
            all_goals with_reducible rfl
          refine wpAny_ready (rs := [3, 10]) (by kernel_rfl) (by simp) ?_
          refine AllReady.cons rfl (fun K hK => ?_) (AllReady.cons rfl (fun K hK => ?_) (AllReady.nil))
          ·
            go_simp
            go_wp2_with (go_at_call 72; refine (HA.out _).mono ?_; rintro e w' ⟨rfl, rfl⟩)
            try (refine hK _ _ ?_)
            try (clear hK K)
            refine wpAny_ready (rs := [8, 10]) (by kernel_rfl) (by simp) ?_
            refine AllReady.cons rfl (fun K hK => ?_) (AllReady.cons rfl (fun K hK => ?_) (AllReady.nil))
            ·
              go_simp
              go_wp2_with (go_at_call 72; refine (HB.out _).mono ?_; rintro e w' ⟨rfl, rfl⟩)
              try (refine hK _ _ ?_)
              try (clear hK K)
              refine wpAny_take (i := 9) (v := ?_) rfl (by kernel_rfl) (by kernel_rfl) (by kernel_rfl) (fun _ _ _ h => h) (Or.inl ⟨by kernel_rfl, ?_⟩) ?_
              rotate_left
              · intro w; go_simp
                all_goals with_reducible rfl
              refine wpAny_ready (rs := [10]) (by kernel_rfl) (by simp) ?_
              refine AllReady.cons rfl (fun K hK => ?_) (AllReady.nil)
              go_simp
              try (refine hK _ _ ?_)
              try (clear hK K)
              refine wpAny_ready (rs := [11]) (by kernel_rfl) (by simp) ?_
              refine AllReady.cons rfl (fun K hK => ?_) (AllReady.nil)
              go_simp
              try (refine hK _ _ ?_)
              try (clear hK K)
              refine wpAny_done (by kernel_rfl) ?_ _
              go_wp2_with fail
              refine (refRight_any _ _ _).mono ?_
              rw [HRB.out]
              rintro e w5 ⟨rfl, hb5⟩
              have RS := Lib.hid ((HRS.out.kept (below_drew_alloc w1 _)).kept hb5)
              have f0 := (hb5.cell (p := ⟨w1.heap.size, 0, none⟩) (by simp)).trans (cell_drew_alloc w1 _ 0)
              have f1 := (hb5.cell (p := ⟨w1.heap.size, 1, none⟩) (by simp)).trans (cell_drew_alloc w1 _ 1)
              clear hb5
              obtain ⟨q0, q2, hE⟩ := RS.out.read x y
              have HE := Lib.hid hE
              obtain ⟨z0, z1, y0, y1, -⟩ := RS.out
              clear hE
              go_wp2
              refine bodyPost_ret (v := .tuple #[.agg #[.int .i64 x, .int .i64 y], .bool true]) (by simp [results, Tryz.results54, go_sem, q0, q2]) rfl ?_
              rw [HP.out]
              exact ⟨rfl, HE.out⟩
            ·
              go_simp
              try (refine hK _ _ ?_)
              try (clear hK K)
              refine wpAny_ready (rs := [8]) (by kernel_rfl) (by simp) ?_
              refine AllReady.cons rfl (fun K hK => ?_) (AllReady.nil)
              go_simp
              go_wp2_with (go_at_call 72; refine (HB.out _).mono ?_; rintro e w' ⟨rfl, rfl⟩)
              try (refine hK _ _ ?_)
              try (clear hK K)
              refine wpAny_take (i := 9) (v := ?_) rfl (by kernel_rfl) (by kernel_rfl) (by kernel_rfl) (fun _ _ _ h => h) (Or.inl ⟨by kernel_rfl, ?_⟩) ?_
              rotate_left
              · intro w; go_simp
                all_goals with_reducible rfl
              refine wpAny_ready (rs := [11]) (by kernel_rfl) (by simp) ?_
              refine AllReady.cons rfl (fun K hK => ?_) (AllReady.nil)
              go_simp
              try (refine hK _ _ ?_)
              try (clear hK K)
              refine wpAny_done (by kernel_rfl) ?_ _
              go_wp2_with fail
              refine (refRight_any _ _ _).mono ?_
              rw [HRB.out]
              rintro e w5 ⟨rfl, hb5⟩
              have RS := Lib.hid ((HRS.out.kept (below_drew_alloc w1 _)).kept hb5)
              have f0 := (hb5.cell (p := ⟨w1.heap.size, 0, none⟩) (by simp)).trans (cell_drew_alloc w1 _ 0)
              have f1 := (hb5.cell (p := ⟨w1.heap.size, 1, none⟩) (by simp)).trans (cell_drew_alloc w1 _ 1)
              clear hb5
              obtain ⟨q0, q2, hE⟩ := RS.out.read x y
              have HE := Lib.hid hE
              obtain ⟨z0, z1, y0, y1, -⟩ := RS.out
              clear hE
              go_wp2
              refine bodyPost_ret (v := .tuple #[.agg #[.int .i64 x, .int .i64 y], .bool true]) (by simp [results, Tryz.results54, go_sem, q0, q2]) rfl ?_
              rw [HP.out]
              exact ⟨rfl, HE.out⟩
          ·
            go_simp
            try (refine hK _ _ ?_)
            try (clear hK K)
            refine wpAny_ready (rs := [3]) (by kernel_rfl) (by simp) ?_
            refine AllReady.cons rfl (fun K hK => ?_) (AllReady.nil)
            go_simp
            go_wp2_with (go_at_call 72; refine (HA.out _).mono ?_; rintro e w' ⟨rfl, rfl⟩)
            try (refine hK _ _ ?_)
            try (clear hK K)
            refine wpAny_ready (rs := [8]) (by kernel_rfl) (by simp) ?_
            refine AllReady.cons rfl (fun K hK => ?_) (AllReady.nil)
            go_simp
            go_wp2_with (go_at_call 72; refine (HB.out _).mono ?_; rintro e w' ⟨rfl, rfl⟩)
            try (refine hK _ _ ?_)
            try (clear hK K)
            refine wpAny_take (i := 9) (v := ?_) rfl (by kernel_rfl) (by kernel_rfl) (by kernel_rfl) (fun _ _ _ h => h) (Or.inl ⟨by kernel_rfl, ?_⟩) ?_
            rotate_left
            · intro w; go_simp
              all_goals with_reducible rfl
            refine wpAny_ready (rs := [11]) (by kernel_rfl) (by simp) ?_
            refine AllReady.cons rfl (fun K hK => ?_) (AllReady.nil)
            go_simp
            try (refine hK _ _ ?_)
            try (clear hK K)
            refine wpAny_done (by kernel_rfl) ?_ _
            go_wp2_with fail
            refine (refRight_any _ _ _).mono ?_
            rw [HRB.out]
            rintro e w5 ⟨rfl, hb5⟩
            have RS := Lib.hid ((HRS.out.kept (below_drew_alloc w1 _)).kept hb5)
            have f0 := (hb5.cell (p := ⟨w1.heap.size, 0, none⟩) (by simp)).trans (cell_drew_alloc w1 _ 0)
            have f1 := (hb5.cell (p := ⟨w1.heap.size, 1, none⟩) (by simp)).trans (cell_drew_alloc w1 _ 1)
            clear hb5
            obtain ⟨q0, q2, hE⟩ := RS.out.read x y
            have HE := Lib.hid hE
            obtain ⟨z0, z1, y0, y1, -⟩ := RS.out
            clear hE
            go_wp2
            refine bodyPost_ret (v := .tuple #[.agg #[.int .i64 x, .int .i64 y], .bool true]) (by simp [results, Tryz.results54, go_sem, q0, q2]) rfl ?_
            rw [HP.out]
            exact ⟨rfl, HE.out⟩
        | false =>
          have HP : Hid (refParseR s.data.toList = (0, 0, false)) := Lib.hid (by rw [hP, if_neg (by rw [hRB]; simp)])
          have HRB := Lib.hid hRB
          clear hP hRB
          go_wp2
          refine wp_region_any (by kernel_rfl) ?_
          try (change wpAny _ _ _ _ _ _ _ (World.drew _))
          refine wpAny_take (i := 0) (v := ?_) rfl (by kernel_rfl) (by kernel_rfl) (by kernel_rfl) (fun _ _ _ h => h) (Or.inl ⟨by kernel_rfl, ?_⟩) ?_
          rotate_left
          · intro w; go_simp
            all_goals with_reducible rfl
          refine wpAny_take (i := 1) (v := ?_) rfl (by kernel_rfl) (by kernel_rfl) (by kernel_rfl) (fun _ _ _ h => h) (Or.inl ⟨by kernel_rfl, ?_⟩) ?_
          rotate_left
          · intro w; go_simp
            all_goals with_reducible rfl
          refine wpAny_take (i := 2) (v := ?_) rfl (by kernel_rfl) (by kernel_rfl) (by kernel_rfl) (fun _ _ _ h => h) (Or.inl ⟨by kernel_rfl, ?_⟩) ?_
          rotate_left
          · intro w; go_simp
            all_goals with_reducible rfl
          refine wpAny_take (i := 4) (v := ?_) rfl (by kernel_rfl) (by kernel_rfl) (by kernel_rfl) (fun _ _ _ h => h) (Or.inl ⟨by kernel_rfl, ?_⟩) ?_
          rotate_left
          · intro w; go_simp
            all_goals with_reducible rfl
          refine wpAny_take (i := 5) (v := ?_) rfl (by kernel_rfl) (by kernel_rfl) (by kernel_rfl) (fun _ _ _ h => h) (Or.inl ⟨by kernel_rfl, ?_⟩) ?_
          rotate_left
          · intro w; go_simp
            all_goals with_reducible rfl
          refine wpAny_take (i := 6) (v := ?_) rfl (by kernel_rfl) (by kernel_rfl) (by kernel_rfl) (fun _ _ _ h => h) (Or.inl ⟨by kernel_rfl, ?_⟩) ?_
          rotate_left
          · intro w; go_simp
            all_goals with_reducible rfl
          refine wpAny_take (i := 7) (v := ?_) rfl (by kernel_rfl) (by kernel_rfl) (by kernel_rfl) (fun _ _ _ h => h) (Or.inl ⟨by kernel_rfl, ?_⟩) ?_
          rotate_left
          · intro w; go_simp
            all_goals with_reducible rfl
          refine wpAny_ready (rs := [3, 10]) (by kernel_rfl) (by simp) ?_
          refine AllReady.cons rfl (fun K hK => ?_) (AllReady.cons rfl (fun K hK => ?_) (AllReady.nil))
          ·
            go_simp
            go_wp2_with (go_at_call 72; refine (HA.out _).mono ?_; rintro e w' ⟨rfl, rfl⟩)
            try (refine hK _ _ ?_)
            try (clear hK K)
            refine wpAny_ready (rs := [8, 10]) (by kernel_rfl) (by simp) ?_
            refine AllReady.cons rfl (fun K hK => ?_) (AllReady.cons rfl (fun K hK => ?_) (AllReady.nil))
            ·
              go_simp
              go_wp2_with (go_at_call 72; refine (HB.out _).mono ?_; rintro e w' ⟨rfl, rfl⟩)
              try (refine hK _ _ ?_)
              try (clear hK K)
              refine wpAny_take (i := 9) (v := ?_) rfl (by kernel_rfl) (by kernel_rfl) (by kernel_rfl) (fun _ _ _ h => h) (Or.inl ⟨by kernel_rfl, ?_⟩) ?_
              rotate_left
              · intro w; go_simp
                all_goals with_reducible rfl
              refine wpAny_ready (rs := [10]) (by kernel_rfl) (by simp) ?_
              refine AllReady.cons rfl (fun K hK => ?_) (AllReady.nil)
              go_simp
              try (refine hK _ _ ?_)
              try (clear hK K)
              refine wpAny_ready (rs := [11]) (by kernel_rfl) (by simp) ?_
              refine AllReady.cons rfl (fun K hK => ?_) (AllReady.nil)
              go_simp
              try (refine hK _ _ ?_)
              try (clear hK K)
              refine wpAny_done (by kernel_rfl) ?_ _
              go_wp2_with fail
              refine (refRight_any _ _ _).mono ?_
              rw [HRB.out]
              rintro e w5 ⟨rfl, hb5⟩
              have RS := Lib.hid ((HRS.out.kept (below_drew_alloc w1 _)).kept hb5)
              clear hb5
              obtain ⟨q0, q2, hE⟩ := RS.out.read 0 0
              have HE := Lib.hid hE
              obtain ⟨z0, z1, y0, y1, -⟩ := RS.out
              clear hE
              go_wp2
              refine bodyPost_ret (v := .tuple #[.agg #[.int .i64 0, .int .i64 0], .bool false]) (by simp [results, Tryz.results54, go_sem, q0, q2]) rfl ?_
              rw [HP.out]
              exact ⟨rfl, HE.out⟩
            ·
              go_simp
              try (refine hK _ _ ?_)
              try (clear hK K)
              refine wpAny_ready (rs := [8]) (by kernel_rfl) (by simp) ?_
              refine AllReady.cons rfl (fun K hK => ?_) (AllReady.nil)
              go_simp
              go_wp2_with (go_at_call 72; refine (HB.out _).mono ?_; rintro e w' ⟨rfl, rfl⟩)
              try (refine hK _ _ ?_)
              try (clear hK K)
              refine wpAny_take (i := 9) (v := ?_) rfl (by kernel_rfl) (by kernel_rfl) (by kernel_rfl) (fun _ _ _ h => h) (Or.inl ⟨by kernel_rfl, ?_⟩) ?_
              rotate_left
              · intro w; go_simp
                all_goals with_reducible rfl
              refine wpAny_ready (rs := [11]) (by kernel_rfl) (by simp) ?_
              refine AllReady.cons rfl (fun K hK => ?_) (AllReady.nil)
              go_simp
              try (refine hK _ _ ?_)
              try (clear hK K)
              refine wpAny_done (by kernel_rfl) ?_ _
              go_wp2_with fail
              refine (refRight_any _ _ _).mono ?_
              rw [HRB.out]
              rintro e w5 ⟨rfl, hb5⟩
              have RS := Lib.hid ((HRS.out.kept (below_drew_alloc w1 _)).kept hb5)
              clear hb5
              obtain ⟨q0, q2, hE⟩ := RS.out.read 0 0
              have HE := Lib.hid hE
              obtain ⟨z0, z1, y0, y1, -⟩ := RS.out
              clear hE
              go_wp2
              refine bodyPost_ret (v := .tuple #[.agg #[.int .i64 0, .int .i64 0], .bool false]) (by simp [results, Tryz.results54, go_sem, q0, q2]) rfl ?_
              rw [HP.out]
              exact ⟨rfl, HE.out⟩
          ·
            go_simp
            try (refine hK _ _ ?_)
            try (clear hK K)
            refine wpAny_ready (rs := [3]) (by kernel_rfl) (by simp) ?_
            refine AllReady.cons rfl (fun K hK => ?_) (AllReady.nil)
            go_simp
            go_wp2_with (go_at_call 72; refine (HA.out _).mono ?_; rintro e w' ⟨rfl, rfl⟩)
            try (refine hK _ _ ?_)
            try (clear hK K)
            refine wpAny_ready (rs := [8]) (by kernel_rfl) (by simp) ?_
            refine AllReady.cons rfl (fun K hK => ?_) (AllReady.nil)
            go_simp
            go_wp2_with (go_at_call 72; refine (HB.out _).mono ?_; rintro e w' ⟨rfl, rfl⟩)
            try (refine hK _ _ ?_)
            try (clear hK K)
            refine wpAny_take (i := 9) (v := ?_) rfl (by kernel_rfl) (by kernel_rfl) (by kernel_rfl) (fun _ _ _ h => h) (Or.inl ⟨by kernel_rfl, ?_⟩) ?_
            rotate_left
            · intro w; go_simp
              all_goals with_reducible rfl
            refine wpAny_ready (rs := [11]) (by kernel_rfl) (by simp) ?_
            refine AllReady.cons rfl (fun K hK => ?_) (AllReady.nil)
            go_simp
            try (refine hK _ _ ?_)
            try (clear hK K)
            refine wpAny_done (by kernel_rfl) ?_ _
            go_wp2_with fail
            refine (refRight_any _ _ _).mono ?_
            rw [HRB.out]
            rintro e w5 ⟨rfl, hb5⟩
            have RS := Lib.hid ((HRS.out.kept (below_drew_alloc w1 _)).kept hb5)
            clear hb5
            obtain ⟨q0, q2, hE⟩ := RS.out.read 0 0
            have HE := Lib.hid hE
            obtain ⟨z0, z1, y0, y1, -⟩ := RS.out
            clear hE
            go_wp2
            refine bodyPost_ret (v := .tuple #[.agg #[.int .i64 0, .int .i64 0], .bool false]) (by simp [results, Tryz.results54, go_sem, q0, q2]) rfl ?_
            rw [HP.out]
            exact ⟨rfl, HE.out⟩
    · obtain rfl : k = s.size := by omega
      have HP : Hid (refParseR s.data.toList = (0, 0, false)) := Lib.hid (by
        have e : s.data.toList.take s.size = s.data.toList := List.take_of_length_le (by rw [HSL.out]; exact Nat.le_refl _)
        have h := HN.out
        rw [e] at h
        unfold refParseR
        rw [cut_none _ h]
        rfl)
      obtain ⟨q0, q2, hE⟩ := HRS.out.read 0 0
      have HE := Lib.hid hE
      obtain ⟨z0, z1, y0, y1, -⟩ := HRS.out
      clear hE
      go_wp2
      refine bodyPost_ret (v := .tuple #[.agg #[.int .i64 0, .int .i64 0], .bool false]) (by simp [results, Tryz.results54, go_sem, q0, q2]) rfl ?_
      rw [HP.out]
      exact ⟨rfl, HE.out⟩

end Go.Proofs.YtfakbbbkfmnnhaaGreatDoor
