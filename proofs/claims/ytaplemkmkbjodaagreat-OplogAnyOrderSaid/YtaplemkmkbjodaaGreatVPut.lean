/-
  PUT.
  No conditions.
-/
import Derived.Test.YtaplemkmkbjodaaGreatVBytes
namespace Go.Proofs.YtaplemkmkbjodaaGreat
open Go.RowKit

theorem Own.far {E : TypeId} {w w' : World} {B k : Nat} {v : Value} {l : List UInt8} (h : Own E w B v l) (ho : Only k w w') (hk : k < B) : Own E w' B v l :=
  World.ownsRow.kept (row := some k) h ho (Or.inr fun e => by have := (World.ownsRow.lt h k e).1; omega)

set_option maxRecDepth 100000 in
set_option maxHeartbeats 4000000 in
theorem vput_any (k n : Int) (t : ByteArray) (w : World) (ht : t.size ≤ 4611686018427387904) : Calls Tryz.prog 99 #[.agg #[.int .i64 k, .int .i64 n, .string t]] w (Wrote 5 w (putV k n t.data.toList)) := by
  obtain ⟨i0, hi, hz0, hz1, hz2⟩ := info_parts info_u8
  have HB := Lib.hid ((Below.refl w.heap.size w).alloc (Nat.le_refl _) (.cells #[.int .i64 k, .int .i64 n, .string t] 53))
  have HT := Lib.hid (ThreeAt.start w k n t)
  have HRT := Lib.hid (fun W => vright_any k n t W ht)
  cases hR : Vm.rightV k n t.data.toList with
  | false =>
    have HR := Lib.hid (show putV k n t.data.toList = ([], 1) by unfold putV; rw [if_neg (by simp [hR])])
    have HRB := Lib.hid hR
    clear hR
    go_enter Tryz.func99, Tryz.ntmps99
    go_wp2_with fail
    refine (HRT.out _).mono ?_
    rw [HRB.out]
    rintro e w1 ⟨rfl, hb1⟩
    have HB1 := Lib.hid (HB.out.trans (hb1.mono HB.out.size))
    clear hb1
    go_wp2
    go_ret2
    rw [HR.out]
    exact ⟨_, rfl, Own.nil _ _ _, HB1.out⟩
  | true =>
    have HR := Lib.hid (show putV k n t.data.toList = (Wm.numB k.toNat ++ restV k n t.data.toList, 0) by unfold putV; rw [if_pos hR])
    have HRB := Lib.hid hR
    have HK := Lib.hid (right_kind hR)
    have hk := right_kind hR
    have HN1 := Lib.hid (show numW k = (Wm.numB k.toNat, 0) by unfold numW; rw [if_pos (by omega)])
    have s1 := numB_small k.toNat
    have HNM := Lib.hid (fun hk => right_num hR hk)
    have HTX := Lib.hid (fun (hk : k = 3) => right_text (t := t.data.toList) (n := n) (hk ▸ hR))
    have HFL := Lib.hid (fun (hk : k = 4) => right_flag (t := t.data.toList) (n := n) (hk ▸ hR))
    have HRV : Hid (restV k n t.data.toList = if k = 3 then Wm.numB t.data.toList.length ++ t.data.toList else if k = 4 then Wm.numB n.toNat else if k = 0 then [] else Wm.numB (foldV n)) := Lib.hid rfl
    generalize Wm.numB k.toNat = x at *
    generalize restV k n t.data.toList = y at *
    clear hR hk
    rcases HK.out with rfl | rfl | rfl | rfl | rfl
    · obtain rfl : y = [] := by have h := HRV.out; rw [if_neg (by decide), if_neg (by decide), if_pos rfl] at h; exact h
      go_enter Tryz.func99, Tryz.ntmps99
      go_wp2_with fail
      refine (HRT.out _).mono ?_
      rw [HRB.out]
      rintro e w1 ⟨rfl, hb1⟩
      have HT1 := Lib.hid (HT.out.kept hb1)
      have HB1 := Lib.hid (HB.out.trans (hb1.mono HB.out.size))
      have x0 := HT1.out.cell0
      clear hb1
      go_wp2_with fail
      refine (num_any 0 _).mono ?_
      rw [HN1.out]
      rintro e w2 ⟨v2, rfl, hown2, hb2⟩
      dsimp only at hown2
      have HT2 := Lib.hid (HT1.out.kept hb2)
      have HB2 := Lib.hid (HB1.out.trans (hb2.mono HB1.out.size))
      have hs1 := HT1.out.size
      have HO2 := Lib.hid hown2
      obtain ⟨p2, k2, rfl, -⟩ := hown2.bs
      have hs2 := hb2.size
      clear hown2 hb2 x0
      have x0 := HT2.out.cell0
      have x1 := HT2.out.cell1
      have x2 := HT2.out.cell2
      go_wp2_with (at_builtin; refine wpList_append_bs rfl _ _ 103 rfl w.heap.size 5 i0 Tryz.underlying103 hi hz0 hz1 hz2 _ x rfl (HO2.out.base (Nat.le_of_lt hs1)) none 0 [] rfl (Bs.nil _ _) (fun _ => rfl) ?b0 ?b1 ?_)
      case b0 => simp; omega
      case b1 => omega
      intro v4 w4 hown4 hbel4 hgrow4 hnil4
      clear hgrow4 hnil4
      have HO4 := Lib.hid (show Own 5 w4 w.heap.size v4 (x ++ []) by rw [List.append_nil]; exact hown4)
      have HB4 := Lib.hid (HB2.out.trans hbel4)
      clear hown4 hbel4
      go_wp2
      go_ret2
      rw [HR.out]
      exact ⟨_, rfl, HO4.out, HB4.out⟩
    · obtain ⟨n0, n1⟩ := HNM.out (by simp)
      have hf := foldV_le n n0 n1
      obtain rfl : y = Wm.numB (foldV n) := by have h := HRV.out; rw [if_neg (by decide), if_neg (by decide), if_neg (by decide)] at h; exact h
      have s2 := numB_small (foldV n)
      have HF := Lib.hid (fun W => folded_any n W n0 n1)
      generalize foldV n = m at *
      have HN2 := Lib.hid (show numW (m : Int) = (Wm.numB m, 0) by unfold numW; rw [if_pos (by omega), Int.toNat_natCast])
      generalize Wm.numB m = y at *
      go_enter Tryz.func99, Tryz.ntmps99
      go_wp2_with fail
      refine (HRT.out _).mono ?_
      rw [HRB.out]
      rintro e w1 ⟨rfl, hb1⟩
      have HT1 := Lib.hid (HT.out.kept hb1)
      have HB1 := Lib.hid (HB.out.trans (hb1.mono HB.out.size))
      have x0 := HT1.out.cell0
      clear hb1
      go_wp2_with fail
      refine (num_any 1 _).mono ?_
      rw [HN1.out]
      rintro e w2 ⟨v2, rfl, hown2, hb2⟩
      dsimp only at hown2
      have HT2 := Lib.hid (HT1.out.kept hb2)
      have HB2 := Lib.hid (HB1.out.trans (hb2.mono HB1.out.size))
      have hs1 := HT1.out.size
      have HO2 := Lib.hid hown2
      obtain ⟨p2, k2, rfl, -⟩ := hown2.bs
      have hs2 := hb2.size
      clear hown2 hb2 x0
      have x0 := HT2.out.cell0
      have x1 := HT2.out.cell1
      have x2 := HT2.out.cell2
      go_wp2_with fail
      refine (HF.out _).mono ?_
      rintro e w' ⟨rfl, rfl⟩
      have y1 := HT2.out.free 1
      have HT3 := Lib.hid (HT2.out.set1 (m : Int))
      have z1 := HT3.out.cell1
      have HOX := Lib.hid (HO2.out.far (Only.set w.heap.size 1 w2 (.int .i64 (m : Int))) hs1)
      have HBX := Lib.hid (HB2.out.setCell (p := ⟨w.heap.size, 1, none⟩) (Nat.le_refl _) (.int .i64 (m : Int)))
      go_wp2_with fail
      refine (num_any (m : Int) _).mono ?_
      rw [HN2.out]
      rintro e w3 ⟨v3, rfl, hown3, hb3⟩
      dsimp only at hown3
      obtain ⟨p3, k3, rfl, hbs3, -, -, hpn3, -⟩ := hown3.bs
      have HO3 := Lib.hid (HOX.out.below hb3)
      have HBS := Lib.hid hbs3
      have HB3 := Lib.hid (HBX.out.trans (hb3.mono HBX.out.size))
      have hs3 : w.heap.size ≤ w3.heap.size := HB3.out.size
      clear hown3 hbs3 hb3 x0 x1 x2 y1 z1
      go_wp2_with (at_builtin; refine wpList_append_bs rfl _ _ 103 rfl w.heap.size 5 i0 Tryz.underlying103 hi hz0 hz1 hz2 _ x rfl (HO3.out.base (Nat.le_of_lt hs1)) p3 k3 y rfl HBS.out hpn3 ?b0 ?b1 ?_)
      case b0 => omega
      case b1 => omega
      intro v4 w4 hown4 hbel4 hgrow4 hnil4
      clear hgrow4 hnil4
      have HO4 := Lib.hid (show Own 5 w4 w.heap.size v4 (x ++ y) from hown4)
      have HB4 := Lib.hid (HB3.out.trans hbel4)
      clear hown4 hbel4
      go_wp2
      go_ret2
      rw [HR.out]
      exact ⟨_, rfl, HO4.out, HB4.out⟩
    · obtain ⟨n0, n1⟩ := HNM.out (by simp)
      have hf := foldV_le n n0 n1
      obtain rfl : y = Wm.numB (foldV n) := by have h := HRV.out; rw [if_neg (by decide), if_neg (by decide), if_neg (by decide)] at h; exact h
      have s2 := numB_small (foldV n)
      have HF := Lib.hid (fun W => folded_any n W n0 n1)
      generalize foldV n = m at *
      have HN2 := Lib.hid (show numW (m : Int) = (Wm.numB m, 0) by unfold numW; rw [if_pos (by omega), Int.toNat_natCast])
      generalize Wm.numB m = y at *
      go_enter Tryz.func99, Tryz.ntmps99
      go_wp2_with fail
      refine (HRT.out _).mono ?_
      rw [HRB.out]
      rintro e w1 ⟨rfl, hb1⟩
      have HT1 := Lib.hid (HT.out.kept hb1)
      have HB1 := Lib.hid (HB.out.trans (hb1.mono HB.out.size))
      have x0 := HT1.out.cell0
      clear hb1
      go_wp2_with fail
      refine (num_any 2 _).mono ?_
      rw [HN1.out]
      rintro e w2 ⟨v2, rfl, hown2, hb2⟩
      dsimp only at hown2
      have HT2 := Lib.hid (HT1.out.kept hb2)
      have HB2 := Lib.hid (HB1.out.trans (hb2.mono HB1.out.size))
      have hs1 := HT1.out.size
      have HO2 := Lib.hid hown2
      obtain ⟨p2, k2, rfl, -⟩ := hown2.bs
      have hs2 := hb2.size
      clear hown2 hb2 x0
      have x0 := HT2.out.cell0
      have x1 := HT2.out.cell1
      have x2 := HT2.out.cell2
      go_wp2_with fail
      refine (HF.out _).mono ?_
      rintro e w' ⟨rfl, rfl⟩
      have y1 := HT2.out.free 1
      have HT3 := Lib.hid (HT2.out.set1 (m : Int))
      have z1 := HT3.out.cell1
      have HOX := Lib.hid (HO2.out.far (Only.set w.heap.size 1 w2 (.int .i64 (m : Int))) hs1)
      have HBX := Lib.hid (HB2.out.setCell (p := ⟨w.heap.size, 1, none⟩) (Nat.le_refl _) (.int .i64 (m : Int)))
      go_wp2_with fail
      refine (num_any (m : Int) _).mono ?_
      rw [HN2.out]
      rintro e w3 ⟨v3, rfl, hown3, hb3⟩
      dsimp only at hown3
      obtain ⟨p3, k3, rfl, hbs3, -, -, hpn3, -⟩ := hown3.bs
      have HO3 := Lib.hid (HOX.out.below hb3)
      have HBS := Lib.hid hbs3
      have HB3 := Lib.hid (HBX.out.trans (hb3.mono HBX.out.size))
      have hs3 : w.heap.size ≤ w3.heap.size := HB3.out.size
      clear hown3 hbs3 hb3 x0 x1 x2 y1 z1
      go_wp2_with (at_builtin; refine wpList_append_bs rfl _ _ 103 rfl w.heap.size 5 i0 Tryz.underlying103 hi hz0 hz1 hz2 _ x rfl (HO3.out.base (Nat.le_of_lt hs1)) p3 k3 y rfl HBS.out hpn3 ?b0 ?b1 ?_)
      case b0 => omega
      case b1 => omega
      intro v4 w4 hown4 hbel4 hgrow4 hnil4
      clear hgrow4 hnil4
      have HO4 := Lib.hid (show Own 5 w4 w.heap.size v4 (x ++ y) from hown4)
      have HB4 := Lib.hid (HB3.out.trans hbel4)
      clear hown4 hbel4
      go_wp2
      go_ret2
      rw [HR.out]
      exact ⟨_, rfl, HO4.out, HB4.out⟩
    · obtain ⟨rfl, hl⟩ := HTX.out rfl
      obtain rfl : y = Wm.numB t.data.toList.length ++ t.data.toList := by have h := HRV.out; rw [if_pos rfl] at h; exact h
      have s2 := numB_small t.data.toList.length
      have HN2 := Lib.hid (show textW t.data.toList = (Wm.numB t.data.toList.length ++ t.data.toList, 0) by unfold textW; rw [if_pos (by omega)])
      have s3 : (Wm.numB t.data.toList.length ++ t.data.toList).length ≤ 100 := by rw [List.length_append]; omega
      have hts : t.size ≤ 64 := by rw [← str_len]; exact hl
      generalize Wm.numB t.data.toList.length ++ t.data.toList = y at *
      clear hl s2
      go_enter Tryz.func99, Tryz.ntmps99
      go_wp2_with fail
      refine (HRT.out _).mono ?_
      rw [HRB.out]
      rintro e w1 ⟨rfl, hb1⟩
      have HT1 := Lib.hid (HT.out.kept hb1)
      have HB1 := Lib.hid (HB.out.trans (hb1.mono HB.out.size))
      have x0 := HT1.out.cell0
      clear hb1
      go_wp2_with fail
      refine (num_any 3 _).mono ?_
      rw [HN1.out]
      rintro e w2 ⟨v2, rfl, hown2, hb2⟩
      dsimp only at hown2
      have HT2 := Lib.hid (HT1.out.kept hb2)
      have HB2 := Lib.hid (HB1.out.trans (hb2.mono HB1.out.size))
      have hs1 := HT1.out.size
      have HO2 := Lib.hid hown2
      obtain ⟨p2, k2, rfl, -⟩ := hown2.bs
      have hs2 := hb2.size
      clear hown2 hb2 x0
      have x0 := HT2.out.cell0
      have x1 := HT2.out.cell1
      have x2 := HT2.out.cell2
      have HOX := HO2
      have HBX := HB2
      go_wp2_with fail
      refine (text_any t _ (by unfold maxLen; omega)).mono ?_
      rw [HN2.out]
      rintro e w3 ⟨v3, rfl, hown3, hb3⟩
      dsimp only at hown3
      obtain ⟨p3, k3, rfl, hbs3, -, -, hpn3, -⟩ := hown3.bs
      have HO3 := Lib.hid (HOX.out.below hb3)
      have HBS := Lib.hid hbs3
      have HB3 := Lib.hid (HBX.out.trans (hb3.mono HBX.out.size))
      have hs3 : w.heap.size ≤ w3.heap.size := HB3.out.size
      clear hown3 hbs3 hb3 x0 x1 x2
      go_wp2_with (at_builtin; refine wpList_append_bs rfl _ _ 103 rfl w.heap.size 5 i0 Tryz.underlying103 hi hz0 hz1 hz2 _ x rfl (HO3.out.base (Nat.le_of_lt hs1)) p3 k3 y rfl HBS.out hpn3 ?b0 ?b1 ?_)
      case b0 => omega
      case b1 => omega
      intro v4 w4 hown4 hbel4 hgrow4 hnil4
      clear hgrow4 hnil4
      have HO4 := Lib.hid (show Own 5 w4 w.heap.size v4 (x ++ y) from hown4)
      have HB4 := Lib.hid (HB3.out.trans hbel4)
      clear hown4 hbel4
      go_wp2
      go_ret2
      rw [HR.out]
      exact ⟨_, rfl, HO4.out, HB4.out⟩
    · have hfl := HFL.out rfl
      obtain rfl : y = Wm.numB n.toNat := by have h := HRV.out; rw [if_neg (by decide), if_pos rfl] at h; exact h
      have s2 := numB_small n.toNat
      have HN2 := Lib.hid (show numW n = (Wm.numB n.toNat, 0) by unfold numW; rw [if_pos (by omega)])
      generalize Wm.numB n.toNat = y at *
      clear hfl
      go_enter Tryz.func99, Tryz.ntmps99
      go_wp2_with fail
      refine (HRT.out _).mono ?_
      rw [HRB.out]
      rintro e w1 ⟨rfl, hb1⟩
      have HT1 := Lib.hid (HT.out.kept hb1)
      have HB1 := Lib.hid (HB.out.trans (hb1.mono HB.out.size))
      have x0 := HT1.out.cell0
      clear hb1
      go_wp2_with fail
      refine (num_any 4 _).mono ?_
      rw [HN1.out]
      rintro e w2 ⟨v2, rfl, hown2, hb2⟩
      dsimp only at hown2
      have HT2 := Lib.hid (HT1.out.kept hb2)
      have HB2 := Lib.hid (HB1.out.trans (hb2.mono HB1.out.size))
      have hs1 := HT1.out.size
      have HO2 := Lib.hid hown2
      obtain ⟨p2, k2, rfl, -⟩ := hown2.bs
      have hs2 := hb2.size
      clear hown2 hb2 x0
      have x0 := HT2.out.cell0
      have x1 := HT2.out.cell1
      have x2 := HT2.out.cell2
      have HOX := HO2
      have HBX := HB2
      go_wp2_with fail
      refine (num_any n _).mono ?_
      rw [HN2.out]
      rintro e w3 ⟨v3, rfl, hown3, hb3⟩
      dsimp only at hown3
      obtain ⟨p3, k3, rfl, hbs3, -, -, hpn3, -⟩ := hown3.bs
      have HO3 := Lib.hid (HOX.out.below hb3)
      have HBS := Lib.hid hbs3
      have HB3 := Lib.hid (HBX.out.trans (hb3.mono HBX.out.size))
      have hs3 : w.heap.size ≤ w3.heap.size := HB3.out.size
      clear hown3 hbs3 hb3 x0 x1 x2
      go_wp2_with (at_builtin; refine wpList_append_bs rfl _ _ 103 rfl w.heap.size 5 i0 Tryz.underlying103 hi hz0 hz1 hz2 _ x rfl (HO3.out.base (Nat.le_of_lt hs1)) p3 k3 y rfl HBS.out hpn3 ?b0 ?b1 ?_)
      case b0 => omega
      case b1 => omega
      intro v4 w4 hown4 hbel4 hgrow4 hnil4
      clear hgrow4 hnil4
      have HO4 := Lib.hid (show Own 5 w4 w.heap.size v4 (x ++ y) from hown4)
      have HB4 := Lib.hid (HB3.out.trans hbel4)
      clear hown4 hbel4
      go_wp2
      go_ret2
      rw [HR.out]
      exact ⟨_, rfl, HO4.out, HB4.out⟩

end Go.Proofs.YtaplemkmkbjodaaGreat
