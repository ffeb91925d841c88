/-
  PARSE: strings.Cut at '@', and stamp.Parse, at every string.
  Conditions: the row's listed variables ('Laid').
-/
import Derived.Test.YtbggbpdkphhhdaaDoorText
namespace Go.Proofs.YtbggbpdkphhhdaaDoor
open Go.RowKit Go.Lib

/-- what stands ahead of the first '@', and behind it -/
def cutB (l : List UInt8) : List UInt8 × List UInt8 × Bool :=
  if 0 ≤ Lib.indexByte l 64 then (l.take (Lib.indexByte l 64).toNat, l.drop ((Lib.indexByte l 64).toNat + 1), true) else (l, [], false)
theorem extract_strB (s : ByteArray) (a b : Nat) : s.extract a b = strB ((s.data.toList.drop a).take (b - a)) := by
  rw [← Lib.extract_data]; rfl

set_option maxRecDepth 100000 in
set_option maxHeartbeats 1000000 in
theorem sliteCut_any (s : ByteArray) (w : World) (hs : s.size ≤ 9223372036854775806) :
    Calls Tryd.prog 55 #[.string s, .string ⟨#[64]⟩] w fun e w' => e = .returned (.tuple #[.string (strB (cutB s.data.toList).1), .string (strB (cutB s.data.toList).2.1), .bool (cutB s.data.toList).2.2]) ∧ Below w.heap.size w w' := by
  have hsl : s.data.toList.length = s.size := by rw [Array.length_toList]; rfl
  have HI := Lib.hid (fun W => Tryd.stringslite_Index_one s 64 W)
  by_cases h0 : 0 ≤ Lib.indexByte s.data.toList 64
  · obtain ⟨k, hk⟩ : ∃ k : Nat, Lib.indexByte s.data.toList 64 = (k : Int) := ⟨(Lib.indexByte s.data.toList 64).toNat, by omega⟩
    have hkl : k < s.size := by
      have := (Lib.indexByte_some hk).1
      rw [← hsl]
      exact (List.getElem?_eq_some_iff.1 this).1
    have HC := Lib.hid (show cutB s.data.toList = (s.data.toList.take k, s.data.toList.drop (k + 1), true) by unfold cutB; rw [if_pos h0, hk]; rfl)
    have HE1 := Lib.hid (show s.extract 0 k = strB (s.data.toList.take k) by rw [extract_strB]; simp)
    have HE2 := Lib.hid (show s.extract (k + 1) s.size = strB (s.data.toList.drop (k + 1)) by rw [extract_strB, List.take_of_length_le]; rw [List.length_drop, hsl]; omega)
    rw [hk] at HI
    clear h0 hk
    have hwr : IntKind.i64.wrap ((k : Int) + 1) = (k : Int) + 1 := by rw [IntKind.wrap_i64]; omega
    have e1 : ((k : Int) + 1).toNat = k + 1 := by omega
    go_enter Tryd.func55, Tryd.ntmps55
    go_wp2_with fail
    refine (HI.out _).mono ?_
    rintro e w' ⟨rfl, rfl⟩
    go_wp2
    go_quiet (fail)
    go_wp2
    go_ret3
    rw [HC.out]
    have e0 : Ending.returned (.tuple #[.string (s.extract 0 k), .string (s.extract (k + 1) s.size), .bool true]) = Ending.returned (.tuple #[.string (strB (s.data.toList.take k)), .string (strB (s.data.toList.drop (k + 1))), .bool true]) := by rw [HE1.out, HE2.out]
    exact ⟨e0, below_drewN (Below.refl _ _) _⟩
  · have hm : Lib.indexByte s.data.toList 64 = -1 := by have := Lib.indexByte_ge s.data.toList 64; omega
    have HC := Lib.hid (show cutB s.data.toList = (s.data.toList, [], false) by unfold cutB; rw [if_neg h0])
    rw [hm] at HI
    clear h0 hm
    go_enter Tryd.func55, Tryd.ntmps55
    go_wp2_with fail
    refine (HI.out _).mono ?_
    rintro e w' ⟨rfl, rfl⟩
    go_wp2
    go_ret3
    rw [HC.out]
    exact ⟨rfl, Below.refl _ _⟩

set_option maxRecDepth 100000 in
theorem cut_any (s : ByteArray) (w : World) (hs : s.size ≤ 9223372036854775806) :
    Calls Tryd.prog 42 #[.string s, .string ⟨#[64]⟩] w fun e w' => e = .returned (.tuple #[.string (strB (cutB s.data.toList).1), .string (strB (cutB s.data.toList).2.1), .bool (cutB s.data.toList).2.2]) ∧ Below w.heap.size w w' := by
  have HC := Lib.hid (sliteCut_any s w hs)
  generalize cutB s.data.toList = q at *
  obtain ⟨a, b, c⟩ := q
  dsimp only at *
  go_enter Tryd.func42, Tryd.ntmps42
  go_wp2_with fail
  refine HC.out.mono ?_
  rintro e w1 ⟨rfl, hb⟩
  have HB := Lib.hid hb
  clear hb
  go_wp2
  go_ret3
  exact ⟨rfl, HB.out⟩

/-- the result's cell of a call that began in w0, still zero -/
def Res (w0 w : World) : Prop :=
  w.cell? ⟨w0.heap.size, 0, none⟩ = some (.int .i64 0) ∧ w.cell? ⟨w0.heap.size, 1, none⟩ = some (.int .i64 0) ∧ w.frozen? ⟨w0.heap.size, 0, none⟩ = false ∧ w.frozen? ⟨w0.heap.size, 1, none⟩ = false ∧ Below w0.heap.size w0 w
theorem Res.start (w0 : World) : Res w0 (w0.alloc (.cells #[.int .i64 0, .int .i64 0] 23)) :=
  ⟨by rw [World.cell?_alloc_at _ _ _ _ rfl]; rfl, by rw [World.cell?_alloc_at _ _ _ _ rfl]; rfl, by rw [World.frozen?_alloc_at _ _ _ _ rfl], by rw [World.frozen?_alloc_at _ _ _ _ rfl], (Below.refl _ _).alloc (Nat.le_refl _) _⟩
theorem Res.kept {w0 w w' : World} (h : Res w0 w) (hb : Below w.heap.size w w') : Res w0 w' := by
  obtain ⟨z0, z1, y0, y1, h9⟩ := h
  have hs : w0.heap.size < w.heap.size := cell_lt z0
  exact ⟨by rw [hb.cell (by simpa using hs)]; exact z0, by rw [hb.cell (by simpa using hs)]; exact z1, by rw [hb.frozen (by simpa using hs)]; exact y0, by rw [hb.frozen (by simpa using hs)]; exact y1, h9.trans (hb.mono h9.size)⟩
theorem Res.only {w0 w w' : World} {b : Nat} (h : Res w0 w) (ho : Only b w w') (hne : b ≠ w0.heap.size) (hb : w0.heap.size ≤ b) : Res w0 w' := by
  obtain ⟨z0, z1, y0, y1, h9⟩ := h
  have hs : w0.heap.size < w.heap.size := cell_lt z0
  have c : ∀ o, w'.cell? ⟨w0.heap.size, o, none⟩ = w.cell? ⟨w0.heap.size, o, none⟩ := fun o => by
    have := ho.block _ hs (by simpa using Ne.symm hne)
    simp [World.cell?, this]
  have f : ∀ o, w'.frozen? ⟨w0.heap.size, o, none⟩ = w.frozen? ⟨w0.heap.size, o, none⟩ := fun o => by
    have := ho.block _ hs (by simpa using Ne.symm hne)
    simp [World.frozen?, this]
  exact ⟨by rw [c]; exact z0, by rw [c]; exact z1, by rw [f]; exact y0, by rw [f]; exact y1, ho.below h9 hb h9.size⟩
theorem Res.read {w0 w : World} (h : Res w0 w) (x y : Int) : (w.setCell ⟨w0.heap.size, 0, none⟩ (.int .i64 x)).cell? ⟨w0.heap.size, 0, none⟩ = some (.int .i64 x) ∧
    ((w.setCell ⟨w0.heap.size, 0, none⟩ (.int .i64 x)).setCell ⟨w0.heap.size, 1, none⟩ (.int .i64 y)).cell? ⟨w0.heap.size, 1, none⟩ = some (.int .i64 y) ∧
    Below w0.heap.size w0 ((w.setCell ⟨w0.heap.size, 0, none⟩ (.int .i64 x)).setCell ⟨w0.heap.size, 1, none⟩ (.int .i64 y)) := by
  obtain ⟨z0, z1, y0, y1, h9⟩ := h
  exact ⟨cell_same z0, cell_same (by rw [cell_other (by simp)]; exact z1), (h9.setCell (p := ⟨w0.heap.size, 0, none⟩) (by simp) _).setCell (p := ⟨w0.heap.size, 1, none⟩) (by simp) _⟩

/-- what Parse answers -/
def parseR (l : List UInt8) : Int × Int × Bool :=
  match Lib.atoiAll (cutB l).1, Lib.atoiAll (cutB l).2.1 with
  | .ok t, .ok r => if rightB t r = true ∧ printB t r = l then (t, r, true) else (0, 0, false)
  | _, _ => (0, 0, false)

theorem cutB_le (l : List UInt8) : (cutB l).1.length ≤ l.length ∧ (cutB l).2.1.length ≤ l.length := by
  unfold cutB
  split
  · simp; omega
  · simp

set_option maxRecDepth 100000 in
set_option maxHeartbeats 4000000 in
theorem parse_any (s : ByteArray) (w : World) (hs : s.size ≤ 281474976710656) (hL : Laid w) :
    Calls Tryd.prog 14 #[.string s] w fun e w' => e = .returned (.tuple #[.agg #[.int .i64 (parseR s.data.toList).1, .int .i64 (parseR s.data.toList).2.1], .bool (parseR s.data.toList).2.2]) ∧ Below w.heap.size w w' := by
  have hsl : s.data.toList.length = s.size := by rw [Array.length_toList]; rfl
  have hb := (Below.refl w.heap.size w).alloc (Nat.le_refl _) (.cells #[.int .i64 0, .int .i64 0] 23)
  have HL := Lib.hid (hL.kept hb)
  have HR := Lib.hid (Res.start w)
  have HC := Lib.hid (fun W => cut_any s W (by omega))
  obtain ⟨l1, l2⟩ := cutB_le s.data.toList
  have HPD : Hid (parseR s.data.toList = match Lib.atoiAll (cutB s.data.toList).1, Lib.atoiAll (cutB s.data.toList).2.1 with
    | .ok t, .ok r => if rightB t r = true ∧ printB t r = s.data.toList then (t, r, true) else (0, 0, false)
    | _, _ => (0, 0, false)) := Lib.hid rfl
  generalize cutB s.data.toList = q at *
  obtain ⟨a, b, c⟩ := q
  dsimp only at *
  have HA := Lib.hid (fun W h => atoi_any (strB a) W (by rw [strB_size]; omega) h)
  have HB := Lib.hid (fun W h => atoi_any (strB b) W (by rw [strB_size]; omega) h)
  rw [strB_toList] at HA HB
  generalize hp : parseR s.data.toList = pr at *
  obtain ⟨pt, pq, pk⟩ := pr
  have HSL := Lib.hid hsl
  clear hb hL l1 l2 hsl hp
  dsimp only
  go_enter Tryd.func14, Tryd.ntmps14
  go_wp2_with fail
  refine (HC.out _).mono ?_
  rintro e w1 ⟨rfl, hb1⟩
  have HL1 := Lib.hid (HL.out.kept hb1)
  have HR1 := Lib.hid (HR.out.kept hb1)
  clear hb1
  go_wp2_with fail
  refine (HA.out _ HL1.out).mono ?_
  rintro e w2 ⟨hb2, he⟩
  have HL2 := Lib.hid (HL1.out.kept hb2)
  have HR2 := Lib.hid (HR1.out.kept hb2)
  clear hb2
  rcases he with ⟨t, ht, rfl⟩ | ⟨hno, v, N, rfl⟩
  · have HT := Lib.hid ht
    have hbt := Lib.atoiAll_bounds ht
    clear ht
    go_wp2_with fail
    refine (HB.out _ HL2.out).mono ?_
    rintro e w3 ⟨hb3, he⟩
    have HL3 := Lib.hid (HL2.out.kept hb3)
    have RS := Lib.hid (HR2.out.kept hb3)
    clear hb3
    rcases he with ⟨r, hr, rfl⟩ | ⟨hno, v, N, rfl⟩
    · have HRr := Lib.hid hr
      have hbr := Lib.atoiAll_bounds hr
      clear hr
      have HPP := HPD.out
      rw [HT.out, HRr.out] at HPP
      dsimp only at HPP
      have HQ := Lib.hid HPP
      clear HPP
      have hbf := (Below.refl w3.heap.size w3).alloc (Nat.le_refl _) (.cells #[.int .i64 t, .int .i64 r] 23)
      have HL4 := Lib.hid (HL3.out.kept hbf)
      have RS4 := Lib.hid (RS.out.kept hbf)
      clear hbf
      have hf0 : (w3.alloc (.cells #[.int .i64 t, .int .i64 r] 23)).cell? ⟨w3.heap.size, 0, none⟩ = some (.int .i64 t) ∧ (w3.alloc (.cells #[.int .i64 t, .int .i64 r] 23)).cell? ⟨w3.heap.size, 1, none⟩ = some (.int .i64 r) := ⟨by rw [World.cell?_alloc_at _ _ _ _ rfl]; rfl, by rw [World.cell?_alloc_at _ _ _ _ rfl]; rfl⟩
      have HF := Lib.hid hf0
      clear hf0 RS
      cases hRB : rightB t r with
      | false =>
        have HP : Hid ((pt, pq, pk) = ((0 : Int), (0 : Int), false)) := Lib.hid (by rw [HQ.out, if_neg (by rw [hRB]; simp)])
        have HRB := Lib.hid hRB
        clear hRB
        go_wp2_with fail
        refine (right_any t r _).mono ?_
        rw [HRB.out]
        rintro e w5 ⟨rfl, hb5⟩
        have RS := Lib.hid (RS4.out.kept hb5)
        clear hb5
        obtain ⟨rfl, rfl, rfl⟩ : pt = 0 ∧ pq = 0 ∧ pk = false := by simpa using HP.out
        obtain ⟨q0, q2, hE⟩ := RS.out.read 0 0
        have HE := Lib.hid hE
        obtain ⟨z0, z1, y0, y1, -⟩ := RS.out
        clear hE
        go_wp2
        exact bodyPost_ret (v := .tuple #[.agg #[.int .i64 0, .int .i64 0], .bool false]) (by simp [results, Tryd.results14, go_sem, q0, q2]) rfl ⟨rfl, HE.out⟩
      | true =>
        have HRB := Lib.hid hRB
        go_wp2_with fail
        refine (right_any t r _).mono ?_
        rw [HRB.out]
        rintro e w5 ⟨rfl, hb5⟩
        have RS5 := Lib.hid (RS4.out.kept hb5)
        have HL5 := Lib.hid (HL4.out.kept hb5)
        have f0 := (hb5.cell (p := ⟨w3.heap.size, 0, none⟩) (by simp)).trans HF.out.1
        have f1 := (hb5.cell (p := ⟨w3.heap.size, 1, none⟩) (by simp)).trans HF.out.2
        have hlt5 : w3.heap.size < w5.heap.size := cell_lt f0
        clear hb5
        by_cases hpl : printB t r = s.data.toList
        · have HP : Hid ((pt, pq, pk) = (t, r, true)) := Lib.hid (by rw [HQ.out, if_pos ⟨hRB, hpl⟩])
          have hps : strB (printB t r) = s := by rw [hpl]; rfl
          have HPR := Lib.hid (fun W h => by have k := print_any t r W hbt.1 hbt.2 hbr.1 hbr.2 h; rw [hps] at k; exact k : ∀ W (h : Laid W), Calls Tryd.prog 30 #[.agg #[.int .i64 t, .int .i64 r]] W fun e w' => e = .returned (.string s) ∧ Below W.heap.size W w')
          clear hRB hpl hps
          obtain ⟨rfl, rfl, rfl⟩ : pt = t ∧ pq = r ∧ pk = true := by simpa using HP.out
          go_wp2_with fail
          refine (HPR.out _ HL5.out).mono ?_
          rintro e w6 ⟨rfl, hb6⟩
          have RS := Lib.hid (RS5.out.kept hb6)
          have g0 := (hb6.cell (p := ⟨w3.heap.size, 0, none⟩) hlt5).trans f0
          have g1 := (hb6.cell (p := ⟨w3.heap.size, 1, none⟩) hlt5).trans f1
          clear hb6 f0 f1
          obtain ⟨q0, q2, hE⟩ := RS.out.read pt pq
          have HE := Lib.hid hE
          obtain ⟨z0, z1, y0, y1, -⟩ := RS.out
          clear hE
          go_wp2
          exact bodyPost_ret (v := .tuple #[.agg #[.int .i64 pt, .int .i64 pq], .bool true]) (by simp [results, Tryd.results14, go_sem, q0, q2]) rfl ⟨rfl, HE.out⟩
        · have HP : Hid ((pt, pq, pk) = ((0 : Int), (0 : Int), false)) := Lib.hid (by rw [HQ.out, if_neg (fun h => hpl h.2)])
          have hps : strB (printB t r) ≠ s := fun h => hpl (by rw [← h, strB_toList])
          have HPR := Lib.hid (fun W h => print_any t r W hbt.1 hbt.2 hbr.1 hbr.2 h)
          generalize strB (printB t r) = ps at *
          have te1 : (ps.toList == s.toList) = false := by
            rw [beq_eq_false_iff_ne, ByteArray.toList_eq, ByteArray.toList_eq]
            intro h
            exact hps (by rw [← strB_of ps, h, strB_of])
          clear hRB hpl hps
          obtain ⟨rfl, rfl, rfl⟩ : pt = 0 ∧ pq = 0 ∧ pk = false := by simpa using HP.out
          go_wp2_with fail
          refine (HPR.out _ HL5.out).mono ?_
          rintro e w6 ⟨rfl, hb6⟩
          have RS := Lib.hid (RS5.out.kept hb6)
          clear hb6 f0 f1
          obtain ⟨q0, q2, hE⟩ := RS.out.read 0 0
          have HE := Lib.hid hE
          obtain ⟨z0, z1, y0, y1, -⟩ := RS.out
          clear hE
          go_wp2
          exact bodyPost_ret (v := .tuple #[.agg #[.int .i64 0, .int .i64 0], .bool false]) (by simp [results, Tryd.results14, go_sem, q0, q2]) rfl ⟨rfl, HE.out⟩
    · have HP : Hid ((pt, pq, pk) = ((0 : Int), (0 : Int), false)) := Lib.hid (by
        rw [HPD.out, HT.out]
        rcases hq : Lib.atoiAll b with x | _ | _
        · exact absurd hq (hno x)
        · rfl
        · rfl)
      clear hno
      obtain ⟨rfl, rfl, rfl⟩ : pt = 0 ∧ pq = 0 ∧ pk = false := by simpa using HP.out
      obtain ⟨q0, q2, hE⟩ := RS.out.read 0 0
      have HE := Lib.hid hE
      obtain ⟨z0, z1, y0, y1, -⟩ := RS.out
      clear hE
      go_wp2
      exact bodyPost_ret (v := .tuple #[.agg #[.int .i64 0, .int .i64 0], .bool false]) (by simp [results, Tryd.results14, go_sem, q0, q2]) rfl ⟨rfl, HE.out⟩
  · have HP : Hid ((pt, pq, pk) = ((0 : Int), (0 : Int), false)) := Lib.hid (by
      rw [HPD.out]
      rcases hq : Lib.atoiAll a with x | _ | _
      · exact absurd hq (hno x)
      · rfl
      · rfl)
    clear hno
    obtain ⟨rfl, rfl, rfl⟩ : pt = 0 ∧ pq = 0 ∧ pk = false := by simpa using HP.out
    go_wp2_with fail
    refine (HB.out _ HL2.out).mono ?_
    rintro e w3 ⟨hb3, he⟩
    have RS := Lib.hid (HR2.out.kept hb3)
    clear hb3
    rcases he with ⟨r, -, rfl⟩ | ⟨-, v', N', rfl⟩
    all_goals
      obtain ⟨q0, q2, hE⟩ := RS.out.read 0 0
      have HE := Lib.hid hE
      obtain ⟨z0, z1, y0, y1, -⟩ := RS.out
      clear hE
      go_wp2
      exact bodyPost_ret (v := .tuple #[.agg #[.int .i64 0, .int .i64 0], .bool false]) (by simp [results, Tryd.results14, go_sem, q0, q2]) rfl ⟨rfl, HE.out⟩

end Go.Proofs.YtbggbpdkphhhdaaDoor
