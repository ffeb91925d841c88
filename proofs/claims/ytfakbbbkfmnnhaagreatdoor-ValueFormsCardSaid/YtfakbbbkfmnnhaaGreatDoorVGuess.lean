/-
  A VALUE's TEXT: strings.CutPrefix, CutSuffix, TrimSuffix, Clone by the shelf's contracts; guess.
  Conditions: the row's listed variables ('Laid').
-/
import Derived.Test.YtfakbbbkfmnnhaaGreatDoorVPrint
import Derived.Test.YtfakbbbkfmnnhaaGreatDoorLaidB
namespace Go.Proofs.YtfakbbbkfmnnhaaGreatDoor
open Go.RowKit

/-- the only value whose text this could be -/
def guessV (l : List UInt8) : Int × Int × List UInt8 :=
  if l = [121, 101, 115] then (4, 1, []) else if l = [110, 111] then (4, 0, [])
  else if Lib.hasPrefix l [34] = true then (3, 0, Lib.trimSuffix (Lib.trimPrefix l [34]) [34])
  else match Lib.atoiAll (Lib.trimSuffix l [102]) with
    | .ok n => (if Lib.hasSuffix l [102] = true then 2 else 1, n, [])
    | _ => (0, 0, [])

theorem trimPrefix_le (l p : List UInt8) : (Lib.trimPrefix l p).length ≤ l.length := by
  unfold Lib.trimPrefix
  split <;> simp
theorem trimSuffix_le (l p : List UInt8) : (Lib.trimSuffix l p).length ≤ l.length := by
  unfold Lib.trimSuffix
  split <;> simp

theorem str_ne {s : ByteArray} {l : List UInt8} (h : s.data.toList ≠ l) : (s.toList == l) = false := by
  rw [beq_eq_false_iff_ne, ByteArray.toList_eq]
  exact h
theorem guessV_le (l : List UInt8) : (guessV l).2.2.length ≤ l.length := by
  unfold guessV
  split
  · simp
  · split
    · simp
    · split
      · exact Nat.le_trans (trimSuffix_le _ _) (trimPrefix_le _ _)
      · split <;> simp

set_option maxRecDepth 100000 in
set_option maxHeartbeats 4000000 in
theorem guess_any (s : ByteArray) (w : World) (hs : s.size ≤ 281474976710656) (hL : Laid w) :
    Calls Tryz.prog 30 #[.string s] w fun e w' => e = .returned (.agg #[.int .i64 (guessV s.data.toList).1, .int .i64 (guessV s.data.toList).2.1, .string (strV (guessV s.data.toList).2.2)]) ∧ Below w.heap.size w w' := by
  have hsl := str_len s
  have hb := (Below.refl w.heap.size w).alloc (Nat.le_refl _) (.cells #[.int .i64 0, .int .i64 0, .string ⟨#[]⟩] 23)
  have HV := Lib.hid (show VRes w w.heap.size (w.alloc (.cells #[.int .i64 0, .int .i64 0, .string ⟨#[]⟩] 23)) from ⟨Nat.le_refl _, ThreeAt.start w 0 0 ⟨#[]⟩, hb⟩)
  have HL := Lib.hid (hL.kept hb)
  have HG : Hid (guessV s.data.toList = (if s.data.toList = [121, 101, 115] then (4, 1, []) else if s.data.toList = [110, 111] then (4, 0, [])
    else if Lib.hasPrefix s.data.toList [34] = true then (3, 0, Lib.trimSuffix (Lib.trimPrefix s.data.toList [34]) [34])
    else match Lib.atoiAll (Lib.trimSuffix s.data.toList [102]) with
      | .ok n => (if Lib.hasSuffix s.data.toList [102] = true then 2 else 1, n, [])
      | _ => (0, 0, []) : Int × Int × List UInt8)) := Lib.hid rfl
  clear hb hL
  by_cases h1 : s.data.toList = [121, 101, 115]
  · have HR := Lib.hid (show guessV s.data.toList = (4, 1, []) by rw [HG.out, if_pos h1])
    obtain rfl : s = ⟨#[121, 101, 115]⟩ := by apply ByteArray.ext; apply Array.toList_inj.1; exact h1
    clear h1 hsl
    go_enter Tryz.func30, Tryz.ntmps30
    go_wp2
    refine bodyPost_ret (v := .agg #[.int .i64 4, .int .i64 1, .string ⟨#[]⟩]) (by simp [results, Tryz.results30, go_sem]) rfl ?_
    rw [HR.out]
    exact ⟨rfl, (Below.refl w.heap.size w).alloc (Nat.le_refl _) _⟩
  have n1 := str_ne h1
  by_cases h2 : s.data.toList = [110, 111]
  · have HR := Lib.hid (show guessV s.data.toList = (4, 0, []) by rw [HG.out, if_neg h1, if_pos h2])
    obtain rfl : s = ⟨#[110, 111]⟩ := by apply ByteArray.ext; apply Array.toList_inj.1; exact h2
    clear h1 h2 hsl n1
    go_enter Tryz.func30, Tryz.ntmps30
    go_wp2
    refine bodyPost_ret (v := .agg #[.int .i64 4, .int .i64 0, .string ⟨#[]⟩]) (by simp [results, Tryz.results30, go_sem]) rfl ?_
    rw [HR.out]
    exact ⟨rfl, (Below.refl w.heap.size w).alloc (Nat.le_refl _) _⟩
  have n2 := str_ne h2
  have HG2 := Lib.hid (show guessV s.data.toList = (if Lib.hasPrefix s.data.toList [34] = true then (3, 0, Lib.trimSuffix (Lib.trimPrefix s.data.toList [34]) [34])
    else match Lib.atoiAll (Lib.trimSuffix s.data.toList [102]) with
      | .ok n => (if Lib.hasSuffix s.data.toList [102] = true then 2 else 1, n, [])
      | _ => (0, 0, []) : Int × Int × List UInt8) by rw [HG.out, if_neg h1, if_neg h2])
  clear h1 h2
  have HC := Lib.hid (fun W => Tryz.strings_CutPrefix s ⟨#[34]⟩ W)
  rw [show (⟨#[34]⟩ : ByteArray).data.toList = [34] from rfl] at HC
  cases hp : Lib.hasPrefix s.data.toList [34] with
  | true =>
    have HR := Lib.hid (show guessV s.data.toList = (3, 0, Lib.trimSuffix (Lib.trimPrefix s.data.toList [34]) [34]) by rw [HG2.out, if_pos hp])
    rw [hp] at HC
    have hle := trimPrefix_le s.data.toList [34]
    have HT := Lib.hid (fun W => Tryz.strings_TrimSuffix (strV (Lib.trimPrefix s.data.toList [34])) ⟨#[34]⟩ W (by rw [strV_size]; omega))
    rw [show (⟨#[34]⟩ : ByteArray).data.toList = [34] from rfl, strV_toList] at HT
    generalize Lib.trimSuffix (Lib.trimPrefix s.data.toList [34]) [34] = b at *
    have hpre : (⟨(Lib.trimPrefix s.data.toList [34]).toArray⟩ : ByteArray) = strV (Lib.trimPrefix s.data.toList [34]) := rfl
    rw [hpre] at HC
    generalize strV (Lib.trimPrefix s.data.toList [34]) = ps at *
    have HBB : Hid ((⟨b.toArray⟩ : ByteArray) = strV b) := Lib.hid rfl
    rw [HBB.out] at HT
    generalize hbs : strV b = bs at *
    have HBS := Lib.hid hbs
    clear hp hpre hle hbs
    go_enter Tryz.func30, Tryz.ntmps30
    go_wp2_with fail
    refine (HC.out _).mono ?_
    rintro e w' ⟨rfl, rfl⟩
    go_wp2_with fail
    refine (HT.out _).mono ?_
    rintro e w' ⟨rfl, rfl⟩
    go_wp2
    refine bodyPost_ret (v := .agg #[.int .i64 3, .int .i64 0, .string bs]) (by simp [results, Tryz.results30, go_sem]) rfl ?_
    rw [HR.out]
    exact ⟨by rw [← HBS.out], (Below.refl w.heap.size w).alloc (Nat.le_refl _) _⟩
  | false =>
    have HR := Lib.hid (show guessV s.data.toList = (match Lib.atoiAll (Lib.trimSuffix s.data.toList [102]) with
      | .ok n => (if Lib.hasSuffix s.data.toList [102] = true then 2 else 1, n, [])
      | _ => (0, 0, []) : Int × Int × List UInt8) by rw [HG2.out, if_neg (by rw [hp]; simp)])
    rw [hp] at HC
    have HS := Lib.hid (fun W => Tryz.strings_CutSuffix s ⟨#[102]⟩ W (by omega))
    rw [show (⟨#[102]⟩ : ByteArray).data.toList = [102] from rfl] at HS
    have hle := trimSuffix_le s.data.toList [102]
    have HA := Lib.hid (fun W h => atoi_any (strV (Lib.trimSuffix s.data.toList [102])) W (by rw [strV_size]; omega) h)
    rw [strV_toList] at HA
    have hsuf : (⟨(Lib.trimSuffix s.data.toList [102]).toArray⟩ : ByteArray) = strV (Lib.trimSuffix s.data.toList [102]) := rfl
    rw [hsuf] at HS
    generalize strV (Lib.trimSuffix s.data.toList [102]) = ds at *
    generalize Lib.trimSuffix s.data.toList [102] = d at *
    generalize (⟨(Lib.trimPrefix s.data.toList [34]).toArray⟩ : ByteArray) = ps at *
    clear hp hsuf hle HG HG2
    cases hf : Lib.hasSuffix s.data.toList [102] with
    | true =>
      rw [hf] at HS HR
      clear hf hsl
      go_enter Tryz.func30, Tryz.ntmps30
      go_wp2_with fail
      refine (HC.out _).mono ?_
      rintro e w' ⟨rfl, rfl⟩
      go_wp2_with fail
      refine (HS.out _).mono ?_
      rintro e w' ⟨rfl, rfl⟩
      go_wp2_with fail
      refine (HA.out _ HL.out).mono ?_
      rintro e w2 ⟨hb2, he⟩
      have HV2 := Lib.hid (HV.out.kept hb2)
      clear hb2
      rcases he with ⟨v, hv, rfl⟩ | ⟨hno, v, N, rfl⟩
      · have HT := Lib.hid (show guessV s.data.toList = (2, v, []) by rw [HR.out, hv]; rfl)
        clear hv
        obtain ⟨q0, q1, q2, hE⟩ := HV2.out.read 2 v ⟨#[]⟩
        have HE := Lib.hid hE
        have y0 := HV2.out.2.1.free 0
        have y1 := HV2.out.2.1.free 1
        have y2 := HV2.out.2.1.free 2
        have z0 := HV2.out.2.1.cell0
        have z1 := HV2.out.2.1.cell1
        have z2 := HV2.out.2.1.cell2
        clear hE
        go_wp2
        refine bodyPost_ret (v := .agg #[.int .i64 2, .int .i64 v, .string ⟨#[]⟩]) (by simp [results, Tryz.results30, go_sem, q0, q1, q2]) rfl ?_
        rw [HT.out]
        exact ⟨rfl, HE.out⟩
      · have HT : Hid (guessV s.data.toList = (0, 0, [])) := Lib.hid (by
          rw [HR.out]
          rcases hq : Lib.atoiAll d with x | _ | _
          · exact absurd hq (hno x)
          · rfl
          · rfl)
        clear hno
        obtain ⟨q0, q1, q2, hE⟩ := HV2.out.read 0 0 ⟨#[]⟩
        have HE := Lib.hid hE
        have y0 := HV2.out.2.1.free 0
        have y1 := HV2.out.2.1.free 1
        have y2 := HV2.out.2.1.free 2
        have z0 := HV2.out.2.1.cell0
        have z1 := HV2.out.2.1.cell1
        have z2 := HV2.out.2.1.cell2
        clear hE
        go_wp2
        refine bodyPost_ret (v := .agg #[.int .i64 0, .int .i64 0, .string ⟨#[]⟩]) (by simp [results, Tryz.results30, go_sem, q0, q1, q2]) rfl ?_
        rw [HT.out]
        exact ⟨rfl, HE.out⟩
    | false =>
      rw [hf] at HS HR
      clear hf hsl
      go_enter Tryz.func30, Tryz.ntmps30
      go_wp2_with fail
      refine (HC.out _).mono ?_
      rintro e w' ⟨rfl, rfl⟩
      go_wp2_with fail
      refine (HS.out _).mono ?_
      rintro e w' ⟨rfl, rfl⟩
      go_wp2_with fail
      refine (HA.out _ HL.out).mono ?_
      rintro e w2 ⟨hb2, he⟩
      have HV2 := Lib.hid (HV.out.kept hb2)
      clear hb2
      rcases he with ⟨v, hv, rfl⟩ | ⟨hno, v, N, rfl⟩
      · have HT := Lib.hid (show guessV s.data.toList = (1, v, []) by rw [HR.out, hv]; rfl)
        clear hv
        obtain ⟨q0, q1, q2, hE⟩ := HV2.out.read 1 v ⟨#[]⟩
        have HE := Lib.hid hE
        have y0 := HV2.out.2.1.free 0
        have y1 := HV2.out.2.1.free 1
        have y2 := HV2.out.2.1.free 2
        have z0 := HV2.out.2.1.cell0
        have z1 := HV2.out.2.1.cell1
        have z2 := HV2.out.2.1.cell2
        clear hE
        go_wp2
        refine bodyPost_ret (v := .agg #[.int .i64 1, .int .i64 v, .string ⟨#[]⟩]) (by simp [results, Tryz.results30, go_sem, q0, q1, q2]) rfl ?_
        rw [HT.out]
        exact ⟨rfl, HE.out⟩
      · have HT : Hid (guessV s.data.toList = (0, 0, [])) := Lib.hid (by
          rw [HR.out]
          rcases hq : Lib.atoiAll d with x | _ | _
          · exact absurd hq (hno x)
          · rfl
          · rfl)
        clear hno
        obtain ⟨q0, q1, q2, hE⟩ := HV2.out.read 0 0 ⟨#[]⟩
        have HE := Lib.hid hE
        have y0 := HV2.out.2.1.free 0
        have y1 := HV2.out.2.1.free 1
        have y2 := HV2.out.2.1.free 2
        have z0 := HV2.out.2.1.cell0
        have z1 := HV2.out.2.1.cell1
        have z2 := HV2.out.2.1.cell2
        clear hE
        go_wp2
        refine bodyPost_ret (v := .agg #[.int .i64 0, .int .i64 0, .string ⟨#[]⟩]) (by simp [results, Tryz.results30, go_sem, q0, q1, q2]) rfl ?_
        rw [HT.out]
        exact ⟨rfl, HE.out⟩

end Go.Proofs.YtfakbbbkfmnnhaaGreatDoor
