/-
  The program's Print; what each statement of layer 3 begins with: knows() answers true.
  No conditions but that strconv.Itoa answers (which the row's listed variables give, and small numbers without them).
-/
import Derived.Test.YtfakbbbkfmnnhaaGreatDoorVTimes2
import Derived.Test.YtfakbbbkfmnnhaaGreatDoorVRight8
import Derived.Lib.AppendIntMem
namespace Go.Proofs.YtfakbbbkfmnnhaaGreatDoor
open Go.RowKit

/-- the string of bytes -/
def strV (l : List UInt8) : ByteArray := ⟨l.toArray⟩
theorem strV_toList (l : List UInt8) : (strV l).data.toList = l := by simp [strV]
theorem strV_size (l : List UInt8) : (strV l).size = l.length := by simp [strV, ByteArray.size]
theorem strV_of (s : ByteArray) : strV s.data.toList = s := rfl
theorem strV_append (a b : List UInt8) : strV a ++ strV b = strV (a ++ b) := by
  unfold strV
  apply ByteArray.ext
  simp [ByteArray.data_append]
theorem strV_app1 (l : List UInt8) : strV l ++ ⟨#[102]⟩ = strV (l ++ [102]) := strV_append l [102]
theorem strV_app0 (l : List UInt8) : strV l ++ ⟨#[]⟩ = strV l := by
  have h := strV_append l []
  rw [List.append_nil] at h
  exact h
theorem strV_quote (t : ByteArray) : (⟨#[34]⟩ : ByteArray) ++ t ++ ⟨#[34]⟩ = strV ([34] ++ t.data.toList ++ [34]) := by
  have h1 := strV_append [34] t.data.toList
  have h2 := strV_append ([34] ++ t.data.toList) [34]
  rw [← h1] at h2
  exact h2
theorem ret_str {a b : ByteArray} (h : a = b) : Ending.returned (.string a) = Ending.returned (.string b) := by rw [h]
theorem nDigits_13 (u : Nat) (h : u ≤ 1099511627776) : Lib.nDigits u ≤ 13 := by
  rcases Nat.lt_or_ge (Lib.nDigits u) 14 with k | k
  · omega
  · exfalso
    have key : ∀ v, 10 ^ (Lib.nDigits v - 1) ≤ v ∨ v = 0 := by
      intro v
      induction v using Nat.strongRecOn with
      | _ v ih =>
        by_cases h10 : v < 10
        · rw [Lib.nDigits_small h10]; simp; omega
        · rw [Lib.nDigits_big h10]
          have h1 := ih (v / 10) (by omega)
          have h2 := Lib.nDigits_pos (v / 10)
          obtain ⟨m, hm⟩ : ∃ m, Lib.nDigits (v / 10) = m + 1 := ⟨Lib.nDigits (v / 10) - 1, by omega⟩
          rw [hm] at h1 ⊢
          simp only [Nat.add_sub_cancel] at h1 ⊢
          rw [Nat.pow_succ]
          left
          rcases h1 with h1 | h1
          · omega
          · omega
    rcases key u with h1 | h1
    · have h2 : 10 ^ 13 ≤ 10 ^ (Lib.nDigits u - 1) := Nat.pow_le_pow_right (by decide) (by omega)
      have h3 : (10 : Nat) ^ 13 = 10000000000000 := by decide
      omega
    · subst h1
      rw [Lib.nDigits_small (by decide)] at k
      omega
theorem itoa_short (n : Int) (h0 : -1099511627776 ≤ n) (h1 : n ≤ 1099511627776) : (strV (Lib.itoa n)).size ≤ 14 := by
  rw [strV_size]
  unfold Lib.itoa
  split
  · rw [List.length_cons, Lib.decDigits_length]
    have := nDigits_13 n.natAbs (by omega)
    omega
  · rw [Lib.decDigits_length]
    have := nDigits_13 n.toNat (by omega)
    omega

/-- a value's text -/
def printV (k n : Int) (t : List UInt8) : List UInt8 :=
  if Vm.rightV k n t = true then (if k = 2 then Lib.itoa n ++ [102] else if k = 1 then Lib.itoa n else if k = 3 then [34] ++ t ++ [34] else if k = 4 then (if n = 1 then [121, 101, 115] else [110, 111]) else [110, 111, 110, 101]) else []

/-- what the walk of Print asks of the world: that Itoa answers, there and in what comes of it -/
def Prints (n : Int) (I : World → Prop) : Prop :=
  (∀ W W', I W → Below W.heap.size W W' → I W') ∧ ∀ W, I W → Calls Tryz.prog 44 #[.int .i64 n] W fun e w' => e = .returned (.string (strV (Lib.itoa n))) ∧ Below W.heap.size W w'

theorem flag_any (n : Int) (w : World) : Calls Tryz.prog 45 #[.int .i64 n] w fun e w' => e = .returned (.string (strV (if n = 1 then [121, 101, 115] else [110, 111]))) ∧ w = w' := by
  by_cases h : n = 1
  · subst h
    rw [if_pos rfl]
    go_enter Tryz.func45, Tryz.ntmps45
    go_wp2
    go_ret
    exact ⟨rfl, rfl⟩
  · rw [if_neg h]
    have e1 : (n == 1) = false := by simpa using h
    clear h
    go_enter Tryz.func45, Tryz.ntmps45
    go_wp2
    go_ret
    exact ⟨rfl, rfl⟩

set_option maxRecDepth 100000 in
set_option maxHeartbeats 4000000 in
theorem vprint_gen (k n : Int) (t : ByteArray) (I : World → Prop) (hI : Prints n I) (w : World) (hw : I w) (ht : t.size ≤ 4611686018427387904) : Calls Tryz.prog 21 #[.agg #[.int .i64 k, .int .i64 n, .string t]] w fun e w' => e = .returned (.string (strV (printV k n t.data.toList))) ∧ Below w.heap.size w w' := by
  have hb := (Below.refl w.heap.size w).alloc (Nat.le_refl _) (.cells #[.int .i64 k, .int .i64 n, .string t] 23)
  have HB := Lib.hid hb
  have HT := Lib.hid (ThreeAt.start w k n t)
  obtain ⟨hi1, hi2⟩ := hI
  have HI0 := Lib.hid (hi1 _ _ hw hb)
  have hI1 := Lib.hid hi1
  have hI2 := Lib.hid hi2
  have HP : Hid (printV k n t.data.toList = if Vm.rightV k n t.data.toList = true then (if k = 2 then Lib.itoa n ++ [102] else if k = 1 then Lib.itoa n else if k = 3 then [34] ++ t.data.toList ++ [34] else if k = 4 then (if n = 1 then [121, 101, 115] else [110, 111]) else [110, 111, 110, 101]) else []) := Lib.hid rfl
  clear hb hi1 hi2 hw
  cases hr : Vm.rightV k n t.data.toList with
  | false =>
    have HRB := Lib.hid hr
    have HR := Lib.hid (show printV k n t.data.toList = [] by rw [HP.out, hr]; rfl)
    clear hr
    go_enter Tryz.func21, Tryz.ntmps21
    go_wp2_with fail
    refine (vright_any _ n t _ ht).mono ?_
    rw [HRB.out]
    rintro e w1 ⟨rfl, hb1⟩
    have HB1 := Lib.hid (HB.out.trans (hb1.mono HB.out.size))
    have HI1 := Lib.hid (hI1.out _ _ HI0.out hb1)
    have x0 := (HT.out.kept hb1).cell0
    have x1 := (HT.out.kept hb1).cell1
    have x2 := (HT.out.kept hb1).cell2
    clear hb1
    clear x0 x1 x2
    go_wp2
    go_ret
    rw [HR.out]
    exact ⟨rfl, HB1.out⟩
  | true =>
    have HRB := Lib.hid hr
    have hn : k = 1 ∨ k = 2 → -1099511627776 ≤ n ∧ n ≤ 1099511627776 := fun hk => by
      rw [Vm.rightV_num _ _ _ hk] at hr
      simp only [Bool.and_eq_true, decide_eq_true_eq] at hr
      exact hr.1
    have h3 : k = 3 → t.size ≤ 64 := fun hk => by
      subst hk
      rw [Vm.rightV_text] at hr
      simp only [Vm.okT, Bool.and_eq_true, decide_eq_true_eq] at hr
      rw [str_len] at hr
      exact hr.2.1
    have hk5 : k = 0 ∨ k = 1 ∨ k = 2 ∨ k = 3 ∨ k = 4 := Classical.byContradiction fun hh => by
      rw [Vm.rightV_other k n _ (by omega) (by omega) (by omega) (by omega) (by omega)] at hr
      cases hr
    have HR := Lib.hid (show printV k n t.data.toList = (if k = 2 then Lib.itoa n ++ [102] else if k = 1 then Lib.itoa n else if k = 3 then [34] ++ t.data.toList ++ [34] else if k = 4 then (if n = 1 then [121, 101, 115] else [110, 111]) else [110, 111, 110, 101]) by rw [HP.out, hr, if_pos rfl])
    clear hr
    rcases hk5 with rfl | rfl | rfl | rfl | rfl
    · go_enter Tryz.func21, Tryz.ntmps21
      go_wp2_with fail
      refine (vright_any _ n t _ ht).mono ?_
      rw [HRB.out]
      rintro e w1 ⟨rfl, hb1⟩
      have HB1 := Lib.hid (HB.out.trans (hb1.mono HB.out.size))
      have HI1 := Lib.hid (hI1.out _ _ HI0.out hb1)
      have x0 := (HT.out.kept hb1).cell0
      have x1 := (HT.out.kept hb1).cell1
      have x2 := (HT.out.kept hb1).cell2
      clear hb1
      clear x1 x2
      go_wp2
      go_ret
      rw [HR.out]
      exact ⟨rfl, HB1.out⟩
    · obtain ⟨n0, n1⟩ := hn (by simp)
      clear hn h3
      have hsz := itoa_short n n0 n1
      go_enter Tryz.func21, Tryz.ntmps21
      go_wp2_with fail
      refine (vright_any _ n t _ ht).mono ?_
      rw [HRB.out]
      rintro e w1 ⟨rfl, hb1⟩
      have HB1 := Lib.hid (HB.out.trans (hb1.mono HB.out.size))
      have HI1 := Lib.hid (hI1.out _ _ HI0.out hb1)
      have x0 := (HT.out.kept hb1).cell0
      have x1 := (HT.out.kept hb1).cell1
      have x2 := (HT.out.kept hb1).cell2
      clear hb1
      go_wp2_with fail
      refine (hI2.out _ HI1.out).mono ?_
      rintro e w2 ⟨rfl, hb2⟩
      have HB2 := Lib.hid (HB1.out.trans (hb2.mono HB1.out.size))
      clear hb2 x0 x1 x2
      generalize hs : strV (Lib.itoa n) = s at *
      have HS := Lib.hid hs
      clear hs
      go_wp2
      go_ret
      rw [HR.out]
      exact ⟨ret_str (by rw [← HS.out]; exact strV_app0 _), HB2.out⟩
    · obtain ⟨n0, n1⟩ := hn (by simp)
      clear hn h3
      have hsz := itoa_short n n0 n1
      go_enter Tryz.func21, Tryz.ntmps21
      go_wp2_with fail
      refine (vright_any _ n t _ ht).mono ?_
      rw [HRB.out]
      rintro e w1 ⟨rfl, hb1⟩
      have HB1 := Lib.hid (HB.out.trans (hb1.mono HB.out.size))
      have HI1 := Lib.hid (hI1.out _ _ HI0.out hb1)
      have x0 := (HT.out.kept hb1).cell0
      have x1 := (HT.out.kept hb1).cell1
      have x2 := (HT.out.kept hb1).cell2
      clear hb1
      go_wp2_with fail
      refine (hI2.out _ HI1.out).mono ?_
      rintro e w2 ⟨rfl, hb2⟩
      have HB2 := Lib.hid (HB1.out.trans (hb2.mono HB1.out.size))
      clear hb2 x0 x1 x2
      generalize hs : strV (Lib.itoa n) = s at *
      have HS := Lib.hid hs
      clear hs
      go_wp2
      go_ret
      rw [HR.out]
      exact ⟨ret_str (by rw [← HS.out]; exact strV_app1 _), HB2.out⟩
    · have hsz := h3 rfl
      clear hn h3
      go_enter Tryz.func21, Tryz.ntmps21
      go_wp2_with fail
      refine (vright_any _ n t _ ht).mono ?_
      rw [HRB.out]
      rintro e w1 ⟨rfl, hb1⟩
      have HB1 := Lib.hid (HB.out.trans (hb1.mono HB.out.size))
      have HI1 := Lib.hid (hI1.out _ _ HI0.out hb1)
      have x0 := (HT.out.kept hb1).cell0
      have x1 := (HT.out.kept hb1).cell1
      have x2 := (HT.out.kept hb1).cell2
      clear hb1
      go_wp2
      go_ret
      rw [HR.out]
      exact ⟨ret_str (strV_quote t), HB1.out⟩
    · clear hn h3
      have HF := Lib.hid (fun W => flag_any n W)
      rw [if_neg (by decide), if_neg (by decide), if_neg (by decide), if_pos rfl] at HR
      generalize (if n = 1 then ([121, 101, 115] : List UInt8) else [110, 111]) = fl at *
      go_enter Tryz.func21, Tryz.ntmps21
      go_wp2_with fail
      refine (vright_any _ n t _ ht).mono ?_
      rw [HRB.out]
      rintro e w1 ⟨rfl, hb1⟩
      have HB1 := Lib.hid (HB.out.trans (hb1.mono HB.out.size))
      have HI1 := Lib.hid (hI1.out _ _ HI0.out hb1)
      have x0 := (HT.out.kept hb1).cell0
      have x1 := (HT.out.kept hb1).cell1
      have x2 := (HT.out.kept hb1).cell2
      clear hb1
      go_wp2_with fail
      refine (HF.out _).mono ?_
      rintro e w' ⟨rfl, rfl⟩
      go_wp2
      go_ret
      rw [HR.out]
      exact ⟨rfl, HB1.out⟩

theorem itoa_know (w : World) : Calls Tryz.prog 44 #[.int .i64 2] w fun e w' => e = .returned (.string (strV (Lib.itoa 2))) ∧ Below w.heap.size w w' := by
  have h := Tryz.strconv_Itoa_small 2 (by decide) w
  refine h.mono fun e w' ⟨he, hw⟩ => ?_
  subst hw
  exact ⟨he, Below.refl _ _⟩
theorem prints_know : Prints 2 (fun _ => True) := ⟨fun _ _ _ _ => trivial, fun W _ => itoa_know W⟩
theorem print_two : printV 2 2 [] = [50, 102] := by
  unfold printV
  rw [if_pos (by decide), if_pos rfl]
  have h : Lib.itoa 2 = [50] := by
    unfold Lib.itoa
    rw [if_neg (by decide)]
    exact Lib.decDigits_one (by decide)
  rw [h]; rfl
theorem times_know : Vm.timesV 2 32768 [] 2 3 [] = (2, 2, 0) := by decide
theorem vprint_know (w : World) : Calls Tryz.prog 21 #[.agg #[.int .i64 2, .int .i64 2, .string ⟨#[]⟩]] w fun e w' => e = .returned (.string ⟨#[50, 102]⟩) ∧ Below w.heap.size w w' := by
  have h := vprint_gen 2 2 ⟨#[]⟩ (fun _ => True) prints_know w trivial (by decide)
  rw [show printV 2 2 (⟨#[]⟩ : ByteArray).data.toList = [50, 102] from print_two] at h
  exact h
theorem vtimes_know (w : World) : Calls Tryz.prog 47 #[.agg #[.int .i64 2, .int .i64 32768, .string ⟨#[]⟩], .agg #[.int .i64 2, .int .i64 3, .string ⟨#[]⟩]] w fun e w' => e = .returned (.tuple #[.agg #[.int .i64 2, .int .i64 2, .string ⟨#[]⟩], .int .i64 0]) ∧ Below w.heap.size w w' := by
  have h := vtimes_any 2 32768 ⟨#[]⟩ 2 3 ⟨#[]⟩ w (by decide) (by decide)
  rw [show Vm.timesV 2 32768 (⟨#[]⟩ : ByteArray).data.toList 2 3 (⟨#[]⟩ : ByteArray).data.toList = (2, 2, 0) from times_know] at h
  exact h
theorem vright_know (w : World) : Calls Tryz.prog 19 #[.agg #[.int .i64 2, .int .i64 2, .string ⟨#[]⟩]] w fun e w' => e = .returned (.bool true) ∧ Below w.heap.size w w' := by
  have h := vright_nil 2 2 w
  rw [show Vm.rightV 2 2 [] = true by decide] at h
  exact h
theorem vright8_know (w : World) : Calls Tryz.prog 23 #[.int .i64 6, .agg #[.int .i64 2, .int .i64 2, .string ⟨#[]⟩]] w fun e w' => e = .returned (.bool true) ∧ Below w.heap.size w w' := by
  have h := vright8_any 6 2 2 ⟨#[]⟩ w (by decide)
  rw [show right8V 6 2 2 (⟨#[]⟩ : ByteArray).data.toList = true by decide] at h
  exact h
theorem lawNum3_any (k : Int) (w : World) : Calls Tryz.prog 11 #[.int .i64 k] w fun e w' => e = .returned (.int .i64 k) ∧ w = w' := by
  go_enter Tryz.func11, Tryz.ntmps11
  go_wp2
  go_ret
  exact ⟨rfl, rfl⟩

set_option maxRecDepth 100000 in
set_option maxHeartbeats 2000000 in
theorem knows3_any (w : World) : Calls Tryz.prog 25 #[] w fun e w' => e = .returned (.bool true) ∧ Below w.heap.size w w' := by
  go_enter Tryz.func25, Tryz.ntmps25
  go_wp2_with fail
  refine (vtimes_know _).mono ?_
  rintro e w1 ⟨rfl, hb1⟩
  have HB := Lib.hid (hb1.alloc hb1.size (.cells #[.int .i64 2, .int .i64 2, .string ⟨#[]⟩] 23))
  have HT := Lib.hid (ThreeAt.start w1 2 2 ⟨#[]⟩)
  clear hb1
  go_wp2_with fail
  refine (lawNum3_any 0 _).mono ?_
  rintro e w' ⟨rfl, rfl⟩
  go_wp2_with fail
  refine (vprint_know _).mono ?_
  rintro e w2 ⟨rfl, hb2⟩
  have HB2 := Lib.hid (HB.out.trans (hb2.mono HB.out.size))
  have HT2 := Lib.hid (HT.out.kept hb2)
  clear hb2
  have x0 := HT2.out.cell0
  have x1 := HT2.out.cell1
  have x2 := HT2.out.cell2
  go_wp2_with fail
  refine (vright_know _).mono ?_
  rintro e w3 ⟨rfl, hb3⟩
  have HB3 := Lib.hid (HB2.out.trans (hb3.mono HB2.out.size))
  have HT3 := Lib.hid (HT2.out.kept hb3)
  clear hb3 x0 x1 x2
  have x0 := HT3.out.cell0
  have x1 := HT3.out.cell1
  have x2 := HT3.out.cell2
  go_wp2_with fail
  refine (vright8_know _).mono ?_
  rintro e w4 ⟨rfl, hb4⟩
  have HB4 := Lib.hid (HB3.out.trans (hb4.mono HB3.out.size))
  clear hb4 x0 x1 x2
  go_wp2
  go_ret
  exact ⟨rfl, HB4.out⟩

end Go.Proofs.YtfakbbbkfmnnhaaGreatDoor
