/-
  A STAMP's TEXT: strconv.Itoa and Atoi by the shelf's contracts, strings.Cut at '@', Print and Parse.
  Conditions: the row's listed variables ('Laid').
-/
import Derived.Test.YtbggbpdkphhhdaaDoorKnows2
import Derived.Lib.AtoiAllCases
import Derived.Lib.AppendIntMem
import Derived.Lib.SmallJoins
import Derived.Lib.IndexBytes
import Derived.Lib.IndexLaws
import Derived.Deep.DeepCutAuto
namespace Go.Proofs.YtbggbpdkphhhdaaDoor
open Go.RowKit Go.Lib

/-- what the walks ask of the listed variables -/
def Laid (w : World) : Prop :=
  Lib.TabIs Tryd.prog w "internal/strconv.uint64pow10" .u64 Lib.pow10Tab ∧ (∃ tp p, w.var? Tryd.prog "strconv.ErrSyntax" = some #[.iface tp p]) ∧ (∃ tp p, w.var? Tryd.prog "strconv.ErrRange" = some #[.iface tp p])
theorem gPow : Tryd.prog.globalNamed "internal/strconv.uint64pow10" = some 3 := by kernel_rfl
theorem gSyn : Tryd.prog.globalNamed "strconv.ErrSyntax" = some 1 := by kernel_rfl
theorem gRan : Tryd.prog.globalNamed "strconv.ErrRange" = some 2 := by kernel_rfl
theorem Laid.kept {w w' : World} (h : Laid w) (hb : Below w.heap.size w w') : Laid w' := by
  obtain ⟨h1, ⟨a, b, h2⟩, c, d, h3⟩ := h
  exact ⟨Go.Joins.tab_stays gPow h1 hb (Nat.le_refl _), ⟨a, b, Go.Joins.var_stays gSyn h2 hb (Nat.le_refl _)⟩, c, d, Go.Joins.var_stays gRan h3 hb (Nat.le_refl _)⟩

theorem itoa_any (n : Int) (w : World) (h0 : -9223372036854775808 ≤ n) (h1 : n ≤ 9223372036854775807) (hL : Laid w) :
    Calls Tryd.prog 49 #[.int .i64 n] w fun e w' => e = .returned (.string (strB (Lib.itoa n))) ∧ Below w.heap.size w w' :=
  (Tryd.strconv_Itoa n h0 h1 w hL.1).mono fun e w' ⟨he, k, os, hw⟩ => ⟨he, by subst hw; exact Lib.below_grow _ _ (Nat.le_refl _) k os⟩

/-- Atoi: the number; an error or none -/
def AtoiPost (l : List UInt8) (w : World) (e : Ending) (w' : World) : Prop :=
  Below w.heap.size w w' ∧ ((∃ v, Lib.atoiAll l = .ok v ∧ e = .returned (.tuple #[.int .i64 v, .nilIface])) ∨ ((∀ v, Lib.atoiAll l ≠ .ok v) ∧ ∃ v N, e = .returned (.tuple #[.int .i64 v, .iface 105 (.pointer (some ⟨N, 0, none⟩))])))
theorem atoi_any (s : ByteArray) (w : World) (hs : s.size ≤ 281474976710656) (hL : Laid w) : Calls Tryd.prog 43 #[.string s] w (AtoiPost s.data.toList w) := by
  obtain ⟨-, ⟨a, b, h2⟩, c, d, h3⟩ := hL
  rcases h : Lib.atoiAll s.data.toList with v | _ | _
  · refine (Tryd.strconv_Atoi_ok s (by omega) v h w).mono fun e w' ⟨he, hw⟩ => ⟨?_, Or.inl ⟨v, h, he⟩⟩
    rcases hw with rfl | ⟨t, rfl⟩
    · exact Below.refl _ _
    · exact Lib.bytesWorld_below _ _ _
  · exact (Any.strconv_Atoi_syntax_var Tryd.laysC172 s hs h a b w h2).mono fun e w' ⟨N, he, _, _, hb⟩ => ⟨hb, Or.inr ⟨(fun v hv => by rw [h] at hv; cases hv), _, N, he⟩⟩
  · exact (Any.strconv_Atoi_range_var Tryd.laysC172 s hs h c d w h3).mono fun e w' ⟨N, he, _, _, hb⟩ => ⟨hb, Or.inr ⟨(fun v hv => by rw [h] at hv; cases hv), _, N, he⟩⟩

/-- a stamp's text -/
def printB (t r : Int) : List UInt8 := Lib.itoa t ++ 64 :: Lib.itoa r
theorem strB_append (a b : List UInt8) : strB a ++ strB b = strB (a ++ b) := by
  unfold strB
  apply ByteArray.ext
  simp [ByteArray.data_append]
theorem nDigits_le (u : Nat) (h : u < 18446744073709551616) : nDigits u ≤ 20 := by
  rcases Nat.lt_or_ge (nDigits u) 21 with k | k
  · omega
  · obtain ⟨j, hj⟩ : ∃ j, nDigits u = j + 1 := ⟨nDigits u - 1, by omega⟩
    exfalso
    have key : ∀ v, 10 ^ (nDigits v - 1) ≤ v ∨ v = 0 := by
      intro v
      induction v using Nat.strongRecOn with
      | _ v ih =>
        by_cases h10 : v < 10
        · rw [nDigits_small h10]; simp; omega
        · rw [nDigits_big h10]
          have h1 := ih (v / 10) (by omega)
          have h2 := nDigits_pos (v / 10)
          obtain ⟨m, hm⟩ : ∃ m, nDigits (v / 10) = m + 1 := ⟨nDigits (v / 10) - 1, by omega⟩
          rw [hm] at h1 ⊢
          simp only [Nat.add_sub_cancel] at h1 ⊢
          rw [Nat.pow_succ]
          left
          rcases h1 with h1 | h1
          · omega
          · omega
    rcases key u with h1 | h1
    · have h2 : 10 ^ 20 ≤ 10 ^ (nDigits u - 1) := Nat.pow_le_pow_right (by decide) (by omega)
      have h3 : (10 : Nat) ^ 20 = 100000000000000000000 := by decide
      omega
    · subst h1
      rw [nDigits_small (by decide)] at k
      omega
theorem itoa_len (n : Int) (h0 : -9223372036854775808 ≤ n) (h1 : n ≤ 9223372036854775807) : (Lib.itoa n).length ≤ 21 := by
  unfold Lib.itoa
  split
  · rw [List.length_cons, decDigits_length]
    have := nDigits_le n.natAbs (by omega)
    omega
  · rw [decDigits_length]
    have := nDigits_le n.toNat (by omega)
    omega
theorem strB_size (l : List UInt8) : (strB l).size = l.length := by simp [strB, ByteArray.size]
theorem printEnd (t r : Int) : Ending.returned (.string (strB (Lib.itoa t) ++ ⟨#[64]⟩ ++ strB (Lib.itoa r))) = Ending.returned (.string (strB (printB t r))) := by
  have e : (⟨#[64]⟩ : ByteArray) = strB [64] := rfl
  rw [e, strB_append, strB_append]
  simp [printB]

set_option maxRecDepth 100000 in
set_option maxHeartbeats 4000000 in
theorem print_any (t r : Int) (w : World) (ht0 : -9223372036854775808 ≤ t) (ht1 : t ≤ 9223372036854775807) (hr0 : -9223372036854775808 ≤ r) (hr1 : r ≤ 9223372036854775807) (hL : Laid w) :
    Calls Tryd.prog 30 #[.agg #[.int .i64 t, .int .i64 r]] w fun e w' => e = .returned (.string (strB (printB t r))) ∧ Below w.heap.size w w' := by
  have hb := (Below.refl w.heap.size w).alloc (Nat.le_refl _) (.cells #[.int .i64 t, .int .i64 r] 23)
  have HB := Lib.hid hb
  have HL := Lib.hid (hL.kept hb)
  have C1 : Hid ((w.alloc (.cells #[.int .i64 t, .int .i64 r] 23)).cell? ⟨w.heap.size, 1, none⟩ = some (.int .i64 r)) := Lib.hid (by rw [World.cell?_alloc_at _ _ _ _ rfl]; rfl)
  have HZ1 := Lib.hid (show (strB (Lib.itoa t)).size ≤ 21 by rw [strB_size]; exact itoa_len t ht0 ht1)
  have HZ2 := Lib.hid (show (strB (Lib.itoa r)).size ≤ 21 by rw [strB_size]; exact itoa_len r hr0 hr1)
  clear hb hL
  go_enter Tryd.func30, Tryd.ntmps30
  go_upto_region 1 with fail
  refine wp_region_any (by kernel_rfl) ?_
  try (change wpAny _ _ _ _ _ _ _ (World.drew _))
  refine wpAny_take (i := 0) (v := ?_) rfl (by kernel_rfl) (by kernel_rfl) (by kernel_rfl) (fun _ _ _ h => h) (Or.inl ⟨by kernel_rfl, ?_⟩) ?_
  rotate_left
  · intro w; go_simp
    all_goals with_reducible rfl
  refine wpAny_take (i := 4) (v := ?_) rfl (by kernel_rfl) (by kernel_rfl) (by kernel_rfl) (fun _ _ _ h => h) (Or.inl ⟨by kernel_rfl, ?_⟩) ?_
  rotate_left
  · intro w; go_simp
    all_goals with_reducible rfl
  refine wpAny_ready (rs := [1, 5]) (by kernel_rfl) (by simp) ?_
  refine AllReady.cons rfl (fun K hK => ?_) (AllReady.cons rfl (fun K hK => ?_) (AllReady.nil))
  ·
    go_simp
    try (refine hK _ _ ?_)
    try (clear hK K)
    refine wpAny_ready (rs := [2, 5]) (by kernel_rfl) (by simp) ?_
    refine AllReady.cons rfl (fun K hK => ?_) (AllReady.cons rfl (fun K hK => ?_) (AllReady.nil))
    ·
      go_simp
      go_wp2_with (go_at_call 49; refine (itoa_any t _ ht0 ht1 (HL.out.kept ((Below.refl _ _).drew))).mono ?_; rintro e w1 ⟨rfl, hb1⟩; have HB1 := Lib.hid ((Below.refl _ _).drew.trans hb1); have y1 := (HB1.out.cell (p := ⟨w.heap.size, 1, none⟩) (by simp)).trans C1.out; have HL1 := Lib.hid (HL.out.kept HB1.out); clear hb1)
      try (refine hK _ _ ?_)
      try (clear hK K)
      refine wpAny_take (i := 3) (v := ?_) rfl (by kernel_rfl) (by kernel_rfl) (by kernel_rfl) (fun _ _ _ h => h) (Or.inl ⟨by kernel_rfl, ?_⟩) ?_
      rotate_left
      · intro w; go_simp
        rw [if_neg (by (try simp only [ByteArray.size_append]); have := HZ1.out; have := HZ2.out; first | omega | (simp; omega) | (simp only [show (ByteArray.size ⟨#[64]⟩) = 1 from rfl]; omega))]
      refine wpAny_ready (rs := [5]) (by kernel_rfl) (by simp) ?_
      refine AllReady.cons rfl (fun K hK => ?_) (AllReady.nil)
      go_simp
      try (refine hK _ _ ?_)
      try (clear hK K)
      refine wpAny_ready (rs := [6]) (by kernel_rfl) (by simp) ?_
      refine AllReady.cons rfl (fun K hK => ?_) (AllReady.nil)
      go_simp
      go_wp2_with (go_at_call 49; refine (itoa_any r _ hr0 hr1 HL1.out).mono ?_; rintro e w2 ⟨rfl, hb2⟩; have HB2 := Lib.hid (HB1.out.trans (hb2.mono HB1.out.size)); clear hb2)
      try (refine hK _ _ ?_)
      try (clear hK K)
      refine wpAny_take (i := 7) (v := ?_) rfl (by kernel_rfl) (by kernel_rfl) (by kernel_rfl) (fun _ _ _ h => h) (Or.inl ⟨by kernel_rfl, ?_⟩) ?_
      rotate_left
      · intro w; go_simp
        rw [if_neg (by (try simp only [ByteArray.size_append]); have := HZ1.out; have := HZ2.out; first | omega | (simp; omega) | (simp only [show (ByteArray.size ⟨#[64]⟩) = 1 from rfl]; omega))]
      refine wpAny_take (i := 8) (v := ?_) rfl (by kernel_rfl) (by kernel_rfl) (by kernel_rfl) (fun _ _ _ h => h) (Or.inl ⟨by kernel_rfl, ?_⟩) ?_
      rotate_left
      · intro w; go_simp
        all_goals with_reducible rfl
      refine wpAny_done (by kernel_rfl) ?_ _
      go_wp2
      go_ret
      exact ⟨printEnd t r, HB.out.trans (HB2.out.mono (by simp))⟩
    ·
      go_simp
      try (refine hK _ _ ?_)
      try (clear hK K)
      refine wpAny_ready (rs := [2]) (by kernel_rfl) (by simp) ?_
      refine AllReady.cons rfl (fun K hK => ?_) (AllReady.nil)
      go_simp
      go_wp2_with (go_at_call 49; refine (itoa_any t _ ht0 ht1 (HL.out.kept ((Below.refl _ _).drew))).mono ?_; rintro e w1 ⟨rfl, hb1⟩; have HB1 := Lib.hid ((Below.refl _ _).drew.trans hb1); have y1 := (HB1.out.cell (p := ⟨w.heap.size, 1, none⟩) (by simp)).trans C1.out; have HL1 := Lib.hid (HL.out.kept HB1.out); clear hb1)
      try (refine hK _ _ ?_)
      try (clear hK K)
      refine wpAny_take (i := 3) (v := ?_) rfl (by kernel_rfl) (by kernel_rfl) (by kernel_rfl) (fun _ _ _ h => h) (Or.inl ⟨by kernel_rfl, ?_⟩) ?_
      rotate_left
      · intro w; go_simp
        rw [if_neg (by (try simp only [ByteArray.size_append]); have := HZ1.out; have := HZ2.out; first | omega | (simp; omega) | (simp only [show (ByteArray.size ⟨#[64]⟩) = 1 from rfl]; omega))]
      refine wpAny_ready (rs := [6]) (by kernel_rfl) (by simp) ?_
      refine AllReady.cons rfl (fun K hK => ?_) (AllReady.nil)
      go_simp
      go_wp2_with (go_at_call 49; refine (itoa_any r _ hr0 hr1 HL1.out).mono ?_; rintro e w2 ⟨rfl, hb2⟩; have HB2 := Lib.hid (HB1.out.trans (hb2.mono HB1.out.size)); clear hb2)
      try (refine hK _ _ ?_)
      try (clear hK K)
      refine wpAny_take (i := 7) (v := ?_) rfl (by kernel_rfl) (by kernel_rfl) (by kernel_rfl) (fun _ _ _ h => h) (Or.inl ⟨by kernel_rfl, ?_⟩) ?_
      rotate_left
      · intro w; go_simp
        rw [if_neg (by (try simp only [ByteArray.size_append]); have := HZ1.out; have := HZ2.out; first | omega | (simp; omega) | (simp only [show (ByteArray.size ⟨#[64]⟩) = 1 from rfl]; omega))]
      refine wpAny_take (i := 8) (v := ?_) rfl (by kernel_rfl) (by kernel_rfl) (by kernel_rfl) (fun _ _ _ h => h) (Or.inl ⟨by kernel_rfl, ?_⟩) ?_
      rotate_left
      · intro w; go_simp
        all_goals with_reducible rfl
      refine wpAny_done (by kernel_rfl) ?_ _
      go_wp2
      go_ret
      exact ⟨printEnd t r, HB.out.trans (HB2.out.mono (by simp))⟩
  ·
    go_simp
    try (refine hK _ _ ?_)
    try (clear hK K)
    refine wpAny_ready (rs := [1]) (by kernel_rfl) (by simp) ?_
    refine AllReady.cons rfl (fun K hK => ?_) (AllReady.nil)
    go_simp
    try (refine hK _ _ ?_)
    try (clear hK K)
    refine wpAny_ready (rs := [2]) (by kernel_rfl) (by simp) ?_
    refine AllReady.cons rfl (fun K hK => ?_) (AllReady.nil)
    go_simp
    go_wp2_with (go_at_call 49; refine (itoa_any t _ ht0 ht1 (HL.out.kept ((Below.refl _ _).drew))).mono ?_; rintro e w1 ⟨rfl, hb1⟩; have HB1 := Lib.hid ((Below.refl _ _).drew.trans hb1); have y1 := (HB1.out.cell (p := ⟨w.heap.size, 1, none⟩) (by simp)).trans C1.out; have HL1 := Lib.hid (HL.out.kept HB1.out); clear hb1)
    try (refine hK _ _ ?_)
    try (clear hK K)
    refine wpAny_take (i := 3) (v := ?_) rfl (by kernel_rfl) (by kernel_rfl) (by kernel_rfl) (fun _ _ _ h => h) (Or.inl ⟨by kernel_rfl, ?_⟩) ?_
    rotate_left
    · intro w; go_simp
      rw [if_neg (by (try simp only [ByteArray.size_append]); have := HZ1.out; have := HZ2.out; first | omega | (simp; omega) | (simp only [show (ByteArray.size ⟨#[64]⟩) = 1 from rfl]; omega))]
    refine wpAny_ready (rs := [6]) (by kernel_rfl) (by simp) ?_
    refine AllReady.cons rfl (fun K hK => ?_) (AllReady.nil)
    go_simp
    go_wp2_with (go_at_call 49; refine (itoa_any r _ hr0 hr1 HL1.out).mono ?_; rintro e w2 ⟨rfl, hb2⟩; have HB2 := Lib.hid (HB1.out.trans (hb2.mono HB1.out.size)); clear hb2)
    try (refine hK _ _ ?_)
    try (clear hK K)
    refine wpAny_take (i := 7) (v := ?_) rfl (by kernel_rfl) (by kernel_rfl) (by kernel_rfl) (fun _ _ _ h => h) (Or.inl ⟨by kernel_rfl, ?_⟩) ?_
    rotate_left
    · intro w; go_simp
      rw [if_neg (by (try simp only [ByteArray.size_append]); have := HZ1.out; have := HZ2.out; first | omega | (simp; omega) | (simp only [show (ByteArray.size ⟨#[64]⟩) = 1 from rfl]; omega))]
    refine wpAny_take (i := 8) (v := ?_) rfl (by kernel_rfl) (by kernel_rfl) (by kernel_rfl) (fun _ _ _ h => h) (Or.inl ⟨by kernel_rfl, ?_⟩) ?_
    rotate_left
    · intro w; go_simp
      all_goals with_reducible rfl
    refine wpAny_done (by kernel_rfl) ?_ _
    go_wp2
    go_ret
    exact ⟨printEnd t r, HB.out.trans (HB2.out.mono (by simp))⟩

end Go.Proofs.YtbggbpdkphhhdaaDoor
