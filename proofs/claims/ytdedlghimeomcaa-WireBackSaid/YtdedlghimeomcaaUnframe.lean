/-
  UNFRAME: what wire.Unframe answers of any slice of bytes.
-/
import Derived.Test.YtdedlghimeomcaaFrame
import Derived.Test.YtdedlghimeomcaaNumber
import Derived.Deep.RegionWith
import Derived.Deep.DeepMust
namespace Go.Proofs.Ytdedlghimeomcaa
open Go.RowKit

/-- what is in the frame at the beginning, how many bytes it has, the error -/
def unfR (l : List UInt8) : List UInt8 × Nat × Nat :=
  if l.length = 0 then ([], 0, 20)
  else if by8 l 0 ≠ 93 then ([], 0, 21)
  else if (numR (l.drop 1) 1048576).2.2 ≠ 0 then ([], 0, (numR (l.drop 1) 1048576).2.2)
  else if l.length < (numR (l.drop 1) 1048576).2.1 + 1 + ((numR (l.drop 1) 1048576).1 + 4) then ([], 0, 20)
  else if ((l.drop ((numR (l.drop 1) 1048576).2.1 + 1 + (numR (l.drop 1) 1048576).1)).take 4 == Wm.be 4 (Wm.crc ((l.drop ((numR (l.drop 1) 1048576).2.1 + 1)).take (numR (l.drop 1) 1048576).1))) = false then ([], 0, 22)
  else ((l.drop ((numR (l.drop 1) 1048576).2.1 + 1)).take (numR (l.drop 1) 1048576).1, (numR (l.drop 1) 1048576).2.1 + 1 + (numR (l.drop 1) 1048576).1 + 4, 0)

/-- bytes, a number, an error: new memory; nothing below it has turned -/
def Unfr (E : TypeId) (w : World) (r : List UInt8 × Nat × Nat) (e : Ending) (w' : World) : Prop :=
  ∃ v, e = .returned (.tuple #[v, .int .i64 (r.2.1 : Int), .int .i64 (r.2.2 : Int)]) ∧ Own E w' w.heap.size v r.1 ∧ Below w.heap.size w w'

theorem unfr_err {E : TypeId} {w : World} {r : List UInt8 × Nat × Nat} {e : Nat} (h : r = ([], 0, e)) : Unfr E w r (.returned (.tuple #[.slice none 0 0, .int .i64 0, .int .i64 (e : Int)])) w := by
  rw [h]
  exact ⟨_, rfl, Own.nil _ _ _, Below.refl _ _⟩

set_option maxHeartbeats 400000 in
theorem unframe_zero (p : Option Addr) (c : Nat) (w : World) : Calls Try.prog 20 #[.slice p 0 c] w (Unfr 5 w (unfR [])) := by
  have HF := unfr_err (E := 5) (w := w) (r := unfR []) (e := 20) rfl
  go_enter Try.func20, Try.ntmps20
  go_wp2
  refine wp_scope_fwd 0 rfl ?_
  go_wp2
  go_step3
  refine fwd_goto ?_
  go_wp2
  rw [Exit.noGoto_ret]
  go_ret3
  exact HF

theorem numR_small (l : List UInt8) (most : Nat) : (numR l most).2.1 ≤ 7 ∧ ((numR l most).1 ≤ most) ∧ ((numR l most).2.2 = 0 → 1 ≤ (numR l most).2.1 ∧ (numR l most).2.1 ≤ l.length) := by
  unfold numR
  repeat' split
  all_goals dsimp only
  all_goals omega

set_option maxHeartbeats 400000 in
theorem unframe_some (b o : Nat) (c : Nat) (l : List UInt8) (w : World) (h : Bs w (some ⟨b, o, none⟩) l) (hl : l.length ≤ 4611686018427387904) (h0 : 0 < l.length) (hc : l.length ≤ c) :
    Calls Try.prog 20 #[.slice (some ⟨b, o, none⟩) l.length c] w (Unfr 5 w (unfR l)) := by
  have hz : (l.length == 0) = false := by rw [beq_eq_false_iff_ne]; omega
  have c0 := h.get 0 h0
  rw [Nat.add_zero] at c0
  have k256 := by8_lt l 0
  by_cases hm : by8 l 0 = 93
  · have t0 : ((by8 l 0 : Int) != 93) = false := by rw [hm]; rfl
    have hd1 : (l.drop 1).length = l.length - 1 := by simp
    by_cases hl1 : l.length = 1
    · have hd : l.drop 1 = [] := List.drop_of_length_le (by omega)
      have HF := unfr_err (E := 5) (w := w) (r := unfR l) (e := 20) (by unfold unfR; rw [if_neg (by omega), if_neg (by omega), hd]; rfl)
      clear hd hm hd1
      generalize by8 l 0 = k at *
      rw [hl1]
      clear hl1 hz
      go_enter Try.func20, Try.ntmps20
      go_wp2
      refine wp_scope_fwd 0 rfl ?_
      go_wp2_with fail
      all_goals refine (number_zero _ _ 1048576 _).mono ?_
      all_goals rintro e w' ⟨rfl, rfl⟩
      all_goals go_wp2
      all_goals go_step3
      all_goals refine fwd_goto ?_
      all_goals go_wp2
      all_goals rw [Exit.noGoto_ret]
      all_goals go_ret3
      all_goals exact HF
    · have hcne : ¬ c = 1 := by omega
      have HU : unfR l = (if (numR (l.drop 1) 1048576).2.2 ≠ 0 then ([], 0, (numR (l.drop 1) 1048576).2.2)
        else if l.length < (numR (l.drop 1) 1048576).2.1 + 1 + ((numR (l.drop 1) 1048576).1 + 4) then ([], 0, 20)
        else if ((l.drop ((numR (l.drop 1) 1048576).2.1 + 1 + (numR (l.drop 1) 1048576).1)).take 4 == Wm.be 4 (Wm.crc ((l.drop ((numR (l.drop 1) 1048576).2.1 + 1)).take (numR (l.drop 1) 1048576).1))) = false then ([], 0, 22)
        else ((l.drop ((numR (l.drop 1) 1048576).2.1 + 1)).take (numR (l.drop 1) 1048576).1, (numR (l.drop 1) 1048576).2.1 + 1 + (numR (l.drop 1) 1048576).1 + 4, 0)) := by
        show unfR l = _
        unfold unfR
        rw [if_neg (by omega), if_neg (by omega)]
      have NS := numR_small (l.drop 1) 1048576
      have hbs1 : Bs w (some ⟨b, o + 1, none⟩) (l.drop 1) := fun _ => ⟨b, o + 1, rfl, fun i hi => by
        have := h.get (1 + i) (by omega)
        rw [by8_drop, ← this, Nat.add_assoc]⟩
      have HN := number_at (some ⟨b, o + 1, none⟩) (l.length - 1) (c - 1) (l.drop 1) 1048576 w hd1 hbs1 (by unfold maxLen; omega) (by omega)
      unfold NumAns at HN
      rcases hr : numR (l.drop 1) 1048576 with ⟨n, s, e⟩
      rw [hr] at HU NS HN
      clear hr hm hd1
      dsimp only at HU NS HN
      generalize by8 l 0 = k at *
      by_cases he : e = 0
      · subst he
        obtain ⟨ns7, nsM, nsL⟩ := NS
        obtain ⟨ns1, ns2⟩ := nsL rfl
        rw [if_neg (by simp)] at HU
        have HNh := Lib.hid HN
        have hdl : (l.drop 1).length = l.length - 1 := by simp
        rw [hdl] at ns2
        clear HN hbs1 nsL hdl
        by_cases hsh : l.length < s + 1 + (n + 4)
        · have HF := unfr_err (E := 5) (w := w) (r := unfR l) (e := 20) (by rw [HU, if_pos hsh])
          have tl : ((l.length : Int) - ((s : Int) + 1) < (n : Int) + 4) := by omega
          clear HU
          go_enter Try.func20, Try.ntmps20
          go_wp2
          refine wp_scope_fwd 0 rfl ?_
          go_wp2_with fail
          refine HNh.out.mono ?_
          rintro e w' ⟨rfl, rfl⟩
          go_wp2
          go_step3
          refine fwd_goto ?_
          go_wp2
          rw [Exit.noGoto_ret]
          go_ret3
          exact HF
        · rw [if_neg hsh] at HU
          have HUh := Lib.hid HU
          clear HU
          have hc2 : ¬ c = s + 1 := by omega
          have hml : ((l.drop (s + 1)).take n).length = n := by simp; omega
          have hbs2 : Bs w (some ⟨b, o + (s + 1), none⟩) ((l.drop (s + 1)).take n) := fun h0 => ⟨b, o + (s + 1), rfl, fun i hi => by
            have := h.get (s + 1 + i) (by omega)
            rw [by8_take_drop _ _ _ _ (by omega), ← this, Nat.add_assoc o]⟩
          have hbs3 : Bs w (some ⟨b, o + (s + 1 + n), none⟩) ((l.drop (s + 1 + n)).take 4) := fun h0 => ⟨b, o + (s + 1 + n), rfl, fun i hi => by
            have hi4 : i < 4 := by simp at hi; omega
            have := h.get (s + 1 + n + i) (by omega)
            rw [by8_take_drop _ _ _ _ hi4, ← this, Nat.add_assoc o]⟩
          have hkl : ((l.drop (s + 1 + n)).take 4).length = 4 := by simp; omega
          generalize (l.drop (s + 1 + n)).take 4 = kk at *
          generalize (l.drop (s + 1)).take n = mm at *
          have HC := clone_any (some ⟨b, o + (s + 1), none⟩) (c - (s + 1)) mm w hbs2 (by omega) (by simp)
          rw [hml] at HC
          have HCh := Lib.hid HC
          have HB3 := Lib.hid hbs3
          have HML := Lib.hid hml
          have HKL := Lib.hid hkl
          clear HC hbs2 hbs3 hml hkl
          go_enter Try.func20, Try.ntmps20
          go_wp2
          refine wp_scope_fwd 0 rfl ?_
          go_wp2_with fail
          refine HNh.out.mono ?_
          rintro e w' ⟨rfl, rfl⟩
          go_wp2_with fail
          refine HCh.out.mono ?_
          rintro e w1 ⟨v1, rfl, hown1, hb1, -⟩
          obtain ⟨p1, c1, hv1, hbsv, hc1, hc1', hpn1, hblk⟩ := hown1.bs
          rw [HML.out] at hv1
          subst hv1
          have hc3 : ¬ c = s + 1 + n := by omega
          go_wp2
          have HT : ∀ W : World, Bs W p1 mm → Calls Try.prog 31 #[.slice p1 n c1] W fun e w' => ∃ p2 c2, e = .returned (.slice p2 4 c2) ∧ Bs w' p2 (Wm.be 4 (Wm.crc mm)) ∧ Below W.heap.size W w' := by
            intro W hW
            have := sumBytes_any p1 c1 mm W hW (by rw [HML.out]; unfold maxLen; omega)
            rw [HML.out] at this
            refine this.mono ?_
            rintro e w' ⟨v, rfl, hown, hb⟩
            obtain ⟨p2, c2, rfl, hbs, -⟩ := hown.bs
            refine ⟨p2, c2, ?_, hbs, hb⟩
            rw [Wm.be_length]
          have HTh := Lib.hid HT
          have HBV := Lib.hid hbsv
          clear HT hbsv
          have g1 : IntKind.i64.wrap ((s : Int) + 1 + (n : Int)) = (s : Int) + 1 + (n : Int) := IntWalk.i64_in _ (by omega)
          have g2 : (0 : Int) ≤ (s : Int) + 1 + (n : Int) := by omega
          have g3 : ((s : Int) + 1 + (n : Int)).toNat = s + 1 + n := by omega
          have g4 : (0 : Int) ≤ (s : Int) + 1 + (n : Int) + 4 := by omega
          have g5 : ((s : Int) + 1 + (n : Int) + 4).toNat = s + 1 + n + 4 := by omega
          have g6 : (s : Int) + 1 + (n : Int) + 4 ≤ (c : Int) := by omega
          have g7 : (s : Int) + 1 + (n : Int) ≤ (s : Int) + 1 + (n : Int) + 4 := by omega
          have g8 : s + 1 + n + 4 - (s + 1 + n) = 4 := by omega
          have hbe : (Wm.be 4 (Wm.crc mm)).length = 4 := Wm.be_length _ _
          have HBE := Lib.hid hbe
          have HO1 := Lib.hid hown1.drew
          clear hbe hown1
          rcases hq : (kk == Wm.be 4 (Wm.crc mm)) with _ | _
          all_goals
            have HQ := Lib.hid hq
            clear hq
            go_region_with (first | (go_at_call 31; go_must (refine (HTh.out _ HBV.out.drew).mono ?_; rintro e w2 ⟨p2, c2, rfl, hbs2, hb2⟩; have HX := Lib.hid (Bs.kept (w := w1.drew) (HB3.out.kept hb1).drew hb2); have HB2 := Lib.hid hbs2; clear hbs2)) | (go_at_call 34; refine (equal_at _ _ 4 4 _ _ kk (Wm.be 4 (Wm.crc mm)) _ _ HKL.out HBE.out HX.out HB2.out HQ.out).mono ?_; rintro e w3 ⟨rfl, rfl⟩))
          · have hbw : Below w.heap.size w w2 := hb1.drew.trans (Below.mono hb2 hb1.size)
            have hu := HUh.out
            rw [if_pos HQ.out] at hu
            have HF : Unfr 5 w (unfR l) (.returned (.tuple #[.slice none 0 0, .int .i64 0, .int .i64 (22 : Int)])) w2 := by
              rw [hu]
              exact ⟨_, rfl, Own.nil _ _ _, hbw⟩
            clear hu
            go_wp2
            go_step3
            refine fwd_goto ?_
            go_wp2
            rw [Exit.noGoto_ret]
            go_ret3
            exact HF
          · have hbw : Below w.heap.size w w2 := hb1.drew.trans (Below.mono hb2 hb1.size)
            have hu := HUh.out
            rw [if_neg (by rw [HQ.out]; decide)] at hu
            have HF : Unfr 5 w (unfR l) (.returned (.tuple #[.slice p1 n c1, .int .i64 ((s : Int) + 1 + (n : Int) + 4), .int .i64 (0 : Int)])) w2 := by
              rw [hu]
              exact ⟨_, rfl, HO1.out.below hb2, hbw⟩
            clear hu
            go_wp2
            rw [fwd_ret]
            go_ret3
            exact HF
      · have HF := unfr_err (E := 5) (w := w) (r := unfR l) (e := e) (by rw [HU, if_pos he])
        have te : ((e : Int) != 0) = true := by rw [bne_iff_ne]; omega
        have HNh := Lib.hid HN
        clear HU NS HN hbs1 he
        go_enter Try.func20, Try.ntmps20
        go_wp2
        refine wp_scope_fwd 0 rfl ?_
        go_wp2_with fail
        refine HNh.out.mono ?_
        rintro e w' ⟨rfl, rfl⟩
        go_wp2
        go_step3
        refine fwd_goto ?_
        go_wp2
        rw [Exit.noGoto_ret]
        go_ret3
        exact HF
  · have HF := unfr_err (E := 5) (w := w) (r := unfR l) (e := 21) (by unfold unfR; rw [if_neg (by omega), if_pos hm])
    have t0 : ((by8 l 0 : Int) != 93) = true := by rw [bne_iff_ne]; omega
    clear hm
    generalize by8 l 0 = k at *
    go_enter Try.func20, Try.ntmps20
    go_wp2
    refine wp_scope_fwd 0 rfl ?_
    go_wp2
    go_step3
    refine fwd_goto ?_
    go_wp2
    rw [Exit.noGoto_ret]
    go_ret3
    exact HF

/-- WHAT wire.Unframe ANSWERS. -/
theorem unframe_any (p : Option Addr) (n c : Nat) (l : List UInt8) (w : World) (hn : l.length = n) (h : Bs w p l) (hl : l.length ≤ 4611686018427387904) (hc : l.length ≤ c) :
    Calls Try.prog 20 #[.slice p n c] w (Unfr 5 w (unfR l)) := by
  subst hn
  rcases Nat.eq_zero_or_pos l.length with h0 | h0
  · obtain rfl : l = [] := List.eq_nil_of_length_eq_zero h0
    exact unframe_zero p c w
  · obtain ⟨b, o, rfl, -⟩ := h h0
    exact unframe_some b o c l w h hl h0 hc

end Go.Proofs.Ytdedlghimeomcaa
