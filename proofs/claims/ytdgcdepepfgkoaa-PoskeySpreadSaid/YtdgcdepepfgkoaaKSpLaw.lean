/-
  POSKEYSPREAD: the walk: so many keys between any two.
  No conditions.
-/
import Derived.Test.YtdgcdepepfgkoaaKRefSp
import Derived.Test.YtdgcdepepfgkoaaKRises
namespace Go.Proofs.Ytdgcdepepfgkoaa
open Go.RowKit

set_option maxRecDepth 100000 in
set_option maxHeartbeats 8000000 in
theorem refSpread_any (a b : ByteArray) (n : Int) (w : World) (ha : a.size ≤ 140737488355328) (hb : b.size ≤ 140737488355328) :
    Calls Try.prog 18 #[.string a, .string b, .int .i64 n] w (Sp w (Km.spread n a.data.toList b.data.toList)) := by
  have HEN := refFine_any a b
  by_cases hn0 : n < 0
  · have HS := Lib.hid (Km.spread_bad (n := n) (a := a.data.toList) (b := b.data.toList) (Or.inl hn0))
    rw [HS.out]
    go_enter Try.func18, Try.ntmps18
    go_wp2_with fail
    go_ret2
    exact Sp.bad (Below.refl _ _)
  · by_cases hn1 : 64 < n
    · have HS := Lib.hid (Km.spread_bad (n := n) (a := a.data.toList) (b := b.data.toList) (Or.inr (Or.inl hn1)))
      rw [HS.out]
      go_enter Try.func18, Try.ntmps18
      go_wp2_with fail
      go_ret2
      exact Sp.bad (Below.refl _ _)
    · cases he : Km.endsB a.data.toList b.data.toList
      · rw [he] at HEN
        have HE := Lib.hid (fun w => HEN w ha hb)
        have HS := Lib.hid (Km.spread_bad (n := n) (a := a.data.toList) (b := b.data.toList) (Or.inr (Or.inr he)))
        rw [HS.out]
        clear HEN he
        go_enter Try.func18, Try.ntmps18
        go_wp2_with fail
        refine (HE.out _).mono ?_
        rintro e w1 ⟨rfl, hb1⟩
        have HB1 := Lib.hid hb1
        clear hb1
        go_wp2_with fail
        go_ret2
        exact Sp.bad HB1.out
      · obtain ⟨m, rfl⟩ := Int.eq_ofNat_of_zero_le (show 0 ≤ n by omega)
        have hm : m ≤ 64 := by omega
        refine (refSpread_in m a b w hm he).mono ?_
        rintro e w1 ⟨hb1, ⟨l, p, c, hl, rfl, ho⟩ | ⟨hl, rfl⟩⟩
        · rw [Km.spread_some hm he hl]
          obtain ⟨p', c', e', hrd, -⟩ := ho.rd
          simp only [Value.slice.injEq] at e'
          obtain ⟨rfl, -, rfl⟩ := e'
          exact ⟨hb1, p, c, rfl, hrd⟩
        · rw [Km.spread_none hm he hl]
          exact Sp.bad hb1

set_option maxRecDepth 100000 in
set_option maxHeartbeats 8000000 in
theorem poskeySpread_walk (a b : ByteArray) (n : Int) (w : World) (ha : a.size ≤ 140737488351232) (hb : b.size ≤ 140737488351232) (_ : (Lit.int .i64 n).wf = true) :
    Calls Try.prog 4 #[.string a, .string b, .int .i64 n] w fun e w' => e = .returned (.bool true) ∧ Below w.heap.size w w' := by
  have H1 := Lib.hid (fun w => spread_any a b n w (by omega) (by omega))
  have H2 := Lib.hid (fun w => refSpread_any a b n w (by omega) (by omega))
  have hlen := Km.spread_len n a.data.toList b.data.toList
  generalize Km.spread n a.data.toList b.data.toList = r at *
  obtain ⟨l, x⟩ := r
  dsimp only at hlen
  go_enter Try.func4, Try.ntmps4
  go_wp2_with fail
  refine (H1.out _).mono ?_
  rintro e w1 ⟨hb1, p, c, rfl, hrd⟩
  have B1 := Lib.hid hb1
  have HRD := Lib.hid hrd
  clear hb1 hrd
  go_wp2_with fail
  refine (H2.out _).mono ?_
  rintro e w2 ⟨hb2, p2, c2, rfl, hrd2⟩
  have B2 := Lib.hid (B1.out.trans (hb2.mono B1.out.size))
  have HC1 := Lib.hid (fun h0 => (HRD.out.kept hb2).cell h0)
  have HC2 := Lib.hid (fun h0 => hrd2.cell h0)
  rw [List.length_map] at HC1 HC2
  clear hb2 hrd2 H1 H2
  dsimp only
  have HKS := Lib.hid (keyS_get l)
  obtain ⟨N, hN⟩ : ∃ N, N = l.length := ⟨_, rfl⟩
  rw [← hN] at HC1 HC2 HKS hlen ⊢
  clear hN
  go_wp2_with fail
  refine (num_any _ _).mono ?_
  rintro e w' ⟨rfl, rfl⟩
  go_wp2_with fail
  go_loopw [11] (fun i wr => ∃ k : Nat, k ≤ N ∧ i = .int .i64 k ∧ ∃ q, wr = w2.drewN q) (fun i _ => N - (intOf i).toNat)
  case atStart => exact ⟨0, Nat.zero_le _, rfl, 0, rfl⟩
  case round =>
    obtain ⟨k, hk, rfl, q, rfl⟩ := hrel
    by_cases hlt : k < N
    · obtain ⟨D1, o1, rfl, hcell1⟩ := HC1.out (by omega)
      obtain ⟨D2, o2, rfl, hcell2⟩ := HC2.out (by omega)
      have hc1 := hcell1 k hlt
      have hc2 := hcell2 k hlt
      rw [HKS.out k hlt] at hc1 hc2
      have g0 : (0 : Int) ≤ (k : Int) := by omega
      have g1 : (k : Int) < (N : Int) := by omega
      have g2 : (k : Int) ≤ 9223372036854775807 := by omega
      clear hcell1 hcell2
      generalize keyS l k = M at *
      go_wp2_with fail
      go_quiet (fail)
      go_wp2_with fail
      go_roundw
      case rel => exact ⟨k + 1, by omega, by go_num, _, rfl⟩
      case measure => simp [intOf]; omega
    · obtain rfl : k = N := by omega
      go_wp2_with fail
      refine (knows_any _).mono ?_
      rintro e w3 ⟨rfl, hb3⟩
      have B3 := Lib.hid ((below_drewN B2.out q).trans (hb3.mono (below_drewN B2.out q).size))
      clear hb3
      go_wp2
      go_ret
      exact ⟨rfl, B3.out⟩

end Go.Proofs.Ytdgcdepepfgkoaa
