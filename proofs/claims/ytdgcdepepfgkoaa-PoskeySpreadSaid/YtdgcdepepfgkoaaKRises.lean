/-
  POSKEYRISES: the walk: a Spread rises, all of it between.
  No conditions.
-/
import Derived.Test.YtdgcdepepfgkoaaKSpread
import Derived.Test.YtdgcdepepfgkoaaKDense
namespace Go.Proofs.Ytdgcdepepfgkoaa
open Go.RowKit

/-- key k of a row, as a text -/
def keyS (l : List (List UInt8)) (k : Nat) : ByteArray := strB (l.getD k [])
theorem keyS_get (l : List (List UInt8)) (k : Nat) (h : k < l.length) : (l.map strB).getD k ByteArray.empty = keyS l k := by
  simp [keyS, List.getD, List.getElem?_eq_getElem h]
/-- what stands ahead of key k -/
def lastS (a : ByteArray) (l : List (List UInt8)) (k : Nat) : ByteArray := if k = 0 then a else keyS l (k - 1)

theorem rises_step {a b : ByteArray} {l : List (List UInt8)} (h : Km.Rises a.data.toList l b.data.toList) (k : Nat) (hk : k < l.length) :
    (∀ w, Calls Try.prog 12 #[.string (keyS l k)] w fun e w' => e = .returned (.bool true) ∧ w = w') ∧
    (Op.bytesLess (keyS l k).toList (lastS a l k).toList = false ∧ ((keyS l k).toList == (lastS a l k).toList) = false) ∧ (b.data.toList ≠ [] → Op.bytesLess (keyS l k).toList b.toList = true) := by
  obtain ⟨h1, h2, h3⟩ := Km.rises_at h k hk
  have e1 : (lastS a l k).data.toList = if k = 0 then a.data.toList else l.getD (k - 1) [] := by
    unfold lastS keyS
    split
    · rfl
    · exact strB_toList _
  have e2 : (keyS l k).data.toList = l.getD k [] := strB_toList _
  refine ⟨fun w => ?_, ⟨?_, ?_⟩, fun hb => ?_⟩
  · have hs : (keyS l k).size ≤ 140737488355328 := by
      rw [← size_list, e2]
      have := ((Km.rightB_iff _).1 h1).2.1
      omega
    have h := right_any (keyS l k) w hs
    rw [e2, h1] at h
    exact h
  · rw [ByteArray.toList_eq, ByteArray.toList_eq, e1, e2]
    exact Km.less_asymm _ _ h2
  · rw [ByteArray.toList_eq, ByteArray.toList_eq, e1, e2, beq_eq_false_iff_ne]
    intro e
    rw [e, Km.less_irrefl] at h2
    cases h2
  · rw [ByteArray.toList_eq, ByteArray.toList_eq, e2]
    exact h3.elim (fun h => absurd h hb) id

set_option maxRecDepth 100000 in
set_option maxHeartbeats 8000000 in
theorem poskeyRises_walk (a b : ByteArray) (n : Int) (w : World) (ha : a.size ≤ 140737488351232) (hb : b.size ≤ 140737488351232) (_ : (Lit.int .i64 n).wf = true) :
    Calls Try.prog 6 #[.string a, .string b, .int .i64 n] w fun e w' => e = .returned (.bool true) ∧ Below w.heap.size w w' := by
  have HSP := Lib.hid (spread_any a b n w (by omega) (by omega))
  have htells := Km.spread_tells n a.data.toList b.data.toList
  generalize Km.spread n a.data.toList b.data.toList = r at *
  obtain ⟨l, x⟩ := r
  rcases htells with ⟨h1, h2⟩ | ⟨h1, h2, h3, h4⟩
  · dsimp only at h1 h2
    subst h2
    have hx : (x == 0) = false := beq_eq_false_iff_ne.2 h1
    clear h1
    go_enter Try.func6, Try.ntmps6
    go_wp2_with fail
    refine HSP.out.mono ?_
    rintro e w1 ⟨hb1, p, c, rfl, -⟩
    have B1 := Lib.hid hb1
    clear hb1
    go_wp2_with fail
    refine (num_any _ _).mono ?_
    rintro e w' ⟨rfl, rfl⟩
    go_wp2_with fail
    refine (knows_any _).mono ?_
    rintro e w2 ⟨rfl, hb2⟩
    have B2 := Lib.hid (B1.out.trans (hb2.mono B1.out.size))
    clear hb2
    go_wp2
    go_ret
    exact ⟨rfl, B2.out⟩
  · dsimp only at h1 h2 h3 h4
    subst h1 h2
    have HR := Lib.hid (fun k hk => rises_step h4 k hk)
    have HLS := Lib.hid h3
    clear h4 h3
    go_enter Try.func6, Try.ntmps6
    go_wp2_with fail
    refine HSP.out.mono ?_
    rintro e w1 ⟨hb1, p, c, rfl, hrd⟩
    have B1 := Lib.hid hb1
    have HRD := Lib.hid (fun h0 => hrd.cell h0)
    rw [List.length_map] at HRD
    clear hb1 hrd HSP
    dsimp only
    have HKS := Lib.hid (keyS_get l)
    obtain ⟨N, hN⟩ : ∃ N, N = l.length := ⟨_, rfl⟩
    rw [← hN] at HR HRD HKS HLS ⊢
    have hN2 : N ≤ 64 := HLS.out
    clear hN
    go_wp2_with fail
    refine (num_any _ _).mono ?_
    rintro e w' ⟨rfl, rfl⟩
    go_wp2_with fail
    go_loop [9, 10] (fun s i => ∃ k : Nat, k ≤ N ∧ i = .int .i64 k ∧ s = .string (lastS a l k)) (fun _ i => N - (intOf i).toNat)
    case atStart => exact ⟨0, Nat.zero_le _, rfl, rfl⟩
    case round =>
      obtain ⟨k, hk, rfl, rfl⟩ := hrel
      by_cases hlt : k < N
      · obtain ⟨B, o, rfl, hcell⟩ := HRD.out (by omega)
        have hc := hcell k hlt
        obtain ⟨r1, ⟨r2, r3⟩, r4⟩ := HR.out k hlt
        rw [HKS.out k hlt] at hc
        have HNX := Lib.hid (show lastS a l (k + 1) = keyS l k by simp [lastS])
        have HR1 := Lib.hid r1
        have g0 : (0 : Int) ≤ (k : Int) := by omega
        have g1 : (k : Int) < (N : Int) := by omega
        clear hcell r1
        generalize keyS l k = M at *
        generalize lastS a l k = S at *
        rcases str_cases b with rfl | ⟨eb, nb⟩
        · clear r4
          go_wp2_with fail
          refine (HR1.out _).mono ?_
          rintro e w' ⟨rfl, rfl⟩
          go_wp2_with fail
          go_round
          case rel => exact ⟨k + 1, by omega, by go_num, by rw [HNX.out]⟩
          case measure => simp [intOf]; omega
        · have r5 := r4 nb
          clear r4 nb
          go_wp2_with fail
          refine (HR1.out _).mono ?_
          rintro e w' ⟨rfl, rfl⟩
          go_wp2_with fail
          go_round
          case rel => exact ⟨k + 1, by omega, by go_num, by rw [HNX.out]⟩
          case measure => simp [intOf]; omega
      · obtain rfl : k = N := by omega
        go_wp2_with fail
        refine (knows_any _).mono ?_
        rintro e w2 ⟨rfl, hb2⟩
        have B2 := Lib.hid (B1.out.trans (hb2.mono B1.out.size))
        clear hb2
        go_wp2
        go_ret
        exact ⟨rfl, B2.out⟩

end Go.Proofs.Ytdgcdepepfgkoaa
