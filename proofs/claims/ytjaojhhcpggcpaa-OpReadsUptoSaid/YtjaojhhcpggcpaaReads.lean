/-
  A READER's Upto, Num and Text, of any bytes; Open.
-/
import Derived.Test.YtjaojhhcpggcpaaReader
namespace Go.Proofs.Ytjaojhhcpggcpaa
open Go.RowKit

/-- a number that stands next: it, what is left, the error -/
def uptoR (l : List UInt8) (most : Int) : Nat × List UInt8 × Nat :=
  if (numR l 281474976710655).2.2 ≠ 0 then (0, l, (numR l 281474976710655).2.2)
  else if most < ((numR l 281474976710655).1 : Int) then (0, l, 30)
  else ((numR l 281474976710655).1, l.drop (numR l 281474976710655).2.1, 0)

set_option maxRecDepth 100000 in
theorem upto_bad (B b : Nat) (l : List UInt8) (err : Nat) (most : Int) (w : World) (h : Rdr w B b l err) (he : err ≠ 0) :
    Calls Try.prog 45 #[.pointer (some ⟨b, 0, none⟩), .int .i64 most] w fun e w' => e = .returned (.int .i64 0) ∧ w = w' := by
  have te : ((err : Int) != 0) = true := by rw [bne_iff_ne]; omega
  clear he
  go_enter Try.func45, Try.ntmps45
  go_wp2_with fail
  refine (err_any B b l err w h).mono ?_
  rintro e w' ⟨rfl, rfl⟩
  go_wp2
  go_ret
  exact ⟨rfl, rfl⟩

set_option maxRecDepth 100000 in
set_option maxHeartbeats 1000000 in
theorem upto_any (B b : Nat) (l : List UInt8) (most : Int) (w : World) (h : Rdr w B b l 0) :
    Calls Try.prog 45 #[.pointer (some ⟨b, 0, none⟩), .int .i64 most] w fun e w' => e = .returned (.int .i64 ((uptoR l most).1 : Nat)) ∧ Rdr w' B b (uptoR l most).2.1 (uptoR l most).2.2 ∧ Only b w w' := by
  have H := Lib.hid h
  obtain ⟨-, -, -, -, -, h5, p, c, h6, h7, h8, h9, -⟩ := h
  have NS := numR_small l 281474976710655
  have HN := number_any p c l 281474976710655 w h7 (by unfold maxLen; omega) h8
  unfold NumAns at HN
  have HU : uptoR l most = (if (numR l 281474976710655).2.2 ≠ 0 then (0, l, (numR l 281474976710655).2.2) else if most < ((numR l 281474976710655).1 : Int) then (0, l, 30) else ((numR l 281474976710655).1, l.drop (numR l 281474976710655).2.1, 0)) := rfl
  rcases hr : numR l 281474976710655 with ⟨n, s, e⟩
  rw [hr] at HN NS HU
  dsimp only at HN NS HU
  clear hr
  have HNh := Lib.hid HN
  clear HN h5 h7 h8 h9
  by_cases he : e = 0
  · subst he
    obtain ⟨ns7, nsM, nsL⟩ := NS
    obtain ⟨ns1, ns2⟩ := nsL rfl
    rw [if_neg (by simp)] at HU
    clear nsL
    by_cases hm : most < (n : Int)
    · rw [if_pos hm] at HU
      have HUh := Lib.hid HU
      clear HU
      go_enter Try.func45, Try.ntmps45
      go_wp2_with fail
      refine (err_any B b l 0 w H.out).mono ?_
      rintro e w' ⟨rfl, rfl⟩
      go_wp2_with fail
      refine HNh.out.mono ?_
      rintro e w' ⟨rfl, rfl⟩
      go_wp2_with fail
      refine (fail_any B b l 0 30 _ H.out).mono ?_
      rintro e w' ⟨rfl, hr, ho⟩
      rw [if_pos rfl] at hr
      have HR := Lib.hid hr
      have HO := Lib.hid ho
      clear hr ho
      go_wp2
      go_ret
      rw [HUh.out]
      exact ⟨rfl, HR.out, HO.out⟩
    · rw [if_neg hm] at HU
      have HUh := Lib.hid HU
      clear HU
      go_enter Try.func45, Try.ntmps45
      go_wp2_with fail
      refine (err_any B b l 0 w H.out).mono ?_
      rintro e w' ⟨rfl, rfl⟩
      go_wp2_with fail
      refine HNh.out.mono ?_
      rintro e w' ⟨rfl, rfl⟩
      go_wp2_with fail
      refine (pass_any B b s l 0 _ H.out ns2).mono ?_
      rintro e w' ⟨rfl, hr, ho⟩
      have HR := Lib.hid hr
      have HO := Lib.hid ho
      clear hr ho
      go_wp2
      go_ret
      rw [HUh.out]
      exact ⟨rfl, HR.out, HO.out⟩
  · rw [if_pos he] at HU
    have HUh := Lib.hid HU
    have te : ((e : Int) != 0) = true := by rw [bne_iff_ne]; omega
    have te2 : ((e : Int) == 0) = false := by rw [beq_eq_false_iff_ne]; omega
    clear HU he NS
    go_enter Try.func45, Try.ntmps45
    go_wp2_with fail
    refine (err_any B b l 0 w H.out).mono ?_
    rintro e w' ⟨rfl, rfl⟩
    go_wp2_with fail
    refine HNh.out.mono ?_
    rintro e w' ⟨rfl, rfl⟩
    go_wp2_with fail
    refine (fail_any B b l 0 e _ H.out).mono ?_
    rintro e w' ⟨rfl, hr, ho⟩
    rw [if_pos rfl] at hr
    have HR := Lib.hid hr
    have HO := Lib.hid ho
    clear hr ho
    go_wp2
    go_ret
    rw [HUh.out]
    exact ⟨rfl, HR.out, HO.out⟩

set_option maxRecDepth 100000 in
theorem rnum_any (B b : Nat) (l : List UInt8) (w : World) (h : Rdr w B b l 0) :
    Calls Try.prog 30 #[.pointer (some ⟨b, 0, none⟩)] w fun e w' => e = .returned (.int .i64 ((uptoR l 281474976710655).1 : Nat)) ∧ Rdr w' B b (uptoR l 281474976710655).2.1 (uptoR l 281474976710655).2.2 ∧ Only b w w' := by
  go_enter Try.func30, Try.ntmps30
  go_wp2_with fail
  refine (upto_any B b l 281474976710655 w h).mono ?_
  rintro e w' ⟨rfl, hr, ho⟩
  have HR := Lib.hid hr
  have HO := Lib.hid ho
  clear hr ho
  generalize hn : (uptoR l 281474976710655).1 = n at *
  have HN := Lib.hid hn
  clear hn
  go_wp2
  go_ret
  rw [HN.out]
  exact ⟨rfl, HR.out, HO.out⟩

/-- a text that stands next: it, what is left, the error -/
def textR (l : List UInt8) : List UInt8 × List UInt8 × Nat :=
  if (numR l 1048576).2.2 ≠ 0 then ([], l, (numR l 1048576).2.2)
  else if l.length - (numR l 1048576).2.1 < (numR l 1048576).1 then ([], l, 20)
  else ((l.drop (numR l 1048576).2.1).take (numR l 1048576).1, l.drop ((numR l 1048576).2.1 + (numR l 1048576).1), 0)

set_option maxRecDepth 100000 in
theorem text_bad (B b : Nat) (l : List UInt8) (err : Nat) (w : World) (h : Rdr w B b l err) (he : err ≠ 0) :
    Calls Try.prog 32 #[.pointer (some ⟨b, 0, none⟩)] w fun e w' => e = .returned (.string ⟨#[]⟩) ∧ w = w' := by
  have te : ((err : Int) != 0) = true := by rw [bne_iff_ne]; omega
  clear he
  go_enter Try.func32, Try.ntmps32
  go_wp2_with fail
  refine (err_any B b l err w h).mono ?_
  rintro e w' ⟨rfl, rfl⟩
  go_wp2
  go_ret
  exact ⟨rfl, rfl⟩

set_option maxRecDepth 100000 in
set_option maxHeartbeats 1000000 in
theorem rtext_any (B b : Nat) (l : List UInt8) (w : World) (h : Rdr w B b l 0) :
    Calls Try.prog 32 #[.pointer (some ⟨b, 0, none⟩)] w fun e w' => e = .returned (.string (strB (textR l).1)) ∧ Rdr w' B b (textR l).2.1 (textR l).2.2 ∧ Only b w w' := by
  have H := Lib.hid h
  obtain ⟨-, h1, h2, -, -, h5, p, c, h6, h7, h8, h9, -⟩ := h
  have NS := numR_small l 1048576
  have HN := number_any p c l 1048576 w h7 (by unfold maxLen; omega) h8
  unfold NumAns at HN
  have HU : textR l = (if (numR l 1048576).2.2 ≠ 0 then ([], l, (numR l 1048576).2.2) else if l.length - (numR l 1048576).2.1 < (numR l 1048576).1 then ([], l, 20) else ((l.drop (numR l 1048576).2.1).take (numR l 1048576).1, l.drop ((numR l 1048576).2.1 + (numR l 1048576).1), 0)) := rfl
  rcases hr : numR l 1048576 with ⟨n, s, e⟩
  rw [hr] at HN NS HU
  dsimp only at HN NS HU
  clear hr
  have HNh := Lib.hid HN
  clear HN
  by_cases he : e = 0
  · subst he
    obtain ⟨ns7, nsM, nsL⟩ := NS
    obtain ⟨ns1, ns2⟩ := nsL rfl
    rw [if_neg (by simp)] at HU
    clear nsL
    by_cases hm : l.length - s < n
    · rw [if_pos hm] at HU
      have HUh := Lib.hid HU
      have tl : (l.length : Int) - (s : Int) < (n : Int) := by omega
      clear HU h7 h8 h9
      go_enter Try.func32, Try.ntmps32
      go_wp2_with fail
      refine (err_any B b l 0 w H.out).mono ?_
      rintro e w' ⟨rfl, rfl⟩
      go_wp2_with fail
      refine HNh.out.mono ?_
      rintro e w' ⟨rfl, rfl⟩
      go_wp2_with fail
      refine (fail_any B b l 0 20 _ H.out).mono ?_
      rintro e w' ⟨rfl, hr, ho⟩
      rw [if_pos rfl] at hr
      have HR := Lib.hid hr
      have HO := Lib.hid ho
      clear hr ho
      go_wp2
      go_ret
      rw [HUh.out]
      exact ⟨rfl, HR.out, HO.out⟩
    · rw [if_neg hm] at HU
      have HUh := Lib.hid HU
      clear HU
      have hml : ((l.drop s).take n).length = n := by simp; omega
      obtain ⟨a, rfl⟩ : ∃ a, p = some a := by
        obtain ⟨b', o', e, -⟩ := h7 (by omega)
        exact ⟨_, e⟩
      have hbs : Bs w (some (a.add s)) ((l.drop s).take n) := by
        intro h0
        obtain ⟨b', o', e, hc⟩ := h7 (by omega)
        simp only [Option.some.injEq] at e
        subst e
        refine ⟨b', o' + s, by rw [Go.WideShapes.add_plain], fun i hi => ?_⟩
        rw [by8_take_drop _ _ _ _ (by omega), Nat.add_assoc]
        exact hc (s + i) (by omega)
      have k1 := hbs.conv (P := Try.prog) (c - s) 31 5 9 Try.underlying31 Try.underlying5 Try.underlying9
      rw [hml] at k1
      by_cases hcs : c = s
      · have hn0 : n = 0 := by omega
        have hs0 : l.length = s := by omega
        subst hn0
        have e0 : (l.drop s).take 0 = [] := List.take_zero
        rw [e0] at HUh
        rw [hs0, hcs] at h6
        have k2 := (Bs.nil w (some a)).conv (P := Try.prog) 0 31 5 9 Try.underlying31 Try.underlying5 Try.underlying9
        simp only [List.length_nil] at k2
        have hs62 : s ≤ 4611686018427387904 := by omega
        have hsl : s ≤ l.length := by omega
        rw [hcs, hs0] at HNh
        clear k1 hbs h7 h8 h9 hml e0 hm hcs ns2 h5 hs0
        go_enter Try.func32, Try.ntmps32
        go_wp2_with fail
        refine (err_any B b l 0 w H.out).mono ?_
        rintro e w' ⟨rfl, rfl⟩
        go_wp2_with fail
        refine HNh.out.mono ?_
        rintro e w' ⟨rfl, rfl⟩
        go_wp2_with fail
        refine (pass_at B b (s + 0) _ (by omega) l 0 _ H.out hsl).mono ?_
        rintro e w' ⟨rfl, hr, ho⟩
        have HR := Lib.hid hr
        have HO := Lib.hid ho
        clear hr ho
        go_wp2
        go_ret
        rw [HUh.out]
        exact ⟨rfl, HR.out, HO.out⟩
      · have hsl : s + n ≤ l.length := by omega
        generalize hmm : (l.drop s).take n = mm at *
        have HMM := Lib.hid hmm
        clear hbs h7 h9 hml hmm
        go_enter Try.func32, Try.ntmps32
        go_wp2_with fail
        refine (err_any B b l 0 w H.out).mono ?_
        rintro e w' ⟨rfl, rfl⟩
        go_wp2_with fail
        refine HNh.out.mono ?_
        rintro e w' ⟨rfl, rfl⟩
        go_wp2_with fail
        refine (pass_at B b (s + n) _ (by omega) l 0 _ H.out hsl).mono ?_
        rintro e w' ⟨rfl, hr, ho⟩
        have HR := Lib.hid hr
        have HO := Lib.hid ho
        clear hr ho
        go_wp2
        go_ret
        rw [HUh.out]
        exact ⟨rfl, HR.out, HO.out⟩
  · rw [if_pos he] at HU
    have HUh := Lib.hid HU
    have te : ((e : Int) != 0) = true := by rw [bne_iff_ne]; omega
    have te2 : ((e : Int) == 0) = false := by rw [beq_eq_false_iff_ne]; omega
    clear HU he NS h7 h8 h9
    go_enter Try.func32, Try.ntmps32
    go_wp2_with fail
    refine (err_any B b l 0 w H.out).mono ?_
    rintro e w' ⟨rfl, rfl⟩
    go_wp2_with fail
    refine HNh.out.mono ?_
    rintro e w' ⟨rfl, rfl⟩
    go_wp2_with fail
    refine (fail_any B b l 0 e _ H.out).mono ?_
    rintro e w' ⟨rfl, hr, ho⟩
    rw [if_pos rfl] at hr
    have HR := Lib.hid hr
    have HO := Lib.hid ho
    clear hr ho
    go_wp2
    go_ret
    rw [HUh.out]
    exact ⟨rfl, HR.out, HO.out⟩

set_option maxRecDepth 100000 in
/-- Open: a reader of a copy -/
theorem open_any (p : Option Addr) (c : Nat) (l : List UInt8) (w : World) (h : Bs w p l) (hl : l.length ≤ 140737488355328) (hpn : p = none → c = 0 ∧ l = []) :
    Calls Try.prog 12 #[.slice p l.length c] w fun e w' => ∃ b, e = .returned (.pointer (some ⟨b, 0, none⟩)) ∧ Rdr w' w.heap.size b l 0 ∧ Below w.heap.size w w' := by
  have HC := Lib.hid (clone_any p c l w h hl hpn)
  clear h hpn
  go_enter Try.func12, Try.ntmps12
  go_wp2_with fail
  refine HC.out.mono ?_
  rintro e w1 ⟨v1, rfl, hown1, hb1, -⟩
  obtain ⟨p1, c1, rfl, hbs1, h1, h2, h3, h4⟩ := hown1.bs
  have hs1 := hb1.size
  have hb2 := hb1.alloc hs1 (.cells #[.bool true, .slice p1 l.length c1, .int .i64 0] 61)
  have HBS := Lib.hid (hbs1.kept (Below.alloc (Below.refl w1.heap.size w1) (Nat.le_refl _) (.cells #[.bool true, .slice p1 l.length c1, .int .i64 0] 61)))
  have H4 := Lib.hid h4
  have H3 := Lib.hid h3
  clear hown1 hbs1 hb1 h3 h4
  go_wp2
  go_ret
  refine ⟨w1.heap.size, rfl, ⟨hs1, ?_, ?_, ?_, ?_, by omega, p1, c1, ?_, HBS.out, h1, H3.out, fun a ha => ⟨?_, (H4.out a ha).1⟩⟩, hb2⟩
  · rw [World.cell?_alloc_at _ _ _ _ rfl]; rfl
  · rw [World.cell?_alloc_at _ _ _ _ rfl]; rfl
  · rw [World.frozen?_alloc_at _ _ _ _ rfl]
  · rw [World.frozen?_alloc_at _ _ _ _ rfl]
  · rw [World.cell?_alloc_at _ _ _ _ rfl]; rfl
  · have := (H4.out a ha).2; omega

end Go.Proofs.Ytjaojhhcpggcpaa
