/-
  READING, whatever the reader's error is: numbers, stamps, texts, values, the Path, On.
  No conditions but sizes.
-/
import Derived.Test.YtjaojhhcpggcpaaOFit
namespace Go.Proofs.Ytjaojhhcpggcpaa
open Go.RowKit

/-- a reader that has s left -/
def RdS (w : World) (B b : Nat) (s : RS) : Prop := Rdr w B b s.1 s.2
theorem RdS.kept {w w' : World} {B b : Nat} {s : RS} (h : RdS w B b s) (hb : Below w.heap.size w w') : RdS w' B b s := Rdr.kept h hb
theorem RdS.lt {w : World} {B b : Nat} {s : RS} (h : RdS w B b s) : b < w.heap.size := Rdr.lt h
theorem RdS.len {w : World} {B b : Nat} {s : RS} (h : RdS w B b s) : s.1.length ≤ 4611686018427387904 := h.2.2.2.2.2.1

set_option maxRecDepth 100000 in
theorem nums_any (B b : Nat) (s : RS) (w : World) (h : RdS w B b s) : Calls Try.prog 30 #[.pointer (some ⟨b, 0, none⟩)] w fun e w' => e = .returned (.int .i64 ((numS s).1 : Nat)) ∧ RdS w' B b (numS s).2 ∧ Only b w w' := by
  obtain ⟨l, e⟩ := s
  by_cases he : e = 0
  · subst he
    have : numS (l, 0) = uptoR l 281474976710655 := by unfold numS; rw [if_neg (by simp)]
    rw [this]
    exact rnum_any B b l w h
  · have HN := Lib.hid (show numS (l, e) = (0, (l, e)) by unfold numS; rw [if_pos he])
    have HR := Lib.hid h
    have HE := Lib.hid he
    clear h he
    go_enter Try.func30, Try.ntmps30
    go_wp2_with fail
    refine (upto_bad B b l e 281474976710655 w HR.out HE.out).mono ?_
    rintro e w' ⟨rfl, rfl⟩
    go_wp2
    go_ret
    rw [HN.out]
    exact ⟨rfl, HR.out, Only.refl _ _⟩
theorem texts_any (B b : Nat) (s : RS) (w : World) (h : RdS w B b s) : Calls Try.prog 32 #[.pointer (some ⟨b, 0, none⟩)] w fun e w' => e = .returned (.string (txS s).1) ∧ RdS w' B b (txS s).2 ∧ Only b w w' := by
  obtain ⟨l, e⟩ := s
  by_cases he : e = 0
  · subst he
    have : txS (l, 0) = (strB (textR l).1, (textR l).2) := by unfold txS; rw [if_neg (by simp)]
    rw [this]
    exact rtext_any B b l w h
  · have : txS (l, e) = (⟨#[]⟩, (l, e)) := by unfold txS; rw [if_pos he]
    rw [this]
    refine (text_bad B b l e w h he).mono ?_
    rintro e w' ⟨rfl, rfl⟩
    exact ⟨rfl, h, Only.refl _ _⟩
set_option maxRecDepth 100000 in
set_option maxHeartbeats 1000000 in
theorem sts_any (B b : Nat) (s : RS) (w : World) (h : RdS w B b s) : Calls Try.prog 31 #[.pointer (some ⟨b, 0, none⟩)] w fun e w' => e = .returned (.agg #[.int .i64 (stS s).1.1, .int .i64 (stS s).1.2]) ∧ RdS w' B b (stS s).2 ∧ Only b w w' := by
  obtain ⟨l, e⟩ := s
  by_cases he : e = 0
  · subst he
    have : stS (l, 0) = (((takeR l).1, (takeR l).2.1), (takeR l).2.2) := by unfold stS; rw [if_neg (by simp)]
    rw [this]
    exact take_any B b l w h
  · have HN := Lib.hid (show stS (l, e) = ((0, 0), (l, e)) by unfold stS; rw [if_pos he])
    have hb := (Below.refl w.heap.size w).alloc (Nat.le_refl _) (.cells #[.int .i64 0, .int .i64 0] 23)
    have HO0 := Lib.hid (Only.of_below (b := b) hb)
    have HR := Lib.hid (show Rdr _ B b l e from h.kept hb)
    have HE := Lib.hid he
    have te : ((e : Int) != 0) = true := by rw [bne_iff_ne]; omega
    clear h he hb
    go_enter Try.func31, Try.ntmps31
    go_wp2_with fail
    refine (upto_bad B b l e 1099511627776 _ HR.out HE.out).mono ?_
    rintro e w' ⟨rfl, rfl⟩
    go_wp2_with fail
    refine (upto_bad B b l _ 15 _ HR.out HE.out).mono ?_
    rintro e w' ⟨rfl, rfl⟩
    go_wp2_with fail
    refine (err_any B b l _ _ HR.out).mono ?_
    rintro e w' ⟨rfl, rfl⟩
    go_wp2
    refine bodyPost_ret (v := .agg #[.int .i64 0, .int .i64 0]) (by simp [results, Try.results31, go_sem]) rfl ?_
    rw [HN.out]
    exact ⟨rfl, HR.out, HO0.out⟩
end Go.Proofs.Ytjaojhhcpggcpaa
