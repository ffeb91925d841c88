/-
  THE DOCUMENT's READER, by itself: Open, Left, Upto, Fail.
  No conditions.
-/
import Derived.Test.YtcmjjkkbocekbaaReads
import Derived.Test.YtcmjjkkbocekbaaRef
import Derived.Deep.DeepCutAuto
namespace Go.Proofs.Ytcmjjkkbocekbaa
open Go.RowKit

theorem Only.of_below {b : Nat} {w w' : World} (hb : Below w.heap.size w w') : Only b w w' := ⟨hb.os, hb.tape, hb.output, hb.size, fun k hk _ => hb.block k hk⟩

theorem Only.cell {b : Nat} {w w' : World} (h : Only b w w') {k o : Nat} (hk : k < w.heap.size) (hne : k ≠ b) : w'.cell? ⟨k, o, none⟩ = w.cell? ⟨k, o, none⟩ := by
  have := h.block k hk (by simpa using hne)
  simp [World.cell?, this]

theorem Only.frozen {b : Nat} {w w' : World} (h : Only b w w') {k o : Nat} (hk : k < w.heap.size) (hne : k ≠ b) : w'.frozen? ⟨k, o, none⟩ = w.frozen? ⟨k, o, none⟩ := by
  have := h.block k hk (by simpa using hne)
  simp [World.frozen?, this]

def RRdr (w : World) (B b : Nat) (l : List UInt8) (err : Nat) : Prop :=
  B ≤ b ∧ w.cell? ⟨b, 2, none⟩ = some (.int .i64 (err : Int)) ∧ w.frozen? ⟨b, 1, none⟩ = false ∧ w.frozen? ⟨b, 2, none⟩ = false ∧
  ∃ (p : Option Addr) (c at' : Nat) (L : List UInt8), w.cell? ⟨b, 0, none⟩ = some (.slice p L.length c) ∧ w.cell? ⟨b, 1, none⟩ = some (.int .i64 (at' : Int)) ∧ at' ≤ L.length ∧ (L.length ≤ 140737488355328 ∧ L.length ≤ c) ∧ l = L.drop at' ∧ Bs w p L ∧ (∀ a, p = some a → a.block ≠ b ∧ B ≤ a.block)

theorem RRdr.lt {w : World} {B b : Nat} {l : List UInt8} {err : Nat} (h : RRdr w B b l err) : b < w.heap.size := cell_lt h.2.1

theorem RRdr.kept {w w' : World} {B b : Nat} {l : List UInt8} {err : Nat} (h : RRdr w B b l err) (hb : Below w.heap.size w w') : RRdr w' B b l err := by
  have hlt := h.lt
  obtain ⟨h0, h2, f1, f2, p, c, a, L, c0, c1, h3, h4, h5, h6, h7⟩ := h
  have e : ∀ o, w'.cell? ⟨b, o, none⟩ = w.cell? ⟨b, o, none⟩ := fun o => hb.cell (by simpa using hlt)
  have f : ∀ o, w'.frozen? ⟨b, o, none⟩ = w.frozen? ⟨b, o, none⟩ := fun o => hb.frozen (by simpa using hlt)
  exact ⟨h0, by rw [e]; exact h2, by rw [f]; exact f1, by rw [f]; exact f2, p, c, a, L, by rw [e]; exact c0, by rw [e]; exact c1, h3, h4, h5, h6.kept hb, h7⟩

theorem RRdr.fail {w : World} {B b : Nat} {l : List UInt8} {err : Nat} (h : RRdr w B b l err) (e : Nat) : RRdr (w.setCell ⟨b, 2, none⟩ (.int .i64 (e : Int))) B b l e := by
  obtain ⟨h0, h2, f1, f2, p, c, a, L, c0, c1, h3, h4, h5, h6, h7⟩ := h
  exact ⟨h0, cell_same h2, by simpa using f1, by simpa using f2, p, c, a, L, by rw [cell_other (by simp)]; exact c0, by rw [cell_other (by simp)]; exact c1, h3, h4, h5, h6.other (fun a ha => (h7 a ha).1) _ _, h7⟩

theorem refOpen_any (p : Option Addr) (c : Nat) (l : List UInt8) (w : World) (h : Bs w p l) (hl : l.length ≤ 140737488355328) (hpn : p = none → c = 0) :
    Calls Try.prog 11 #[.slice p l.length c] w fun e w' => ∃ b, e = .returned (.pointer (some ⟨b, 0, none⟩)) ∧ RRdr w' w.heap.size b l 0 ∧ Below w.heap.size w w' := by
  obtain ⟨i0, hi, hz0, hz1, hz2⟩ := info_parts info_u8
  have HO := Lib.hid (Own.lit (E := 5) w #[] [] rfl (by decide))
  have hb0 : Below w.heap.size w (w.alloc (.cells #[] 5)) := (Below.refl _ _).alloc (Nat.le_refl _) _
  have HB := Lib.hid (h.kept hb0)
  clear h
  go_enter Try.func11, Try.ntmps11
  go_wp2_with (at_builtin; refine wpList_append_bs rfl _ _ 24 rfl w.heap.size 5 i0 Try.underlying24 hi hz0 hz1 hz2 _ _ rfl HO.out p c l rfl HB.out hpn ?b1 ?b2 ?_)
  case b1 => simp; omega
  case b2 => simp
  intro v1 w1 hown1 hbel1 hgrow1 hnil1
  clear hgrow1 hnil1
  have hown1' : Own 5 w1 w.heap.size v1 l := hown1
  have hbw1 := hb0.trans hbel1
  have hs1 := hbw1.size
  obtain ⟨p1, c1, rfl, hbs1, hcap1, -, -, hblk⟩ := hown1'.bs
  have HCAP := Lib.hid hcap1
  have HBW := Lib.hid (hbw1.alloc hs1 (.cells #[.slice p1 l.length c1, .int .i64 0, .int .i64 0] 42))
  have HBS := Lib.hid (hbs1.kept (Below.alloc (Below.refl w1.heap.size w1) (Nat.le_refl _) (.cells #[.slice p1 l.length c1, .int .i64 0, .int .i64 0] 42)))
  have HK := Lib.hid hblk
  clear hown1 hown1' hbel1 hbs1 hb0 hbw1 hblk hcap1
  go_wp2
  go_ret
  refine ⟨w1.heap.size, rfl, ⟨hs1, ?_, ?_, ?_, p1, c1, 0, l, ?_, ?_, Nat.zero_le _, ⟨hl, HCAP.out⟩, rfl, HBS.out, fun a ha => ?_⟩, HBW.out⟩
  · rw [World.cell?_alloc_at _ _ _ _ rfl]; rfl
  · rw [World.frozen?_alloc_at _ _ _ _ rfl]
  · rw [World.frozen?_alloc_at _ _ _ _ rfl]
  · rw [World.cell?_alloc_at _ _ _ _ rfl]; rfl
  · rw [World.cell?_alloc_at _ _ _ _ rfl]; rfl
  · have := (HK.out a ha).2; exact ⟨by omega, (HK.out a ha).1⟩

theorem refLeft_any (B b : Nat) (l : List UInt8) (err : Nat) (w : World) (h : RRdr w B b l err) : Calls Try.prog 15 #[.pointer (some ⟨b, 0, none⟩)] w fun e w' => e = .returned (.int .i64 (l.length : Int)) ∧ Below w.heap.size w w' := by
  obtain ⟨h0, h2, f1, f2, p, c, a, L, c0, c1, h3, h4, rfl, h6, h7⟩ := h
  have hw : IntKind.i64.wrap ((L.length : Int) - (a : Int)) = (L.length : Int) - (a : Int) := by rw [IntKind.wrap_i64]; omega
  have hE := Lib.hid (show ((L.length : Int) - (a : Int)) = ((L.drop a).length : Int) by rw [List.length_drop]; omega)
  go_enter Try.func15, Try.ntmps15
  go_wp2
  go_quiet (fail)
  go_wp2
  go_ret
  exact ⟨ret_int hE.out, below_drewN (Below.refl _ _) _⟩

theorem RRdr.pass {w : World} {B b : Nat} {l : List UInt8} {err : Nat} (h : RRdr w B b l err) (s : Nat) (hs : s ≤ l.length) : ∃ a' : Nat, w.cell? ⟨b, 1, none⟩ = some (.int .i64 (a' : Int)) ∧ a' ≤ 140737488355328 ∧ RRdr (w.setCell ⟨b, 1, none⟩ (.int .i64 ((a' : Int) + (s : Int)))) B b (l.drop s) err := by
  obtain ⟨h0, h2, f1, f2, p, c, a, L, c0, c1, h3, h4, rfl, h6, h7⟩ := h
  rw [List.length_drop] at hs
  refine ⟨a, c1, by omega, h0, by rw [cell_other (by simp)]; exact h2, by simpa using f1, by simpa using f2, p, c, a + s, L, by rw [cell_other (by simp)]; exact c0, cell_same (u := .int .i64 (a : Int)) c1 |>.trans (by simp), by omega, h4, by rw [List.drop_drop], h6.other (fun a ha => (h7 a ha).1) _ _, h7⟩

theorem refUpto_bad (B b : Nat) (l : List UInt8) (err : Nat) (most : Int) (w : World) (h : RRdr w B b l err) (he : err ≠ 0) :
    Calls Try.prog 37 #[.pointer (some ⟨b, 0, none⟩), .int .i64 most] w fun e w' => e = .returned (.int .i64 0) ∧ w = w' := by
  obtain ⟨h0, h2, -⟩ := h
  have te : ((err : Int) != 0) = true := by rw [bne_iff_ne]; omega
  clear he
  go_enter Try.func37, Try.ntmps37
  go_wp2
  go_ret
  exact ⟨rfl, rfl⟩

theorem refNumber_quiet (p : Option Addr) (c a : Nat) (l : List UInt8) (n s e : Nat) (hr : numR (l.drop a) 281474976710655 = (n, s, e)) (hl : l.length ≤ maxLen) (w : World) (h : Bs w p l) :
    Calls Try.prog 42 #[.slice p l.length c, .int .i64 a] w fun r w' => r = .returned (.tuple #[.int .i64 (n : Int), .int .i64 (s : Int), .int .i64 (e : Int)]) ∧ w' = w :=
  (refNumber_any p c a l w h hl).mono fun r w' hh => by
    unfold NumAns at hh
    rw [hr] at hh
    exact ⟨hh.1, hh.2.symm⟩

theorem refUpto_any (B b : Nat) (l : List UInt8) (most : Int) (w : World) (h : RRdr w B b l 0) :
    Calls Try.prog 37 #[.pointer (some ⟨b, 0, none⟩), .int .i64 most] w fun e w' => e = .returned (.int .i64 ((uptoR l most).1 : Nat)) ∧ RRdr w' B b (uptoR l most).2.1 (uptoR l most).2.2 ∧ Only b w w' := by
  have H := Lib.hid h
  have NS := numR_small l 281474976710655
  have HU : uptoR l most = (if (numR l 281474976710655).2.2 ≠ 0 then (0, l, (numR l 281474976710655).2.2) else if most < ((numR l 281474976710655).1 : Int) then (0, l, 30) else ((numR l 281474976710655).1, l.drop (numR l 281474976710655).2.1, 0)) := rfl
  rcases hr : numR l 281474976710655 with ⟨n, s, e⟩
  rw [hr] at NS HU
  dsimp only at NS HU
  have hlt := h.lt
  obtain ⟨h0, h2, f1, f2, p, c, a, L, c0, c1, h3, h4, hl, h6, h7⟩ := h
  have HNQ := Lib.hid (refNumber_quiet p c a L n s e (by rw [← hl]; exact hr) (by unfold maxLen; omega))
  have h6d : ∀ k, Bs (w.drewN k) p L := fun k => h6.kept (below_drewN (Below.refl _ _) _)
  have H6 := Lib.hid (And.intro h6 h6d)
  clear hr h6d h6 hl
  by_cases he : e = 0
  · subst he
    obtain ⟨ns7, nsM, nsL⟩ := NS
    obtain ⟨ns1, ns2⟩ := nsL rfl
    rw [if_neg (by simp)] at HU
    clear nsL
    by_cases hm : most < (n : Int)
    · rw [if_pos hm] at HU
      have HUh := Lib.hid HU
      have HF := Lib.hid (fun k => (H.out.kept (below_drewN (Below.refl w.heap.size w) k)).fail 30)
      clear HU
      go_enter Try.func37, Try.ntmps37
      go_wp2
      go_quiet ((go_at_call 42; exact Calls.quiet_of_same (HNQ.out _ (by first | exact H6.out.1 | exact H6.out.2 _))))
      go_wp2
      go_ret
      rw [HUh.out]
      exact ⟨rfl, HF.out nq, (Only.of_below (below_drewN (Below.refl _ _) nq)).trans (Only.set b 2 _ _)⟩
    · rw [if_neg hm] at HU
      have HUh := Lib.hid HU
      have HP := Lib.hid (fun k => (H.out.kept (below_drewN (Below.refl w.heap.size w) k)).pass s ns2)
      have hsum : IntKind.i64.wrap ((a : Int) + (s : Int)) = (a : Int) + (s : Int) := by rw [IntKind.wrap_i64]; omega
      clear HU
      go_enter Try.func37, Try.ntmps37
      go_wp2
      go_quiet ((go_at_call 42; exact Calls.quiet_of_same (HNQ.out _ (by first | exact H6.out.1 | exact H6.out.2 _))))
      go_wp2
      go_ret
      rw [HUh.out]
      obtain ⟨a', e1, -, hp⟩ := HP.out nq
      have e2 : (a : Int) = (a' : Int) := by
        have h3 : (w.drewN nq).cell? ⟨b, 1, none⟩ = some (.int .i64 (a : Int)) := c1
        rw [h3] at e1
        simpa using e1
      rw [e2]
      exact ⟨rfl, hp, (Only.of_below (below_drewN (Below.refl _ _) nq)).trans (Only.set b 1 _ _)⟩
  · rw [if_pos he] at HU
    have HUh := Lib.hid HU
    have te : ((e : Int) != 0) = true := by rw [bne_iff_ne]; omega
    have te2 : ((e : Int) == 0) = false := by rw [beq_eq_false_iff_ne]; omega
    have HF := Lib.hid (fun k => (H.out.kept (below_drewN (Below.refl w.heap.size w) k)).fail e)
    clear HU he NS
    go_enter Try.func37, Try.ntmps37
    go_wp2
    go_quiet ((go_at_call 42; exact Calls.quiet_of_same (HNQ.out _ (by first | exact H6.out.1 | exact H6.out.2 _))))
    go_wp2
    go_ret
    rw [HUh.out]
    exact ⟨rfl, HF.out nq, (Only.of_below (below_drewN (Below.refl _ _) nq)).trans (Only.set b 2 _ _)⟩

theorem refFail_any (B b : Nat) (l : List UInt8) (err e : Nat) (w : World) (h : RRdr w B b l err) : Calls Try.prog 38 #[.pointer (some ⟨b, 0, none⟩), .int .i64 (e : Int)] w fun r w' => r = .returned (.tuple #[]) ∧ RRdr w' B b l (if err = 0 then e else err) ∧ Only b w w' := by
  have HS := Lib.hid (h.fail e)
  have HH := Lib.hid h
  obtain ⟨h0, h2, f1, f2, -⟩ := h
  by_cases he : err = 0
  · subst he
    rw [if_pos rfl]
    have HO := Lib.hid (Only.set b 2 w (.int .i64 (e : Int)))
    go_enter Try.func38, Try.ntmps38
    go_wp2
    go_end0
    exact ⟨rfl, HS.out, HO.out⟩
  · rw [if_neg he]
    have te : ((err : Int) == 0) = false := by rw [beq_eq_false_iff_ne]; omega
    clear he
    go_enter Try.func38, Try.ntmps38
    go_wp2
    go_end0
    exact ⟨rfl, HH.out, Only.refl _ _⟩

def RdrL (w : World) (b len err : Nat) : Prop :=
  w.cell? ⟨b, 0, none⟩ = some (.bool true) ∧ w.cell? ⟨b, 2, none⟩ = some (.int .i64 (err : Int)) ∧ len ≤ 4611686018427387904 ∧ ∃ p c, w.cell? ⟨b, 1, none⟩ = some (.slice p len c)

theorem Rdr.weak {w : World} {B b : Nat} {l : List UInt8} {err : Nat} (h : Rdr w B b l err) : RdrL w b l.length err := by
  obtain ⟨-, h1, h2, -, -, h5, p, c, h6, -⟩ := h
  exact ⟨h1, h2, h5, p, c, h6⟩

theorem RdrL.only {w w' : World} {b k len err : Nat} (h : RdrL w b len err) (ho : Only k w w') (hk : k ≠ b) : RdrL w' b len err := by
  obtain ⟨h1, h2, h5, p, c, h6⟩ := h
  have e : ∀ o, w'.cell? ⟨b, o, none⟩ = w.cell? ⟨b, o, none⟩ := fun o => ho.cell (cell_lt h1) (Ne.symm hk)
  exact ⟨by rw [e]; exact h1, by rw [e]; exact h2, h5, p, c, by rw [e]; exact h6⟩

theorem RdrL.kept {w w' : World} {b len err : Nat} (h : RdrL w b len err) (hb : Below w.heap.size w w') : RdrL w' b len err := by
  obtain ⟨h1, h2, h5, p, c, h6⟩ := h
  have hlt : b < w.heap.size := cell_lt h1
  have e : ∀ o, w'.cell? ⟨b, o, none⟩ = w.cell? ⟨b, o, none⟩ := fun o => hb.cell (by simpa using hlt)
  exact ⟨by rw [e]; exact h1, by rw [e]; exact h2, h5, p, c, by rw [e]; exact h6⟩

theorem err_weak (b len err : Nat) (w : World) (h : RdrL w b len err) : Calls Try.prog 16 #[.pointer (some ⟨b, 0, none⟩)] w fun e w' => e = .returned (.int .i64 (err : Int)) ∧ w = w' := by
  obtain ⟨h1, h2, -⟩ := h
  go_enter Try.func16, Try.ntmps16
  go_wp2
  go_ret
  exact ⟨rfl, rfl⟩

theorem left_weak (b len err : Nat) (w : World) (h : RdrL w b len err) : Calls Try.prog 14 #[.pointer (some ⟨b, 0, none⟩)] w fun e w' => e = .returned (.int .i64 (len : Int)) ∧ w = w' := by
  obtain ⟨h1, h2, -, p, c, h6⟩ := h
  go_enter Try.func14, Try.ntmps14
  go_wp2
  go_ret
  exact ⟨rfl, rfl⟩

theorem RRdr.only {w w' : World} {B b k : Nat} {l : List UInt8} {err : Nat} (h : RRdr w B b l err) (ho : Only k w w') (hk : k < B) : RRdr w' B b l err := by
  have hlt := h.lt
  obtain ⟨h0, h2, f1, f2, p, c, a, L, c0, c1, h3, h4, h5, h6, h7⟩ := h
  have e : ∀ o, w'.cell? ⟨b, o, none⟩ = w.cell? ⟨b, o, none⟩ := fun o => ho.cell hlt (by omega)
  have f : ∀ o, w'.frozen? ⟨b, o, none⟩ = w.frozen? ⟨b, o, none⟩ := fun o => ho.frozen hlt (by omega)
  refine ⟨h0, by rw [e]; exact h2, by rw [f]; exact f1, by rw [f]; exact f2, p, c, a, L, by rw [e]; exact c0, by rw [e]; exact c1, h3, h4, h5, fun hL => ?_, h7⟩
  obtain ⟨b', o', rfl, hc⟩ := h6 hL
  refine ⟨b', o', rfl, fun i hi => ?_⟩
  have hb := (h7 _ rfl).2
  rw [ho.cell (cell_lt (hc i hi)) (show b' ≠ k by simp only at hb; omega)]
  exact hc i hi

end Go.Proofs.Ytcmjjkkbocekbaa
