/-
  A READER that Open made: what Num, Upto, Text, Fail, Err, Left, Done do to it, of any bytes.
-/
import Derived.Test.YtjaojhhcpggcpaaCanon
import Derived.Test.YtjaojhhcpggcpaaFrame
namespace Go.Proofs.Ytjaojhhcpggcpaa
open Go.RowKit

/-- a reader at block b (from base B on): what is left, the error -/
def Rdr (w : World) (B b : Nat) (l : List UInt8) (err : Nat) : Prop :=
  B ≤ b ∧ w.cell? ⟨b, 0, none⟩ = some (.bool true) ∧ w.cell? ⟨b, 2, none⟩ = some (.int .i64 (err : Int)) ∧ w.frozen? ⟨b, 1, none⟩ = false ∧ w.frozen? ⟨b, 2, none⟩ = false ∧ l.length ≤ 4611686018427387904 ∧
  ∃ p c, w.cell? ⟨b, 1, none⟩ = some (.slice p l.length c) ∧ Bs w p l ∧ l.length ≤ c ∧ (p = none → c = 0) ∧ (∀ a, p = some a → a.block < b ∧ B ≤ a.block)

theorem cell_same {w : World} {a : Addr} {u v : Value} (h : w.cell? a = some u) : (w.setCell a v).cell? a = some v := World.cell?_setCell_same' w a v (by rw [h]; rfl)
theorem cell_other {w : World} {a b : Addr} {v : Value} (h : a ≠ b) : (w.setCell a v).cell? b = w.cell? b := by
  apply World.cell?_setCell_other
  exact h

theorem Rdr.kept {w w' : World} {B b : Nat} {l : List UInt8} {err : Nat} (h : Rdr w B b l err) (hb : Below w.heap.size w w') : Rdr w' B b l err := by
  obtain ⟨h0, h1, h2, h3, h4, h5, p, c, h6, h7, h8, h9, h10⟩ := h
  have hlt := cell_lt h1
  have hlt' : b < w.heap.size := hlt
  exact ⟨h0, by rw [hb.cell (by simpa using hlt')]; exact h1, by rw [hb.cell (by simpa using hlt')]; exact h2, by rw [hb.frozen (by simpa using hlt')]; exact h3, by rw [hb.frozen (by simpa using hlt')]; exact h4, h5, p, c, by rw [hb.cell (by simpa using hlt')]; exact h6, h7.kept hb, h8, h9, h10⟩

theorem Rdr.drewN {w : World} {B b : Nat} {l : List UInt8} {err : Nat} (h : Rdr w B b l err) (q : Nat) : Rdr (w.drewN q) B b l err := h.kept (below_drewN (Below.refl _ _) q)

theorem Bs.other {w : World} {p : Option Addr} {l : List UInt8} (h : Bs w p l) {b : Nat} (hp : ∀ a, p = some a → a.block ≠ b) (o : Nat) (v : Value) : Bs (w.setCell ⟨b, o, none⟩ v) p l := by
  intro h0
  obtain ⟨b', o', rfl, hc⟩ := h h0
  refine ⟨b', o', rfl, fun i hi => ?_⟩
  have hne : (⟨b, o, none⟩ : Addr) ≠ ⟨b', o' + i, none⟩ := by
    intro e
    have := hp _ rfl
    simp only [Addr.mk.injEq] at e
    exact this e.1.symm
  rw [cell_other hne]
  exact hc i hi

/-- what is left is another slice -/
theorem Rdr.pass {w : World} {B b : Nat} {l m : List UInt8} {err : Nat} (h : Rdr w B b l err) (p' : Option Addr) (c' : Nat) (hm : Bs w p' m) (hl : m.length ≤ 4611686018427387904) (hc : m.length ≤ c') (hpn : p' = none → c' = 0) (hp : ∀ a, p' = some a → a.block < b ∧ B ≤ a.block) :
    Rdr (w.setCell ⟨b, 1, none⟩ (.slice p' m.length c')) B b m err := by
  obtain ⟨h0, h1, h2, h3, h4, h5, p, c, h6, h7, h8, h9, h10⟩ := h
  refine ⟨h0, ?_, ?_, by simpa using h3, by simpa using h4, hl, p', c', cell_same h6, hm.other (fun a ha => Nat.ne_of_lt (hp a ha).1) _ _, hc, hpn, hp⟩
  · rw [cell_other (by simp)]; exact h1
  · rw [cell_other (by simp)]; exact h2

/-- another error -/
theorem Rdr.fail {w : World} {B b : Nat} {l : List UInt8} {err : Nat} (h : Rdr w B b l err) (e : Nat) : Rdr (w.setCell ⟨b, 2, none⟩ (.int .i64 (e : Int))) B b l e := by
  obtain ⟨h0, h1, h2, h3, h4, h5, p, c, h6, h7, h8, h9, h10⟩ := h
  refine ⟨h0, ?_, cell_same h2, by simpa using h3, by simpa using h4, h5, p, c, ?_, h7.other (fun a ha => Nat.ne_of_lt (h10 a ha).1) _ _, h8, h9, h10⟩
  · rw [cell_other (by simp)]; exact h1
  · rw [cell_other (by simp)]; exact h6

set_option maxRecDepth 100000 in
theorem err_any (B b : Nat) (l : List UInt8) (err : Nat) (w : World) (h : Rdr w B b l err) : Calls Try.prog 16 #[.pointer (some ⟨b, 0, none⟩)] w fun e w' => e = .returned (.int .i64 (err : Int)) ∧ w = w' := by
  obtain ⟨-, h1, h2, -⟩ := h
  go_enter Try.func16, Try.ntmps16
  go_wp2
  go_ret
  exact ⟨rfl, rfl⟩

set_option maxRecDepth 100000 in
theorem left_any (B b : Nat) (l : List UInt8) (err : Nat) (w : World) (h : Rdr w B b l err) : Calls Try.prog 17 #[.pointer (some ⟨b, 0, none⟩)] w fun e w' => e = .returned (.int .i64 (l.length : Int)) ∧ w = w' := by
  obtain ⟨-, h1, h2, -, -, -, p, c, h6, -⟩ := h
  go_enter Try.func17, Try.ntmps17
  go_wp2
  go_ret
  exact ⟨rfl, rfl⟩

/-- what Done answers -/
def doneR (l : List UInt8) (err : Nat) : Nat := if err ≠ 0 then err else if 0 < l.length then 21 else 0

set_option maxRecDepth 100000 in
theorem done_any (B b : Nat) (l : List UInt8) (err : Nat) (w : World) (h : Rdr w B b l err) : Calls Try.prog 15 #[.pointer (some ⟨b, 0, none⟩)] w fun e w' => e = .returned (.int .i64 (doneR l err : Int)) ∧ w = w' := by
  by_cases he : err = 0
  · subst he
    by_cases hl : l.length = 0
    · have hd := Lib.hid (show doneR l 0 = 0 by unfold doneR; rw [if_neg (by simp), if_neg (by omega)])
      go_enter Try.func15, Try.ntmps15
      go_wp2_with fail
      refine (err_any B b l 0 w h).mono ?_
      rintro e w' ⟨rfl, rfl⟩
      go_wp2_with fail
      refine (left_any B b l 0 _ h).mono ?_
      rintro e w' ⟨rfl, rfl⟩
      rw [hl]
      go_wp2
      go_ret
      rw [hd.out]
      exact ⟨rfl, rfl⟩
    · have hd := Lib.hid (show doneR l 0 = 21 by unfold doneR; rw [if_neg (by simp), if_pos (by omega)])
      have hl2 : 0 < l.length := by omega
      clear hl
      go_enter Try.func15, Try.ntmps15
      go_wp2_with fail
      refine (err_any B b l 0 w h).mono ?_
      rintro e w' ⟨rfl, rfl⟩
      go_wp2_with fail
      refine (left_any B b l 0 _ h).mono ?_
      rintro e w' ⟨rfl, rfl⟩
      go_wp2
      go_ret
      rw [hd.out]
      exact ⟨rfl, rfl⟩
  · have hd := Lib.hid (show doneR l err = err by unfold doneR; rw [if_pos he])
    have te : ((err : Int) != 0) = true := by rw [bne_iff_ne]; omega
    clear he
    go_enter Try.func15, Try.ntmps15
    go_wp2_with fail
    refine (err_any B b l err w h).mono ?_
    rintro e w' ⟨rfl, rfl⟩
    go_wp2
    go_ret
    rw [hd.out]
    exact ⟨rfl, rfl⟩

/-- only the reader's own block has turned -/
def Only (b : Nat) (w w' : World) : Prop := w.grownBy w' (some b)
theorem Only.refl (b : Nat) (w : World) : Only b w w := ⟨rfl, rfl, rfl, Nat.le_refl _, fun _ _ _ => rfl⟩
theorem Only.set (b o : Nat) (w : World) (v : Value) : Only b w (w.setCell ⟨b, o, none⟩ v) :=
  ⟨rfl, rfl, rfl, by simp [World.setCell], fun k _ hk => Below.heap_setCell w _ v k (fun e => hk (by rw [e]))⟩
theorem Only.trans {b : Nat} {x y z : World} (h : Only b x y) (k : Only b y z) : Only b x z :=
  ⟨k.os.trans h.os, k.tape.trans h.tape, k.output.trans h.output, Nat.le_trans h.size k.size, fun i hi hn => (k.block i (Nat.lt_of_lt_of_le hi h.size) hn).trans (h.block i hi hn)⟩
theorem Only.below {b B : Nat} {w0 w w' : World} (h : Only b w w') (h0 : Below B w0 w) (hB : B ≤ b) (hs : B ≤ w.heap.size) : Below B w0 w' :=
  h0.grown h hs (fun k hk => by simp only [Option.some.injEq] at hk; omega)

set_option maxRecDepth 100000 in
theorem fail_any (B b : Nat) (l : List UInt8) (err e : Nat) (w : World) (h : Rdr w B b l err) : Calls Try.prog 36 #[.pointer (some ⟨b, 0, none⟩), .int .i64 (e : Int)] w fun r w' => r = .returned (.tuple #[]) ∧ Rdr w' B b l (if err = 0 then e else err) ∧ Only b w w' := by
  by_cases he : err = 0
  · subst he
    rw [if_pos rfl]
    have HF := Lib.hid (h.fail e)
    have HO := Lib.hid (Only.set b 2 w (.int .i64 (e : Int)))
    have h' := h
    obtain ⟨-, h1, h2, h3, h4, -⟩ := h'
    go_enter Try.func36, Try.ntmps36
    go_wp2_with fail
    refine (err_any B b l 0 w h).mono ?_
    rintro e w' ⟨rfl, rfl⟩
    go_wp2
    go_end0
    exact ⟨rfl, HF.out, HO.out⟩
  · rw [if_neg he]
    have te : ((err : Int) == 0) = false := by rw [beq_eq_false_iff_ne]; omega
    have HR := Lib.hid h
    clear he
    go_enter Try.func36, Try.ntmps36
    go_wp2_with fail
    refine (err_any B b l err w h).mono ?_
    rintro e w' ⟨rfl, rfl⟩
    go_wp2
    go_end0
    exact ⟨rfl, HR.out, Only.refl _ _⟩

set_option maxRecDepth 100000 in
set_option maxRecDepth 100000 in
/-- pass: what is left, but the first n bytes -/
theorem pass_any (B b n : Nat) (l : List UInt8) (err : Nat) (w : World) (h : Rdr w B b l err) (hn : n ≤ l.length) : Calls Try.prog 47 #[.pointer (some ⟨b, 0, none⟩), .int .i64 (n : Int)] w fun r w' => r = .returned (.tuple #[]) ∧ Rdr w' B b (l.drop n) err ∧ Only b w w' := by
  have h' := h
  obtain ⟨-, h1, h2, h3, h4, h5, p, c, h6, h7, h8, h9, h10⟩ := h'
  have hdl : (l.drop n).length = l.length - n := by simp
  by_cases hcn : c = n
  · -- nothing is left, no room either: the address stays
    have hnl : n = l.length := by omega
    have HR := Lib.hid (h.pass (m := l.drop n) p 0 (by rw [List.drop_of_length_le (by omega)]; exact Bs.nil _ _) (by omega) (by omega) (fun _ => rfl) h10)
    rw [hdl] at HR
    have HO := Lib.hid (Only.set b 1 w (.slice p (l.length - n) 0))
    subst hcn
    clear h h2 h7 h10 hdl h9 hn h8
    have hzz : l.length - c = 0 := by omega
    rw [hzz] at HR HO
    rw [← hnl] at h6
    have hc62 : c ≤ 4611686018427387904 := by omega
    clear hzz hnl h5
    go_enter Try.func47, Try.ntmps47
    go_wp2
    go_end0
    exact ⟨rfl, HR.out, HO.out⟩
  · have hp : ∃ a, p = some a := by
      cases p with
      | none => have := h9 rfl; omega
      | some a => exact ⟨a, rfl⟩
    obtain ⟨a, rfl⟩ := hp
    have hbs : Bs w (some (a.add n)) (l.drop n) := by
      intro h0
      obtain ⟨b', o', e, hc⟩ := h7 (by omega)
      simp only [Option.some.injEq] at e
      subst e
      refine ⟨b', o' + n, by rw [Go.WideShapes.add_plain], fun i hi => ?_⟩
      rw [by8_drop, Nat.add_assoc]
      exact hc (n + i) (by omega)
    have hblk : (a.add n).block = a.block := by unfold Addr.add; split <;> rfl
    have HR := Lib.hid (h.pass (m := l.drop n) (some (a.add n)) (c - n) hbs (by omega) (by omega) (by simp) (fun x hx => by simp only [Option.some.injEq] at hx; subst hx; rw [hblk]; exact h10 a rfl))
    rw [hdl] at HR
    have HO := Lib.hid (Only.set b 1 w (.slice (some (a.add n)) (l.length - n) (c - n)))
    clear h h2 h7 h10 hdl h9 hbs hblk
    generalize ha : a.add n = a' at *
    go_enter Try.func47, Try.ntmps47
    go_wp2
    go_end0
    exact ⟨rfl, HR.out, HO.out⟩

set_option maxRecDepth 100000 in
theorem pass_at (B b n : Nat) (k : Int) (hk : k = (n : Int)) (l : List UInt8) (err : Nat) (w : World) (h : Rdr w B b l err) (hn : n ≤ l.length) : Calls Try.prog 47 #[.pointer (some ⟨b, 0, none⟩), .int .i64 k] w fun r w' => r = .returned (.tuple #[]) ∧ Rdr w' B b (l.drop n) err ∧ Only b w w' := by
  subst hk
  exact pass_any B b n l err w h hn

end Go.Proofs.Ytjaojhhcpggcpaa
