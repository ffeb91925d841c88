/-
  THE DOCUMENT's READER (its bytes lie below it): Open, Left, Done, Upto, Num, Text, Fail; its Take of stamps.
  No conditions.
-/
import Derived.Test.YthpdphlkmleldaaGreatGB
import Derived.Test.YthpdphlkmleldaaGreatRef
import Derived.Test.YthpdphlkmleldaaGreatRefUnframe
import Derived.Test.YthpdphlkmleldaaGreatGE
import Derived.Deep.DeepCutAuto
import Derived.Deep.RegionHeld3
namespace Go.Proofs.YthpdphlkmleldaaGreat
open Go.RowKit

theorem ret_str {a b : ByteArray} (h : a = b) : Ending.returned (.string a) = .returned (.string b) := by rw [h]
theorem Only.cell {b : Nat} {w w' : World} (h : Only b w w') {k o : Nat} (hk : k < w.heap.size) (hne : k ≠ b) : w'.cell? ⟨k, o, none⟩ = w.cell? ⟨k, o, none⟩ := by
  have := h.block k hk (by simpa using hne)
  simp [World.cell?, this]

theorem Only.frozen {b : Nat} {w w' : World} (h : Only b w w') {k o : Nat} (hk : k < w.heap.size) (hne : k ≠ b) : w'.frozen? ⟨k, o, none⟩ = w.frozen? ⟨k, o, none⟩ := by
  have := h.block k hk (by simpa using hne)
  simp [World.frozen?, this]

def RRdr (w : World) (B b : Nat) (l : List UInt8) (err : Nat) : Prop :=
  B ≤ b ∧ w.cell? ⟨b, 2, none⟩ = some (.int .i64 (err : Int)) ∧ w.frozen? ⟨b, 1, none⟩ = false ∧ w.frozen? ⟨b, 2, none⟩ = false ∧
  ∃ (p : Option Addr) (c at' : Nat) (L : List UInt8), w.cell? ⟨b, 0, none⟩ = some (.slice p L.length c) ∧ w.cell? ⟨b, 1, none⟩ = some (.int .i64 (at' : Int)) ∧ at' ≤ L.length ∧ (L.length ≤ 140737488355328 ∧ L.length ≤ c) ∧ l = L.drop at' ∧ Bs w p L ∧ (∀ a, p = some a → a.block < b ∧ B ≤ a.block)

theorem RRdr.lt {w : World} {B b : Nat} {l : List UInt8} {err : Nat} (h : RRdr w B b l err) : b < w.heap.size := cell_lt h.2.1

theorem RRdr.kept {w w' : World} {B b : Nat} {l : List UInt8} {err : Nat} (h : RRdr w B b l err) (hb : Below w.heap.size w w') : RRdr w' B b l err := by
  have hlt := h.lt
  obtain ⟨h0, h2, f1, f2, p, c, a, L, c0, c1, h3, h4, h5, h6, h7⟩ := h
  have e : ∀ o, w'.cell? ⟨b, o, none⟩ = w.cell? ⟨b, o, none⟩ := fun o => hb.cell (by simpa using hlt)
  have f : ∀ o, w'.frozen? ⟨b, o, none⟩ = w.frozen? ⟨b, o, none⟩ := fun o => hb.frozen (by simpa using hlt)
  exact ⟨h0, by rw [e]; exact h2, by rw [f]; exact f1, by rw [f]; exact f2, p, c, a, L, by rw [e]; exact c0, by rw [e]; exact c1, h3, h4, h5, h6.kept hb, h7⟩

theorem RRdr.fail {w : World} {B b : Nat} {l : List UInt8} {err : Nat} (h : RRdr w B b l err) (e : Nat) : RRdr (w.setCell ⟨b, 2, none⟩ (.int .i64 (e : Int))) B b l e := by
  obtain ⟨h0, h2, f1, f2, p, c, a, L, c0, c1, h3, h4, h5, h6, h7⟩ := h
  exact ⟨h0, cell_same h2, by simpa using f1, by simpa using f2, p, c, a, L, by rw [cell_other (by simp)]; exact c0, by rw [cell_other (by simp)]; exact c1, h3, h4, h5, h6.other (fun a ha => Nat.ne_of_lt (h7 a ha).1) _ _, h7⟩

theorem refOpen_any (p : Option Addr) (c : Nat) (l : List UInt8) (w : World) (h : Bs w p l) (hl : l.length ≤ 140737488355328) (hpn : p = none → c = 0) :
    Calls Tryz.prog 29 #[.slice p l.length c] w fun e w' => ∃ b, e = .returned (.pointer (some ⟨b, 0, none⟩)) ∧ RRdr w' w.heap.size b l 0 ∧ Below w.heap.size w w' := by
  obtain ⟨i0, hi, hz0, hz1, hz2⟩ := info_parts info_u8
  have HO := Lib.hid (Own.lit (E := 5) w #[] [] rfl (by decide))
  have hb0 : Below w.heap.size w (w.alloc (.cells #[] 5)) := (Below.refl _ _).alloc (Nat.le_refl _) _
  have HB := Lib.hid (h.kept hb0)
  clear h
  go_enter Tryz.func29, Tryz.ntmps29
  go_wp2_with (at_builtin; refine wpList_append_bs rfl _ _ 25 rfl w.heap.size 5 i0 Tryz.underlying25 hi hz0 hz1 hz2 _ _ rfl HO.out p c l rfl HB.out hpn ?b1 ?b2 ?_)
  case b1 => simp; omega
  case b2 => simp
  intro v1 w1 hown1 hbel1 hgrow1 hnil1
  clear hgrow1 hnil1
  have hown1' : Own 5 w1 w.heap.size v1 l := hown1
  have hbw1 := hb0.trans hbel1
  have hs1 := hbw1.size
  obtain ⟨p1, c1, rfl, hbs1, hcap1, -, -, hblk⟩ := hown1'.bs
  have HCAP := Lib.hid hcap1
  have HBW := Lib.hid (hbw1.alloc hs1 (.cells #[.slice p1 l.length c1, .int .i64 0, .int .i64 0] 96))
  have HBS := Lib.hid (hbs1.kept (Below.alloc (Below.refl w1.heap.size w1) (Nat.le_refl _) (.cells #[.slice p1 l.length c1, .int .i64 0, .int .i64 0] 96)))
  have HK := Lib.hid hblk
  clear hown1 hown1' hbel1 hbs1 hb0 hbw1 hblk hcap1
  go_wp2
  go_ret
  refine ⟨w1.heap.size, rfl, ⟨hs1, ?_, ?_, ?_, p1, c1, 0, l, ?_, ?_, Nat.zero_le _, ⟨hl, HCAP.out⟩, rfl, HBS.out, fun a ha => ?_⟩, HBW.out⟩
  · rw [World.cell?_alloc_at _ _ _ _ rfl]; rfl
  · rw [World.frozen?_alloc_at _ _ _ _ rfl]
  · rw [World.frozen?_alloc_at _ _ _ _ rfl]
  · rw [World.cell?_alloc_at _ _ _ _ rfl]; rfl
  · rw [World.cell?_alloc_at _ _ _ _ rfl]; rfl
  · have := (HK.out a ha).2; exact ⟨by omega, (HK.out a ha).1⟩

theorem refLeft_any (B b : Nat) (l : List UInt8) (err : Nat) (w : World) (h : RRdr w B b l err) : Calls Tryz.prog 60 #[.pointer (some ⟨b, 0, none⟩)] w fun e w' => e = .returned (.int .i64 (l.length : Int)) ∧ Below w.heap.size w w' := by
  obtain ⟨h0, h2, f1, f2, p, c, a, L, c0, c1, h3, h4, rfl, h6, h7⟩ := h
  have hw : IntKind.i64.wrap ((L.length : Int) - (a : Int)) = (L.length : Int) - (a : Int) := by rw [IntKind.wrap_i64]; omega
  have hE := Lib.hid (show ((L.length : Int) - (a : Int)) = ((L.drop a).length : Int) by rw [List.length_drop]; omega)
  go_enter Tryz.func60, Tryz.ntmps60
  go_wp2
  go_quiet (fail)
  go_wp2
  go_ret
  exact ⟨ret_int hE.out, below_drewN (Below.refl _ _) _⟩

theorem RRdr.pass {w : World} {B b : Nat} {l : List UInt8} {err : Nat} (h : RRdr w B b l err) (s : Nat) (hs : s ≤ l.length) : ∃ a' : Nat, w.cell? ⟨b, 1, none⟩ = some (.int .i64 (a' : Int)) ∧ a' ≤ 140737488355328 ∧ RRdr (w.setCell ⟨b, 1, none⟩ (.int .i64 ((a' : Int) + (s : Int)))) B b (l.drop s) err := by
  obtain ⟨h0, h2, f1, f2, p, c, a, L, c0, c1, h3, h4, rfl, h6, h7⟩ := h
  rw [List.length_drop] at hs
  refine ⟨a, c1, by omega, h0, by rw [cell_other (by simp)]; exact h2, by simpa using f1, by simpa using f2, p, c, a + s, L, by rw [cell_other (by simp)]; exact c0, cell_same (u := .int .i64 (a : Int)) c1 |>.trans (by simp), by omega, h4, by rw [List.drop_drop], h6.other (fun a ha => Nat.ne_of_lt (h7 a ha).1) _ _, h7⟩

theorem refUpto_bad (B b : Nat) (l : List UInt8) (err : Nat) (most : Int) (w : World) (h : RRdr w B b l err) (he : err ≠ 0) :
    Calls Tryz.prog 56 #[.pointer (some ⟨b, 0, none⟩), .int .i64 most] w fun e w' => e = .returned (.int .i64 0) ∧ w = w' := by
  obtain ⟨h0, h2, -⟩ := h
  have te : ((err : Int) != 0) = true := by rw [bne_iff_ne]; omega
  clear he
  go_enter Tryz.func56, Tryz.ntmps56
  go_wp2
  go_ret
  exact ⟨rfl, rfl⟩

theorem refNumber_quiet (p : Option Addr) (c a : Nat) (l : List UInt8) (n s e : Nat) (hr : numR (l.drop a) 281474976710655 = (n, s, e)) (hl : l.length ≤ maxLen) (w : World) (h : Bs w p l) :
    Calls Tryz.prog 54 #[.slice p l.length c, .int .i64 a] w fun r w' => r = .returned (.tuple #[.int .i64 (n : Int), .int .i64 (s : Int), .int .i64 (e : Int)]) ∧ w' = w :=
  (refNumber_any p c a l w h hl).mono fun r w' hh => by
    unfold NumAns at hh
    rw [hr] at hh
    exact ⟨hh.1, hh.2.symm⟩

theorem refUpto_any (B b : Nat) (l : List UInt8) (most : Int) (w : World) (h : RRdr w B b l 0) :
    Calls Tryz.prog 56 #[.pointer (some ⟨b, 0, none⟩), .int .i64 most] w fun e w' => e = .returned (.int .i64 ((uptoR l most).1 : Nat)) ∧ RRdr w' B b (uptoR l most).2.1 (uptoR l most).2.2 ∧ Only b w w' := by
  have H := Lib.hid h
  have NS := numR_small l 281474976710655
  have HU : uptoR l most = (if (numR l 281474976710655).2.2 ≠ 0 then (0, l, (numR l 281474976710655).2.2) else if most < ((numR l 281474976710655).1 : Int) then (0, l, 30) else ((numR l 281474976710655).1, l.drop (numR l 281474976710655).2.1, 0)) := rfl
  rcases hr : numR l 281474976710655 with ⟨n, s, e⟩
  rw [hr] at NS HU
  dsimp only at NS HU
  have hlt := h.lt
  obtain ⟨h0, h2, f1, f2, p, c, a, L, c0, c1, h3, h4, hl, h6, h7⟩ := h
  have HNQ := Lib.hid (refNumber_quiet p c a L n s e (by rw [← hl]; exact hr) (by unfold maxLen; omega))
  have h6d : ∀ k, Bs (w.drewN k) p L := fun k => h6.kept (below_drewN (Below.refl _ _) _)
  have H6 := Lib.hid (And.intro h6 h6d)
  clear hr h6d h6 hl
  by_cases he : e = 0
  · subst he
    obtain ⟨ns7, nsM, nsL⟩ := NS
    obtain ⟨ns1, ns2⟩ := nsL rfl
    rw [if_neg (by simp)] at HU
    clear nsL
    by_cases hm : most < (n : Int)
    · rw [if_pos hm] at HU
      have HUh := Lib.hid HU
      have HF := Lib.hid (fun k => (H.out.kept (below_drewN (Below.refl w.heap.size w) k)).fail 30)
      clear HU
      go_enter Tryz.func56, Tryz.ntmps56
      go_wp2
      go_quiet ((go_at_call 54; exact Calls.quiet_of_same (HNQ.out _ (by first | exact H6.out.1 | exact H6.out.2 _))))
      go_wp2
      go_ret
      rw [HUh.out]
      exact ⟨rfl, HF.out nq, (Only.of_below (below_drewN (Below.refl _ _) nq)).trans (Only.set b 2 _ _)⟩
    · rw [if_neg hm] at HU
      have HUh := Lib.hid HU
      have HP := Lib.hid (fun k => (H.out.kept (below_drewN (Below.refl w.heap.size w) k)).pass s ns2)
      have hsum : IntKind.i64.wrap ((a : Int) + (s : Int)) = (a : Int) + (s : Int) := by rw [IntKind.wrap_i64]; omega
      clear HU
      go_enter Tryz.func56, Tryz.ntmps56
      go_wp2
      go_quiet ((go_at_call 54; exact Calls.quiet_of_same (HNQ.out _ (by first | exact H6.out.1 | exact H6.out.2 _))))
      go_wp2
      go_ret
      rw [HUh.out]
      obtain ⟨a', e1, -, hp⟩ := HP.out nq
      have e2 : (a : Int) = (a' : Int) := by
        have h3 : (w.drewN nq).cell? ⟨b, 1, none⟩ = some (.int .i64 (a : Int)) := c1
        rw [h3] at e1
        simpa using e1
      rw [e2]
      exact ⟨rfl, hp, (Only.of_below (below_drewN (Below.refl _ _) nq)).trans (Only.set b 1 _ _)⟩
  · rw [if_pos he] at HU
    have HUh := Lib.hid HU
    have te : ((e : Int) != 0) = true := by rw [bne_iff_ne]; omega
    have te2 : ((e : Int) == 0) = false := by rw [beq_eq_false_iff_ne]; omega
    have HF := Lib.hid (fun k => (H.out.kept (below_drewN (Below.refl w.heap.size w) k)).fail e)
    clear HU he NS
    go_enter Tryz.func56, Tryz.ntmps56
    go_wp2
    go_quiet ((go_at_call 54; exact Calls.quiet_of_same (HNQ.out _ (by first | exact H6.out.1 | exact H6.out.2 _))))
    go_wp2
    go_ret
    rw [HUh.out]
    exact ⟨rfl, HF.out nq, (Only.of_below (below_drewN (Below.refl _ _) nq)).trans (Only.set b 2 _ _)⟩

theorem refFail_any (B b : Nat) (l : List UInt8) (err e : Nat) (w : World) (h : RRdr w B b l err) : Calls Tryz.prog 59 #[.pointer (some ⟨b, 0, none⟩), .int .i64 (e : Int)] w fun r w' => r = .returned (.tuple #[]) ∧ RRdr w' B b l (if err = 0 then e else err) ∧ Only b w w' := by
  have HS := Lib.hid (h.fail e)
  have HH := Lib.hid h
  obtain ⟨h0, h2, f1, f2, -⟩ := h
  by_cases he : err = 0
  · subst he
    rw [if_pos rfl]
    have HO := Lib.hid (Only.set b 2 w (.int .i64 (e : Int)))
    go_enter Tryz.func59, Tryz.ntmps59
    go_wp2
    go_end0
    exact ⟨rfl, HS.out, HO.out⟩
  · rw [if_neg he]
    have te : ((err : Int) == 0) = false := by rw [beq_eq_false_iff_ne]; omega
    clear he
    go_enter Tryz.func59, Tryz.ntmps59
    go_wp2
    go_end0
    exact ⟨rfl, HH.out, Only.refl _ _⟩

theorem RRdr.only {w w' : World} {B b k : Nat} {l : List UInt8} {err : Nat} (h : RRdr w B b l err) (ho : Only k w w') (hk : k < B) : RRdr w' B b l err := by
  have hlt := h.lt
  obtain ⟨h0, h2, f1, f2, p, c, a, L, c0, c1, h3, h4, h5, h6, h7⟩ := h
  have e : ∀ o, w'.cell? ⟨b, o, none⟩ = w.cell? ⟨b, o, none⟩ := fun o => ho.cell hlt (by omega)
  have f : ∀ o, w'.frozen? ⟨b, o, none⟩ = w.frozen? ⟨b, o, none⟩ := fun o => ho.frozen hlt (by omega)
  refine ⟨h0, by rw [e]; exact h2, by rw [f]; exact f1, by rw [f]; exact f2, p, c, a, L, by rw [e]; exact c0, by rw [e]; exact c1, h3, h4, h5, fun hL => ?_, h7⟩
  obtain ⟨b', o', rfl, hc⟩ := h6 hL
  refine ⟨b', o', rfl, fun i hi => ?_⟩
  have hb := (h7 _ rfl).2
  rw [ho.cell (cell_lt (hc i hi)) (show b' ≠ k by simp only at hb; omega)]
  exact hc i hi

theorem RRdr.two {w : World} {B b k : Nat} {l : List UInt8} {err : Nat} {x y : Int} (h : RRdr w B b l err) (hk : TwoAt w k x y) (hne : k ≠ b) (o : Nat) (v : Value) : RRdr (w.setCell ⟨k, o, none⟩ v) B b l err := by
  obtain ⟨h0, h2, f1, f2, p, c, a, L, c0, c1, h3, h4, h5, h6, h7⟩ := h
  have n : ∀ o', (⟨k, o, none⟩ : Addr) ≠ ⟨b, o', none⟩ := fun o' e => by injection e with e1; exact hne e1
  exact ⟨h0, by rw [cell_other (n _)]; exact h2, by simpa using f1, by simpa using f2, p, c, a, L, by rw [cell_other (n _)]; exact c0, by rw [cell_other (n _)]; exact c1, h3, h4, h5, h6.two hk _ _, h7⟩

theorem RRdr.setTwo {w : World} {B b k : Nat} {l : List UInt8} {err : Nat} {x y : Int} (h : RRdr w B b l err) (hk : TwoAt w k x y) (hne : k ≠ b) (x' y' : Int) : RRdr ((w.setCell ⟨k, 0, none⟩ (.int .i64 x')).setCell ⟨k, 1, none⟩ (.int .i64 y')) B b l err := by
  have hk2 : TwoAt (w.setCell ⟨k, 0, none⟩ (.int .i64 x')) k x' y := Go.Joins.block_setCell hk (i := 0) (.int .i64 x')
  exact (h.two hk hne 0 _).two hk2 hne 1 _

set_option maxRecDepth 100000 in
set_option maxHeartbeats 4000000 in
theorem refTake_any (B b : Nat) (l : List UInt8) (w : World) (h : RRdr w B b l 0) :
    Calls Tryz.prog 85 #[.pointer (some ⟨b, 0, none⟩)] w fun e w' => e = .returned (.agg #[.int .i64 (takeR l).1, .int .i64 (takeR l).2.1]) ∧ RRdr w' B b (takeR l).2.2.1 (takeR l).2.2.2 ∧ Only b w w' := by
  have hblt := h.lt
  have hb := (Below.refl w.heap.size w).alloc (Nat.le_refl _) (.cells #[.int .i64 0, .int .i64 0] 47)
  have HO0 := Lib.hid (Only.of_below (b := b) hb)
  have HT0 := Lib.hid (TwoAt.start w 0 0)
  have HU1 := Lib.hid (refUpto_any B b l 1099511627776 _ (h.kept hb))
  have HTD : Hid (takeR l = if (uptoR l 1099511627776).2.2 ≠ 0 then ((0 : Int), (0 : Int), (uptoR l 1099511627776).2.1, (uptoR l 1099511627776).2.2)
    else if (uptoR (uptoR l 1099511627776).2.1 15).2.2 ≠ 0 then ((0 : Int), (0 : Int), (uptoR (uptoR l 1099511627776).2.1 15).2.1, (uptoR (uptoR l 1099511627776).2.1 15).2.2)
    else (((uptoR l 1099511627776).1 : Int), ((uptoR (uptoR l 1099511627776).2.1 15).1 : Int), (uptoR (uptoR l 1099511627776).2.1 15).2.1, 0)) := Lib.hid rfl
  clear h hb
  generalize uptoR l 1099511627776 = q1 at *
  obtain ⟨n1, l1, e1⟩ := q1
  dsimp only at *
  have HU2 := Lib.hid (fun W h => refUpto_any B b l1 15 W h)
  generalize uptoR l1 15 = q2 at *
  obtain ⟨n2, l2, e2⟩ := q2
  dsimp only at *
  by_cases he1 : e1 = 0
  · subst he1
    by_cases he2 : e2 = 0
    · subst he2
      have HT : Hid (takeR l = ((n1 : Int), (n2 : Int), l2, 0)) := Lib.hid (by rw [HTD.out, if_neg (by simp), if_neg (by simp)])
      go_enter Tryz.func85, Tryz.ntmps85
      go_wp2_with fail
      refine HU1.out.mono ?_
      rintro e w1 ⟨rfl, hr1, ho1⟩
      have HR1 := Lib.hid hr1
      have HT1 := Lib.hid (HT0.out.only ho1 (by omega))
      have HO1 := Lib.hid (HO0.out.trans ho1)
      clear hr1 ho1
      go_wp2_with fail
      refine (HU2.out _ HR1.out).mono ?_
      rintro e w2 ⟨rfl, hr2, ho2⟩
      have HR2 := Lib.hid hr2
      have HT2 := Lib.hid (HT1.out.only ho2 (by omega))
      have HO2 := Lib.hid (HO1.out.trans ho2)
      clear hr2 ho2
      have ce := HR2.out.2.1
      have z0 := HT2.out.cell0
      have z1 := HT2.out.cell1
      have y0 := HT2.out.free 0
      have y1 := HT2.out.free 1
      obtain ⟨q0, q2⟩ := HT2.out.read n1 n2
      have HF := Lib.hid (HR2.out.setTwo HT2.out (by omega) n1 n2)
      have HOF := Lib.hid (HO2.out.setFar (Nat.le_refl _) 0 1 (.int .i64 n1) (.int .i64 n2))
      go_wp2
      refine bodyPost_ret (v := .agg #[.int .i64 n1, .int .i64 n2]) (by simp [results, Tryz.results85, go_sem, q0, q2]) rfl ?_
      rw [HT.out]
      exact ⟨rfl, HF.out, HOF.out⟩
    · have HT : Hid (takeR l = ((0 : Int), (0 : Int), l2, e2)) := Lib.hid (by rw [HTD.out, if_neg (by simp), if_pos he2])
      have te : ((e2 : Int) != 0) = true := by rw [bne_iff_ne]; omega
      go_enter Tryz.func85, Tryz.ntmps85
      go_wp2_with fail
      refine HU1.out.mono ?_
      rintro e w1 ⟨rfl, hr1, ho1⟩
      have HR1 := Lib.hid hr1
      have HT1 := Lib.hid (HT0.out.only ho1 (by omega))
      have HO1 := Lib.hid (HO0.out.trans ho1)
      clear hr1 ho1
      go_wp2_with fail
      refine (HU2.out _ HR1.out).mono ?_
      rintro e w2 ⟨rfl, hr2, ho2⟩
      have HR2 := Lib.hid hr2
      have HT2 := Lib.hid (HT1.out.only ho2 (by omega))
      have HO2 := Lib.hid (HO1.out.trans ho2)
      clear hr2 ho2
      have ce := HR2.out.2.1
      have z0 := HT2.out.cell0
      have z1 := HT2.out.cell1
      have y0 := HT2.out.free 0
      have y1 := HT2.out.free 1
      obtain ⟨q0, q2⟩ := HT2.out.read 0 0
      have HF := Lib.hid (HR2.out.setTwo HT2.out (by omega) 0 0)
      have HOF := Lib.hid (HO2.out.setFar (Nat.le_refl _) 0 1 (.int .i64 0) (.int .i64 0))
      go_wp2
      refine bodyPost_ret (v := .agg #[.int .i64 0, .int .i64 0]) (by simp [results, Tryz.results85, go_sem, q0, q2]) rfl ?_
      rw [HT.out]
      exact ⟨rfl, HF.out, HOF.out⟩
  · have HT : Hid (takeR l = ((0 : Int), (0 : Int), l1, e1)) := Lib.hid (by rw [HTD.out, if_pos he1])
    have te : ((e1 : Int) != 0) = true := by rw [bne_iff_ne]; omega
    go_enter Tryz.func85, Tryz.ntmps85
    go_wp2_with fail
    refine HU1.out.mono ?_
    rintro e w1 ⟨rfl, hr1, ho1⟩
    have HR1 := Lib.hid hr1
    have HT2 := Lib.hid (HT0.out.only ho1 (by omega))
    have HO2 := Lib.hid (HO0.out.trans ho1)
    have HE := Lib.hid he1
    clear hr1 ho1 he1
    go_wp2_with fail
    refine (refUpto_bad B b l1 e1 15 _ HR1.out HE.out).mono ?_
    rintro e w' ⟨rfl, rfl⟩
    have ce := HR1.out.2.1
    have z0 := HT2.out.cell0
    have z1 := HT2.out.cell1
    have y0 := HT2.out.free 0
    have y1 := HT2.out.free 1
    obtain ⟨q0, q2⟩ := HT2.out.read 0 0
    have HF := Lib.hid (HR1.out.setTwo HT2.out (by omega) 0 0)
    have HOF := Lib.hid (HO2.out.setFar (Nat.le_refl _) 0 1 (.int .i64 0) (.int .i64 0))
    go_wp2
    refine bodyPost_ret (v := .agg #[.int .i64 0, .int .i64 0]) (by simp [results, Tryz.results85, go_sem, q0, q2]) rfl ?_
    rw [HT.out]
    exact ⟨rfl, HF.out, HOF.out⟩

set_option maxRecDepth 100000 in
theorem refDone_any (B b : Nat) (l : List UInt8) (err : Nat) (w : World) (h : RRdr w B b l err) : Calls Tryz.prog 31 #[.pointer (some ⟨b, 0, none⟩)] w fun e w' => e = .returned (.int .i64 (doneR l err : Int)) ∧ Below w.heap.size w w' := by
  have HL := Lib.hid (refLeft_any B b l err w h)
  have HR := Lib.hid h
  obtain ⟨h0, h2, -⟩ := h
  by_cases he : err = 0
  · subst he
    by_cases hl : l.length = 0
    · have hd := Lib.hid (show doneR l 0 = 0 by unfold doneR; rw [if_neg (by simp), if_neg (by omega)])
      go_enter Tryz.func31, Tryz.ntmps31
      go_wp2_with fail
      refine HL.out.mono ?_
      rintro e w1 ⟨rfl, hb1⟩
      have HB := Lib.hid hb1
      have k2 := (HR.out.kept hb1).2.1
      clear hb1
      rw [hl]
      go_wp2
      go_ret
      rw [hd.out]
      exact ⟨rfl, HB.out⟩
    · have hd := Lib.hid (show doneR l 0 = 21 by unfold doneR; rw [if_neg (by simp), if_pos (by omega)])
      have hl2 : 0 < l.length := by omega
      clear hl
      go_enter Tryz.func31, Tryz.ntmps31
      go_wp2_with fail
      refine HL.out.mono ?_
      rintro e w1 ⟨rfl, hb1⟩
      have HB := Lib.hid hb1
      clear hb1
      go_wp2
      go_ret
      rw [hd.out]
      exact ⟨rfl, HB.out⟩
  · have hd := Lib.hid (show doneR l err = err by unfold doneR; rw [if_pos he])
    have te : ((err : Int) == 0) = false := by rw [beq_eq_false_iff_ne]; omega
    clear he
    go_enter Tryz.func31, Tryz.ntmps31
    go_wp2
    go_ret
    rw [hd.out]
    exact ⟨rfl, Below.refl _ _⟩

set_option maxRecDepth 100000 in
theorem refNumM_any (B b : Nat) (l : List UInt8) (w : World) (h : RRdr w B b l 0) :
    Calls Tryz.prog 57 #[.pointer (some ⟨b, 0, none⟩)] w fun e w' => e = .returned (.int .i64 ((uptoR l 281474976710655).1 : Nat)) ∧ RRdr w' B b (uptoR l 281474976710655).2.1 (uptoR l 281474976710655).2.2 ∧ Only b w w' := by
  have HU := Lib.hid (refUpto_any B b l 281474976710655 w h)
  generalize uptoR l 281474976710655 = q at *
  obtain ⟨n, l1, e1⟩ := q
  dsimp only at *
  clear h
  go_enter Tryz.func57, Tryz.ntmps57
  go_wp2_with fail
  refine HU.out.mono ?_
  rintro e w' ⟨rfl, hr, ho⟩
  have HR := Lib.hid hr
  have HO := Lib.hid ho
  clear hr ho
  go_wp2
  go_ret
  exact ⟨rfl, HR.out, HO.out⟩

/-- what region 11 reads -/
def S11 (b : Nat) (ad : Addr) (L : List UInt8) (c a : Nat) (w : World) : Prop := w.cell? ⟨b, 0, none⟩ = some (.slice (some ad) L.length c) ∧ w.cell? ⟨b, 1, none⟩ = some (.int .i64 (a : Int)) ∧ Bs w (some ad) L

theorem S11.kept {b : Nat} {ad : Addr} {L : List UInt8} {c a : Nat} {w w' : World} (h : S11 b ad L c a w) (hb : Below w.heap.size w w') : S11 b ad L c a w' := by
  have hlt : b < w.heap.size := cell_lt h.1
  exact ⟨by rw [hb.cell (by simpa using hlt)]; exact h.1, by rw [hb.cell (by simpa using hlt)]; exact h.2.1, h.2.2.kept hb⟩

set_option maxRecDepth 100000 in
set_option maxHeartbeats 1500000 in
theorem refText_rd (B b : Nat) (l : List UInt8) (w : World) (h : RRdr w B b l 0) :
    Calls Tryz.prog 86 #[.pointer (some ⟨b, 0, none⟩)] w fun e w' => e = .returned (.string (strB (textR l).1)) ∧ RRdr w' B b (textR l).2.1 (textR l).2.2 ∧ Only b w w' := by
  have H := Lib.hid h
  have NS := numR_small l 281474976710655
  have hN2 := numR_two l
  have HU : textR l = (if (numR l 1048576).2.2 ≠ 0 then ([], l, (numR l 1048576).2.2) else if l.length - (numR l 1048576).2.1 < (numR l 1048576).1 then ([], l, 20) else ((l.drop (numR l 1048576).2.1).take (numR l 1048576).1, l.drop ((numR l 1048576).2.1 + (numR l 1048576).1), 0)) := rfl
  rcases hr : numR l 281474976710655 with ⟨n, s, e⟩
  rw [hr] at NS hN2
  dsimp only at NS hN2
  rw [hN2] at HU
  have hlt := h.lt
  have HLF := Lib.hid (fun W hW => refLeft_any B b l 0 W hW)
  obtain ⟨h0, h2, f1, f2, p, c, a, L, c0, c1, h3, h4, hl, h6, h7⟩ := h
  have HNQ := Lib.hid (refNumber_quiet p c a L n s e (by rw [← hl]; exact hr) (by unfold maxLen; omega))
  have h6d : ∀ k, Bs (w.drewN k) p L := fun k => h6.kept (below_drewN (Below.refl _ _) _)
  have H6 := Lib.hid (And.intro h6 h6d)
  clear hr h6d h6 hN2
  by_cases he : e = 0
  · subst he
    obtain ⟨ns7, nsM, nsL⟩ := NS
    obtain ⟨ns1, ns2⟩ := nsL rfl
    rw [if_neg (show ¬ ((0 : Nat) ≠ 0) by simp)] at HU
    clear nsL
    by_cases hm : 1048576 < n
    · rw [if_pos hm] at HU
      dsimp only at HU
      rw [if_pos (by decide)] at HU
      have HUh := Lib.hid HU
      have HF := Lib.hid (fun k => (H.out.kept (below_drewN (Below.refl w.heap.size w) k)).fail 21)
      have hm' : (1048576 : Int) < (n : Int) := by omega
      clear HU hl hm
      go_enter Tryz.func86, Tryz.ntmps86
      go_wp2
      go_quiet ((go_at_call 54; exact Calls.quiet_of_same (HNQ.out _ (by first | exact H6.out.1 | exact H6.out.2 _))))
      go_wp2
      go_ret
      rw [HUh.out]
      exact ⟨rfl, HF.out nq, (Only.of_below (below_drewN (Below.refl _ _) nq)).trans (Only.set b 2 _ _)⟩
    · rw [if_neg hm] at HU
      dsimp only at HU
      rw [if_neg (show ¬ ((0 : Nat) ≠ 0) by simp)] at HU
      have hm' : decide ((1048576 : Int) < (n : Int)) = false := decide_eq_false (by omega)
      have hn48 : (n : Int) ≤ 1048576 := by omega
      by_cases hs : l.length - s < n
      · rw [if_pos hs] at HU
        have HUh := Lib.hid HU
        have tl : (l.length : Int) - (s : Int) < (n : Int) := by omega
        have hll : (l.length : Int) ≤ 140737488355328 := by rw [hl, List.length_drop]; omega
        have hss : (s : Int) ≤ 100 := by omega
        clear HU hl hm hs
        go_enter Tryz.func86, Tryz.ntmps86
        go_wp2
        go_quiet ((go_at_call 54; exact Calls.quiet_of_same (HNQ.out _ (by first | exact H6.out.1 | exact H6.out.2 _))))
        have HK := Lib.hid (H.out.kept (below_drewN (Below.refl w.heap.size w) nq))
        have HB := Lib.hid (below_drewN (Below.refl w.heap.size w) nq)
        go_wp2_with fail
        refine (HLF.out _ HK.out).mono ?_
        rintro e w2 ⟨rfl, hb2⟩
        have HK2 := Lib.hid (HK.out.kept hb2)
        have HB2 := Lib.hid (HB.out.trans (hb2.mono HB.out.size))
        clear hb2
        have g2 := HK2.out.2.1
        have g3 := HK2.out.2.2.2.1
        have HF := Lib.hid (HK2.out.fail 20)
        go_wp2
        go_ret
        rw [HUh.out]
        exact ⟨rfl, HF.out, (Only.of_below HB2.out).trans (Only.set b 2 _ _)⟩
      · rw [if_neg hs] at HU
        have hsn : s + n ≤ l.length := by omega
        have hll : l.length = L.length - a := by rw [hl, List.length_drop]
        have hLp : 0 < L.length := by omega
        obtain ⟨b', o', rfl, hcell⟩ := H6.out.1 hLp
        have HS0 := Lib.hid (show S11 b ⟨b', o', none⟩ L c a w from ⟨c0, c1, H6.out.1⟩)
        have hml : ((L.drop (a + s)).take n).length = n := by simp; omega
        have HMM := Lib.hid (show strB ((L.drop (a + s)).take n) = strB ((l.drop s).take n) by rw [hl, List.drop_drop])
        have hsum1 : IntKind.i64.wrap ((a : Int) + (s : Int)) = (a : Int) + (s : Int) := by rw [IntKind.wrap_i64]; omega
        have hsum2 : IntKind.i64.wrap ((a : Int) + (s : Int) + (n : Int)) = (a : Int) + (s : Int) + (n : Int) := by rw [IntKind.wrap_i64]; omega
        have hn1 : ((a : Int) + (s : Int)).toNat = a + s := by omega
        have hn2 : ((a : Int) + (s : Int) + (n : Int)).toNat = a + s + n := by omega
        have hn3 : a + s + n - (a + s) = n := by omega
        have hg1 : 0 ≤ (a : Int) + (s : Int) := by omega
        have hg2 : (a : Int) + (s : Int) ≤ (a : Int) + (s : Int) + (n : Int) := by omega
        have hg3 : (a : Int) + (s : Int) + (n : Int) ≤ (c : Int) := by omega
        have hg4 : (l.length : Int) - (s : Int) < 9223372036854775807 := by omega
        have hg5 : decide ((l.length : Int) - (s : Int) < (n : Int)) = false := decide_eq_false (by omega)
        have hg6 : -9223372036854775808 ≤ (l.length : Int) - (s : Int) := by omega
        have hwl : IntKind.i64.wrap ((l.length : Int) - (s : Int)) = (l.length : Int) - (s : Int) := by rw [IntKind.wrap_i64]; omega
        have HUh := Lib.hid HU
        clear HU hl hs hm hcell
        by_cases hcs : c = a + s
        · subst hcs
          have hg7 : (a : Int) + (s : Int) + (n : Int) ≤ (a : Int) + (s : Int) := by omega
          have hg8 : 0 ≤ (a : Int) + (s : Int) + (n : Int) := by omega
          have hKB : ∀ W : World, Bs W (some ⟨b', o', none⟩) L → Bs W (some ⟨b', o', none⟩) ((L.drop (a + s)).take n) := fun W _ h0 => by rw [hml] at h0; exact absurd h0 (by omega)
          go_enter Tryz.func86, Tryz.ntmps86
          go_wp2
          go_quiet ((go_at_call 54; exact Calls.quiet_of_same (HNQ.out _ (by first | exact H6.out.1 | exact H6.out.2 _))))
          have HK := Lib.hid (H.out.kept (below_drewN (Below.refl w.heap.size w) nq))
          have HB := Lib.hid (below_drewN (Below.refl w.heap.size w) nq)
          go_wp2_with fail
          refine (HLF.out _ HK.out).mono ?_
          rintro e w2 ⟨rfl, hb2⟩
          have HK2 := Lib.hid (HK.out.kept hb2)
          have HB2 := Lib.hid (HB.out.trans (hb2.mono HB.out.size))
          have HS := Lib.hid (HS0.out.kept (HB.out.trans (hb2.mono HB.out.size)))
          clear hb2
          go_wp2
          refine wp_region_held_drew (S := (S11 b ⟨b', o', none⟩ L (a + s) a)) (by kernel_rfl) (HS.out.kept ((Below.refl w2.heap.size w2).drew)) (fun hS => ?_)
          refine wpAnyH_take (i := 0) (v := ?_) rfl (by kernel_rfl) (by kernel_rfl) (by kernel_rfl) (fun _ _ _ h => h) (Or.inl ⟨by kernel_rfl, ?_⟩) hS ?_
          rotate_left
          · intro W hSW
            go_simp
            all_goals with_reducible rfl
          refine wpAnyH_take (i := 1) (v := ?_) rfl (by kernel_rfl) (by kernel_rfl) (by kernel_rfl) (fun _ _ _ h => h) (Or.inl ⟨by kernel_rfl, ?_⟩) hS ?_
          rotate_left
          · intro W hSW
            go_simp
            all_goals with_reducible rfl
          refine wpAnyH_take (i := 2) (v := ?_) rfl (by kernel_rfl) (by kernel_rfl) (by kernel_rfl) (fun _ _ _ h => h) (Or.inl ⟨by kernel_rfl, ?_⟩) hS ?_
          rotate_left
          · intro W hSW
            go_simp
            all_goals with_reducible rfl
          refine wpAnyH_take (i := 3) (v := ?_) rfl (by kernel_rfl) (by kernel_rfl) (by kernel_rfl) (fun _ _ _ h => h) (Or.inl ⟨by kernel_rfl, ?_⟩) hS ?_
          rotate_left
          · intro W hSW
            have x0 := hSW.1
            have x1 := hSW.2.1
            go_simp
            all_goals with_reducible rfl
          refine wpAnyH_take (i := 4) (v := ?_) rfl (by kernel_rfl) (by kernel_rfl) (by kernel_rfl) (fun _ _ _ h => h) (Or.inl ⟨by kernel_rfl, ?_⟩) hS ?_
          rotate_left
          · intro W hSW
            go_simp
            all_goals with_reducible rfl
          refine wpAnyH_take (i := 5) (v := ?_) rfl (by kernel_rfl) (by kernel_rfl) (by kernel_rfl) (fun _ _ _ h => h) (Or.inl ⟨by kernel_rfl, ?_⟩) hS ?_
          rotate_left
          · intro W hSW
            go_simp
            all_goals with_reducible rfl
          refine wpAnyH_take (i := 6) (v := ?_) rfl (by kernel_rfl) (by kernel_rfl) (by kernel_rfl) (fun _ _ _ h => h) (Or.inl ⟨by kernel_rfl, ?_⟩) hS ?_
          rotate_left
          · intro W hSW
            go_simp
            all_goals with_reducible rfl
          refine wpAnyH_take (i := 7) (v := ?_) rfl (by kernel_rfl) (by kernel_rfl) (by kernel_rfl) (fun _ _ _ h => h) (Or.inl ⟨by kernel_rfl, ?_⟩) hS ?_
          rotate_left
          · intro W hSW
            have x0 := hSW.1
            have x1 := hSW.2.1
            go_simp
            all_goals with_reducible rfl
          refine wpAnyH_take (i := 8) (v := ?_) rfl (by kernel_rfl) (by kernel_rfl) (by kernel_rfl) (fun _ _ _ h => h) (Or.inl ⟨by kernel_rfl, ?_⟩) hS ?_
          rotate_left
          · intro W hSW
            go_simp
            all_goals with_reducible rfl
          refine wpAnyH_take (i := 9) (v := ?_) rfl (by kernel_rfl) (by kernel_rfl) (by kernel_rfl) (fun _ _ _ h => h) (Or.inl ⟨by kernel_rfl, ?_⟩) hS ?_
          rotate_left
          · intro W hSW
            go_simp
            all_goals with_reducible rfl
          refine wpAnyH_take (i := 10) (v := ?_) rfl (by kernel_rfl) (by kernel_rfl) (by kernel_rfl) (fun _ _ _ h => h) (Or.inl ⟨by kernel_rfl, ?_⟩) hS ?_
          rotate_left
          · intro W hSW
            go_simp
            all_goals with_reducible rfl
          refine wpAnyH_take (i := 11) (v := ?_) rfl (by kernel_rfl) (by kernel_rfl) (by kernel_rfl) (fun _ _ _ h => h) (Or.inl ⟨by kernel_rfl, ?_⟩) hS ?_
          rotate_left
          · intro W hSW
            go_simp
            all_goals with_reducible rfl
          refine wpAnyH_take (i := 12) (v := ?_) rfl (by kernel_rfl) (by kernel_rfl) (by kernel_rfl) (fun _ _ _ h => h) (Or.inl ⟨by kernel_rfl, ?_⟩) hS ?_
          rotate_left
          · intro W hSW
            go_simp
            all_goals with_reducible rfl
          refine wpAnyH_take (i := 13) (v := ?_) rfl (by kernel_rfl) (by kernel_rfl) (by kernel_rfl) (fun _ _ _ h => h) (Or.inl ⟨by kernel_rfl, ?_⟩) hS ?_
          rotate_left
          · intro W hSW
            have x0 := hSW.1
            have x1 := hSW.2.1
            go_simp
            all_goals with_reducible rfl
          refine wpAnyH_take (i := 14) (v := ?_) rfl (by kernel_rfl) (by kernel_rfl) (by kernel_rfl) (fun _ _ _ h => h) (Or.inl ⟨by kernel_rfl, ?_⟩) hS ?_
          rotate_left
          · intro W hSW
            go_simp
            all_goals with_reducible rfl
          refine wpAnyH_take (i := 15) (v := ?_) rfl (by kernel_rfl) (by kernel_rfl) (by kernel_rfl) (fun _ _ _ h => h) (Or.inl ⟨by kernel_rfl, ?_⟩) hS ?_
          rotate_left
          · intro W hSW
            go_simp
            all_goals with_reducible rfl
          refine wpAnyH_take (i := 16) (v := ?_) rfl (by kernel_rfl) (by kernel_rfl) (by kernel_rfl) (fun _ _ _ h => h) (Or.inl ⟨by kernel_rfl, ?_⟩) hS ?_
          rotate_left
          · intro W hSW
            go_simp
            all_goals with_reducible rfl
          refine wpAnyH_take (i := 17) (v := ?_) rfl (by kernel_rfl) (by kernel_rfl) (by kernel_rfl) (fun _ _ _ h => h) (Or.inl ⟨by kernel_rfl, ?_⟩) hS ?_
          rotate_left
          · intro W hSW
            go_simp
            all_goals with_reducible rfl
          refine wpAnyH_take (i := 18) (v := ?_) rfl (by kernel_rfl) (by kernel_rfl) (by kernel_rfl) (fun _ _ _ h => h) (Or.inl ⟨by kernel_rfl, ?_⟩) hS ?_
          rotate_left
          · intro W hSW
            go_simp
            all_goals with_reducible rfl
          refine wpAnyH_take (i := 19) (v := ?_) rfl (by kernel_rfl) (by kernel_rfl) (by kernel_rfl) (fun _ _ _ h => h) (Or.inl ⟨by kernel_rfl, ?_⟩) hS ?_
          rotate_left
          · intro W hSW
            have k1 := (hKB W hSW.2.2).conv (P := Tryz.prog) 0 25 5 9 Tryz.underlying25 Tryz.underlying5 Tryz.underlying9
            rw [hml] at k1
            go_simp
            all_goals with_reducible rfl
          refine wpAnyH_take (i := 20) (v := ?_) rfl (by kernel_rfl) (by kernel_rfl) (by kernel_rfl) (fun _ _ _ h => h) (Or.inl ⟨by kernel_rfl, ?_⟩) hS ?_
          rotate_left
          · intro W hSW
            go_simp
            all_goals with_reducible rfl
          refine wpAnyH_done (by kernel_rfl) ?_ _
          clear hS
          have HK3 := Lib.hid (HK2.out.kept ((Below.refl w2.heap.size w2).drew))
          have HB3 := Lib.hid HB2.out.drew
          obtain ⟨a', e1, -, hp⟩ := HK3.out.pass (s + n) hsn
          have e2 : (a : Int) = (a' : Int) := by
            have h3 := (HS.out.kept ((Below.refl w2.heap.size w2).drew)).2.1
            rw [h3] at e1
            simpa using e1
          have HPASS := Lib.hid (show RRdr (w2.drew.setCell ⟨b, 1, none⟩ (.int .i64 ((a : Int) + (s : Int) + (n : Int)))) B b (l.drop (s + n)) 0 by
            rw [show (a : Int) + (s : Int) + (n : Int) = (a' : Int) + ((s + n : Nat) : Int) by omega]; exact hp)
          have x1 : w2.drew.cell? ⟨b, 1, none⟩ = some (.int .i64 (a : Int)) := (HS.out.kept ((Below.refl w2.heap.size w2).drew)).2.1
          have x2 := HK3.out.2.2.1
          clear hp e1 e2
          go_wp2
          go_ret
          rw [HUh.out]
          exact ⟨ret_str HMM.out, HPASS.out, (Only.of_below HB3.out).trans (Only.set b 1 _ _)⟩
        · have hKB : ∀ W : World, Bs W (some ⟨b', o', none⟩) L → Bs W (some ⟨b', o' + (a + s), none⟩) ((L.drop (a + s)).take n) := fun W hW h0 => by
            obtain ⟨b2, o2, e, hc⟩ := hW hLp
            simp only [Option.some.injEq, Addr.mk.injEq] at e
            obtain ⟨rfl, rfl, -⟩ := e
            refine ⟨b', o' + (a + s), rfl, fun i hi => ?_⟩
            rw [hml] at hi
            rw [by8_take_drop _ _ _ _ (by omega), Nat.add_assoc]
            exact hc (a + s + i) (by omega)
          go_enter Tryz.func86, Tryz.ntmps86
          go_wp2
          go_quiet ((go_at_call 54; exact Calls.quiet_of_same (HNQ.out _ (by first | exact H6.out.1 | exact H6.out.2 _))))
          have HK := Lib.hid (H.out.kept (below_drewN (Below.refl w.heap.size w) nq))
          have HB := Lib.hid (below_drewN (Below.refl w.heap.size w) nq)
          go_wp2_with fail
          refine (HLF.out _ HK.out).mono ?_
          rintro e w2 ⟨rfl, hb2⟩
          have HK2 := Lib.hid (HK.out.kept hb2)
          have HB2 := Lib.hid (HB.out.trans (hb2.mono HB.out.size))
          have HS := Lib.hid (HS0.out.kept (HB.out.trans (hb2.mono HB.out.size)))
          clear hb2
          go_wp2
          refine wp_region_held_drew (S := (S11 b ⟨b', o', none⟩ L c a)) (by kernel_rfl) (HS.out.kept ((Below.refl w2.heap.size w2).drew)) (fun hS => ?_)
          refine wpAnyH_take (i := 0) (v := ?_) rfl (by kernel_rfl) (by kernel_rfl) (by kernel_rfl) (fun _ _ _ h => h) (Or.inl ⟨by kernel_rfl, ?_⟩) hS ?_
          rotate_left
          · intro W hSW
            go_simp
            all_goals with_reducible rfl
          refine wpAnyH_take (i := 1) (v := ?_) rfl (by kernel_rfl) (by kernel_rfl) (by kernel_rfl) (fun _ _ _ h => h) (Or.inl ⟨by kernel_rfl, ?_⟩) hS ?_
          rotate_left
          · intro W hSW
            go_simp
            all_goals with_reducible rfl
          refine wpAnyH_take (i := 2) (v := ?_) rfl (by kernel_rfl) (by kernel_rfl) (by kernel_rfl) (fun _ _ _ h => h) (Or.inl ⟨by kernel_rfl, ?_⟩) hS ?_
          rotate_left
          · intro W hSW
            go_simp
            all_goals with_reducible rfl
          refine wpAnyH_take (i := 3) (v := ?_) rfl (by kernel_rfl) (by kernel_rfl) (by kernel_rfl) (fun _ _ _ h => h) (Or.inl ⟨by kernel_rfl, ?_⟩) hS ?_
          rotate_left
          · intro W hSW
            have x0 := hSW.1
            have x1 := hSW.2.1
            go_simp
            all_goals with_reducible rfl
          refine wpAnyH_take (i := 4) (v := ?_) rfl (by kernel_rfl) (by kernel_rfl) (by kernel_rfl) (fun _ _ _ h => h) (Or.inl ⟨by kernel_rfl, ?_⟩) hS ?_
          rotate_left
          · intro W hSW
            go_simp
            all_goals with_reducible rfl
          refine wpAnyH_take (i := 5) (v := ?_) rfl (by kernel_rfl) (by kernel_rfl) (by kernel_rfl) (fun _ _ _ h => h) (Or.inl ⟨by kernel_rfl, ?_⟩) hS ?_
          rotate_left
          · intro W hSW
            go_simp
            all_goals with_reducible rfl
          refine wpAnyH_take (i := 6) (v := ?_) rfl (by kernel_rfl) (by kernel_rfl) (by kernel_rfl) (fun _ _ _ h => h) (Or.inl ⟨by kernel_rfl, ?_⟩) hS ?_
          rotate_left
          · intro W hSW
            go_simp
            all_goals with_reducible rfl
          refine wpAnyH_take (i := 7) (v := ?_) rfl (by kernel_rfl) (by kernel_rfl) (by kernel_rfl) (fun _ _ _ h => h) (Or.inl ⟨by kernel_rfl, ?_⟩) hS ?_
          rotate_left
          · intro W hSW
            have x0 := hSW.1
            have x1 := hSW.2.1
            go_simp
            all_goals with_reducible rfl
          refine wpAnyH_take (i := 8) (v := ?_) rfl (by kernel_rfl) (by kernel_rfl) (by kernel_rfl) (fun _ _ _ h => h) (Or.inl ⟨by kernel_rfl, ?_⟩) hS ?_
          rotate_left
          · intro W hSW
            go_simp
            all_goals with_reducible rfl
          refine wpAnyH_take (i := 9) (v := ?_) rfl (by kernel_rfl) (by kernel_rfl) (by kernel_rfl) (fun _ _ _ h => h) (Or.inl ⟨by kernel_rfl, ?_⟩) hS ?_
          rotate_left
          · intro W hSW
            go_simp
            all_goals with_reducible rfl
          refine wpAnyH_take (i := 10) (v := ?_) rfl (by kernel_rfl) (by kernel_rfl) (by kernel_rfl) (fun _ _ _ h => h) (Or.inl ⟨by kernel_rfl, ?_⟩) hS ?_
          rotate_left
          · intro W hSW
            go_simp
            all_goals with_reducible rfl
          refine wpAnyH_take (i := 11) (v := ?_) rfl (by kernel_rfl) (by kernel_rfl) (by kernel_rfl) (fun _ _ _ h => h) (Or.inl ⟨by kernel_rfl, ?_⟩) hS ?_
          rotate_left
          · intro W hSW
            go_simp
            all_goals with_reducible rfl
          refine wpAnyH_take (i := 12) (v := ?_) rfl (by kernel_rfl) (by kernel_rfl) (by kernel_rfl) (fun _ _ _ h => h) (Or.inl ⟨by kernel_rfl, ?_⟩) hS ?_
          rotate_left
          · intro W hSW
            go_simp
            all_goals with_reducible rfl
          refine wpAnyH_take (i := 13) (v := ?_) rfl (by kernel_rfl) (by kernel_rfl) (by kernel_rfl) (fun _ _ _ h => h) (Or.inl ⟨by kernel_rfl, ?_⟩) hS ?_
          rotate_left
          · intro W hSW
            have x0 := hSW.1
            have x1 := hSW.2.1
            go_simp
            all_goals with_reducible rfl
          refine wpAnyH_take (i := 14) (v := ?_) rfl (by kernel_rfl) (by kernel_rfl) (by kernel_rfl) (fun _ _ _ h => h) (Or.inl ⟨by kernel_rfl, ?_⟩) hS ?_
          rotate_left
          · intro W hSW
            go_simp
            all_goals with_reducible rfl
          refine wpAnyH_take (i := 15) (v := ?_) rfl (by kernel_rfl) (by kernel_rfl) (by kernel_rfl) (fun _ _ _ h => h) (Or.inl ⟨by kernel_rfl, ?_⟩) hS ?_
          rotate_left
          · intro W hSW
            go_simp
            all_goals with_reducible rfl
          refine wpAnyH_take (i := 16) (v := ?_) rfl (by kernel_rfl) (by kernel_rfl) (by kernel_rfl) (fun _ _ _ h => h) (Or.inl ⟨by kernel_rfl, ?_⟩) hS ?_
          rotate_left
          · intro W hSW
            go_simp
            all_goals with_reducible rfl
          refine wpAnyH_take (i := 17) (v := ?_) rfl (by kernel_rfl) (by kernel_rfl) (by kernel_rfl) (fun _ _ _ h => h) (Or.inl ⟨by kernel_rfl, ?_⟩) hS ?_
          rotate_left
          · intro W hSW
            go_simp
            all_goals with_reducible rfl
          refine wpAnyH_take (i := 18) (v := ?_) rfl (by kernel_rfl) (by kernel_rfl) (by kernel_rfl) (fun _ _ _ h => h) (Or.inl ⟨by kernel_rfl, ?_⟩) hS ?_
          rotate_left
          · intro W hSW
            go_simp
            all_goals with_reducible rfl
          refine wpAnyH_take (i := 19) (v := ?_) rfl (by kernel_rfl) (by kernel_rfl) (by kernel_rfl) (fun _ _ _ h => h) (Or.inl ⟨by kernel_rfl, ?_⟩) hS ?_
          rotate_left
          · intro W hSW
            have k1 := (hKB W hSW.2.2).conv (P := Tryz.prog) (c - (a + s)) 25 5 9 Tryz.underlying25 Tryz.underlying5 Tryz.underlying9
            rw [hml] at k1
            go_simp
            all_goals with_reducible rfl
          refine wpAnyH_take (i := 20) (v := ?_) rfl (by kernel_rfl) (by kernel_rfl) (by kernel_rfl) (fun _ _ _ h => h) (Or.inl ⟨by kernel_rfl, ?_⟩) hS ?_
          rotate_left
          · intro W hSW
            go_simp
            all_goals with_reducible rfl
          refine wpAnyH_done (by kernel_rfl) ?_ _
          clear hS
          have HK3 := Lib.hid (HK2.out.kept ((Below.refl w2.heap.size w2).drew))
          have HB3 := Lib.hid HB2.out.drew
          obtain ⟨a', e1, -, hp⟩ := HK3.out.pass (s + n) hsn
          have e2 : (a : Int) = (a' : Int) := by
            have h3 := (HS.out.kept ((Below.refl w2.heap.size w2).drew)).2.1
            rw [h3] at e1
            simpa using e1
          have HPASS := Lib.hid (show RRdr (w2.drew.setCell ⟨b, 1, none⟩ (.int .i64 ((a : Int) + (s : Int) + (n : Int)))) B b (l.drop (s + n)) 0 by
            rw [show (a : Int) + (s : Int) + (n : Int) = (a' : Int) + ((s + n : Nat) : Int) by omega]; exact hp)
          have x1 : w2.drew.cell? ⟨b, 1, none⟩ = some (.int .i64 (a : Int)) := (HS.out.kept ((Below.refl w2.heap.size w2).drew)).2.1
          have x2 := HK3.out.2.2.1
          clear hp e1 e2
          go_wp2
          go_ret
          rw [HUh.out]
          exact ⟨ret_str HMM.out, HPASS.out, (Only.of_below HB3.out).trans (Only.set b 1 _ _)⟩
  · rw [if_pos he] at HU
    dsimp only at HU
    rw [if_pos he] at HU
    have HUh := Lib.hid HU
    have te : ((e : Int) != 0) = true := by rw [bne_iff_ne]; omega
    have te2 : ((e : Int) == 0) = false := by rw [beq_eq_false_iff_ne]; omega
    have HF := Lib.hid (fun k => (H.out.kept (below_drewN (Below.refl w.heap.size w) k)).fail e)
    clear HU he NS hl
    go_enter Tryz.func86, Tryz.ntmps86
    go_wp2
    go_quiet ((go_at_call 54; exact Calls.quiet_of_same (HNQ.out _ (by first | exact H6.out.1 | exact H6.out.2 _))))
    go_wp2
    go_ret
    rw [HUh.out]
    exact ⟨rfl, HF.out nq, (Only.of_below (below_drewN (Below.refl _ _) nq)).trans (Only.set b 2 _ _)⟩

/-- what lies above the reader turns -/
theorem RRdr.under {w w' : World} {B b M : Nat} {l : List UInt8} {err : Nat} (h : RRdr w B b l err) (hb : Below M w w') (hM : b < M) : RRdr w' B b l err := by
  obtain ⟨h0, h2, f1, f2, p, c, a, L, c0, c1, h3, h4, h5, h6, h7⟩ := h
  have e : ∀ o, w'.cell? ⟨b, o, none⟩ = w.cell? ⟨b, o, none⟩ := fun o => hb.cell (by simpa using hM)
  have f : ∀ o, w'.frozen? ⟨b, o, none⟩ = w.frozen? ⟨b, o, none⟩ := fun o => hb.frozen (by simpa using hM)
  exact ⟨h0, by rw [e]; exact h2, by rw [f]; exact f1, by rw [f]; exact f2, p, c, a, L, by rw [e]; exact c0, by rw [e]; exact c1, h3, h4, h5, h6.below hb (fun a ha => Nat.lt_trans (h7 a ha).1 hM), h7⟩
/-- the document's reader that has s left -/
def RrS (w : World) (B b : Nat) (s : RS) : Prop := RRdr w B b s.1 s.2
theorem RrS.kept {w w' : World} {B b : Nat} {s : RS} (h : RrS w B b s) (hb : Below w.heap.size w w') : RrS w' B b s := RRdr.kept h hb
theorem RrS.lt {w : World} {B b : Nat} {s : RS} (h : RrS w B b s) : b < w.heap.size := RRdr.lt h
theorem RrS.under {w w' : World} {B b M : Nat} {s : RS} (h : RrS w B b s) (hb : Below M w w') (hM : b < M) : RrS w' B b s := RRdr.under h hb hM
theorem RrS.err {w : World} {B b : Nat} {s : RS} (h : RrS w B b s) : w.cell? ⟨b, 2, none⟩ = some (.int .i64 (s.2 : Int)) := h.2.1
end Go.Proofs.YthpdphlkmleldaaGreat
