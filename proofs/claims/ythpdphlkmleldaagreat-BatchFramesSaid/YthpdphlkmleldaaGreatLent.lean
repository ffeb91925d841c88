/-
  THE LAWS' OWN HELPERS: Lent (bytes with marked room behind them), Stays (are they as they were, their room too).
-/
import Derived.Test.YthpdphlkmleldaaGreatGA
import Derived.Deep.DeepFit
namespace Go.Proofs.YthpdphlkmleldaaGreat
open Go.RowKit

set_option maxRecDepth 100000 in
set_option maxHeartbeats 400000 in
theorem lent_any (p : Option Addr) (c : Nat) (l : List UInt8) (w : World) (h : Bs w p l) (hl : l.length ≤ 140737488355328) (hpn : p = none → c = 0) :
    Calls Tryz.prog 6 #[.slice p l.length c] w fun e w' => ∃ g cap, e = .returned (.slice (some ⟨g, 0, none⟩) l.length cap) ∧ Own 5 w' w.heap.size (.slice (some ⟨g, 0, none⟩) (l.length + 2) cap) (l ++ [61, 62]) ∧ Below w.heap.size w w' ∧ l.length + 2 ≤ cap := by
  obtain ⟨i0, hi, hz0, hz1, hz2⟩ := info_parts info_u8
  have HO := Lib.hid (Own.lit (E := 5) w #[] [] rfl (by decide))
  have hb0 : Below w.heap.size w (w.alloc (.cells #[] 5)) := (Below.refl _ _).alloc (Nat.le_refl _) _
  have HB := Lib.hid (h.kept hb0)
  clear h
  go_enter Tryz.func6, Tryz.ntmps6
  go_wp2_with (at_builtin; refine wpList_append_bs rfl _ _ 25 rfl w.heap.size 5 i0 Tryz.underlying25 hi hz0 hz1 hz2 _ _ rfl HO.out p c l rfl HB.out hpn ?b1 ?b2 ?_)
  case b1 => simp; omega
  case b2 => simp
  intro v1 w1 hown1 hbel1 hgrow1 hnil1
  clear hgrow1 hnil1
  have hown1' : Own 5 w1 w.heap.size v1 l := hown1
  have hbw1 := hb0.trans hbel1
  have hs1 := hbw1.size
  have HO1 := Lib.hid (hown1'.alloc (.cells #[.int .u8 61, .int .u8 62] 5))
  obtain ⟨p2, c2, e2, hbs2, -⟩ := (Own.lit (E := 5) w1 #[.int .u8 61, .int .u8 62] [61, 62] rfl (by decide)).bs
  simp only [Value.slice.injEq] at e2
  obtain ⟨rfl, -, rfl⟩ := e2
  have HB2 := Lib.hid hbs2
  have hbw2 := hbw1.alloc hs1 (.cells #[.int .u8 61, .int .u8 62] 5)
  clear hown1 hown1' hbel1 hbs2 hb0 hbw1
  go_wp2_with (at_builtin; refine wpList_append_bs rfl _ _ 25 rfl w.heap.size 5 i0 Tryz.underlying25 hi hz0 hz1 hz2 _ _ rfl HO1.out (some ⟨w1.heap.size, 0, none⟩) 2 [61, 62] rfl HB2.out (by simp) ?d1 ?d2 ?_)
  case d1 => simp; omega
  case d2 => simp; omega
  intro v3 w3 hown3 hbel3 hgrow3 hnil3
  have hown3' : Own 5 w3 w.heap.size v3 (l ++ [61, 62]) := hown3
  have hbw3 := hbw2.trans hbel3
  have hv : ∃ g cap, v3 = .slice (some ⟨g, 0, none⟩) (l.length + 2) cap ∧ l.length + 2 ≤ cap := by
    have h0 : w3.ownsRow w.heap.size 5 1 v3 (l ++ [61, 62]).length (vals (l ++ [61, 62])) := hown3'
    rcases h0.2 with ⟨-, hn⟩ | ⟨g, cap, cur, hv, -, -, hnc, -⟩
    · simp at hn
    · exact ⟨g, cap, by rw [hv]; simp, by simpa using hnc⟩
  clear hown3 hbel3 hgrow3 hnil3 hbw2
  obtain ⟨g, cap, hv, hcap⟩ := hv
  subst hv
  have HO3 := Lib.hid hown3'
  clear hown3'
  go_wp2
  go_ret
  exact ⟨g, cap, rfl, HO3.out, hbw3, hcap⟩

theorem Own.cell {E : TypeId} {w : World} {B g n cap : Nat} {l : List UInt8} (h : Own E w B (.slice (some ⟨g, 0, none⟩) n cap) l) (i : Nat) (hi : i < l.length) : w.cell? ⟨g, i, none⟩ = some (.int .u8 (by8 l i : Nat)) := by
  obtain ⟨p, c, e, hbs, -⟩ := h.bs
  simp only [Value.slice.injEq] at e
  obtain ⟨rfl, -, -⟩ := e
  have := hbs.get i hi
  rwa [Nat.zero_add] at this

theorem by8_app_l (l m : List UInt8) (i : Nat) (h : i < l.length) : by8 (l ++ m) i = by8 l i := by
  simp [by8, List.getD, List.getElem?_append_left h]
theorem by8_app_r (l m : List UInt8) (i : Nat) : by8 (l ++ m) (l.length + i) = by8 m i := by
  simp [by8, List.getD, List.getElem?_append_right (Nat.le_add_right l.length i)]

set_option maxRecDepth 100000 in
set_option maxHeartbeats 800000 in
theorem stays_any (B g cap : Nat) (p : Option Addr) (c : Nat) (l : List UInt8) (w : World) (hown : Own 5 w B (.slice (some ⟨g, 0, none⟩) (l.length + 2) cap) (l ++ [61, 62])) (hcap : l.length + 2 ≤ cap) (h : Bs w p l) (hl : l.length ≤ 140737488355328) :
    Calls Tryz.prog 16 #[.slice (some ⟨g, 0, none⟩) l.length cap, .slice p l.length c] w fun e w' => e = .returned (.bool true) ∧ ∃ q, w' = w.drewN q := by
  have hb1 : Bs w (some ⟨g, 0, none⟩) l := fun h0 => ⟨g, 0, rfl, fun i hi => by
    rw [Nat.zero_add, hown.cell i (by simp; omega), by8_app_l _ _ _ hi]⟩
  have k1 : ∀ q C, (convert 25 9 (.slice (some ⟨g, 0, none⟩) l.length C)).run Tryz.prog (w.drewN q) = .ok (.string (strB l)) (w.drewN q) := by
    intro q C
    have hb : Bs (w.drewN q) (some ⟨g, 0, none⟩) l := fun h0 => by obtain ⟨b, o, e, hc⟩ := hb1 h0; exact ⟨b, o, e, fun i hi => hc i hi⟩
    exact hb.conv C 25 5 9 Tryz.underlying25 Tryz.underlying5 Tryz.underlying9
  have k2 : ∀ q C, (convert 25 9 (.slice p l.length C)).run Tryz.prog (w.drewN q) = .ok (.string (strB l)) (w.drewN q) := by
    intro q C
    have hb : Bs (w.drewN q) p l := fun h0 => by obtain ⟨b, o, e, hc⟩ := h h0; exact ⟨b, o, e, fun i hi => hc i hi⟩
    exact hb.conv C 25 5 9 Tryz.underlying25 Tryz.underlying5 Tryz.underlying9
  have c1 : w.cell? ⟨g, l.length, none⟩ = some (.int .u8 61) := by
    have := hown.cell l.length (by simp)
    rw [this]
    have e := by8_app_r l [61, 62] 0
    rw [Nat.add_zero] at e
    rw [e]
    rfl
  have c2 : w.cell? ⟨g, l.length + 1, none⟩ = some (.int .u8 62) := by
    rw [hown.cell (l.length + 1) (by simp), by8_app_r l [61, 62] 1]
    rfl
  clear hb1 h hown
  generalize strB l = s at *
  go_enter Tryz.func16, Tryz.ntmps16
  go_wp2
  have g1 : (0 : Int) ≤ (l.length : Int) := by omega
  have g2 : (l.length : Int) < (l.length : Int) + 2 := by omega
  have g3 : (l.length : Int) ≤ (cap : Int) := by omega
  have g4 : IntKind.i64.wrap ((l.length : Int) + 1) = (l.length : Int) + 1 := IntWalk.i64_in _ (by omega)
  have g5 : (0 : Int) ≤ (l.length : Int) + 1 := by omega
  have g6 : (l.length : Int) + 1 < (l.length : Int) + 2 := by omega
  have g7 : ((l.length : Int) + 1).toNat = l.length + 1 := by omega
  go_quiet (fail)
  go_wp2
  go_ret
  exact ⟨rfl, _, rfl⟩

end Go.Proofs.YthpdphlkmleldaaGreat
