/-
  ROWS OF WRITES in memory; the laws' Light, num, apart.
  No conditions.
  THE LAWS' knows: the later one stands.
  No conditions.
-/
import Derived.Test.YtcenmkcencdlcaaPrDo
import Derived.Test.YtcenmkcencdlcaaGK
import Derived.Test.YtcenmkcencdlcaaPrLook
import Derived.Test.YtcenmkcencdlcaaPrTwo
namespace Go.Proofs.Ytcenmkcencdlcaa
open Go.RowKit

/-- a write, where its op's Path lies -/
structure WrE where
  w : Pm.Wr
  q : Option Addr
  c : Nat
instance : Inhabited WrE := ⟨⟨Pm.Wr.zero, none, 0⟩⟩
def ceW (e : WrE) : List Value := [.int .i64 e.w.s.1, .int .i64 e.w.s.2] ++ opL e.w.x e.q e.c
abbrev wrA (e : WrE) : Array Value := (ceW e).toArray
theorem wrK : RK 40 22 14 144 ceW where
  und := Try.underlying22
  elem := by kernel_rfl
  size := fun _ => by kernel_rfl
  info := by
    have h : (Try.prog.info? 40).map (fun i => (i.zero, i.size, i.bytes)) = some (some (.agg (wrA ⟨Pm.Wr.zero, none, 0⟩)), 14, 144) := by kernel_rfl
    cases hi : Try.prog.info? 40 with
    | none => rw [hi] at h; cases h
    | some i =>
      rw [hi] at h
      simp only [Option.map_some, Option.some.injEq, Prod.mk.injEq] at h
      exact ⟨i, _, rfl, h.1, h.2.1, h.2.2, rfl⟩
  row := ⟨_, Try.underlying40⟩
  len := fun _ => rfl
  one := fun x u hu => by
    simp only [ceW, opL, List.cons_append, List.nil_append, List.mem_cons, List.not_mem_nil, or_false] at hu
    rcases hu with rfl | rfl | rfl | rfl | rfl | rfl | rfl | rfl | rfl | rfl | rfl | rfl | rfl | rfl <;> rfl
  pos := by decide
  small := by decide
theorem wrT : AgT 40 14 := ⟨⟨_, Try.underlying40⟩, by kernel_rfl⟩
theorem wrA_one (e : WrE) : (wrA e).all (·.oneCell') = true := all_oneCell_toArray (wrK.one e)
/-- a row of writes -/
structure Ws (w : World) (p : Option Addr) (l : List WrE) : Prop where
  rd : Rd w p (l.flatMap ceW)
  pa : ∀ e ∈ l, Pa w e.w.x e.q e.c
theorem Ws.kept {w w' : World} {p : Option Addr} {l : List WrE} (h : Ws w p l) (hb : Below w.heap.size w w') : Ws w' p l := ⟨h.rd.below hb, fun e he => (h.pa e he).kept hb⟩
def pl (l : List WrE) : List Pm.Wr := l.map (·.w)
/-- few and small -/
def Sm1 (x : Opp) : Prop := x.path.length ≤ 20 ∧ x.key.size ≤ 200 ∧ x.vt.size ≤ 200
def Small (l : List WrE) : Prop := l.length ≤ 60 ∧ ∀ e ∈ l, Sm1 e.w.x
theorem Sm1.sz {x : Opp} (h : Sm1 x) : Sz x := ⟨by have := h.2.1; omega, by have := h.2.2; omega, by have := h.1; omega⟩

set_option maxRecDepth 100000 in
set_option maxHeartbeats 1000000 in
theorem num12_any (n : Int) (w : World) : Calls Try.prog 11 #[.int .i64 n] w fun e w' => e = .returned (.int .i64 n) ∧ w = w' := by
  go_enter Try.func11, Try.ntmps11
  go_wp2
  go_ret
  exact ⟨rfl, rfl⟩

set_option maxRecDepth 100000 in
set_option maxHeartbeats 4000000 in
theorem light12_any (p : Option Addr) (c : Nat) (l : List WrE) (w : World) (h : Ws w p l) :
    Calls Try.prog 7 #[.slice p l.length c] w fun e w' => ∃ b, e = .returned (.bool b) ∧ (b = true → Small l) ∧ Below w.heap.size w w' := by
  have HR := Lib.hid h.rd
  clear h
  go_enter Try.func7, Try.ntmps7
  go_wp2
  go_loopw [3] (fun i wr => ∃ k : Nat, k ≤ l.length ∧ k ≤ 80 ∧ i = .int .i64 (k : Int) ∧ (∀ j e, j < k → l[j]? = some e → Sm1 e.w.x) ∧ Below w.heap.size w wr) (fun i _ => l.length - (intOf i).toNat)
  case atStart => exact ⟨0, Nat.zero_le _, by omega, rfl, fun j e hj => by omega, Below.refl _ _⟩
  case round =>
    obtain ⟨k, hk, hk9, rfl, hgood, hbw⟩ := hrel
    have HG := Lib.hid hgood
    have HB := Lib.hid hbw
    have HE := Lib.hid (fun (hk : k = l.length ∨ k = 80) => show decide ((l.length : Int) ≤ 60) = true → Small l from fun h => by
      have h60 : l.length ≤ 60 := by have := of_decide_eq_true h; omega
      refine ⟨h60, fun e he => ?_⟩
      obtain ⟨j, hj, rfl⟩ := List.mem_iff_getElem.1 he
      exact hgood j _ (by omega) (List.getElem?_eq_getElem hj))
    clear hgood hbw
    by_cases hlt : k < l.length
    · have hd0 : decide ((k : Int) < (l.length : Int)) = true := decide_eq_true (by omega)
      by_cases h80 : k < 80
      · have hd1 : decide ((k : Int) < 80) = true := decide_eq_true (by omega)
        obtain ⟨e, he⟩ : ∃ e, l[k]? = some e := ⟨_, List.getElem?_eq_getElem hlt⟩
        have HRD := Lib.hid (HR.out.below HB.out)
        obtain ⟨b, o, rfl, -⟩ := HRD.out.addr (by rw [wrK.length]; omega)
        have hrg := wrK.range HRD.out he
        have y7 : wr.cell? ⟨b, o + k * 14 + 7, none⟩ = some (.string e.w.x.key) := hrg 7 _ rfl
        have y8 : wr.cell? ⟨b, o + k * 14 + 8, none⟩ = some (.slice e.q e.w.x.path.length e.c) := hrg 8 _ rfl
        have y12 : wr.cell? ⟨b, o + k * 14 + 12, none⟩ = some (.string e.w.x.vt) := hrg 12 _ rfl
        have HGN := Lib.hid (fun (h1 : Sm1 e.w.x) => show ∀ j e, j < k + 1 → l[j]? = some e → Sm1 e.w.x from fun j e' hj he' => by
          by_cases h2 : j = k
          · subst h2; rw [he] at he'; cases he'; exact h1
          · exact HG.out j e' (by omega) he')
        clear hrg he HR
        by_cases h1 : e.w.x.path.length ≤ 20
        · have d1 : decide (20 < (e.w.x.path.length : Int)) = false := decide_eq_false (by omega)
          by_cases h2 : e.w.x.key.size ≤ 200
          · have d2 : decide (200 < (e.w.x.key.size : Int)) = false := decide_eq_false (by omega)
            by_cases h3 : e.w.x.vt.size ≤ 200
            · have d3 : decide (200 < (e.w.x.vt.size : Int)) = false := decide_eq_false (by omega)
              have HGO := Lib.hid (HGN.out ⟨h1, h2, h3⟩)
              clear h1 h2 h3
              go_wp2
              go_roundw
              case rel => exact ⟨k + 1, by omega, by omega, by go_num, HGO.out, HB.out⟩
              case measure => simp [intOf]; omega
            · have d3 : decide (200 < (e.w.x.vt.size : Int)) = true := decide_eq_true (by omega)
              go_wp2
              go_ret
              exact ⟨false, rfl, fun h => (by cases h), HB.out⟩
          · have d2 : decide (200 < (e.w.x.key.size : Int)) = true := decide_eq_true (by omega)
            go_wp2
            go_ret
            exact ⟨false, rfl, fun h => (by cases h), HB.out⟩
        · have d1 : decide (20 < (e.w.x.path.length : Int)) = true := decide_eq_true (by omega)
          go_wp2
          go_ret
          exact ⟨false, rfl, fun h => (by cases h), HB.out⟩
      · have hd1 : decide ((k : Int) < 80) = false := decide_eq_false (by omega)
        have HX := Lib.hid (HE.out (Or.inr (by omega)))
        go_wp2
        go_ret
        exact ⟨_, rfl, HX.out, HB.out⟩
    · have hd0 : decide ((k : Int) < (l.length : Int)) = false := decide_eq_false (by omega)
      have HX := Lib.hid (HE.out (Or.inl (by omega)))
      go_wp2
      go_ret
      exact ⟨_, rfl, HX.out, HB.out⟩
end Go.Proofs.Ytcenmkcencdlcaa

namespace Go.Proofs.Ytcenmkcencdlcaa
open Go.RowKit

namespace Pm
def kA : Opp := ⟨3, 1, 0, 0, 0, ⟨#[]⟩, [], 8, 1, 7, ⟨#[]⟩, false⟩
def kB : Opp := ⟨3, 1, 0, 0, 0, ⟨#[]⟩, [], 8, 1, 9, ⟨#[]⟩, false⟩
def kC : Opp := ⟨4, 1, 0, 0, 0, ⟨#[]⟩, [], 0, 0, 0, ⟨#[]⟩, true⟩
def kR : Rs := doR (doR (doR Rs.zero ⟨(5, 0), kA⟩) ⟨(3, 0), kB⟩) ⟨(3, 0), kC⟩
theorem kA_e : doE ⟨(5, 0), kA⟩ = 0 := by decide +kernel
theorem kB_e : doE ⟨(3, 0), kB⟩ = 0 := by decide +kernel
theorem kC_e : doE ⟨(3, 0), kC⟩ = 0 := by decide +kernel
theorem kR_v : (kR.v (nameV (1, 0) 8)).2 = (1, 7, ⟨#[]⟩) := by decide +kernel
theorem kR_f : (kR.v (nameV (1, 0) 1)).2 = (0, 0, ⟨#[]⟩) := by decide +kernel
theorem kR_m : (kR.m (nameM (1, 0))).2 = true := by decide +kernel
end Pm
theorem sz_small {x : Opp} (h : x.key = ⟨#[]⟩) (k : x.vt = ⟨#[]⟩) (l : x.path = []) : Sz x := ⟨by rw [h]; decide, by rw [k]; decide, by rw [l]; decide⟩
set_option maxRecDepth 100000 in
set_option maxHeartbeats 4000000 in
theorem knows12_any (w : World) : Calls Try.prog 8 #[] w fun e w' => e = .returned (.bool true) ∧ Below w.heap.size w w' := by
  have HV := Lib.hid Pm.kR_v
  have HF := Lib.hid Pm.kR_f
  have HM := Lib.hid Pm.kR_m
  have HEA := Lib.hid Pm.kA_e
  have HEB := Lib.hid Pm.kB_e
  have HEC := Lib.hid Pm.kC_e
  go_enter Try.func8, Try.ntmps8
  go_wp2_with fail
  refine (new_any w).mono ?_
  rintro e w1 ⟨P, M1, M2, M3, rfl, hl1, hb1, g0, g1, g2, g3⟩
  have HG := Lib.hid (And.intro g0 (And.intro g1 (And.intro g2 g3)))
  have HBX := Lib.hid ((Below.refl w1.heap.size w1).alloc (Nat.le_refl _) (.cells #[.int .i64 1, .int .i64 0] 32))
  have HLT := Lib.hid (And.intro hl1.box.lt (And.intro hl1.v.lt (And.intro hl1.m.lt hl1.o.lt)))
  have HL := Lib.hid (hl1.kept HBX.out)
  have HN0 := Lib.hid (AgAt.new w1 #[.int .i64 1, .int .i64 0] 32)
  have HB := Lib.hid (hb1.trans (HBX.out.mono hb1.size))
  clear hl1 hb1 HBX g0 g1 g2 g3
  go_wp2_with (refine wpList_load_ag stT (by kernel_rfl) _ rfl _ rfl (A := #[.int .i64 1, .int .i64 0]) rfl HN0.out ?_)
  refine (do_any (5, 0) Pm.kA none 0 _ HL.out (sz_small rfl rfl rfl) (Pa.none _ _ rfl)).mono ?_
  rintro e w2 ⟨rfl, hl, ht⟩
  rw [HEA.out]
  replace HN0 := Lib.hid (HN0.out.turn ht (by have := HLT.out; omega))
  replace HB := Lib.hid (HB.out.trans (ht.below (fun k _ hk => by have := HG.out; omega) HB.out.size))
  have HL := Lib.hid hl
  clear hl ht
  go_wp2_with (refine wpList_load_ag stT (by kernel_rfl) _ rfl _ rfl (A := #[.int .i64 1, .int .i64 0]) rfl HN0.out ?_)
  refine (do_any (3, 0) Pm.kB none 0 _ HL.out (sz_small rfl rfl rfl) (Pa.none _ _ rfl)).mono ?_
  rintro e w3 ⟨rfl, hl, ht⟩
  rw [HEB.out]
  replace HN0 := Lib.hid (HN0.out.turn ht (by have := HLT.out; omega))
  replace HB := Lib.hid (HB.out.trans (ht.below (fun k _ hk => by have := HG.out; omega) HB.out.size))
  have HL := Lib.hid hl
  clear hl ht
  go_wp2_with (refine wpList_load_ag stT (by kernel_rfl) _ rfl _ rfl (A := #[.int .i64 1, .int .i64 0]) rfl HN0.out ?_)
  refine (do_any (3, 0) Pm.kC none 0 _ HL.out (sz_small rfl rfl rfl) (Pa.none _ _ rfl)).mono ?_
  rintro e w4 ⟨rfl, hl, ht⟩
  rw [HEC.out]
  replace HN0 := Lib.hid (HN0.out.turn ht (by have := HLT.out; omega))
  replace HB := Lib.hid (HB.out.trans (ht.below (fun k _ hk => by have := HG.out; omega) HB.out.size))
  have HL := Lib.hid hl
  clear hl ht
  replace HL := Lib.hid (show Lay _ P M1 M2 M3 Pm.kR from HL.out)
  go_wp2_with fail
  refine (num12_any _ _).mono ?_
  rintro e w5 ⟨rfl, rfl⟩
  go_wp2_with fail
  refine (num12_any _ _).mono ?_
  rintro e w5 ⟨rfl, rfl⟩
  go_wp2_with fail
  refine (num12_any _ _).mono ?_
  rintro e w5 ⟨rfl, rfl⟩
  go_wp2_with (refine wpList_load_ag stT (by kernel_rfl) _ rfl _ rfl (A := #[.int .i64 1, .int .i64 0]) rfl HN0.out ?_)
  refine (value_any (1, 0) 8 _ HL.out (wfV (by decide) (by decide) (by decide))).mono ?_
  rw [HV.out]
  rintro e w5 ⟨rfl, hb⟩
  replace HN0 := Lib.hid (HN0.out.kept hb)
  replace HL := Lib.hid (HL.out.kept hb)
  replace HB := Lib.hid (HB.out.trans (hb.mono HB.out.size))
  clear hb
  have hfd : ∀ W : World, (Instr.field 34 (.agg #[.int .i64 1, .int .i64 7, .string ⟨#[]⟩]) 1).run Try.prog W = .ok (.int .i64 7) W := fun W => by kernel_rfl
  dsimp only [vlA]
  go_wp2_with (refine wpList_load_ag stT (by kernel_rfl) _ rfl _ rfl (A := #[.int .i64 1, .int .i64 0]) rfl HN0.out ?_)
  refine (marked_any (1, 0) _ HL.out (wfM (by decide) (by decide))).mono ?_
  rw [HM.out]
  rintro e w6 ⟨rfl, hb⟩
  replace HN0 := Lib.hid (HN0.out.kept hb)
  replace HL := Lib.hid (HL.out.kept hb)
  replace HB := Lib.hid (HB.out.trans (hb.mono HB.out.size))
  clear hb
  go_wp2_with (refine wpList_load_ag stT (by kernel_rfl) _ rfl _ rfl (A := #[.int .i64 1, .int .i64 0]) rfl HN0.out ?_)
  refine (flag_any (1, 0) 1 _ HL.out (wfV (by decide) (by decide) (by decide))).mono ?_
  rw [HF.out, show decide (((0, 0, ⟨#[]⟩) : Pm.Vl) = (4, 1, ⟨#[]⟩)) = false from by decide]
  rintro e w7 ⟨rfl, hb⟩
  replace HB := Lib.hid (HB.out.trans (hb.mono HB.out.size))
  clear hb
  go_wp2
  go_ret
  exact ⟨rfl, HB.out⟩
end Go.Proofs.Ytcenmkcencdlcaa
