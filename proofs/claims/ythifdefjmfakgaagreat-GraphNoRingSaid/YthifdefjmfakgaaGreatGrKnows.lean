/-
  The law's knows: a move that is passed over, as a late one comes ahead of it.
  No conditions.
-/
import Derived.Test.YthifdefjmfakgaaGreatG8
import Derived.Test.YthifdefjmfakgaaGreatG3
import Derived.Test.YthifdefjmfakgaaGreatGrInsert
import Derived.Test.YthifdefjmfakgaaGreatG7
import Derived.Test.YthifdefjmfakgaaGreatG4
namespace Go.Proofs.YthifdefjmfakgaaGreat
open Go.RowKit
open Tm (Sp Tr has put cut kids)

/-- a graph behind w, two stamps in boxes -/
structure Kn (w : World) (gg : Nat) (ops : List Pm.Wr) (χ : Nat → Nat) (b1 b2 : Nat) (W : World) : Prop where
  g : Gra W gg ops χ
  bel : Below w.heap.size w W
  far : ∀ k, 1 ≤ χ k ∧ χ k ≤ 5 → w.heap.size ≤ k
  a : AgAt W b1 (stA (1, 0))
  b : AgAt W b2 (stA (2, 0))
  za : χ b1 = 0
  zb : χ b2 = 0
theorem Kn.goes {w W W' : World} {gg b1 b2 : Nat} {ops ops' : List Pm.Wr} {χ χ' : Nat → Nat} (h : Kn w gg ops χ b1 b2 W) (hg : Gra W' gg ops' χ') (hgo : Goes W χ W' χ') : Kn w gg ops' χ' b1 b2 W' :=
  ⟨hg, h.bel.trans (hgo.turns.below (fun k _ hk => h.far k hk) h.bel.size), fun k hk => by
    by_cases hl : k < W.heap.size
    · rw [hgo.keep k hl] at hk; exact h.far k hk
    · have := h.bel.size; omega, h.a.block (hgo.turns.block _ (AgAt.lt h.a) (by rw [h.za]; decide)), h.b.block (hgo.turns.block _ (AgAt.lt h.b) (by rw [h.zb]; decide)), (hgo.keep _ (AgAt.lt h.a)).trans h.za, (hgo.keep _ (AgAt.lt h.b)).trans h.zb⟩
theorem Kn.kept {w W W' : World} {gg b1 b2 : Nat} {ops : List Pm.Wr} {χ : Nat → Nat} (h : Kn w gg ops χ b1 b2 W) (hb : Below W.heap.size W W') : Kn w gg ops χ b1 b2 W' := h.goes (h.g.kept hb) (Goes.of_below hb)
def KnE (w : World) (gg : Nat) (ops : List Pm.Wr) (b1 b2 : Nat) (W : World) : Prop := ∃ χ, Kn w gg ops χ b1 b2 W
theorem KnE.kept {w W W' : World} {gg b1 b2 : Nat} {ops : List Pm.Wr} (h : KnE w gg ops b1 b2 W) (hb : Below W.heap.size W W') : KnE w gg ops b1 b2 W' := by
  obtain ⟨χ, h⟩ := h
  exact ⟨χ, h.kept hb⟩
theorem k_ins {w W : World} {gg b1 b2 : Nat} {ops ops' : List Pm.Wr} {n : Nat} (y : Pm.Wr) (h : KnE w gg ops b1 b2 W) (hp : y.x.path = []) (hk : y.x.key.size ≤ 200) (ht : y.x.vt.size ≤ 200) (hl : ops.length < 60) (he : Gm.insE ops y = 0 ∧ Gm.insN ops y = n ∧ Gm.insO ops y = ops') :
    Calls Tryz.prog 10 #[ptV gg, .agg #[.int .i64 y.s.1, .int .i64 y.s.2], .agg (opA y.x none 0)] W fun e w' => e = .returned (.tuple #[.int .i64 (n : Int), .int .i64 0]) ∧ KnE w gg ops' b1 b2 w' := by
  obtain ⟨χ, h⟩ := h
  refine (ginsert_any y.s y.x none 0 W h.g ⟨by omega, by omega, by rw [hp]; decide⟩ (Pa.none _ _ hp) hl).mono ?_
  rintro e w' ⟨χ', rfl, hg, hgo⟩
  obtain ⟨h1, h2, h3⟩ := he
  rw [show (⟨y.s, y.x⟩ : Pm.Wr) = y from rfl, h3] at hg
  refine ⟨by rw [show (⟨y.s, y.x⟩ : Pm.Wr) = y from rfl, h1, h2], χ', h.goes hg hgo⟩
theorem k_done {w W : World} {gg b1 b2 : Nat} {ops : List Pm.Wr} {d : Bool} (s : Qm.St) (h : KnE w gg ops b1 b2 W) (hd : d = true ↔ Gm.Did ops s) :
    Calls Tryz.prog 20 #[ptV gg, snV s] W fun e w' => e = .returned (.bool d) ∧ KnE w gg ops b1 b2 w' := by
  obtain ⟨χ, h⟩ := h
  refine (gdone_any s W h.g).mono ?_
  rintro e w' ⟨b, rfl, hb, χ', hg, hgo⟩
  have : b = d := Bool.eq_iff_iff.2 (hb.trans hd.symm)
  exact ⟨by rw [this], χ', h.goes hg hgo⟩
theorem k_spot {w W : World} {gg b1 b2 : Nat} {ops : List Pm.Wr} {v : Sp} (s : Qm.St) (h : KnE w gg ops b1 b2 W) (hn : StWf s) (hd : (Gm.run ops).s s = some v) :
    Calls Tryz.prog 22 #[ptV gg, snV s] W fun e w' => e = .returned (.tuple #[.agg (spA v), .bool true]) ∧ KnE w gg ops b1 b2 w' := by
  obtain ⟨χ, h⟩ := h
  refine (gspot_any s W h.g hn).mono ?_
  rintro e w' ⟨rfl, χ', hg, hgo⟩
  exact ⟨by rw [hd]; rfl, χ', h.goes hg hgo⟩
theorem k_reach {w W : World} {gg b1 b2 : Nat} {ops : List Pm.Wr} (n m : Qm.St) (up : Bool) (h : KnE w gg ops b1 b2 W) (hn : StWf n) (hm : StWf m) (hd : Gm.Leads (Gm.run ops) up n m) :
    Calls Tryz.prog 25 #[ptV gg, snV n, snV m, .bool up] W fun e w' => e = .returned (.bool true) ∧ KnE w gg ops b1 b2 w' := by
  obtain ⟨χ, h⟩ := h
  refine (greach_any n m up W h.g hn hm).mono ?_
  rintro e w' ⟨b, rfl, hb, χ', hg, hgo⟩
  exact ⟨by rw [hb.2 hd], χ', h.goes hg hgo⟩
theorem k_count {w W : World} {gg b1 b2 : Nat} {ops : List Pm.Wr} (h : KnE w gg ops b1 b2 W) :
    Calls Tryz.prog 14 #[ptV gg] W fun e w' => e = .returned (.int .i64 (ops.length : Int)) ∧ W = w' := by
  obtain ⟨χ, h⟩ := h
  exact gcount_any W h.g
/-- .. and one more box -/
def KnQ (w : World) (gg : Nat) (ops : List Pm.Wr) (b1 b2 q : Nat) (A : Array Value) (W : World) : Prop := ∃ χ, Kn w gg ops χ b1 b2 W ∧ AgAt W q A ∧ χ q = 0
theorem KnQ.e {w W : World} {gg b1 b2 q : Nat} {ops : List Pm.Wr} {A : Array Value} (h : KnQ w gg ops b1 b2 q A W) : KnE w gg ops b1 b2 W := by
  obtain ⟨χ, h, -⟩ := h
  exact ⟨χ, h⟩
theorem KnE.q {w W W' : World} {gg b1 b2 : Nat} {ops : List Pm.Wr} {A : Array Value} (h : KnE w gg ops b1 b2 W) (hb : Below W.heap.size W W') (ha : AgAt W' W.heap.size A) : KnQ w gg ops b1 b2 W.heap.size A W' := by
  obtain ⟨χ, h⟩ := h
  refine ⟨χ, h.kept hb, ha, ?_⟩
  cases e : χ W.heap.size with
  | zero => rfl
  | succ n => exact absurd (h.g.lts (k := W.heap.size) (by rw [e]; omega)) (by omega)
theorem k_doneQ {w W : World} {gg b1 b2 q : Nat} {ops : List Pm.Wr} {A : Array Value} {d : Bool} (s : Qm.St) (h : KnQ w gg ops b1 b2 q A W) (hd : d = true ↔ Gm.Did ops s) :
    Calls Tryz.prog 20 #[ptV gg, snV s] W fun e w' => e = .returned (.bool d) ∧ KnQ w gg ops b1 b2 q A w' := by
  obtain ⟨χ, h, ha, hz⟩ := h
  refine (gdone_any s W h.g).mono ?_
  rintro e w' ⟨b, rfl, hb, χ', hg, hgo⟩
  have : b = d := Bool.eq_iff_iff.2 (hb.trans hd.symm)
  exact ⟨by rw [this], χ', h.goes hg hgo, ha.block (hgo.turns.block _ (AgAt.lt ha) (by rw [hz]; decide)), (hgo.keep _ (AgAt.lt ha)).trans hz⟩
set_option maxRecDepth 100000 in
set_option maxHeartbeats 4000000 in
theorem knows13_any (w : World) : Calls Tryz.prog 7 #[] w fun e w' => e = .returned (.bool true) ∧ Below w.heap.size w w' := by
  go_enter Tryz.func7, Tryz.ntmps7
  go_wp2_with fail
  refine (gnew_any w).mono ?_
  rintro e w1 ⟨gg, χ, rfl, hg, hb, hf, hgl, hgz⟩
  have HG := Lib.hid hg
  have HB := Lib.hid hb
  have HF := Lib.hid hf
  clear hg hb hf hgl hgz
  go_upto_region 3 with (refine wpList_store_newag stT rfl _ _ rfl rfl _ (A := stA (1, 0)) rfl rfl rfl (stA_one _ _) ?_; intro w2 hv2 hb2)
  have HV2 := Lib.hid hv2
  have HB2 := Lib.hid hb2
  clear hv2 hb2
  go_upto_region 4 with (refine wpList_store_newag stT rfl _ _ rfl rfl _ (A := stA (2, 0)) rfl rfl rfl (stA_one _ _) ?_; intro w3 hv3 hb3)
  have hb13 := HB2.out.trans (hb3.mono HB2.out.size)
  have HK := Lib.hid (show KnE w gg [] w1.heap.size w2.heap.size w3 from ⟨χ, HG.out.kept hb13, HB.out.trans (hb13.mono HB.out.size), fun k hk => HF.out k (by omega), AgAt.kept HV2.out hb3, hv3, by
      cases e : χ w1.heap.size with
      | zero => rfl
      | succ n => exact absurd (HG.out.lts (by rw [e]; omega)) (by omega), by
      cases e : χ w2.heap.size with
      | zero => rfl
      | succ n => exact absurd (HG.out.lts (by rw [e]; omega)) (by have := HB2.out.size; omega)⟩)
  obtain ⟨b1, hb1⟩ : ∃ b, b = w1.heap.size := ⟨_, rfl⟩
  obtain ⟨b2, hb2⟩ : ∃ b, b = w2.heap.size := ⟨_, rfl⟩
  rw [← hb1, ← hb2] at HK
  rw [← hb1, ← hb2]
  clear hb13 hv3 hb3 HG HB HF HV2 HB2 hb1 hb2
  go_wp2_with (first | (refine wpList_load_ag stT (by kernel_rfl) _ rfl _ rfl (A := stA (1, 0)) rfl (HK.out.choose_spec).a ?_) | (refine wpList_load_ag stT (by kernel_rfl) _ rfl _ rfl (A := stA (2, 0)) rfl (HK.out.choose_spec).b ?_))
  refine (k_ins Gm.kx1 HK.out rfl (by decide) (by decide) (by decide) Gm.k_ins1).mono ?_
  rintro e w4 ⟨rfl, hk⟩
  replace HK := Lib.hid hk
  clear hk
  go_wp2_with (first | (refine wpList_load_ag stT (by kernel_rfl) _ rfl _ rfl (A := stA (1, 0)) rfl (HK.out.choose_spec).a ?_) | (refine wpList_load_ag stT (by kernel_rfl) _ rfl _ rfl (A := stA (2, 0)) rfl (HK.out.choose_spec).b ?_))
  refine (k_ins Gm.kx2 HK.out rfl (by decide) (by decide) (by decide) Gm.k_ins2).mono ?_
  rintro e w5 ⟨rfl, hk⟩
  replace HK := Lib.hid hk
  clear hk
  go_wp2_with (first | (refine wpList_load_ag stT (by kernel_rfl) _ rfl _ rfl (A := stA (1, 0)) rfl (HK.out.choose_spec).a ?_) | (refine wpList_load_ag stT (by kernel_rfl) _ rfl _ rfl (A := stA (2, 0)) rfl (HK.out.choose_spec).b ?_))
  refine (k_ins Gm.kx9 HK.out rfl (by decide) (by decide) (by decide) Gm.k_ins9).mono ?_
  rintro e w6 ⟨rfl, hk⟩
  replace HK := Lib.hid hk
  clear hk
  go_wp2_with fail
  refine (k_done (d := true) (9, 0) HK.out ⟨fun _ => Gm.k_did, fun _ => rfl⟩).mono ?_
  rintro e w7 ⟨rfl, hk⟩
  replace HK := Lib.hid hk
  clear hk
  go_wp2_with (first | (refine wpList_load_ag stT (by kernel_rfl) _ rfl _ rfl (A := stA (1, 0)) rfl (HK.out.choose_spec).a ?_) | (refine wpList_load_ag stT (by kernel_rfl) _ rfl _ rfl (A := stA (2, 0)) rfl (HK.out.choose_spec).b ?_))
  refine (k_ins Gm.kx5 HK.out rfl (by decide) (by decide) (by decide) Gm.k_ins5).mono ?_
  rintro e w8 ⟨rfl, hk⟩
  replace HK := Lib.hid hk
  clear hk
  go_wp2_with (first | (refine wpList_load_ag stT (by kernel_rfl) _ rfl _ rfl (A := stA (1, 0)) rfl (HK.out.choose_spec).a ?_) | (refine wpList_load_ag stT (by kernel_rfl) _ rfl _ rfl (A := stA (2, 0)) rfl (HK.out.choose_spec).b ?_))
  refine (k_spot (v := ((0, 0), ⟨#[97]⟩)) (1, 0) HK.out (by unfold StWf; decide) (by rw [Gm.k_run]; exact Gm.kg5_1)).mono ?_
  rintro e w9 ⟨rfl, hk⟩
  replace HK := Lib.hid hk
  clear hk
  go_upto_region 10 with (refine wpList_store_newag spT rfl _ _ rfl rfl _ (A := spA ((0, 0), ⟨#[97]⟩)) rfl rfl rfl (spA_one _) ?_; intro w10 hv10 hb10)
  have HQ := Lib.hid (HK.out.q hb10 hv10)
  clear hv10 hb10 HK
  go_wp2_with fail
  refine (num13_any _ _).mono ?_
  rintro e wn ⟨rfl, rfl⟩
  go_wp2_with fail
  refine (num13_any _ _).mono ?_
  rintro e wn ⟨rfl, rfl⟩
  go_wp2_with fail
  refine (num13_any _ _).mono ?_
  rintro e wn ⟨rfl, rfl⟩
  go_wp2_with fail
  refine (num13_any _ _).mono ?_
  rintro e wn ⟨rfl, rfl⟩
  go_wp2_with fail
  refine (k_doneQ (d := false) (9, 0) HQ.out ⟨fun h => (by cases h), fun h => absurd h Gm.k_not⟩).mono ?_
  rintro e w11 ⟨rfl, hk⟩
  replace HQ := Lib.hid hk
  have HK := Lib.hid hk.e
  have y0 : w11.cell? ⟨w9.heap.size, 0, none⟩ = some (.int .i64 0) := (AgAt.cell (HQ.out.choose_spec).2.1 0).trans rfl
  have y1 : w11.cell? ⟨w9.heap.size, 1, none⟩ = some (.int .i64 0) := (AgAt.cell (HQ.out.choose_spec).2.1 1).trans rfl
  clear hk
  go_wp2_with (first | (refine wpList_load_ag stT (by kernel_rfl) _ rfl _ rfl (A := stA (1, 0)) rfl (HK.out.choose_spec).a ?_) | (refine wpList_load_ag stT (by kernel_rfl) _ rfl _ rfl (A := stA (2, 0)) rfl (HK.out.choose_spec).b ?_))
  refine (k_reach (2, 0) (1, 0) true HK.out (by unfold StWf; decide) (by unfold StWf; decide) Gm.k_leads).mono ?_
  rintro e w12 ⟨rfl, hk⟩
  replace HK := Lib.hid hk
  clear hk y0 y1 HQ
  go_wp2_with fail
  refine (k_count HK.out).mono ?_
  rintro e w13 ⟨rfl, rfl⟩
  have HE := Lib.hid (HK.out.choose_spec).bel
  go_wp2
  go_ret
  exact ⟨rfl, HE.out⟩
end Go.Proofs.YthifdefjmfakgaaGreat
