/-
  GRAPHANYORDER: the walk: what there is does not hang on the order in which ops were inserted.
  No conditions but sizes.
-/
import Derived.Test.YthifdefjmfakgaaG7
import Derived.Test.YthifdefjmfakgaaGrDuo
import Derived.Test.YthifdefjmfakgaaGrKnows
namespace Go.Proofs.Ythifdefjmfakgaa
open Go.RowKit

set_option maxRecDepth 100000 in
set_option maxHeartbeats 32000000 in
theorem graphAnyOrder_walk (p : Option Addr) (cl : Nat) (l : List WrE) (pt : Option Addr) (ct : Nat) (ts : List Int) (w : World) (h : Ws w p l) (hpn : p = none → cl = 0) (hts : Ints w pt ts ∧ ∀ x ∈ ts, (Lit.int .i64 x).wf = true) (_ : ts.length ≤ ct) (_ : pt = none → ct = 0) (_ : ts.length ≤ 17592186043904) :
    Calls Try.prog 3 #[.slice p l.length cl, .slice pt ts.length ct] w fun e w' => e = .returned (.bool true) ∧ Below w.heap.size w w' := by
  have HR := Lib.hid h
  have HTI := Lib.hid hts
  have HPN := Lib.hid hpn
  have HLI := Lib.hid (light13_any p cl l w h)
  clear h hts hpn
  go_enter Try.func3, Try.ntmps3
  go_wp2_with fail
  refine HLI.out.mono ?_
  rintro e1 w1 ⟨b1, rfl, hsm, hb1⟩
  have HSM1 := Lib.hid hsm
  have HB := Lib.hid hb1
  clear hsm hb1 HLI
  cases b1 with
  | false =>
    go_wp2_with fail
    refine (knows13_any _).mono ?_
    rintro e wk ⟨rfl, hbk⟩
    have HBK := Lib.hid (HB.out.trans (hbk.mono HB.out.size))
    clear hbk
    go_wp2
    go_ret
    exact ⟨rfl, HBK.out⟩
  | true =>
    have HSM := Lib.hid (HSM1.out rfl).2
    have hl40 := (HSM1.out rfl).1
    have HL40 := Lib.hid hl40
    clear HSM1
    go_wp2
    go_loopw [5] (fun i wr => ∃ k : Nat, k ≤ l.length ∧ i = .int .i64 (k : Int) ∧ ApartL l k ∧ Below w.heap.size w wr) (fun i _ => l.length - (intOf i).toNat)
    case atStart => exact ⟨0, Nat.zero_le _, rfl, fun i j a b _ h => by omega, HB.out⟩
    case round =>
      clear HB
      obtain ⟨k, hk, rfl, hap, hbw⟩ := hrel
      have HAP := Lib.hid hap
      have HB0 := Lib.hid hbw
      clear hap hbw
      by_cases hlt : k < l.length
      · have d0 : decide ((k : Int) < (l.length : Int)) = true := decide_eq_true (by omega)
        obtain ⟨b, o, hbo, -⟩ := HR.out.rd.addr (by rw [wrK.length]; omega)
        subst hbo
        obtain ⟨e, he⟩ : ∃ e, l[k]? = some e := ⟨_, List.getElem?_eq_getElem hlt⟩
        obtain ⟨⟨⟨s1, s2⟩, x⟩, q, cc⟩ := e
        have HE := Lib.hid he
        clear he
        go_wp2
        go_loopw [6] (fun i wr => ∃ j : Nat, j ≤ k ∧ i = .int .i64 (j : Int) ∧ (∀ j' b, j' < j → l[j']? = some b → ((s1, s2) : Qm.St) ≠ b.w.s) ∧ Below w.heap.size w wr) (fun i _ => k - (intOf i).toNat)
        case atStart => exact ⟨0, Nat.zero_le _, rfl, fun j' b h => by omega, HB0.out⟩
        case round =>
          obtain ⟨j, hj, rfl, hin, hbw⟩ := hrel
          have HIN := Lib.hid hin
          have HB := Lib.hid hbw
          clear hin hbw
          by_cases hjk : j < k
          · have d1 : decide ((j : Int) < (k : Int)) = true := decide_eq_true (by omega)
            have hjl : j < l.length := by omega
            obtain ⟨e2, he2⟩ : ∃ e, l[j]? = some e := ⟨_, List.getElem?_eq_getElem hjl⟩
            obtain ⟨⟨⟨t1, t2⟩, x2⟩, q2, c2⟩ := e2
            have HE2 := Lib.hid he2
            by_cases heq : ((s1, s2) : Qm.St) = (t1, t2)
            · have HEQ := Lib.hid (show decide (((s1, s2) : Qm.St) = (t1, t2)) = true from decide_eq_true heq)
              clear heq he2
              go_upto_region 9 with fail
              refine wp_region_held_drew (S := fun W => Below wr.heap.size wr W) (by kernel_rfl) (Below.drew (Below.refl _ _)) (fun hS => ?_)
              refine wpAnyH_take (i := 0) (v := ?_) rfl (by kernel_rfl) (by kernel_rfl) (by kernel_rfl) (fun _ _ _ h => h) (Or.inl ⟨by kernel_rfl, ?_⟩) hS ?_
              rotate_left
              · intro W hSW
                go_simp
                all_goals with_reducible rfl
              refine wpAnyH_take (i := 1) (v := ?_) rfl (by kernel_rfl) (by kernel_rfl) (by kernel_rfl) (fun _ _ _ h => h) (Or.inl ⟨by kernel_rfl, ?_⟩) hS ?_
              rotate_left
              · intro W hSW
                go_simp
                all_goals with_reducible rfl
              refine wpAnyH_take (i := 2) (v := ?_) rfl (by kernel_rfl) (by kernel_rfl) (by kernel_rfl) (fun _ _ _ h => h) (Or.inl ⟨by kernel_rfl, ?_⟩) hS ?_
              rotate_left
              · intro W hSW
                go_simp
                all_goals with_reducible rfl
              refine wpAnyH_take (i := 3) (v := ?_) rfl (by kernel_rfl) (by kernel_rfl) (by kernel_rfl) (fun _ _ _ h => h) (Or.inl ⟨by kernel_rfl, ?_⟩) hS ?_
              rotate_left
              · intro W hSW
                go_simp
                all_goals with_reducible rfl
              go_simp
              refine wpAnyH_take (i := 4) (v := .agg #[.int .i64 s1, .int .i64 s2]) rfl (by kernel_rfl) (by kernel_rfl) (by kernel_rfl) (fun _ _ _ h => h) (Or.inl ⟨by kernel_rfl, fun W hSW => exec_wr_st rfl rfl (HR.out.rd.below (HB.out.trans (hSW.mono HB.out.size))) HE.out⟩) hS ?_
              refine wpAnyH_take (i := 5) (v := ?_) rfl (by kernel_rfl) (by kernel_rfl) (by kernel_rfl) (fun _ _ _ h => h) (Or.inl ⟨by kernel_rfl, ?_⟩) hS ?_
              rotate_left
              · intro W hSW
                go_simp
                all_goals with_reducible rfl
              refine wpAnyH_take (i := 6) (v := ?_) rfl (by kernel_rfl) (by kernel_rfl) (by kernel_rfl) (fun _ _ _ h => h) (Or.inl ⟨by kernel_rfl, ?_⟩) hS ?_
              rotate_left
              · intro W hSW
                go_simp
                all_goals with_reducible rfl
              refine wpAnyH_take (i := 7) (v := ?_) rfl (by kernel_rfl) (by kernel_rfl) (by kernel_rfl) (fun _ _ _ h => h) (Or.inl ⟨by kernel_rfl, ?_⟩) hS ?_
              rotate_left
              · intro W hSW
                go_simp
                all_goals with_reducible rfl
              go_simp
              refine wpAnyH_take (i := 8) (v := ?_) rfl (by kernel_rfl) (by kernel_rfl) (by kernel_rfl) (fun _ _ _ h => h) (Or.inl ⟨by kernel_rfl, ?_⟩) hS ?_
              rotate_left
              · intro W hSW
                go_simp
                all_goals with_reducible rfl
              go_simp
              refine wpAnyH_take (i := 9) (v := .agg #[.int .i64 t1, .int .i64 t2]) rfl (by kernel_rfl) (by kernel_rfl) (by kernel_rfl) (fun _ _ _ h => h) (Or.inl ⟨by kernel_rfl, fun W hSW => exec_wr_st rfl rfl (HR.out.rd.below (HB.out.trans (hSW.mono HB.out.size))) HE2.out⟩) hS ?_
              go_simp
              refine wpAnyH_take (i := 10) (v := .bool true) rfl (by kernel_rfl) (by kernel_rfl) (by kernel_rfl) (fun _ _ _ h => h) (Or.inl ⟨by kernel_rfl, fun W hSW => (exec_eql_st rfl (s1, s2) (t1, t2) rfl rfl).trans (by rw [HEQ.out])⟩) hS ?_
              go_simp
              refine wpAnyH_done (by kernel_rfl) ?_ _
              go_simp
              have HN := Lib.hid (HB.out.trans (hS.mono HB.out.size))
              clear hS HPN HTI
              go_wp2_with fail
              refine (knows13_any _).mono ?_
              rintro e wk ⟨rfl, hbk⟩
              have HBK := Lib.hid (HN.out.trans (hbk.mono HN.out.size))
              clear hbk
              go_wp2
              go_ret
              exact ⟨rfl, HBK.out⟩
            · have HEQ := Lib.hid (show decide (((s1, s2) : Qm.St) = (t1, t2)) = false from decide_eq_false heq)
              have HNX := Lib.hid (show ∀ j' b, j' < j + 1 → l[j']? = some b → ((s1, s2) : Qm.St) ≠ b.w.s from fun j' b h1 h2 => by
                by_cases e : j' = j
                · subst e; rw [he2] at h2; cases h2; exact heq
                · exact HIN.out j' b (by omega) h2)
              clear heq he2
              go_upto_region 9 with fail
              refine wp_region_held_drew (S := fun W => Below wr.heap.size wr W) (by kernel_rfl) (Below.drew (Below.refl _ _)) (fun hS => ?_)
              refine wpAnyH_take (i := 0) (v := ?_) rfl (by kernel_rfl) (by kernel_rfl) (by kernel_rfl) (fun _ _ _ h => h) (Or.inl ⟨by kernel_rfl, ?_⟩) hS ?_
              rotate_left
              · intro W hSW
                go_simp
                all_goals with_reducible rfl
              refine wpAnyH_take (i := 1) (v := ?_) rfl (by kernel_rfl) (by kernel_rfl) (by kernel_rfl) (fun _ _ _ h => h) (Or.inl ⟨by kernel_rfl, ?_⟩) hS ?_
              rotate_left
              · intro W hSW
                go_simp
                all_goals with_reducible rfl
              refine wpAnyH_take (i := 2) (v := ?_) rfl (by kernel_rfl) (by kernel_rfl) (by kernel_rfl) (fun _ _ _ h => h) (Or.inl ⟨by kernel_rfl, ?_⟩) hS ?_
              rotate_left
              · intro W hSW
                go_simp
                all_goals with_reducible rfl
              refine wpAnyH_take (i := 3) (v := ?_) rfl (by kernel_rfl) (by kernel_rfl) (by kernel_rfl) (fun _ _ _ h => h) (Or.inl ⟨by kernel_rfl, ?_⟩) hS ?_
              rotate_left
              · intro W hSW
                go_simp
                all_goals with_reducible rfl
              go_simp
              refine wpAnyH_take (i := 4) (v := .agg #[.int .i64 s1, .int .i64 s2]) rfl (by kernel_rfl) (by kernel_rfl) (by kernel_rfl) (fun _ _ _ h => h) (Or.inl ⟨by kernel_rfl, fun W hSW => exec_wr_st rfl rfl (HR.out.rd.below (HB.out.trans (hSW.mono HB.out.size))) HE.out⟩) hS ?_
              refine wpAnyH_take (i := 5) (v := ?_) rfl (by kernel_rfl) (by kernel_rfl) (by kernel_rfl) (fun _ _ _ h => h) (Or.inl ⟨by kernel_rfl, ?_⟩) hS ?_
              rotate_left
              · intro W hSW
                go_simp
                all_goals with_reducible rfl
              refine wpAnyH_take (i := 6) (v := ?_) rfl (by kernel_rfl) (by kernel_rfl) (by kernel_rfl) (fun _ _ _ h => h) (Or.inl ⟨by kernel_rfl, ?_⟩) hS ?_
              rotate_left
              · intro W hSW
                go_simp
                all_goals with_reducible rfl
              refine wpAnyH_take (i := 7) (v := ?_) rfl (by kernel_rfl) (by kernel_rfl) (by kernel_rfl) (fun _ _ _ h => h) (Or.inl ⟨by kernel_rfl, ?_⟩) hS ?_
              rotate_left
              · intro W hSW
                go_simp
                all_goals with_reducible rfl
              go_simp
              refine wpAnyH_take (i := 8) (v := ?_) rfl (by kernel_rfl) (by kernel_rfl) (by kernel_rfl) (fun _ _ _ h => h) (Or.inl ⟨by kernel_rfl, ?_⟩) hS ?_
              rotate_left
              · intro W hSW
                go_simp
                all_goals with_reducible rfl
              go_simp
              refine wpAnyH_take (i := 9) (v := .agg #[.int .i64 t1, .int .i64 t2]) rfl (by kernel_rfl) (by kernel_rfl) (by kernel_rfl) (fun _ _ _ h => h) (Or.inl ⟨by kernel_rfl, fun W hSW => exec_wr_st rfl rfl (HR.out.rd.below (HB.out.trans (hSW.mono HB.out.size))) HE2.out⟩) hS ?_
              go_simp
              refine wpAnyH_take (i := 10) (v := .bool false) rfl (by kernel_rfl) (by kernel_rfl) (by kernel_rfl) (fun _ _ _ h => h) (Or.inl ⟨by kernel_rfl, fun W hSW => (exec_eql_st rfl (s1, s2) (t1, t2) rfl rfl).trans (by rw [HEQ.out])⟩) hS ?_
              go_simp
              refine wpAnyH_done (by kernel_rfl) ?_ _
              go_simp
              have HN := Lib.hid (HB.out.trans (hS.mono HB.out.size))
              clear hS
              go_wp2
              go_roundw
              case rel => exact ⟨j + 1, by omega, by go_num, HNX.out, HN.out⟩
              case measure => simp [intOf]; omega
          · obtain rfl : j = k := by omega
            have d1 : decide ((j : Int) < (j : Int)) = false := decide_eq_false (by omega)
            have HNX := Lib.hid (show ApartL l (j + 1) from fun i j' a b h1 h2 h3 h4 => by
              by_cases e : i = j
              · subst e
                rw [HE.out] at h3
                cases h3
                exact HIN.out j' b h1 h4
              · exact HAP.out i j' a b h1 (by omega) h3 h4)
            go_wp2
            go_roundw
            case rel => exact ⟨j + 1, by omega, by go_num, HNX.out, HB.out⟩
            case measure => simp [intOf]; omega
      · obtain rfl : k = l.length := by omega
        have d0 : decide ((l.length : Int) < (l.length : Int)) = false := decide_eq_false (by omega)
        have HLO := Lib.hid HAP.out.lone
        have HB := Lib.hid HB0.out
        clear HAP HB0 hlt hk
        obtain ⟨w2, hw2⟩ : ∃ w2 : World, w2 = wr := ⟨_, rfl⟩
        subst hw2
        go_wp2_with fail
        refine (gnew_any w2).mono ?_
        rintro e w3 ⟨gg, χ, rfl, hg3, hb3, f3, -, -⟩
        go_wp2_with fail
        refine (gnew_any w3).mono ?_
        rintro e w4 ⟨hh, χ', rfl, hg4, hb4, f4, g4, -⟩
        have HG := Lib.hid (GD.made HB.out hg3 hb3 f3 hg4 hb4 f4 g4)
        clear hg3 hb3 f3 hg4 hb4 f4 g4 HB
        go_wp2_with fail
        refine (knows13_any _).mono ?_
        rintro e w5 ⟨rfl, hbk⟩
        replace HG := Lib.hid (HG.out.kept hbk)
        clear hbk
        have HE0 := Lib.hid (wrK.empty (Below.refl w5.heap.size w5) (Nat.le_refl _))
        have HB5 := Lib.hid ((Below.refl w5.heap.size w5).alloc (Nat.le_refl _) (.cells #[] 34))
        have HRA := Lib.hid (HR.out.rd.below (HG.out.bel.trans (HB5.out.mono HG.out.bel.size)))
        have hl60 := HL40.out
        go_wp2_with (refine wrK.wpAppend rfl _ _ rfl w5.heap.size [] l l rfl rfl HE0.out p cl rfl HRA.out HPN.out (by simp only [List.length_nil]; omega) (HB5.out.size) ?_; intro py cy wy hoy hgy)
        clear hl60
        have HBY := Lib.hid (HB5.out.trans ((Turns.of_grown hgy).below (fun k _ hk => by cases hk; exact Nat.le_refl _) HB5.out.size))
        have HRO0 := Lib.hid hoy
        have HY5 := Lib.hid (show w5.heap.size ≤ wy.heap.size from HBY.out.size)
        have HW5 := Lib.hid (show w.heap.size ≤ w5.heap.size from HG.out.bel.size)
        clear hoy hgy HRA HE0 HB5
        go_wp2
        go_loopw [10] (fun i wr => ∃ (k : Nat) (ly : List WrE), k ≤ ts.length ∧ k ≤ 60 ∧ i = .int .i64 (k : Int) ∧ ly.length = l.length ∧ ly.Perm l ∧ wr.ownsRow w5.heap.size 34 14 (.slice py l.length cy) l.length (ly.flatMap ceW) ∧ Below w5.heap.size wy wr) (fun i _ => 60 - (intOf i).toNat)
        case atStart => exact ⟨0, l, Nat.zero_le _, by omega, rfl, rfl, List.Perm.refl _, HRO0.out, Below.refl _ _⟩
        case round =>
          clear HRO0
          obtain ⟨k, ly, hkt, hk60, rfl, hll, hpy, hry, hby⟩ := hrel
          have HRO := Lib.hid hry
          have HPY := Lib.hid hpy
          have HBD := Lib.hid hby
          have HLY := Lib.hid hll
          clear hry hpy hby hll
          by_cases hgo : k < ts.length ∧ k < 60 ∧ 0 < l.length
          · obtain ⟨g1, g2, g3⟩ := hgo
            have d1 : decide ((k : Int) < (ts.length : Int)) = true := decide_eq_true (by omega)
            have d2 : decide ((k : Int) < 60) = true := decide_eq_true (by omega)
            have d3 : decide (0 < (l.length : Int)) = true := decide_eq_true (by omega)
            have hry := HRO.out
            rw [← HLY.out] at hry
            obtain ⟨p', c', e10, -, -, -, -, h410⟩ := own_rd hry
            obtain ⟨g, o, hq10, -⟩ := (own_rdK hry).1.addr (by rw [wrK.length, HLY.out]; omega)
            subst hq10
            have ho0 : o = 0 := by cases e10; have := (h410 _ rfl).2.2.2; simpa using this
            subst ho0
            have HGB := Lib.hid (World.ownsRow.lt hry g rfl).1
            replace HRO := Lib.hid hry
            clear e10 h410 hry
            obtain ⟨bt, ot, hbt, hct⟩ := HTI.out.1 (by omega)
            subst hbt
            have yt := hct k g1
            have HBWR := Lib.hid (show Below w.heap.size w wr from HG.out.bel.trans ((HBY.out.trans HBD.out).mono HW5.out))
            have yt' := HBWR.out.cell (cell_lt yt)
            rw [yt] at yt'
            have HPIX := Lib.hid (turn_index (ts.getD k 0) l.length g3)
            obtain ⟨pi, hpi0, hpi1, hp2, hp3⟩ := HPIX.out
            have hl60 := HL40.out
            have hwt : IntKind.i64.wrap ((ts.getD k 0).tmod (l.length : Int) + (l.length : Int)) = (ts.getD k 0).tmod (l.length : Int) + (l.length : Int) := wraps_i64 _ hp2 (by omega)
            clear hp2 hp3 hl60
            have hqi0 := turn_k k l.length
            obtain ⟨qi, hqq⟩ : ∃ qi, k % l.length = qi := ⟨_, rfl⟩
            rw [hqq] at hqi0
            have hqi1 : qi < l.length := by rw [← hqq]; exact Nat.mod_lt _ g3
            have HpiL := Lib.hid hpi1
            have HqiL := Lib.hid hqi1
            have HPL := Lib.hid (show pi < ly.length from by rw [HLY.out]; exact hpi1)
            have HQL := Lib.hid (show qi < ly.length from by rw [HLY.out]; exact hqi1)
            obtain ⟨ep, hep⟩ : ∃ e, ly[pi]? = some e := ⟨_, List.getElem?_eq_getElem HPL.out⟩
            obtain ⟨eq, heq⟩ : ∃ e, ly[qi]? = some e := ⟨_, List.getElem?_eq_getElem HQL.out⟩
            have HPI := Lib.hid hep
            have HQI := Lib.hid heq
            generalize ts.getD k 0 = tv at *
            clear hct yt hqq HPIX hep heq
            go_upto_region 21 with fail
            refine wp_region_held_drew (S := fun _ => True) (by kernel_rfl) trivial (fun hS => ?_)
            replace HRO := Lib.hid (own_belowK HRO.out (Below.drew (Below.refl _ _)))
            replace HBD := Lib.hid HBD.out.drew
            generalize wr.drew = wd at *
            have HRY := Lib.hid (own_rdK HRO.out).1
            refine wpAnyH_take (i := 0) (v := ?_) rfl (by kernel_rfl) (by kernel_rfl) (by kernel_rfl) (fun _ _ _ h => h) (Or.inl ⟨by kernel_rfl, ?_⟩) hS ?_
            rotate_left
            · intro W hSW
              go_simp
              all_goals with_reducible rfl
            refine wpAnyH_take (i := 1) (v := ?_) rfl (by kernel_rfl) (by kernel_rfl) (by kernel_rfl) (fun _ _ _ h => h) (Or.inl ⟨by kernel_rfl, ?_⟩) hS ?_
            rotate_left
            · intro W hSW
              go_simp
              all_goals with_reducible rfl
            refine wpAnyH_take (i := 2) (v := ?_) rfl (by kernel_rfl) (by kernel_rfl) (by kernel_rfl) (fun _ _ _ h => h) (Or.inl ⟨by kernel_rfl, ?_⟩) hS ?_
            rotate_left
            · intro W hSW
              go_simp
              all_goals with_reducible rfl
            refine wpAnyH_take (i := 3) (v := ?_) rfl (by kernel_rfl) (by kernel_rfl) (by kernel_rfl) (fun _ _ _ h => h) (Or.inl ⟨by kernel_rfl, ?_⟩) hS ?_
            rotate_left
            · intro W hSW
              go_simp
              all_goals with_reducible rfl
            go_simp
            refine wpAnyH_take (i := 4) (v := ?_) rfl (by kernel_rfl) (by kernel_rfl) (by kernel_rfl) (fun _ _ _ h => h) (Or.inl ⟨by kernel_rfl, ?_⟩) hS ?_
            rotate_left
            · intro W hSW
              go_simp
              all_goals with_reducible rfl
            refine wpAnyH_take (i := 5) (v := ?_) rfl (by kernel_rfl) (by kernel_rfl) (by kernel_rfl) (fun _ _ _ h => h) (Or.inl ⟨by kernel_rfl, ?_⟩) hS ?_
            rotate_left
            · intro W hSW
              go_simp
              all_goals with_reducible rfl
            refine wpAnyH_take (i := 6) (v := ?_) rfl (by kernel_rfl) (by kernel_rfl) (by kernel_rfl) (fun _ _ _ h => h) (Or.inl ⟨by kernel_rfl, ?_⟩) hS ?_
            rotate_left
            · intro W hSW
              have hqi := HqiL.out
              go_simp
              all_goals with_reducible rfl
            refine wpAnyH_take (i := 8) (v := ?_) rfl (by kernel_rfl) (by kernel_rfl) (by kernel_rfl) (fun _ _ _ h => h) (Or.inl ⟨by kernel_rfl, ?_⟩) hS ?_
            rotate_left
            · intro W hSW
              go_simp
              all_goals with_reducible rfl
            go_simp
            refine wpAnyH_take (i := 9) (v := ?_) rfl (by kernel_rfl) (by kernel_rfl) (by kernel_rfl) (fun _ _ _ h => h) (Or.inl ⟨by kernel_rfl, ?_⟩) hS ?_
            rotate_left
            · intro W hSW
              go_simp
              all_goals with_reducible rfl
            refine wpAnyH_take (i := 10) (v := ?_) rfl (by kernel_rfl) (by kernel_rfl) (by kernel_rfl) (fun _ _ _ h => h) (Or.inl ⟨by kernel_rfl, ?_⟩) hS ?_
            rotate_left
            · intro W hSW
              have hpi := HpiL.out
              go_simp
              all_goals with_reducible rfl
            go_simp
            refine wpAnyH_ready (rs := [7, 11]) (by kernel_rfl) (by simp) ?_
            refine AllReadyH.cons rfl (fun K hK => ?_) (AllReadyH.cons rfl (fun K hK => ?_) AllReadyH.nil)
            · refine step_of (by kernel_rfl) ?_
              refine wrK.wpLoad (s := 0) (i := qi) rfl (by show _ = Value.pointer (some ⟨g, 0 + qi * 14, none⟩); rw [Nat.zero_add]; rfl) HRY.out HQI.out ?_
              refine hK.out _ _ trivial (fun hS => ?_)
              clear hK K
              refine wpAnyH_ready (rs := [11]) (by kernel_rfl) (by simp) ?_
              refine AllReadyH.cons rfl (fun K hK => ?_) AllReadyH.nil
              refine step_of (by kernel_rfl) ?_
              refine wrK.wpLoad (s := 0) (i := pi) rfl (by show _ = Value.pointer (some ⟨g, 0 + pi * 14, none⟩); rw [Nat.zero_add]; rfl) HRY.out HPI.out ?_
              refine hK.out _ _ trivial (fun hS => ?_)
              clear hK K
              refine wpAnyH_take (i := 12) (v := ?_) rfl (by kernel_rfl) (by kernel_rfl) (by kernel_rfl) (fun _ _ _ h => h) (Or.inl ⟨by kernel_rfl, ?_⟩) hS ?_
              rotate_left
              · intro W hSW
                have hpi := HpiL.out
                go_simp
                all_goals with_reducible rfl
              go_simp
              refine wpAnyH_ready (rs := [13]) (by kernel_rfl) (by simp) ?_
              refine AllReadyH.cons rfl (fun K hK => ?_) AllReadyH.nil
              have hset := wr_set HRO.out HPI.out eq
              have HR1 := Lib.hid hset.1
              have HG1 := Lib.hid hset.2
              refine step_of (by kernel_rfl) ?_
              refine wp_store_mid _ _ _ rfl g (pi * 14) (wrA eq) rfl rfl (own_there HRO.out _ _ (by rw [wrK.length]; show pi * 14 + 14 ≤ _; have := HPL.out; omega)) wrT.size (wrA_one _) ?_
              have hc1 : wd.setCells g (pi * 14) (wrA eq).toList = wd.setCells g (pi * 14) (ceW eq) := rfl
              rw [hc1]
              refine hK.out _ _ trivial (fun hS => ?_)
              clear hK K hset hc1
              generalize wd.setCells g (pi * 14) (ceW eq) = we at *
              refine wpAnyH_take (i := 14) (v := ?_) rfl (by kernel_rfl) (by kernel_rfl) (by kernel_rfl) (fun _ _ _ h => h) (Or.inl ⟨by kernel_rfl, ?_⟩) hS ?_
              rotate_left
              · intro W hSW
                have hqi := HqiL.out
                go_simp
                all_goals with_reducible rfl
              go_simp
              refine wpAnyH_ready (rs := [15]) (by kernel_rfl) (by simp) ?_
              refine AllReadyH.cons rfl (fun K hK => ?_) AllReadyH.nil
              have HQ2 := Lib.hid (show ∃ z, (ly.set pi eq)[qi]? = some z from ⟨_, List.getElem?_eq_getElem (by rw [List.length_set]; exact HQL.out)⟩)
              obtain ⟨z, hz⟩ := HQ2.out
              have hset := wr_set HR1.out hz ep
              have HR2 := Lib.hid hset.1
              have HG2 := Lib.hid hset.2
              refine step_of (by kernel_rfl) ?_
              refine wp_store_mid _ _ _ rfl g (qi * 14) (wrA ep) rfl rfl (own_there HR1.out _ _ (by rw [wrK.length, List.length_set]; show qi * 14 + 14 ≤ _; have := HQL.out; omega)) wrT.size (wrA_one _) ?_
              have hc2 : we.setCells g (qi * 14) (wrA ep).toList = we.setCells g (qi * 14) (ceW ep) := rfl
              rw [hc2]
              refine hK.out _ _ trivial (fun hS => ?_)
              clear hK K hset hc2 hz HQ2
              generalize we.setCells g (qi * 14) (ceW ep) = wf at *
              refine wpAnyH_done (by kernel_rfl) ?_ _
              go_simp
              clear hS
              have HPM := Lib.hid ((wr_swap HPI.out HQI.out).trans HPY.out)
              have HLE := Lib.hid (show ((ly.set pi eq).set qi ep).length = l.length from by rw [List.length_set, List.length_set]; exact HLY.out)
              have HBF := Lib.hid (show Below w5.heap.size wy wf from (HBD.out.trans ((Turns.of_grown HG1.out).below (fun k _ hk => by cases hk; exact HGB.out) (Nat.le_trans HY5.out HBD.out.size))).trans ((Turns.of_grown HG2.out).below (fun k _ hk => by cases hk; exact HGB.out) (Nat.le_trans (Nat.le_trans HY5.out HBD.out.size) HG1.out.size)))
              have hr2 := HR2.out
              rw [HLE.out] at hr2
              have HR3 := Lib.hid hr2
              clear hr2
              go_wp2
              go_roundw
              case rel => exact ⟨k + 1, _, by omega, by omega, by go_num, HLE.out, HPM.out, HR3.out, HBF.out⟩
              case measure => simp [intOf]; omega
            · refine step_of (by kernel_rfl) ?_
              refine wrK.wpLoad (s := 0) (i := pi) rfl (by show _ = Value.pointer (some ⟨g, 0 + pi * 14, none⟩); rw [Nat.zero_add]; rfl) HRY.out HPI.out ?_
              refine hK.out _ _ trivial (fun hS => ?_)
              clear hK K
              refine wpAnyH_ready (rs := [7]) (by kernel_rfl) (by simp) ?_
              refine AllReadyH.cons rfl (fun K hK => ?_) AllReadyH.nil
              refine step_of (by kernel_rfl) ?_
              refine wrK.wpLoad (s := 0) (i := qi) rfl (by show _ = Value.pointer (some ⟨g, 0 + qi * 14, none⟩); rw [Nat.zero_add]; rfl) HRY.out HQI.out ?_
              refine hK.out _ _ trivial (fun hS => ?_)
              clear hK K
              refine wpAnyH_take (i := 12) (v := ?_) rfl (by kernel_rfl) (by kernel_rfl) (by kernel_rfl) (fun _ _ _ h => h) (Or.inl ⟨by kernel_rfl, ?_⟩) hS ?_
              rotate_left
              · intro W hSW
                have hpi := HpiL.out
                go_simp
                all_goals with_reducible rfl
              go_simp
              refine wpAnyH_ready (rs := [13]) (by kernel_rfl) (by simp) ?_
              refine AllReadyH.cons rfl (fun K hK => ?_) AllReadyH.nil
              have hset := wr_set HRO.out HPI.out eq
              have HR1 := Lib.hid hset.1
              have HG1 := Lib.hid hset.2
              refine step_of (by kernel_rfl) ?_
              refine wp_store_mid _ _ _ rfl g (pi * 14) (wrA eq) rfl rfl (own_there HRO.out _ _ (by rw [wrK.length]; show pi * 14 + 14 ≤ _; have := HPL.out; omega)) wrT.size (wrA_one _) ?_
              have hc1 : wd.setCells g (pi * 14) (wrA eq).toList = wd.setCells g (pi * 14) (ceW eq) := rfl
              rw [hc1]
              refine hK.out _ _ trivial (fun hS => ?_)
              clear hK K hset hc1
              generalize wd.setCells g (pi * 14) (ceW eq) = we at *
              refine wpAnyH_take (i := 14) (v := ?_) rfl (by kernel_rfl) (by kernel_rfl) (by kernel_rfl) (fun _ _ _ h => h) (Or.inl ⟨by kernel_rfl, ?_⟩) hS ?_
              rotate_left
              · intro W hSW
                have hqi := HqiL.out
                go_simp
                all_goals with_reducible rfl
              go_simp
              refine wpAnyH_ready (rs := [15]) (by kernel_rfl) (by simp) ?_
              refine AllReadyH.cons rfl (fun K hK => ?_) AllReadyH.nil
              have HQ2 := Lib.hid (show ∃ z, (ly.set pi eq)[qi]? = some z from ⟨_, List.getElem?_eq_getElem (by rw [List.length_set]; exact HQL.out)⟩)
              obtain ⟨z, hz⟩ := HQ2.out
              have hset := wr_set HR1.out hz ep
              have HR2 := Lib.hid hset.1
              have HG2 := Lib.hid hset.2
              refine step_of (by kernel_rfl) ?_
              refine wp_store_mid _ _ _ rfl g (qi * 14) (wrA ep) rfl rfl (own_there HR1.out _ _ (by rw [wrK.length, List.length_set]; show qi * 14 + 14 ≤ _; have := HQL.out; omega)) wrT.size (wrA_one _) ?_
              have hc2 : we.setCells g (qi * 14) (wrA ep).toList = we.setCells g (qi * 14) (ceW ep) := rfl
              rw [hc2]
              refine hK.out _ _ trivial (fun hS => ?_)
              clear hK K hset hc2 hz HQ2
              generalize we.setCells g (qi * 14) (ceW ep) = wf at *
              refine wpAnyH_done (by kernel_rfl) ?_ _
              go_simp
              clear hS
              have HPM := Lib.hid ((wr_swap HPI.out HQI.out).trans HPY.out)
              have HLE := Lib.hid (show ((ly.set pi eq).set qi ep).length = l.length from by rw [List.length_set, List.length_set]; exact HLY.out)
              have HBF := Lib.hid (show Below w5.heap.size wy wf from (HBD.out.trans ((Turns.of_grown HG1.out).below (fun k _ hk => by cases hk; exact HGB.out) (Nat.le_trans HY5.out HBD.out.size))).trans ((Turns.of_grown HG2.out).below (fun k _ hk => by cases hk; exact HGB.out) (Nat.le_trans (Nat.le_trans HY5.out HBD.out.size) HG1.out.size)))
              have hr2 := HR2.out
              rw [HLE.out] at hr2
              have HR3 := Lib.hid hr2
              clear hr2
              go_wp2
              go_roundw
              case rel => exact ⟨k + 1, _, by omega, by omega, by go_num, HLE.out, HPM.out, HR3.out, HBF.out⟩
              case measure => simp [intOf]; omega
          · obtain ⟨w12, hw12⟩ : ∃ w12 : World, w12 = wr := ⟨_, rfl⟩
            subst hw12
            by_cases a1 : k < ts.length
            · have d1 : decide ((k : Int) < (ts.length : Int)) = true := decide_eq_true (by omega)
              by_cases a2 : k < 60
              · have d2 : decide ((k : Int) < 60) = true := decide_eq_true (by omega)
                have hl0 : ¬ 0 < l.length := fun h => hgo ⟨a1, a2, h⟩
                have d3 : decide (0 < (l.length : Int)) = false := decide_eq_false (by omega)
                clear hgo
                have hown := HRO.out
                rw [← HLY.out] at hown
                have HG12 := Lib.hid (show GD w gg (Gm.insAll ((pl l).take 0)) hh (Gm.insAll ((pl ly).take 0)) py (ly.flatMap ceW) w12 from HG.out.beside (HBY.out.trans HBD.out) (own_rdK hown).1 (fun a ha => by
                  have h1 := (own_rdK hown).2.2.2 a ha
                  refine ⟨h1, ?_⟩
                  have h2 := World.ownsRow.lt hown a.block (by rw [ha]; rfl)
                  exact h2.2))
                clear hown HRO HG HBD HBY
                go_wp2
                go_loopw [13] (fun i wr => ∃ k : Nat, k ≤ l.length ∧ i = .int .i64 (k : Int) ∧ GD w gg (Gm.insAll ((pl l).take k)) hh (Gm.insAll ((pl ly).take k)) py (ly.flatMap ceW) wr) (fun i _ => l.length - (intOf i).toNat)
                case atStart => exact ⟨0, Nat.zero_le _, rfl, HG12.out⟩
                case round =>
                  clear HG12
                  obtain ⟨k, hk, rfl, hg⟩ := hrel
                  have HG := Lib.hid hg
                  clear hg
                  by_cases hlt : k < l.length
                  · have d0 : decide ((k : Int) < (l.length : Int)) = true := decide_eq_true (by omega)
                    obtain ⟨b, o, hbo, -⟩ := HR.out.rd.addr (by rw [wrK.length]; omega)
                    subst hbo
                    obtain ⟨g, oy, hgy, -⟩ := HG.out.row.addr (by rw [wrK.length, HLY.out]; omega)
                    subst hgy
                    obtain ⟨e, he⟩ : ∃ e, l[k]? = some e := ⟨_, List.getElem?_eq_getElem hlt⟩
                    obtain ⟨e2, he2⟩ : ∃ e, ly[k]? = some e := ⟨_, List.getElem?_eq_getElem (by rw [HLY.out]; exact hlt)⟩
                    have hm2 : e2 ∈ l := HPY.out.mem_iff.1 (List.mem_of_getElem? he2)
                    have HPE := Lib.hid ((HR.out.pa _ (List.mem_of_getElem? he)).kept HG.out.bel)
                    have HS1 := Lib.hid (HSM.out _ (List.mem_of_getElem? he))
                    have HPY2 := Lib.hid (HR.out.pa _ hm2)
                    have HS12 := Lib.hid (HSM.out _ hm2)
                    have HAG := Lib.hid (all_take he)
                    have HAG2 := Lib.hid (all_take he2)
                    have HFW := Lib.hid (few_take (l := l) hlt HL40.out)
                    have HFW2 := Lib.hid (few_take (l := ly) (by rw [HLY.out]; exact hlt) (by rw [HLY.out]; exact HL40.out))
                    obtain ⟨⟨⟨s1, s2⟩, x⟩, q, c⟩ := e
                    obtain ⟨⟨⟨t1, t2⟩, y⟩, qq, cc⟩ := e2
                    have HE := Lib.hid he
                    have HE2 := Lib.hid he2
                    have hlt2 : k < ly.length := by rw [HLY.out]; exact hlt
                    clear he he2 hm2
                    go_upto_region 25 with fail
                    refine wp_region_held_drew (S := fun W => Rd W (some ⟨b, o, none⟩) (l.flatMap ceW)) (by kernel_rfl) ((HR.out.rd.below HG.out.bel).below (Below.drew (Below.refl _ _))) (fun hS => ?_)
                    refine wpAnyH_take (i := 0) (v := ?_) rfl (by kernel_rfl) (by kernel_rfl) (by kernel_rfl) (fun _ _ _ h => h) (Or.inl ⟨by kernel_rfl, ?_⟩) hS ?_
                    rotate_left
                    · intro W hSW
                      go_simp
                      all_goals with_reducible rfl
                    refine wpAnyH_take (i := 1) (v := ?_) rfl (by kernel_rfl) (by kernel_rfl) (by kernel_rfl) (fun _ _ _ h => h) (Or.inl ⟨by kernel_rfl, ?_⟩) hS ?_
                    rotate_left
                    · intro W hSW
                      go_simp
                      all_goals with_reducible rfl
                    refine wpAnyH_take (i := 2) (v := ?_) rfl (by kernel_rfl) (by kernel_rfl) (by kernel_rfl) (fun _ _ _ h => h) (Or.inl ⟨by kernel_rfl, ?_⟩) hS ?_
                    rotate_left
                    · intro W hSW
                      go_simp
                      all_goals with_reducible rfl
                    refine wpAnyH_take (i := 3) (v := ?_) rfl (by kernel_rfl) (by kernel_rfl) (by kernel_rfl) (fun _ _ _ h => h) (Or.inl ⟨by kernel_rfl, ?_⟩) hS ?_
                    rotate_left
                    · intro W hSW
                      go_simp
                      all_goals with_reducible rfl
                    go_simp
                    refine wpAnyH_take (i := 4) (v := ?_) rfl (by kernel_rfl) (by kernel_rfl) (by kernel_rfl) (fun _ _ _ h => h) (Or.inl ⟨by kernel_rfl, ?_⟩) hS ?_
                    rotate_left
                    · intro W hSW
                      go_simp
                      all_goals with_reducible rfl
                    go_simp
                    refine wpAnyH_take (i := 5) (v := .agg #[.int .i64 s1, .int .i64 s2]) rfl (by kernel_rfl) (by kernel_rfl) (by kernel_rfl) (fun _ _ _ h => h) (Or.inl ⟨by kernel_rfl, fun W hSW => exec_wr_st rfl rfl hSW HE.out⟩) hS ?_
                    refine wpAnyH_take (i := 6) (v := ?_) rfl (by kernel_rfl) (by kernel_rfl) (by kernel_rfl) (fun _ _ _ h => h) (Or.inl ⟨by kernel_rfl, ?_⟩) hS ?_
                    rotate_left
                    · intro W hSW
                      go_simp
                      all_goals with_reducible rfl
                    refine wpAnyH_take (i := 7) (v := ?_) rfl (by kernel_rfl) (by kernel_rfl) (by kernel_rfl) (fun _ _ _ h => h) (Or.inl ⟨by kernel_rfl, ?_⟩) hS ?_
                    rotate_left
                    · intro W hSW
                      go_simp
                      all_goals with_reducible rfl
                    refine wpAnyH_take (i := 8) (v := ?_) rfl (by kernel_rfl) (by kernel_rfl) (by kernel_rfl) (fun _ _ _ h => h) (Or.inl ⟨by kernel_rfl, ?_⟩) hS ?_
                    rotate_left
                    · intro W hSW
                      go_simp
                      all_goals with_reducible rfl
                    go_simp
                    refine wpAnyH_take (i := 9) (v := ?_) rfl (by kernel_rfl) (by kernel_rfl) (by kernel_rfl) (fun _ _ _ h => h) (Or.inl ⟨by kernel_rfl, ?_⟩) hS ?_
                    rotate_left
                    · intro W hSW
                      go_simp
                      all_goals with_reducible rfl
                    go_simp
                    refine wpAnyH_take (i := 10) (v := .agg (opA x q c)) rfl (by kernel_rfl) (by kernel_rfl) (by kernel_rfl) (fun _ _ _ h => h) (Or.inl ⟨by kernel_rfl, fun W hSW => exec_wr_op rfl rfl hSW HE.out⟩) hS ?_
                    go_simp
                    refine wpAnyH_ready (rs := [11]) (by kernel_rfl) (by simp) ?_
                    refine AllReadyH.cons rfl (fun K hK => ?_) AllReadyH.nil
                    go_simp
                    go_wp2_with ((go_at_call 9; refine (ownN_any x q c _ (HPE.out.kept (Below.drew (Below.refl _ _))) (by have := HS1.out.1; omega)).mono ?_; rintro e wn ⟨q2, c2, rfl, hpa, hbn, -⟩))
                    have HG2 := Lib.hid ((HG.out.kept (Below.drew (Below.refl _ _))).kept hbn)
                    refine hK.out _ _ (hS.below hbn) (fun hS => ?_)
                    clear hK K hbn
                    refine wpAnyH_ready (rs := [12]) (by kernel_rfl) (by simp) ?_
                    refine AllReadyH.cons rfl (fun K hK => ?_) AllReadyH.nil
                    go_simp
                    go_wp2_with ((go_at_call 8; refine (GD.ins s1 s2 x q2 c2 HG2.out HS1.out.sz hpa HFW.out).mono ?_; rintro e wm ⟨rfl, hgm⟩))
                    have HGM := Lib.hid hgm
                    refine hK.out _ _ (HR.out.rd.below HGM.out.bel) (fun hS => ?_)
                    clear hK K hpa hgm
                    refine wpAnyH_done (by kernel_rfl) ?_ _
                    go_simp
                    clear hS HG2
                    have HG1 := Lib.hid (show GD w gg (Gm.insAll ((pl l).take (k + 1))) hh (Gm.insAll ((pl ly).take k)) (some ⟨g, oy, none⟩) (ly.flatMap ceW) wm from by rw [← HAG.out]; exact HGM.out)
                    have HPE2 := Lib.hid (HPY2.out.kept HG1.out.bel)
                    clear HG HGM
                    go_upto_region 26 with fail
                    refine wp_region_held_drew (S := fun W => Rd W (some ⟨g, oy, none⟩) (ly.flatMap ceW)) (by kernel_rfl) (HG1.out.row.below (Below.drew (Below.refl _ _))) (fun hS => ?_)
                    refine wpAnyH_take (i := 0) (v := ?_) rfl (by kernel_rfl) (by kernel_rfl) (by kernel_rfl) (fun _ _ _ h => h) (Or.inl ⟨by kernel_rfl, ?_⟩) hS ?_
                    rotate_left
                    · intro W hSW
                      go_simp
                      all_goals with_reducible rfl
                    refine wpAnyH_take (i := 1) (v := ?_) rfl (by kernel_rfl) (by kernel_rfl) (by kernel_rfl) (fun _ _ _ h => h) (Or.inl ⟨by kernel_rfl, ?_⟩) hS ?_
                    rotate_left
                    · intro W hSW
                      go_simp
                      all_goals with_reducible rfl
                    refine wpAnyH_take (i := 2) (v := ?_) rfl (by kernel_rfl) (by kernel_rfl) (by kernel_rfl) (fun _ _ _ h => h) (Or.inl ⟨by kernel_rfl, ?_⟩) hS ?_
                    rotate_left
                    · intro W hSW
                      go_simp
                      all_goals with_reducible rfl
                    refine wpAnyH_take (i := 3) (v := ?_) rfl (by kernel_rfl) (by kernel_rfl) (by kernel_rfl) (fun _ _ _ h => h) (Or.inl ⟨by kernel_rfl, ?_⟩) hS ?_
                    rotate_left
                    · intro W hSW
                      go_simp
                      all_goals with_reducible rfl
                    go_simp
                    refine wpAnyH_take (i := 4) (v := ?_) rfl (by kernel_rfl) (by kernel_rfl) (by kernel_rfl) (fun _ _ _ h => h) (Or.inl ⟨by kernel_rfl, ?_⟩) hS ?_
                    rotate_left
                    · intro W hSW
                      go_simp
                      all_goals with_reducible rfl
                    go_simp
                    refine wpAnyH_take (i := 5) (v := .agg #[.int .i64 t1, .int .i64 t2]) rfl (by kernel_rfl) (by kernel_rfl) (by kernel_rfl) (fun _ _ _ h => h) (Or.inl ⟨by kernel_rfl, fun W hSW => exec_wr_st rfl rfl hSW HE2.out⟩) hS ?_
                    refine wpAnyH_take (i := 6) (v := ?_) rfl (by kernel_rfl) (by kernel_rfl) (by kernel_rfl) (fun _ _ _ h => h) (Or.inl ⟨by kernel_rfl, ?_⟩) hS ?_
                    rotate_left
                    · intro W hSW
                      go_simp
                      all_goals with_reducible rfl
                    refine wpAnyH_take (i := 7) (v := ?_) rfl (by kernel_rfl) (by kernel_rfl) (by kernel_rfl) (fun _ _ _ h => h) (Or.inl ⟨by kernel_rfl, ?_⟩) hS ?_
                    rotate_left
                    · intro W hSW
                      go_simp
                      all_goals with_reducible rfl
                    refine wpAnyH_take (i := 8) (v := ?_) rfl (by kernel_rfl) (by kernel_rfl) (by kernel_rfl) (fun _ _ _ h => h) (Or.inl ⟨by kernel_rfl, ?_⟩) hS ?_
                    rotate_left
                    · intro W hSW
                      go_simp
                      all_goals with_reducible rfl
                    go_simp
                    refine wpAnyH_take (i := 9) (v := ?_) rfl (by kernel_rfl) (by kernel_rfl) (by kernel_rfl) (fun _ _ _ h => h) (Or.inl ⟨by kernel_rfl, ?_⟩) hS ?_
                    rotate_left
                    · intro W hSW
                      go_simp
                      all_goals with_reducible rfl
                    go_simp
                    refine wpAnyH_take (i := 10) (v := .agg (opA y qq cc)) rfl (by kernel_rfl) (by kernel_rfl) (by kernel_rfl) (fun _ _ _ h => h) (Or.inl ⟨by kernel_rfl, fun W hSW => exec_wr_op rfl rfl hSW HE2.out⟩) hS ?_
                    go_simp
                    refine wpAnyH_ready (rs := [11]) (by kernel_rfl) (by simp) ?_
                    refine AllReadyH.cons rfl (fun K hK => ?_) AllReadyH.nil
                    go_simp
                    go_wp2_with ((go_at_call 9; refine (ownN_any y qq cc _ (HPE2.out.kept (Below.drew (Below.refl _ _))) (by have := HS12.out.1; omega)).mono ?_; rintro e wn ⟨q2, c2, rfl, hpa, hbn, -⟩))
                    have HG2 := Lib.hid ((HG1.out.kept (Below.drew (Below.refl _ _))).kept hbn)
                    refine hK.out _ _ (hS.below hbn) (fun hS => ?_)
                    clear hK K hbn
                    refine wpAnyH_ready (rs := [12]) (by kernel_rfl) (by simp) ?_
                    refine AllReadyH.cons rfl (fun K hK => ?_) AllReadyH.nil
                    go_simp
                    go_wp2_with ((go_at_call 8; refine (GD.insB t1 t2 y q2 c2 HG2.out HS12.out.sz hpa HFW2.out).mono ?_; rintro e wm ⟨rfl, hgm⟩))
                    have HGM := Lib.hid hgm
                    refine hK.out _ _ HGM.out.row (fun hS => ?_)
                    clear hK K hpa hgm
                    refine wpAnyH_done (by kernel_rfl) ?_ _
                    go_simp
                    clear hS HG2
                    have HG3 := Lib.hid (show GD w gg (Gm.insAll ((pl l).take (k + 1))) hh (Gm.insAll ((pl ly).take (k + 1))) (some ⟨g, oy, none⟩) (ly.flatMap ceW) wm from by rw [← HAG2.out]; exact HGM.out)
                    clear HG1 HGM
                    go_wp2
                    go_roundw
                    case rel => exact ⟨k + 1, by omega, by go_num, HG3.out⟩
                    case measure => simp [intOf]; omega
                  · obtain rfl : k = l.length := by omega
                    have d0 : decide ((l.length : Int) < (l.length : Int)) = false := decide_eq_false (by omega)
                    have HTA := Lib.hid (show (pl l).take l.length = pl l from List.take_of_length_le (by rw [pl_len]; exact Nat.le_refl _))
                    have HTB := Lib.hid (show Gm.insAll ((pl ly).take l.length) = Gm.insAll (pl l) from by
                      rw [List.take_of_length_le (by rw [pl_len, HLY.out]; exact Nat.le_refl _)]
                      exact Gm.all_perm HLO.out (pl_perm HPY.out))
                    rw [HTA.out, HTB.out] at HG
                    clear HTA HTB HPY HLO hlt hk
                    generalize Gm.insAll (pl l) = ops at *
                    go_wp2_with fail
                    refine (GD.same HG.out rfl).mono ?_
                    rintro e w14 ⟨rfl, hg⟩
                    replace HG := Lib.hid hg
                    clear hg
                    go_wp2_with fail
                    refine (GD.count HG.out).mono ?_
                    rintro e w15 ⟨rfl, rfl⟩
                    go_wp2_with fail
                    refine (GD.count HG.out.swap).mono ?_
                    rintro e w15 ⟨rfl, rfl⟩
                    go_wp2
                    go_loopw [14] (fun i wr => ∃ k : Nat, k ≤ l.length ∧ i = .int .i64 (k : Int) ∧ GD w gg ops hh ops py (ly.flatMap ceW) wr) (fun i _ => l.length - (intOf i).toNat)
                    case atStart => exact ⟨0, Nat.zero_le _, rfl, HG.out⟩
                    case round =>
                      clear HG
                      obtain ⟨k, hk, rfl, hg⟩ := hrel
                      have HG := Lib.hid hg
                      clear hg
                      by_cases hlt : k < l.length
                      · have d0 : decide ((k : Int) < (l.length : Int)) = true := decide_eq_true (by omega)
                        obtain ⟨b, o, hbo, -⟩ := HR.out.rd.addr (by rw [wrK.length]; omega)
                        subst hbo
                        obtain ⟨e, he⟩ : ∃ e, l[k]? = some e := ⟨_, List.getElem?_eq_getElem hlt⟩
                        obtain ⟨⟨⟨s1, s2⟩, x⟩, q, c⟩ := e
                        have HE := Lib.hid he
                        clear he
                        go_upto_region 32 with fail
                        refine wp_region_held_drew (S := fun W => Rd W (some ⟨b, o, none⟩) (l.flatMap ceW)) (by kernel_rfl) ((HR.out.rd.below HG.out.bel).below (Below.drew (Below.refl _ _))) (fun hS => ?_)
                        refine wpAnyH_take (i := 0) (v := ?_) rfl (by kernel_rfl) (by kernel_rfl) (by kernel_rfl) (fun _ _ _ h => h) (Or.inl ⟨by kernel_rfl, ?_⟩) hS ?_
                        rotate_left
                        · intro W hSW
                          go_simp
                          all_goals with_reducible rfl
                        refine wpAnyH_take (i := 1) (v := ?_) rfl (by kernel_rfl) (by kernel_rfl) (by kernel_rfl) (fun _ _ _ h => h) (Or.inl ⟨by kernel_rfl, ?_⟩) hS ?_
                        rotate_left
                        · intro W hSW
                          go_simp
                          all_goals with_reducible rfl
                        refine wpAnyH_take (i := 2) (v := ?_) rfl (by kernel_rfl) (by kernel_rfl) (by kernel_rfl) (fun _ _ _ h => h) (Or.inl ⟨by kernel_rfl, ?_⟩) hS ?_
                        rotate_left
                        · intro W hSW
                          go_simp
                          all_goals with_reducible rfl
                        refine wpAnyH_take (i := 3) (v := ?_) rfl (by kernel_rfl) (by kernel_rfl) (by kernel_rfl) (fun _ _ _ h => h) (Or.inl ⟨by kernel_rfl, ?_⟩) hS ?_
                        rotate_left
                        · intro W hSW
                          go_simp
                          all_goals with_reducible rfl
                        go_simp
                        refine wpAnyH_take (i := 4) (v := ?_) rfl (by kernel_rfl) (by kernel_rfl) (by kernel_rfl) (fun _ _ _ h => h) (Or.inl ⟨by kernel_rfl, ?_⟩) hS ?_
                        rotate_left
                        · intro W hSW
                          go_simp
                          all_goals with_reducible rfl
                        go_simp
                        refine wpAnyH_take (i := 5) (v := .agg #[.int .i64 s1, .int .i64 s2]) rfl (by kernel_rfl) (by kernel_rfl) (by kernel_rfl) (fun _ _ _ h => h) (Or.inl ⟨by kernel_rfl, fun W hSW => exec_wr_st rfl rfl hSW HE.out⟩) hS ?_
                        refine wpAnyH_take (i := 7) (v := ?_) rfl (by kernel_rfl) (by kernel_rfl) (by kernel_rfl) (fun _ _ _ h => h) (Or.inl ⟨by kernel_rfl, ?_⟩) hS ?_
                        rotate_left
                        · intro W hSW
                          go_simp
                          all_goals with_reducible rfl
                        refine wpAnyH_take (i := 8) (v := ?_) rfl (by kernel_rfl) (by kernel_rfl) (by kernel_rfl) (fun _ _ _ h => h) (Or.inl ⟨by kernel_rfl, ?_⟩) hS ?_
                        rotate_left
                        · intro W hSW
                          go_simp
                          all_goals with_reducible rfl
                        refine wpAnyH_take (i := 9) (v := ?_) rfl (by kernel_rfl) (by kernel_rfl) (by kernel_rfl) (fun _ _ _ h => h) (Or.inl ⟨by kernel_rfl, ?_⟩) hS ?_
                        rotate_left
                        · intro W hSW
                          go_simp
                          all_goals with_reducible rfl
                        go_simp
                        refine wpAnyH_take (i := 10) (v := ?_) rfl (by kernel_rfl) (by kernel_rfl) (by kernel_rfl) (fun _ _ _ h => h) (Or.inl ⟨by kernel_rfl, ?_⟩) hS ?_
                        rotate_left
                        · intro W hSW
                          go_simp
                          all_goals with_reducible rfl
                        refine wpAnyH_take (i := 11) (v := ?_) rfl (by kernel_rfl) (by kernel_rfl) (by kernel_rfl) (fun _ _ _ h => h) (Or.inl ⟨by kernel_rfl, ?_⟩) hS ?_
                        rotate_left
                        · intro W hSW
                          go_simp
                          all_goals with_reducible rfl
                        go_simp
                        refine wpAnyH_take (i := 12) (v := .agg #[.int .i64 s1, .int .i64 s2]) rfl (by kernel_rfl) (by kernel_rfl) (by kernel_rfl) (fun _ _ _ h => h) (Or.inl ⟨by kernel_rfl, fun W hSW => exec_wr_st rfl rfl hSW HE.out⟩) hS ?_
                        go_simp
                        refine wpAnyH_ready (rs := [6]) (by kernel_rfl) (by simp) ?_
                        refine AllReadyH.cons rfl (fun K hK => ?_) AllReadyH.nil
                        go_simp
                        go_wp2_with ((go_at_call 12; refine (GD.done s1 s2 (HG.out.kept (Below.drew (Below.refl _ _)))).mono ?_; rintro e wn ⟨d1, rfl, hd1, hgn⟩))
                        have HD1 := Lib.hid hd1
                        have HGN := Lib.hid hgn
                        refine hK.out _ _ (HR.out.rd.below HGN.out.bel) (fun hS => ?_)
                        clear hK K hd1 hgn
                        refine wpAnyH_ready (rs := [13]) (by kernel_rfl) (by simp) ?_
                        refine AllReadyH.cons rfl (fun K hK => ?_) AllReadyH.nil
                        go_simp
                        go_wp2_with ((go_at_call 12; refine (GD.doneB s1 s2 HGN.out).mono ?_; rintro e wm ⟨d2, rfl, hd2, hgm⟩))
                        obtain rfl : d2 = d1 := Bool.eq_iff_iff.2 (hd2.trans HD1.out.symm)
                        have HGM := Lib.hid hgm
                        refine hK.out _ _ (HR.out.rd.below HGM.out.bel) (fun hS => ?_)
                        clear hK K hd2 hgm
                        refine wpAnyH_take (i := 14) (v := .bool false) rfl (by kernel_rfl) (by kernel_rfl) (by kernel_rfl) (fun _ _ _ h => h) (Or.inl ⟨by kernel_rfl, fun W hSW => exec_neq_self rfl d2 rfl rfl⟩) hS ?_
                        go_simp
                        refine wpAnyH_done (by kernel_rfl) ?_ _
                        go_simp
                        clear hS HGN HD1
                        go_wp2
                        go_roundw
                        case rel => exact ⟨k + 1, by omega, by go_num, HGM.out⟩
                        case measure => simp [intOf]; omega
                      · obtain rfl : k = l.length := by omega
                        have d0 : decide ((l.length : Int) < (l.length : Int)) = false := decide_eq_false (by omega)
                        go_wp2
                        go_ret
                        exact ⟨rfl, HG.out.bel⟩
              · have d2 : decide ((k : Int) < 60) = false := decide_eq_false (by omega)
                clear hgo
                have hown := HRO.out
                rw [← HLY.out] at hown
                have HG12 := Lib.hid (show GD w gg (Gm.insAll ((pl l).take 0)) hh (Gm.insAll ((pl ly).take 0)) py (ly.flatMap ceW) w12 from HG.out.beside (HBY.out.trans HBD.out) (own_rdK hown).1 (fun a ha => by
                  have h1 := (own_rdK hown).2.2.2 a ha
                  refine ⟨h1, ?_⟩
                  have h2 := World.ownsRow.lt hown a.block (by rw [ha]; rfl)
                  exact h2.2))
                clear hown HRO HG HBD HBY
                go_wp2
                go_loopw [13] (fun i wr => ∃ k : Nat, k ≤ l.length ∧ i = .int .i64 (k : Int) ∧ GD w gg (Gm.insAll ((pl l).take k)) hh (Gm.insAll ((pl ly).take k)) py (ly.flatMap ceW) wr) (fun i _ => l.length - (intOf i).toNat)
                case atStart => exact ⟨0, Nat.zero_le _, rfl, HG12.out⟩
                case round =>
                  clear HG12
                  obtain ⟨k, hk, rfl, hg⟩ := hrel
                  have HG := Lib.hid hg
                  clear hg
                  by_cases hlt : k < l.length
                  · have d0 : decide ((k : Int) < (l.length : Int)) = true := decide_eq_true (by omega)
                    obtain ⟨b, o, hbo, -⟩ := HR.out.rd.addr (by rw [wrK.length]; omega)
                    subst hbo
                    obtain ⟨g, oy, hgy, -⟩ := HG.out.row.addr (by rw [wrK.length, HLY.out]; omega)
                    subst hgy
                    obtain ⟨e, he⟩ : ∃ e, l[k]? = some e := ⟨_, List.getElem?_eq_getElem hlt⟩
                    obtain ⟨e2, he2⟩ : ∃ e, ly[k]? = some e := ⟨_, List.getElem?_eq_getElem (by rw [HLY.out]; exact hlt)⟩
                    have hm2 : e2 ∈ l := HPY.out.mem_iff.1 (List.mem_of_getElem? he2)
                    have HPE := Lib.hid ((HR.out.pa _ (List.mem_of_getElem? he)).kept HG.out.bel)
                    have HS1 := Lib.hid (HSM.out _ (List.mem_of_getElem? he))
                    have HPY2 := Lib.hid (HR.out.pa _ hm2)
                    have HS12 := Lib.hid (HSM.out _ hm2)
                    have HAG := Lib.hid (all_take he)
                    have HAG2 := Lib.hid (all_take he2)
                    have HFW := Lib.hid (few_take (l := l) hlt HL40.out)
                    have HFW2 := Lib.hid (few_take (l := ly) (by rw [HLY.out]; exact hlt) (by rw [HLY.out]; exact HL40.out))
                    obtain ⟨⟨⟨s1, s2⟩, x⟩, q, c⟩ := e
                    obtain ⟨⟨⟨t1, t2⟩, y⟩, qq, cc⟩ := e2
                    have HE := Lib.hid he
                    have HE2 := Lib.hid he2
                    have hlt2 : k < ly.length := by rw [HLY.out]; exact hlt
                    clear he he2 hm2
                    go_upto_region 25 with fail
                    refine wp_region_held_drew (S := fun W => Rd W (some ⟨b, o, none⟩) (l.flatMap ceW)) (by kernel_rfl) ((HR.out.rd.below HG.out.bel).below (Below.drew (Below.refl _ _))) (fun hS => ?_)
                    refine wpAnyH_take (i := 0) (v := ?_) rfl (by kernel_rfl) (by kernel_rfl) (by kernel_rfl) (fun _ _ _ h => h) (Or.inl ⟨by kernel_rfl, ?_⟩) hS ?_
                    rotate_left
                    · intro W hSW
                      go_simp
                      all_goals with_reducible rfl
                    refine wpAnyH_take (i := 1) (v := ?_) rfl (by kernel_rfl) (by kernel_rfl) (by kernel_rfl) (fun _ _ _ h => h) (Or.inl ⟨by kernel_rfl, ?_⟩) hS ?_
                    rotate_left
                    · intro W hSW
                      go_simp
                      all_goals with_reducible rfl
                    refine wpAnyH_take (i := 2) (v := ?_) rfl (by kernel_rfl) (by kernel_rfl) (by kernel_rfl) (fun _ _ _ h => h) (Or.inl ⟨by kernel_rfl, ?_⟩) hS ?_
                    rotate_left
                    · intro W hSW
                      go_simp
                      all_goals with_reducible rfl
                    refine wpAnyH_take (i := 3) (v := ?_) rfl (by kernel_rfl) (by kernel_rfl) (by kernel_rfl) (fun _ _ _ h => h) (Or.inl ⟨by kernel_rfl, ?_⟩) hS ?_
                    rotate_left
                    · intro W hSW
                      go_simp
                      all_goals with_reducible rfl
                    go_simp
                    refine wpAnyH_take (i := 4) (v := ?_) rfl (by kernel_rfl) (by kernel_rfl) (by kernel_rfl) (fun _ _ _ h => h) (Or.inl ⟨by kernel_rfl, ?_⟩) hS ?_
                    rotate_left
                    · intro W hSW
                      go_simp
                      all_goals with_reducible rfl
                    go_simp
                    refine wpAnyH_take (i := 5) (v := .agg #[.int .i64 s1, .int .i64 s2]) rfl (by kernel_rfl) (by kernel_rfl) (by kernel_rfl) (fun _ _ _ h => h) (Or.inl ⟨by kernel_rfl, fun W hSW => exec_wr_st rfl rfl hSW HE.out⟩) hS ?_
                    refine wpAnyH_take (i := 6) (v := ?_) rfl (by kernel_rfl) (by kernel_rfl) (by kernel_rfl) (fun _ _ _ h => h) (Or.inl ⟨by kernel_rfl, ?_⟩) hS ?_
                    rotate_left
                    · intro W hSW
                      go_simp
                      all_goals with_reducible rfl
                    refine wpAnyH_take (i := 7) (v := ?_) rfl (by kernel_rfl) (by kernel_rfl) (by kernel_rfl) (fun _ _ _ h => h) (Or.inl ⟨by kernel_rfl, ?_⟩) hS ?_
                    rotate_left
                    · intro W hSW
                      go_simp
                      all_goals with_reducible rfl
                    refine wpAnyH_take (i := 8) (v := ?_) rfl (by kernel_rfl) (by kernel_rfl) (by kernel_rfl) (fun _ _ _ h => h) (Or.inl ⟨by kernel_rfl, ?_⟩) hS ?_
                    rotate_left
                    · intro W hSW
                      go_simp
                      all_goals with_reducible rfl
                    go_simp
                    refine wpAnyH_take (i := 9) (v := ?_) rfl (by kernel_rfl) (by kernel_rfl) (by kernel_rfl) (fun _ _ _ h => h) (Or.inl ⟨by kernel_rfl, ?_⟩) hS ?_
                    rotate_left
                    · intro W hSW
                      go_simp
                      all_goals with_reducible rfl
                    go_simp
                    refine wpAnyH_take (i := 10) (v := .agg (opA x q c)) rfl (by kernel_rfl) (by kernel_rfl) (by kernel_rfl) (fun _ _ _ h => h) (Or.inl ⟨by kernel_rfl, fun W hSW => exec_wr_op rfl rfl hSW HE.out⟩) hS ?_
                    go_simp
                    refine wpAnyH_ready (rs := [11]) (by kernel_rfl) (by simp) ?_
                    refine AllReadyH.cons rfl (fun K hK => ?_) AllReadyH.nil
                    go_simp
                    go_wp2_with ((go_at_call 9; refine (ownN_any x q c _ (HPE.out.kept (Below.drew (Below.refl _ _))) (by have := HS1.out.1; omega)).mono ?_; rintro e wn ⟨q2, c2, rfl, hpa, hbn, -⟩))
                    have HG2 := Lib.hid ((HG.out.kept (Below.drew (Below.refl _ _))).kept hbn)
                    refine hK.out _ _ (hS.below hbn) (fun hS => ?_)
                    clear hK K hbn
                    refine wpAnyH_ready (rs := [12]) (by kernel_rfl) (by simp) ?_
                    refine AllReadyH.cons rfl (fun K hK => ?_) AllReadyH.nil
                    go_simp
                    go_wp2_with ((go_at_call 8; refine (GD.ins s1 s2 x q2 c2 HG2.out HS1.out.sz hpa HFW.out).mono ?_; rintro e wm ⟨rfl, hgm⟩))
                    have HGM := Lib.hid hgm
                    refine hK.out _ _ (HR.out.rd.below HGM.out.bel) (fun hS => ?_)
                    clear hK K hpa hgm
                    refine wpAnyH_done (by kernel_rfl) ?_ _
                    go_simp
                    clear hS HG2
                    have HG1 := Lib.hid (show GD w gg (Gm.insAll ((pl l).take (k + 1))) hh (Gm.insAll ((pl ly).take k)) (some ⟨g, oy, none⟩) (ly.flatMap ceW) wm from by rw [← HAG.out]; exact HGM.out)
                    have HPE2 := Lib.hid (HPY2.out.kept HG1.out.bel)
                    clear HG HGM
                    go_upto_region 26 with fail
                    refine wp_region_held_drew (S := fun W => Rd W (some ⟨g, oy, none⟩) (ly.flatMap ceW)) (by kernel_rfl) (HG1.out.row.below (Below.drew (Below.refl _ _))) (fun hS => ?_)
                    refine wpAnyH_take (i := 0) (v := ?_) rfl (by kernel_rfl) (by kernel_rfl) (by kernel_rfl) (fun _ _ _ h => h) (Or.inl ⟨by kernel_rfl, ?_⟩) hS ?_
                    rotate_left
                    · intro W hSW
                      go_simp
                      all_goals with_reducible rfl
                    refine wpAnyH_take (i := 1) (v := ?_) rfl (by kernel_rfl) (by kernel_rfl) (by kernel_rfl) (fun _ _ _ h => h) (Or.inl ⟨by kernel_rfl, ?_⟩) hS ?_
                    rotate_left
                    · intro W hSW
                      go_simp
                      all_goals with_reducible rfl
                    refine wpAnyH_take (i := 2) (v := ?_) rfl (by kernel_rfl) (by kernel_rfl) (by kernel_rfl) (fun _ _ _ h => h) (Or.inl ⟨by kernel_rfl, ?_⟩) hS ?_
                    rotate_left
                    · intro W hSW
                      go_simp
                      all_goals with_reducible rfl
                    refine wpAnyH_take (i := 3) (v := ?_) rfl (by kernel_rfl) (by kernel_rfl) (by kernel_rfl) (fun _ _ _ h => h) (Or.inl ⟨by kernel_rfl, ?_⟩) hS ?_
                    rotate_left
                    · intro W hSW
                      go_simp
                      all_goals with_reducible rfl
                    go_simp
                    refine wpAnyH_take (i := 4) (v := ?_) rfl (by kernel_rfl) (by kernel_rfl) (by kernel_rfl) (fun _ _ _ h => h) (Or.inl ⟨by kernel_rfl, ?_⟩) hS ?_
                    rotate_left
                    · intro W hSW
                      go_simp
                      all_goals with_reducible rfl
                    go_simp
                    refine wpAnyH_take (i := 5) (v := .agg #[.int .i64 t1, .int .i64 t2]) rfl (by kernel_rfl) (by kernel_rfl) (by kernel_rfl) (fun _ _ _ h => h) (Or.inl ⟨by kernel_rfl, fun W hSW => exec_wr_st rfl rfl hSW HE2.out⟩) hS ?_
                    refine wpAnyH_take (i := 6) (v := ?_) rfl (by kernel_rfl) (by kernel_rfl) (by kernel_rfl) (fun _ _ _ h => h) (Or.inl ⟨by kernel_rfl, ?_⟩) hS ?_
                    rotate_left
                    · intro W hSW
                      go_simp
                      all_goals with_reducible rfl
                    refine wpAnyH_take (i := 7) (v := ?_) rfl (by kernel_rfl) (by kernel_rfl) (by kernel_rfl) (fun _ _ _ h => h) (Or.inl ⟨by kernel_rfl, ?_⟩) hS ?_
                    rotate_left
                    · intro W hSW
                      go_simp
                      all_goals with_reducible rfl
                    refine wpAnyH_take (i := 8) (v := ?_) rfl (by kernel_rfl) (by kernel_rfl) (by kernel_rfl) (fun _ _ _ h => h) (Or.inl ⟨by kernel_rfl, ?_⟩) hS ?_
                    rotate_left
                    · intro W hSW
                      go_simp
                      all_goals with_reducible rfl
                    go_simp
                    refine wpAnyH_take (i := 9) (v := ?_) rfl (by kernel_rfl) (by kernel_rfl) (by kernel_rfl) (fun _ _ _ h => h) (Or.inl ⟨by kernel_rfl, ?_⟩) hS ?_
                    rotate_left
                    · intro W hSW
                      go_simp
                      all_goals with_reducible rfl
                    go_simp
                    refine wpAnyH_take (i := 10) (v := .agg (opA y qq cc)) rfl (by kernel_rfl) (by kernel_rfl) (by kernel_rfl) (fun _ _ _ h => h) (Or.inl ⟨by kernel_rfl, fun W hSW => exec_wr_op rfl rfl hSW HE2.out⟩) hS ?_
                    go_simp
                    refine wpAnyH_ready (rs := [11]) (by kernel_rfl) (by simp) ?_
                    refine AllReadyH.cons rfl (fun K hK => ?_) AllReadyH.nil
                    go_simp
                    go_wp2_with ((go_at_call 9; refine (ownN_any y qq cc _ (HPE2.out.kept (Below.drew (Below.refl _ _))) (by have := HS12.out.1; omega)).mono ?_; rintro e wn ⟨q2, c2, rfl, hpa, hbn, -⟩))
                    have HG2 := Lib.hid ((HG1.out.kept (Below.drew (Below.refl _ _))).kept hbn)
                    refine hK.out _ _ (hS.below hbn) (fun hS => ?_)
                    clear hK K hbn
                    refine wpAnyH_ready (rs := [12]) (by kernel_rfl) (by simp) ?_
                    refine AllReadyH.cons rfl (fun K hK => ?_) AllReadyH.nil
                    go_simp
                    go_wp2_with ((go_at_call 8; refine (GD.insB t1 t2 y q2 c2 HG2.out HS12.out.sz hpa HFW2.out).mono ?_; rintro e wm ⟨rfl, hgm⟩))
                    have HGM := Lib.hid hgm
                    refine hK.out _ _ HGM.out.row (fun hS => ?_)
                    clear hK K hpa hgm
                    refine wpAnyH_done (by kernel_rfl) ?_ _
                    go_simp
                    clear hS HG2
                    have HG3 := Lib.hid (show GD w gg (Gm.insAll ((pl l).take (k + 1))) hh (Gm.insAll ((pl ly).take (k + 1))) (some ⟨g, oy, none⟩) (ly.flatMap ceW) wm from by rw [← HAG2.out]; exact HGM.out)
                    clear HG1 HGM
                    go_wp2
                    go_roundw
                    case rel => exact ⟨k + 1, by omega, by go_num, HG3.out⟩
                    case measure => simp [intOf]; omega
                  · obtain rfl : k = l.length := by omega
                    have d0 : decide ((l.length : Int) < (l.length : Int)) = false := decide_eq_false (by omega)
                    have HTA := Lib.hid (show (pl l).take l.length = pl l from List.take_of_length_le (by rw [pl_len]; exact Nat.le_refl _))
                    have HTB := Lib.hid (show Gm.insAll ((pl ly).take l.length) = Gm.insAll (pl l) from by
                      rw [List.take_of_length_le (by rw [pl_len, HLY.out]; exact Nat.le_refl _)]
                      exact Gm.all_perm HLO.out (pl_perm HPY.out))
                    rw [HTA.out, HTB.out] at HG
                    clear HTA HTB HPY HLO hlt hk
                    generalize Gm.insAll (pl l) = ops at *
                    go_wp2_with fail
                    refine (GD.same HG.out rfl).mono ?_
                    rintro e w14 ⟨rfl, hg⟩
                    replace HG := Lib.hid hg
                    clear hg
                    go_wp2_with fail
                    refine (GD.count HG.out).mono ?_
                    rintro e w15 ⟨rfl, rfl⟩
                    go_wp2_with fail
                    refine (GD.count HG.out.swap).mono ?_
                    rintro e w15 ⟨rfl, rfl⟩
                    go_wp2
                    go_loopw [14] (fun i wr => ∃ k : Nat, k ≤ l.length ∧ i = .int .i64 (k : Int) ∧ GD w gg ops hh ops py (ly.flatMap ceW) wr) (fun i _ => l.length - (intOf i).toNat)
                    case atStart => exact ⟨0, Nat.zero_le _, rfl, HG.out⟩
                    case round =>
                      clear HG
                      obtain ⟨k, hk, rfl, hg⟩ := hrel
                      have HG := Lib.hid hg
                      clear hg
                      by_cases hlt : k < l.length
                      · have d0 : decide ((k : Int) < (l.length : Int)) = true := decide_eq_true (by omega)
                        obtain ⟨b, o, hbo, -⟩ := HR.out.rd.addr (by rw [wrK.length]; omega)
                        subst hbo
                        obtain ⟨e, he⟩ : ∃ e, l[k]? = some e := ⟨_, List.getElem?_eq_getElem hlt⟩
                        obtain ⟨⟨⟨s1, s2⟩, x⟩, q, c⟩ := e
                        have HE := Lib.hid he
                        clear he
                        go_upto_region 32 with fail
                        refine wp_region_held_drew (S := fun W => Rd W (some ⟨b, o, none⟩) (l.flatMap ceW)) (by kernel_rfl) ((HR.out.rd.below HG.out.bel).below (Below.drew (Below.refl _ _))) (fun hS => ?_)
                        refine wpAnyH_take (i := 0) (v := ?_) rfl (by kernel_rfl) (by kernel_rfl) (by kernel_rfl) (fun _ _ _ h => h) (Or.inl ⟨by kernel_rfl, ?_⟩) hS ?_
                        rotate_left
                        · intro W hSW
                          go_simp
                          all_goals with_reducible rfl
                        refine wpAnyH_take (i := 1) (v := ?_) rfl (by kernel_rfl) (by kernel_rfl) (by kernel_rfl) (fun _ _ _ h => h) (Or.inl ⟨by kernel_rfl, ?_⟩) hS ?_
                        rotate_left
                        · intro W hSW
                          go_simp
                          all_goals with_reducible rfl
                        refine wpAnyH_take (i := 2) (v := ?_) rfl (by kernel_rfl) (by kernel_rfl) (by kernel_rfl) (fun _ _ _ h => h) (Or.inl ⟨by kernel_rfl, ?_⟩) hS ?_
                        rotate_left
                        · intro W hSW
                          go_simp
                          all_goals with_reducible rfl
                        refine wpAnyH_take (i := 3) (v := ?_) rfl (by kernel_rfl) (by kernel_rfl) (by kernel_rfl) (fun _ _ _ h => h) (Or.inl ⟨by kernel_rfl, ?_⟩) hS ?_
                        rotate_left
                        · intro W hSW
                          go_simp
                          all_goals with_reducible rfl
                        go_simp
                        refine wpAnyH_take (i := 4) (v := ?_) rfl (by kernel_rfl) (by kernel_rfl) (by kernel_rfl) (fun _ _ _ h => h) (Or.inl ⟨by kernel_rfl, ?_⟩) hS ?_
                        rotate_left
                        · intro W hSW
                          go_simp
                          all_goals with_reducible rfl
                        go_simp
                        refine wpAnyH_take (i := 5) (v := .agg #[.int .i64 s1, .int .i64 s2]) rfl (by kernel_rfl) (by kernel_rfl) (by kernel_rfl) (fun _ _ _ h => h) (Or.inl ⟨by kernel_rfl, fun W hSW => exec_wr_st rfl rfl hSW HE.out⟩) hS ?_
                        refine wpAnyH_take (i := 7) (v := ?_) rfl (by kernel_rfl) (by kernel_rfl) (by kernel_rfl) (fun _ _ _ h => h) (Or.inl ⟨by kernel_rfl, ?_⟩) hS ?_
                        rotate_left
                        · intro W hSW
                          go_simp
                          all_goals with_reducible rfl
                        refine wpAnyH_take (i := 8) (v := ?_) rfl (by kernel_rfl) (by kernel_rfl) (by kernel_rfl) (fun _ _ _ h => h) (Or.inl ⟨by kernel_rfl, ?_⟩) hS ?_
                        rotate_left
                        · intro W hSW
                          go_simp
                          all_goals with_reducible rfl
                        refine wpAnyH_take (i := 9) (v := ?_) rfl (by kernel_rfl) (by kernel_rfl) (by kernel_rfl) (fun _ _ _ h => h) (Or.inl ⟨by kernel_rfl, ?_⟩) hS ?_
                        rotate_left
                        · intro W hSW
                          go_simp
                          all_goals with_reducible rfl
                        go_simp
                        refine wpAnyH_take (i := 10) (v := ?_) rfl (by kernel_rfl) (by kernel_rfl) (by kernel_rfl) (fun _ _ _ h => h) (Or.inl ⟨by kernel_rfl, ?_⟩) hS ?_
                        rotate_left
                        · intro W hSW
                          go_simp
                          all_goals with_reducible rfl
                        refine wpAnyH_take (i := 11) (v := ?_) rfl (by kernel_rfl) (by kernel_rfl) (by kernel_rfl) (fun _ _ _ h => h) (Or.inl ⟨by kernel_rfl, ?_⟩) hS ?_
                        rotate_left
                        · intro W hSW
                          go_simp
                          all_goals with_reducible rfl
                        go_simp
                        refine wpAnyH_take (i := 12) (v := .agg #[.int .i64 s1, .int .i64 s2]) rfl (by kernel_rfl) (by kernel_rfl) (by kernel_rfl) (fun _ _ _ h => h) (Or.inl ⟨by kernel_rfl, fun W hSW => exec_wr_st rfl rfl hSW HE.out⟩) hS ?_
                        go_simp
                        refine wpAnyH_ready (rs := [6]) (by kernel_rfl) (by simp) ?_
                        refine AllReadyH.cons rfl (fun K hK => ?_) AllReadyH.nil
                        go_simp
                        go_wp2_with ((go_at_call 12; refine (GD.done s1 s2 (HG.out.kept (Below.drew (Below.refl _ _)))).mono ?_; rintro e wn ⟨d1, rfl, hd1, hgn⟩))
                        have HD1 := Lib.hid hd1
                        have HGN := Lib.hid hgn
                        refine hK.out _ _ (HR.out.rd.below HGN.out.bel) (fun hS => ?_)
                        clear hK K hd1 hgn
                        refine wpAnyH_ready (rs := [13]) (by kernel_rfl) (by simp) ?_
                        refine AllReadyH.cons rfl (fun K hK => ?_) AllReadyH.nil
                        go_simp
                        go_wp2_with ((go_at_call 12; refine (GD.doneB s1 s2 HGN.out).mono ?_; rintro e wm ⟨d2, rfl, hd2, hgm⟩))
                        obtain rfl : d2 = d1 := Bool.eq_iff_iff.2 (hd2.trans HD1.out.symm)
                        have HGM := Lib.hid hgm
                        refine hK.out _ _ (HR.out.rd.below HGM.out.bel) (fun hS => ?_)
                        clear hK K hd2 hgm
                        refine wpAnyH_take (i := 14) (v := .bool false) rfl (by kernel_rfl) (by kernel_rfl) (by kernel_rfl) (fun _ _ _ h => h) (Or.inl ⟨by kernel_rfl, fun W hSW => exec_neq_self rfl d2 rfl rfl⟩) hS ?_
                        go_simp
                        refine wpAnyH_done (by kernel_rfl) ?_ _
                        go_simp
                        clear hS HGN HD1
                        go_wp2
                        go_roundw
                        case rel => exact ⟨k + 1, by omega, by go_num, HGM.out⟩
                        case measure => simp [intOf]; omega
                      · obtain rfl : k = l.length := by omega
                        have d0 : decide ((l.length : Int) < (l.length : Int)) = false := decide_eq_false (by omega)
                        go_wp2
                        go_ret
                        exact ⟨rfl, HG.out.bel⟩
            · have d1 : decide ((k : Int) < (ts.length : Int)) = false := decide_eq_false (by omega)
              clear hgo
              have hown := HRO.out
              rw [← HLY.out] at hown
              have HG12 := Lib.hid (show GD w gg (Gm.insAll ((pl l).take 0)) hh (Gm.insAll ((pl ly).take 0)) py (ly.flatMap ceW) w12 from HG.out.beside (HBY.out.trans HBD.out) (own_rdK hown).1 (fun a ha => by
                have h1 := (own_rdK hown).2.2.2 a ha
                refine ⟨h1, ?_⟩
                have h2 := World.ownsRow.lt hown a.block (by rw [ha]; rfl)
                exact h2.2))
              clear hown HRO HG HBD HBY
              go_wp2
              go_loopw [13] (fun i wr => ∃ k : Nat, k ≤ l.length ∧ i = .int .i64 (k : Int) ∧ GD w gg (Gm.insAll ((pl l).take k)) hh (Gm.insAll ((pl ly).take k)) py (ly.flatMap ceW) wr) (fun i _ => l.length - (intOf i).toNat)
              case atStart => exact ⟨0, Nat.zero_le _, rfl, HG12.out⟩
              case round =>
                clear HG12
                obtain ⟨k, hk, rfl, hg⟩ := hrel
                have HG := Lib.hid hg
                clear hg
                by_cases hlt : k < l.length
                · have d0 : decide ((k : Int) < (l.length : Int)) = true := decide_eq_true (by omega)
                  obtain ⟨b, o, hbo, -⟩ := HR.out.rd.addr (by rw [wrK.length]; omega)
                  subst hbo
                  obtain ⟨g, oy, hgy, -⟩ := HG.out.row.addr (by rw [wrK.length, HLY.out]; omega)
                  subst hgy
                  obtain ⟨e, he⟩ : ∃ e, l[k]? = some e := ⟨_, List.getElem?_eq_getElem hlt⟩
                  obtain ⟨e2, he2⟩ : ∃ e, ly[k]? = some e := ⟨_, List.getElem?_eq_getElem (by rw [HLY.out]; exact hlt)⟩
                  have hm2 : e2 ∈ l := HPY.out.mem_iff.1 (List.mem_of_getElem? he2)
                  have HPE := Lib.hid ((HR.out.pa _ (List.mem_of_getElem? he)).kept HG.out.bel)
                  have HS1 := Lib.hid (HSM.out _ (List.mem_of_getElem? he))
                  have HPY2 := Lib.hid (HR.out.pa _ hm2)
                  have HS12 := Lib.hid (HSM.out _ hm2)
                  have HAG := Lib.hid (all_take he)
                  have HAG2 := Lib.hid (all_take he2)
                  have HFW := Lib.hid (few_take (l := l) hlt HL40.out)
                  have HFW2 := Lib.hid (few_take (l := ly) (by rw [HLY.out]; exact hlt) (by rw [HLY.out]; exact HL40.out))
                  obtain ⟨⟨⟨s1, s2⟩, x⟩, q, c⟩ := e
                  obtain ⟨⟨⟨t1, t2⟩, y⟩, qq, cc⟩ := e2
                  have HE := Lib.hid he
                  have HE2 := Lib.hid he2
                  have hlt2 : k < ly.length := by rw [HLY.out]; exact hlt
                  clear he he2 hm2
                  go_upto_region 25 with fail
                  refine wp_region_held_drew (S := fun W => Rd W (some ⟨b, o, none⟩) (l.flatMap ceW)) (by kernel_rfl) ((HR.out.rd.below HG.out.bel).below (Below.drew (Below.refl _ _))) (fun hS => ?_)
                  refine wpAnyH_take (i := 0) (v := ?_) rfl (by kernel_rfl) (by kernel_rfl) (by kernel_rfl) (fun _ _ _ h => h) (Or.inl ⟨by kernel_rfl, ?_⟩) hS ?_
                  rotate_left
                  · intro W hSW
                    go_simp
                    all_goals with_reducible rfl
                  refine wpAnyH_take (i := 1) (v := ?_) rfl (by kernel_rfl) (by kernel_rfl) (by kernel_rfl) (fun _ _ _ h => h) (Or.inl ⟨by kernel_rfl, ?_⟩) hS ?_
                  rotate_left
                  · intro W hSW
                    go_simp
                    all_goals with_reducible rfl
                  refine wpAnyH_take (i := 2) (v := ?_) rfl (by kernel_rfl) (by kernel_rfl) (by kernel_rfl) (fun _ _ _ h => h) (Or.inl ⟨by kernel_rfl, ?_⟩) hS ?_
                  rotate_left
                  · intro W hSW
                    go_simp
                    all_goals with_reducible rfl
                  refine wpAnyH_take (i := 3) (v := ?_) rfl (by kernel_rfl) (by kernel_rfl) (by kernel_rfl) (fun _ _ _ h => h) (Or.inl ⟨by kernel_rfl, ?_⟩) hS ?_
                  rotate_left
                  · intro W hSW
                    go_simp
                    all_goals with_reducible rfl
                  go_simp
                  refine wpAnyH_take (i := 4) (v := ?_) rfl (by kernel_rfl) (by kernel_rfl) (by kernel_rfl) (fun _ _ _ h => h) (Or.inl ⟨by kernel_rfl, ?_⟩) hS ?_
                  rotate_left
                  · intro W hSW
                    go_simp
                    all_goals with_reducible rfl
                  go_simp
                  refine wpAnyH_take (i := 5) (v := .agg #[.int .i64 s1, .int .i64 s2]) rfl (by kernel_rfl) (by kernel_rfl) (by kernel_rfl) (fun _ _ _ h => h) (Or.inl ⟨by kernel_rfl, fun W hSW => exec_wr_st rfl rfl hSW HE.out⟩) hS ?_
                  refine wpAnyH_take (i := 6) (v := ?_) rfl (by kernel_rfl) (by kernel_rfl) (by kernel_rfl) (fun _ _ _ h => h) (Or.inl ⟨by kernel_rfl, ?_⟩) hS ?_
                  rotate_left
                  · intro W hSW
                    go_simp
                    all_goals with_reducible rfl
                  refine wpAnyH_take (i := 7) (v := ?_) rfl (by kernel_rfl) (by kernel_rfl) (by kernel_rfl) (fun _ _ _ h => h) (Or.inl ⟨by kernel_rfl, ?_⟩) hS ?_
                  rotate_left
                  · intro W hSW
                    go_simp
                    all_goals with_reducible rfl
                  refine wpAnyH_take (i := 8) (v := ?_) rfl (by kernel_rfl) (by kernel_rfl) (by kernel_rfl) (fun _ _ _ h => h) (Or.inl ⟨by kernel_rfl, ?_⟩) hS ?_
                  rotate_left
                  · intro W hSW
                    go_simp
                    all_goals with_reducible rfl
                  go_simp
                  refine wpAnyH_take (i := 9) (v := ?_) rfl (by kernel_rfl) (by kernel_rfl) (by kernel_rfl) (fun _ _ _ h => h) (Or.inl ⟨by kernel_rfl, ?_⟩) hS ?_
                  rotate_left
                  · intro W hSW
                    go_simp
                    all_goals with_reducible rfl
                  go_simp
                  refine wpAnyH_take (i := 10) (v := .agg (opA x q c)) rfl (by kernel_rfl) (by kernel_rfl) (by kernel_rfl) (fun _ _ _ h => h) (Or.inl ⟨by kernel_rfl, fun W hSW => exec_wr_op rfl rfl hSW HE.out⟩) hS ?_
                  go_simp
                  refine wpAnyH_ready (rs := [11]) (by kernel_rfl) (by simp) ?_
                  refine AllReadyH.cons rfl (fun K hK => ?_) AllReadyH.nil
                  go_simp
                  go_wp2_with ((go_at_call 9; refine (ownN_any x q c _ (HPE.out.kept (Below.drew (Below.refl _ _))) (by have := HS1.out.1; omega)).mono ?_; rintro e wn ⟨q2, c2, rfl, hpa, hbn, -⟩))
                  have HG2 := Lib.hid ((HG.out.kept (Below.drew (Below.refl _ _))).kept hbn)
                  refine hK.out _ _ (hS.below hbn) (fun hS => ?_)
                  clear hK K hbn
                  refine wpAnyH_ready (rs := [12]) (by kernel_rfl) (by simp) ?_
                  refine AllReadyH.cons rfl (fun K hK => ?_) AllReadyH.nil
                  go_simp
                  go_wp2_with ((go_at_call 8; refine (GD.ins s1 s2 x q2 c2 HG2.out HS1.out.sz hpa HFW.out).mono ?_; rintro e wm ⟨rfl, hgm⟩))
                  have HGM := Lib.hid hgm
                  refine hK.out _ _ (HR.out.rd.below HGM.out.bel) (fun hS => ?_)
                  clear hK K hpa hgm
                  refine wpAnyH_done (by kernel_rfl) ?_ _
                  go_simp
                  clear hS HG2
                  have HG1 := Lib.hid (show GD w gg (Gm.insAll ((pl l).take (k + 1))) hh (Gm.insAll ((pl ly).take k)) (some ⟨g, oy, none⟩) (ly.flatMap ceW) wm from by rw [← HAG.out]; exact HGM.out)
                  have HPE2 := Lib.hid (HPY2.out.kept HG1.out.bel)
                  clear HG HGM
                  go_upto_region 26 with fail
                  refine wp_region_held_drew (S := fun W => Rd W (some ⟨g, oy, none⟩) (ly.flatMap ceW)) (by kernel_rfl) (HG1.out.row.below (Below.drew (Below.refl _ _))) (fun hS => ?_)
                  refine wpAnyH_take (i := 0) (v := ?_) rfl (by kernel_rfl) (by kernel_rfl) (by kernel_rfl) (fun _ _ _ h => h) (Or.inl ⟨by kernel_rfl, ?_⟩) hS ?_
                  rotate_left
                  · intro W hSW
                    go_simp
                    all_goals with_reducible rfl
                  refine wpAnyH_take (i := 1) (v := ?_) rfl (by kernel_rfl) (by kernel_rfl) (by kernel_rfl) (fun _ _ _ h => h) (Or.inl ⟨by kernel_rfl, ?_⟩) hS ?_
                  rotate_left
                  · intro W hSW
                    go_simp
                    all_goals with_reducible rfl
                  refine wpAnyH_take (i := 2) (v := ?_) rfl (by kernel_rfl) (by kernel_rfl) (by kernel_rfl) (fun _ _ _ h => h) (Or.inl ⟨by kernel_rfl, ?_⟩) hS ?_
                  rotate_left
                  · intro W hSW
                    go_simp
                    all_goals with_reducible rfl
                  refine wpAnyH_take (i := 3) (v := ?_) rfl (by kernel_rfl) (by kernel_rfl) (by kernel_rfl) (fun _ _ _ h => h) (Or.inl ⟨by kernel_rfl, ?_⟩) hS ?_
                  rotate_left
                  · intro W hSW
                    go_simp
                    all_goals with_reducible rfl
                  go_simp
                  refine wpAnyH_take (i := 4) (v := ?_) rfl (by kernel_rfl) (by kernel_rfl) (by kernel_rfl) (fun _ _ _ h => h) (Or.inl ⟨by kernel_rfl, ?_⟩) hS ?_
                  rotate_left
                  · intro W hSW
                    go_simp
                    all_goals with_reducible rfl
                  go_simp
                  refine wpAnyH_take (i := 5) (v := .agg #[.int .i64 t1, .int .i64 t2]) rfl (by kernel_rfl) (by kernel_rfl) (by kernel_rfl) (fun _ _ _ h => h) (Or.inl ⟨by kernel_rfl, fun W hSW => exec_wr_st rfl rfl hSW HE2.out⟩) hS ?_
                  refine wpAnyH_take (i := 6) (v := ?_) rfl (by kernel_rfl) (by kernel_rfl) (by kernel_rfl) (fun _ _ _ h => h) (Or.inl ⟨by kernel_rfl, ?_⟩) hS ?_
                  rotate_left
                  · intro W hSW
                    go_simp
                    all_goals with_reducible rfl
                  refine wpAnyH_take (i := 7) (v := ?_) rfl (by kernel_rfl) (by kernel_rfl) (by kernel_rfl) (fun _ _ _ h => h) (Or.inl ⟨by kernel_rfl, ?_⟩) hS ?_
                  rotate_left
                  · intro W hSW
                    go_simp
                    all_goals with_reducible rfl
                  refine wpAnyH_take (i := 8) (v := ?_) rfl (by kernel_rfl) (by kernel_rfl) (by kernel_rfl) (fun _ _ _ h => h) (Or.inl ⟨by kernel_rfl, ?_⟩) hS ?_
                  rotate_left
                  · intro W hSW
                    go_simp
                    all_goals with_reducible rfl
                  go_simp
                  refine wpAnyH_take (i := 9) (v := ?_) rfl (by kernel_rfl) (by kernel_rfl) (by kernel_rfl) (fun _ _ _ h => h) (Or.inl ⟨by kernel_rfl, ?_⟩) hS ?_
                  rotate_left
                  · intro W hSW
                    go_simp
                    all_goals with_reducible rfl
                  go_simp
                  refine wpAnyH_take (i := 10) (v := .agg (opA y qq cc)) rfl (by kernel_rfl) (by kernel_rfl) (by kernel_rfl) (fun _ _ _ h => h) (Or.inl ⟨by kernel_rfl, fun W hSW => exec_wr_op rfl rfl hSW HE2.out⟩) hS ?_
                  go_simp
                  refine wpAnyH_ready (rs := [11]) (by kernel_rfl) (by simp) ?_
                  refine AllReadyH.cons rfl (fun K hK => ?_) AllReadyH.nil
                  go_simp
                  go_wp2_with ((go_at_call 9; refine (ownN_any y qq cc _ (HPE2.out.kept (Below.drew (Below.refl _ _))) (by have := HS12.out.1; omega)).mono ?_; rintro e wn ⟨q2, c2, rfl, hpa, hbn, -⟩))
                  have HG2 := Lib.hid ((HG1.out.kept (Below.drew (Below.refl _ _))).kept hbn)
                  refine hK.out _ _ (hS.below hbn) (fun hS => ?_)
                  clear hK K hbn
                  refine wpAnyH_ready (rs := [12]) (by kernel_rfl) (by simp) ?_
                  refine AllReadyH.cons rfl (fun K hK => ?_) AllReadyH.nil
                  go_simp
                  go_wp2_with ((go_at_call 8; refine (GD.insB t1 t2 y q2 c2 HG2.out HS12.out.sz hpa HFW2.out).mono ?_; rintro e wm ⟨rfl, hgm⟩))
                  have HGM := Lib.hid hgm
                  refine hK.out _ _ HGM.out.row (fun hS => ?_)
                  clear hK K hpa hgm
                  refine wpAnyH_done (by kernel_rfl) ?_ _
                  go_simp
                  clear hS HG2
                  have HG3 := Lib.hid (show GD w gg (Gm.insAll ((pl l).take (k + 1))) hh (Gm.insAll ((pl ly).take (k + 1))) (some ⟨g, oy, none⟩) (ly.flatMap ceW) wm from by rw [← HAG2.out]; exact HGM.out)
                  clear HG1 HGM
                  go_wp2
                  go_roundw
                  case rel => exact ⟨k + 1, by omega, by go_num, HG3.out⟩
                  case measure => simp [intOf]; omega
                · obtain rfl : k = l.length := by omega
                  have d0 : decide ((l.length : Int) < (l.length : Int)) = false := decide_eq_false (by omega)
                  have HTA := Lib.hid (show (pl l).take l.length = pl l from List.take_of_length_le (by rw [pl_len]; exact Nat.le_refl _))
                  have HTB := Lib.hid (show Gm.insAll ((pl ly).take l.length) = Gm.insAll (pl l) from by
                    rw [List.take_of_length_le (by rw [pl_len, HLY.out]; exact Nat.le_refl _)]
                    exact Gm.all_perm HLO.out (pl_perm HPY.out))
                  rw [HTA.out, HTB.out] at HG
                  clear HTA HTB HPY HLO hlt hk
                  generalize Gm.insAll (pl l) = ops at *
                  go_wp2_with fail
                  refine (GD.same HG.out rfl).mono ?_
                  rintro e w14 ⟨rfl, hg⟩
                  replace HG := Lib.hid hg
                  clear hg
                  go_wp2_with fail
                  refine (GD.count HG.out).mono ?_
                  rintro e w15 ⟨rfl, rfl⟩
                  go_wp2_with fail
                  refine (GD.count HG.out.swap).mono ?_
                  rintro e w15 ⟨rfl, rfl⟩
                  go_wp2
                  go_loopw [14] (fun i wr => ∃ k : Nat, k ≤ l.length ∧ i = .int .i64 (k : Int) ∧ GD w gg ops hh ops py (ly.flatMap ceW) wr) (fun i _ => l.length - (intOf i).toNat)
                  case atStart => exact ⟨0, Nat.zero_le _, rfl, HG.out⟩
                  case round =>
                    clear HG
                    obtain ⟨k, hk, rfl, hg⟩ := hrel
                    have HG := Lib.hid hg
                    clear hg
                    by_cases hlt : k < l.length
                    · have d0 : decide ((k : Int) < (l.length : Int)) = true := decide_eq_true (by omega)
                      obtain ⟨b, o, hbo, -⟩ := HR.out.rd.addr (by rw [wrK.length]; omega)
                      subst hbo
                      obtain ⟨e, he⟩ : ∃ e, l[k]? = some e := ⟨_, List.getElem?_eq_getElem hlt⟩
                      obtain ⟨⟨⟨s1, s2⟩, x⟩, q, c⟩ := e
                      have HE := Lib.hid he
                      clear he
                      go_upto_region 32 with fail
                      refine wp_region_held_drew (S := fun W => Rd W (some ⟨b, o, none⟩) (l.flatMap ceW)) (by kernel_rfl) ((HR.out.rd.below HG.out.bel).below (Below.drew (Below.refl _ _))) (fun hS => ?_)
                      refine wpAnyH_take (i := 0) (v := ?_) rfl (by kernel_rfl) (by kernel_rfl) (by kernel_rfl) (fun _ _ _ h => h) (Or.inl ⟨by kernel_rfl, ?_⟩) hS ?_
                      rotate_left
                      · intro W hSW
                        go_simp
                        all_goals with_reducible rfl
                      refine wpAnyH_take (i := 1) (v := ?_) rfl (by kernel_rfl) (by kernel_rfl) (by kernel_rfl) (fun _ _ _ h => h) (Or.inl ⟨by kernel_rfl, ?_⟩) hS ?_
                      rotate_left
                      · intro W hSW
                        go_simp
                        all_goals with_reducible rfl
                      refine wpAnyH_take (i := 2) (v := ?_) rfl (by kernel_rfl) (by kernel_rfl) (by kernel_rfl) (fun _ _ _ h => h) (Or.inl ⟨by kernel_rfl, ?_⟩) hS ?_
                      rotate_left
                      · intro W hSW
                        go_simp
                        all_goals with_reducible rfl
                      refine wpAnyH_take (i := 3) (v := ?_) rfl (by kernel_rfl) (by kernel_rfl) (by kernel_rfl) (fun _ _ _ h => h) (Or.inl ⟨by kernel_rfl, ?_⟩) hS ?_
                      rotate_left
                      · intro W hSW
                        go_simp
                        all_goals with_reducible rfl
                      go_simp
                      refine wpAnyH_take (i := 4) (v := ?_) rfl (by kernel_rfl) (by kernel_rfl) (by kernel_rfl) (fun _ _ _ h => h) (Or.inl ⟨by kernel_rfl, ?_⟩) hS ?_
                      rotate_left
                      · intro W hSW
                        go_simp
                        all_goals with_reducible rfl
                      go_simp
                      refine wpAnyH_take (i := 5) (v := .agg #[.int .i64 s1, .int .i64 s2]) rfl (by kernel_rfl) (by kernel_rfl) (by kernel_rfl) (fun _ _ _ h => h) (Or.inl ⟨by kernel_rfl, fun W hSW => exec_wr_st rfl rfl hSW HE.out⟩) hS ?_
                      refine wpAnyH_take (i := 7) (v := ?_) rfl (by kernel_rfl) (by kernel_rfl) (by kernel_rfl) (fun _ _ _ h => h) (Or.inl ⟨by kernel_rfl, ?_⟩) hS ?_
                      rotate_left
                      · intro W hSW
                        go_simp
                        all_goals with_reducible rfl
                      refine wpAnyH_take (i := 8) (v := ?_) rfl (by kernel_rfl) (by kernel_rfl) (by kernel_rfl) (fun _ _ _ h => h) (Or.inl ⟨by kernel_rfl, ?_⟩) hS ?_
                      rotate_left
                      · intro W hSW
                        go_simp
                        all_goals with_reducible rfl
                      refine wpAnyH_take (i := 9) (v := ?_) rfl (by kernel_rfl) (by kernel_rfl) (by kernel_rfl) (fun _ _ _ h => h) (Or.inl ⟨by kernel_rfl, ?_⟩) hS ?_
                      rotate_left
                      · intro W hSW
                        go_simp
                        all_goals with_reducible rfl
                      go_simp
                      refine wpAnyH_take (i := 10) (v := ?_) rfl (by kernel_rfl) (by kernel_rfl) (by kernel_rfl) (fun _ _ _ h => h) (Or.inl ⟨by kernel_rfl, ?_⟩) hS ?_
                      rotate_left
                      · intro W hSW
                        go_simp
                        all_goals with_reducible rfl
                      refine wpAnyH_take (i := 11) (v := ?_) rfl (by kernel_rfl) (by kernel_rfl) (by kernel_rfl) (fun _ _ _ h => h) (Or.inl ⟨by kernel_rfl, ?_⟩) hS ?_
                      rotate_left
                      · intro W hSW
                        go_simp
                        all_goals with_reducible rfl
                      go_simp
                      refine wpAnyH_take (i := 12) (v := .agg #[.int .i64 s1, .int .i64 s2]) rfl (by kernel_rfl) (by kernel_rfl) (by kernel_rfl) (fun _ _ _ h => h) (Or.inl ⟨by kernel_rfl, fun W hSW => exec_wr_st rfl rfl hSW HE.out⟩) hS ?_
                      go_simp
                      refine wpAnyH_ready (rs := [6]) (by kernel_rfl) (by simp) ?_
                      refine AllReadyH.cons rfl (fun K hK => ?_) AllReadyH.nil
                      go_simp
                      go_wp2_with ((go_at_call 12; refine (GD.done s1 s2 (HG.out.kept (Below.drew (Below.refl _ _)))).mono ?_; rintro e wn ⟨d1, rfl, hd1, hgn⟩))
                      have HD1 := Lib.hid hd1
                      have HGN := Lib.hid hgn
                      refine hK.out _ _ (HR.out.rd.below HGN.out.bel) (fun hS => ?_)
                      clear hK K hd1 hgn
                      refine wpAnyH_ready (rs := [13]) (by kernel_rfl) (by simp) ?_
                      refine AllReadyH.cons rfl (fun K hK => ?_) AllReadyH.nil
                      go_simp
                      go_wp2_with ((go_at_call 12; refine (GD.doneB s1 s2 HGN.out).mono ?_; rintro e wm ⟨d2, rfl, hd2, hgm⟩))
                      obtain rfl : d2 = d1 := Bool.eq_iff_iff.2 (hd2.trans HD1.out.symm)
                      have HGM := Lib.hid hgm
                      refine hK.out _ _ (HR.out.rd.below HGM.out.bel) (fun hS => ?_)
                      clear hK K hd2 hgm
                      refine wpAnyH_take (i := 14) (v := .bool false) rfl (by kernel_rfl) (by kernel_rfl) (by kernel_rfl) (fun _ _ _ h => h) (Or.inl ⟨by kernel_rfl, fun W hSW => exec_neq_self rfl d2 rfl rfl⟩) hS ?_
                      go_simp
                      refine wpAnyH_done (by kernel_rfl) ?_ _
                      go_simp
                      clear hS HGN HD1
                      go_wp2
                      go_roundw
                      case rel => exact ⟨k + 1, by omega, by go_num, HGM.out⟩
                      case measure => simp [intOf]; omega
                    · obtain rfl : k = l.length := by omega
                      have d0 : decide ((l.length : Int) < (l.length : Int)) = false := decide_eq_false (by omega)
                      go_wp2
                      go_ret
                      exact ⟨rfl, HG.out.bel⟩
end Go.Proofs.Ythifdefjmfakgaa
