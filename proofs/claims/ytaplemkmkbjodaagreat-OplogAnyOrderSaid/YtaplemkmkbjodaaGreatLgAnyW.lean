/-
  OplogAnyOrder: two logs to which the same batches were given, in whichever order, tell the same.
  No conditions but sizes.
-/
import Derived.Test.YtaplemkmkbjodaaGreatGS
import Derived.Test.YtaplemkmkbjodaaGreatLgFair
import Derived.Test.YtaplemkmkbjodaaGreatLgKnow
namespace Go.Proofs.YtaplemkmkbjodaaGreat
open Go.RowKit

/-- a place out of any number -/
theorem turn_index (t : Int) (n : Nat) (h : 0 < n) : ∃ pi : Nat, (t.tmod (n : Int) + (n : Int)).tmod (n : Int) = (pi : Int) ∧ pi < n ∧ 0 ≤ t.tmod (n : Int) + (n : Int) ∧ t.tmod (n : Int) + (n : Int) < 2 * (n : Int) := by
  have h1 : 0 ≤ t.tmod (n : Int) + (n : Int) := by
    have := Int.lt_tmod_of_pos t (b := (n : Int)) (by omega)
    omega
  have h5 := Int.tmod_lt_of_pos t (b := (n : Int)) (by omega)
  refine ⟨((t.tmod (n : Int) + (n : Int)).tmod (n : Int)).toNat, ?_, ?_, h1, by omega⟩
  · have := Int.tmod_nonneg (n : Int) h1
    omega
  · have h2 := Int.tmod_nonneg (n : Int) h1
    have h3 := Int.tmod_lt_of_pos (t.tmod (n : Int) + (n : Int)) (b := (n : Int)) (by omega)
    omega
theorem turn_k (k n : Nat) : (k : Int).tmod (n : Int) = ((k % n : Nat) : Int) := by
  rw [Int.tmod_eq_emod_of_nonneg (by omega)]
  rfl
theorem wp_load_be {w : World} {t : TypeId} (V : AgT t 4) {o : Oper} {a : Act} {K : Act → World → Prop} {Q : Exit → Act → World → Prop} (x : Operand) (ho : o.op = .load t x) {b i : Nat} (hx : a.eval x = .pointer (some ⟨b, i * 4, none⟩)) (l : List Be) (hrd : Rd w (some ⟨b, 0, none⟩) (beCells l)) (hi : i < l.length)
    (h : K (a.put o.dst (.agg (btA (beOf l i).x (beOf l i).p (beOf l i).c))) w) : Oper.wp Tryz.prog o a w K Q := by
  obtain ⟨d, hu⟩ := V.und
  have h1 := hrd.be i hi
  rw [Nat.zero_add] at h1
  have hr := run_loadAt_mid (P := Tryz.prog) w b (i * 4) t (beL (beOf l i)) _ h1 hu rfl V.size
  unfold Oper.wp execOp
  simp only [ho, hx, Sem.run_bind, hr, Result.andThen_ok, Sem.run_pure]
  exact h

set_option maxRecDepth 100000 in
set_option maxHeartbeats 32000000 in
theorem oplogAnyOrder_walk (p : Option Addr) (c : Nat) (l : List Be) (pt : Option Addr) (ct : Nat) (ts : List Int) (w : World) (h : Rd w p (beCells l)) (ho : ∀ e, e ∈ l → Bops w e.x e.p e.c) (hts : Ints w pt ts ∧ ∀ x ∈ ts, (Lit.int .i64 x).wf = true) (_ : ts.length ≤ ct) (_ : pt = none → ct = 0) (hz : ts.length ≤ 17592186043904) :
    Calls Tryz.prog 4 #[.slice p l.length c, .slice pt ts.length ct] w fun e w' => e = .returned (.bool true) ∧ Below w.heap.size w w' := by
  have HKN := Lib.hid (fun W => lgknows_any W)
  have HLI := Lib.hid (light9_any p c l w h ho)
  by_cases hg : light9 l = true ∧ l.length ≤ 40
  · have HR := Lib.hid (fun W (hW : Below w.heap.size w W) => h.below hW)
    have HOB := Lib.hid (fun W (hW : Below w.heap.size w W) e (he : e ∈ l) => (ho e he).kept hW)
    have HSZ := Lib.hid (fun e (he : e ∈ l) => (show Szs e.x.ops ∧ CpSz e.x ∧ e.x.ops.length ≤ 20 from by
      have hm := light9_mem hg.1 he
      exact ⟨light_szs hm.1, ⟨by have := light_len hm.1; omega, fun y hy => by have := light_path hm.1 y hy; omega⟩, hm.2⟩))
    have HN40 := Lib.hid hg.2
    have HTI := Lib.hid hts
    have hd40 : decide (40 < (l.length : Int)) = false := decide_eq_false (by omega)
    have HFA := Lib.hid (fun W (hW : Below w.heap.size w W) => fair9_any p c l W (HR.out W hW) (HOB.out W hW) (fun e he => (HSZ.out e he).1) (by omega))
    rw [hg.1] at HLI
    clear hg h ho hts
    go_enter Tryz.func4, Tryz.ntmps4
    go_wp2_with fail
    refine HLI.out.mono ?_
    rintro e w1 ⟨rfl, hb1⟩
    have HB1 := Lib.hid hb1
    clear hb1
    go_wp2_with fail
    refine (HFA.out w1 HB1.out).mono ?_
    rintro e w2 ⟨bf, rfl, hfair, hb2⟩
    have HB2 := Lib.hid (HB1.out.trans (hb2.mono HB1.out.size))
    clear hb2
    cases bf with
    | false =>
      clear hfair
      go_wp2_with fail
      refine (HKN.out _).mono ?_
      rintro e wk ⟨rfl, hbk⟩
      have HBK := Lib.hid (HB2.out.trans (hbk.mono HB2.out.size))
      clear hbk
      go_wp2
      go_ret
      exact ⟨rfl, HBK.out⟩
    | true =>
      have HFP := Lib.hid (hfair rfl)
      clear hfair
      go_wp2_with fail
      refine (lnew_any w2).mono ?_
      rintro e w3 ⟨la, Sa, Ma, ma, rfl, hloa, hlga, hla1, hla2, hb3⟩
      have HB3 := Lib.hid (HB2.out.trans (hb3.mono HB2.out.size))
      clear hb3
      go_wp2_with fail
      refine (lnew_any w3).mono ?_
      rintro e w4 ⟨lb, Sb, Mb, mb, rfl, hlob, hlgb, hlb1, hlb2, hb4⟩
      have HB4 := Lib.hid (HB3.out.trans (hb4.mono HB3.out.size))
      have HLA := Lib.hid (hloa.kept hb4)
      have HLB := Lib.hid hlob
      have HZA := Lib.hid hlga
      have HZB := Lib.hid hlgb
      have HZ3 := Lib.hid (And.intro hla2 (And.intro hlb1 hlb2))
      clear hb4 hloa hlob hlga hlgb hla1 hla2 hlb1 hlb2
      obtain ⟨Fa, HFA0⟩ : ∃ Fa, Hid (Fa = fun k => w2.heap.size ≤ k ∧ k < w3.heap.size ∧ k ≠ la) := ⟨_, Lib.hid rfl⟩
      obtain ⟨Fb, HFB0⟩ : ∃ Fb, Hid (Fb = fun k => w3.heap.size ≤ k ∧ k < w4.heap.size ∧ k ≠ lb) := ⟨_, Lib.hid rfl⟩
      rw [← HFA0.out] at HLA
      rw [← HFB0.out] at HLB
      go_wp2_with fail
      refine (HKN.out _).mono ?_
      rintro e w5 ⟨rfl, hb5⟩
      have HB5 := Lib.hid (HB4.out.trans (hb5.mono HB4.out.size))
      replace HLA := Lib.hid (HLA.out.kept hb5)
      replace HLB := Lib.hid (HLB.out.kept hb5)
      have HZ5 := Lib.hid hb5.size
      clear hb5
      go_wp2_with fail
      refine (all9_any p c l w5 (HR.out _ HB5.out) (HOB.out _ HB5.out) (fun e he => (HSZ.out e he).2.1) (by have := HN40.out; omega)).mono ?_
      rintro e w6 ⟨p6, c6, lx, rfl, hm6, hr6, hb6⟩
      have HB6 := Lib.hid (HB5.out.trans (hb6.mono HB5.out.size))
      replace HLA := Lib.hid (HLA.out.kept hb6)
      replace HLB := Lib.hid (HLB.out.kept hb6)
      have HMX := Lib.hid hm6
      have HRX := Lib.hid (fun W (ht : Turns Fa w6 W) => hr6.turns ht (fun k hk => by rw [HFA0.out] at hk; have := HZ3.out; have := HZ5.out; omega))
      have HLX := Lib.hid (show lx.length = l.length from by have := congrArg List.length hm6; simpa using this)
      have HZ6 := Lib.hid hb6.size
      have hn40 := HN40.out
      clear hb6 hm6 hr6
      have HAS := Lib.hid (AdS.start (X := l.map (·.x)) HLA.out HZA.out)
      have HEX := Lib.hid (fun (k : Nat) (hk : k < lx.length) => (show ∃ e ∈ l, e.x = (beOf lx k).x from by
        have h1 : (beOf lx k).x ∈ l.map (·.x) := by rw [← HMX.out]; exact List.mem_map.2 ⟨_, beOf_mem hk, rfl⟩
        exact List.mem_map.1 h1))
      go_wp2_with fail
      go_loopw [8] (fun i wr => ∃ (k : Nat) (m : Sm) (F : Nat → Prop), k ≤ l.length ∧ i = .int .i64 (k : Int) ∧ AdS w6 la Sa Ma Fa (l.map (·.x)) k m F wr) (fun i _ => l.length - (intOf i).toNat)
      case atStart => exact ⟨0, ma, Fa, Nat.zero_le _, rfl, HAS.out⟩
      case round =>
        clear HAS
        obtain ⟨k, m, F, hk, rfl, hT⟩ := hrel
        have T := Lib.hid hT
        clear hT
        by_cases hlk : k < l.length
        · have hd0 : decide ((k : Int) < (l.length : Int)) = true := decide_eq_true (by omega)
          have hkx : k < lx.length := by rw [HLX.out]; exact hlk
          have HROW := Lib.hid (HRX.out wr T.out.turns)
          have HRD := Lib.hid HROW.out.rd.1
          obtain ⟨b, o, rfl, -⟩ := HRD.out.addr (by rw [beCells_length]; omega)
          obtain ⟨ex, hex, hexx⟩ := HEX.out k hkx
          have HSX := Lib.hid (HSZ.out ex hex)
          rw [hexx] at HSX
          have HADD := Lib.hid (ladd_any (beOf lx k).x (beOf lx k).p (beOf lx k).c wr T.out.lo HSX.out.1 HSX.out.2.1 ((HROW.out.ops _ (beOf_mem hkx)).bops))
          have HSTP := Lib.hid (fun e w' ha => T.out.step (x := (beOf lx k).x) (e := e) (w' := w') HFP.out (by rw [List.length_map]; exact hlk) (by simp only [← HMX.out, List.getElem_map]; simp [beOf, hkx]) HSX.out.1 HSX.out.2.1 HSX.out.2.2 (by rw [List.length_map]; exact hn40) ha)
          clear hex hexx
          go_wp2_with (refine wpList_load_be btP rfl _ rfl b o k rfl lx HRD.out hkx ?_)
          refine HADD.out.mono ?_
          intro e w7 ha
          obtain ⟨m', F', p', c', n', rfl, hT'⟩ := HSTP.out e w7 ha
          have HT' := Lib.hid hT'
          clear ha hT'
          go_wp2
          go_roundw
          case rel => exact ⟨k + 1, m', F', by omega, by go_num, HT'.out⟩
          case measure => simp [intOf]; omega
        · obtain rfl : k = l.length := by omega
          have hd0 : decide ((l.length : Int) < (l.length : Int)) = false := decide_eq_false (by omega)
          have HBL := Lib.hid (HB6.out.trans (T.out.turns.below (fun j _ hj => by rw [HFA0.out] at hj; have := HB2.out.size; omega) HB6.out.size))
          have HLBr := Lib.hid (HLB.out.turns T.out.turns (fun j hj hh => by rw [HFB0.out] at hj; rw [HFA0.out] at hh; omega) (fun hh => by rw [HFA0.out] at hh; have := HZ3.out; omega))
          obtain ⟨w9, hw9⟩ : ∃ w9 : World, w9 = wr := ⟨_, rfl⟩
          subst hw9
          go_wp2_with fail
          refine (all9_any p c l w9 (HR.out _ HBL.out) (HOB.out _ HBL.out) (fun e he => (HSZ.out e he).2.1) (by omega)).mono ?_
          rintro e w10 ⟨p10, c10, ly0, rfl, hm10, hr10, hb10⟩
          have HLY := Lib.hid (show ly0.length = l.length from by have := congrArg List.length hm10; simpa using this)
          have HMY := Lib.hid hm10
          have HR10 := Lib.hid hr10
          have HB10 := Lib.hid hb10
          have HZ10 := Lib.hid hb10.size
          have HBW10 := Lib.hid (HBL.out.trans (hb10.mono HBL.out.size))
          clear hm10 hr10 hb10
          go_wp2_with fail
          go_loopw [10] (fun i wr => ∃ (k : Nat) (ly : List Be), k ≤ ts.length ∧ k ≤ 60 ∧ i = .int .i64 (k : Int) ∧ ly.length = l.length ∧ ly.Perm ly0 ∧ BRow w9.heap.size wr p10 c10 ly ∧ Below w9.heap.size w10 wr) (fun i _ => 60 - (intOf i).toNat)
          case atStart => exact ⟨0, ly0, Nat.zero_le _, by omega, rfl, HLY.out, List.Perm.refl _, HR10.out, Below.refl _ _⟩
          case round =>
            obtain ⟨k, ly, hkt, hk60, rfl, hll, hpy, hry, hby⟩ := hrel
            have HRO := Lib.hid hry
            have HPY := Lib.hid hpy
            have HBD := Lib.hid hby
            clear hry hpy hby
            by_cases hgo : k < ts.length ∧ k < 60 ∧ 0 < l.length
            · obtain ⟨g1, g2, g3⟩ := hgo
              have d1 : decide ((k : Int) < (ts.length : Int)) = true := decide_eq_true (by omega)
              have d2 : decide ((k : Int) < 60) = true := decide_eq_true (by omega)
              have d3 : decide (0 < (l.length : Int)) = true := decide_eq_true (by omega)
              obtain ⟨p', c', e10, -, -, -, -, h410⟩ := own_rd HRO.out.own
              obtain ⟨g, o, hq10, -⟩ := HRO.out.rd.1.addr (by rw [beCells_length]; omega)
              subst hq10
              have ho0 : o = 0 := by cases e10; have := (h410 _ rfl).2.2.2; simpa using this
              subst ho0
              have HGB := Lib.hid (World.ownsRow.lt HRO.out.own g rfl).1
              clear e10 h410
              obtain ⟨bt, ot, rfl, hct⟩ := HTI.out.1 (by omega)
              have yt := hct k g1
              have HBWR := Lib.hid (show Below w.heap.size w wr from HBW10.out.trans (HBD.out.mono HBL.out.size))
              have yt' := HBWR.out.cell (cell_lt yt)
              rw [yt] at yt'
              have HPI := Lib.hid (turn_index (ts.getD k 0) l.length g3)
              obtain ⟨pi, hpi0, hpi1, hp2, hp3⟩ := HPI.out
              have hwt : IntKind.i64.wrap ((ts.getD k 0).tmod (l.length : Int) + (l.length : Int)) = (ts.getD k 0).tmod (l.length : Int) + (l.length : Int) := wraps_i64 _ hp2 (by omega)
              clear hp2 hp3
              have hqi0 := turn_k k l.length
              obtain ⟨qi, hqq⟩ : ∃ qi, k % l.length = qi := ⟨_, rfl⟩
              rw [hqq] at hqi0
              have hqi1 : qi < l.length := by rw [← hqq]; exact Nat.mod_lt _ g3
              have hpi : pi < ly.length := by omega
              have hqi : qi < ly.length := by omega
              have HLpi := Lib.hid hpi1
              have HLqi := Lib.hid hqi1
              generalize ts.getD k 0 = tv at *
              clear hct yt hqq HPI
              go_upto_region 18 with fail
              refine wp_region_held_drew (S := fun _ => True) (by kernel_rfl) trivial (fun hS => ?_)
              replace HRO := Lib.hid (HRO.out.kept (Below.drew (Below.refl _ _)))
              replace HBD := Lib.hid HBD.out.drew
              generalize wr.drew = wd at *
              have HRY := Lib.hid HRO.out.rd.1
              refine wpAnyH_take (i := 0) (v := ?_) rfl (by kernel_rfl) (by kernel_rfl) (by kernel_rfl) (fun _ _ _ h => h) (Or.inl ⟨by kernel_rfl, ?_⟩) hS ?_
              rotate_left
              · intro W hSW
                go_simp
                all_goals with_reducible rfl
              refine wpAnyH_take (i := 1) (v := ?_) rfl (by kernel_rfl) (by kernel_rfl) (by kernel_rfl) (fun _ _ _ h => h) (Or.inl ⟨by kernel_rfl, ?_⟩) hS ?_
              rotate_left
              · intro W hSW
                go_simp
                all_goals with_reducible rfl
              refine wpAnyH_take (i := 2) (v := ?_) rfl (by kernel_rfl) (by kernel_rfl) (by kernel_rfl) (fun _ _ _ h => h) (Or.inl ⟨by kernel_rfl, ?_⟩) hS ?_
              rotate_left
              · intro W hSW
                go_simp
                all_goals with_reducible rfl
              refine wpAnyH_take (i := 3) (v := ?_) rfl (by kernel_rfl) (by kernel_rfl) (by kernel_rfl) (fun _ _ _ h => h) (Or.inl ⟨by kernel_rfl, ?_⟩) hS ?_
              rotate_left
              · intro W hSW
                go_simp
                all_goals with_reducible rfl
              go_simp
              refine wpAnyH_take (i := 4) (v := ?_) rfl (by kernel_rfl) (by kernel_rfl) (by kernel_rfl) (fun _ _ _ h => h) (Or.inl ⟨by kernel_rfl, ?_⟩) hS ?_
              rotate_left
              · intro W hSW
                go_simp
                all_goals with_reducible rfl
              refine wpAnyH_take (i := 5) (v := ?_) rfl (by kernel_rfl) (by kernel_rfl) (by kernel_rfl) (fun _ _ _ h => h) (Or.inl ⟨by kernel_rfl, ?_⟩) hS ?_
              rotate_left
              · intro W hSW
                go_simp
                all_goals with_reducible rfl
              refine wpAnyH_take (i := 6) (v := ?_) rfl (by kernel_rfl) (by kernel_rfl) (by kernel_rfl) (fun _ _ _ h => h) (Or.inl ⟨by kernel_rfl, ?_⟩) hS ?_
              rotate_left
              · intro W hSW
                have hqi := HLqi.out
                go_simp
                all_goals with_reducible rfl
              refine wpAnyH_take (i := 8) (v := ?_) rfl (by kernel_rfl) (by kernel_rfl) (by kernel_rfl) (fun _ _ _ h => h) (Or.inl ⟨by kernel_rfl, ?_⟩) hS ?_
              rotate_left
              · intro W hSW
                go_simp
                all_goals with_reducible rfl
              go_simp
              refine wpAnyH_take (i := 9) (v := ?_) rfl (by kernel_rfl) (by kernel_rfl) (by kernel_rfl) (fun _ _ _ h => h) (Or.inl ⟨by kernel_rfl, ?_⟩) hS ?_
              rotate_left
              · intro W hSW
                go_simp
                all_goals with_reducible rfl
              refine wpAnyH_take (i := 10) (v := ?_) rfl (by kernel_rfl) (by kernel_rfl) (by kernel_rfl) (fun _ _ _ h => h) (Or.inl ⟨by kernel_rfl, ?_⟩) hS ?_
              rotate_left
              · intro W hSW
                have hpi := HLpi.out
                go_simp
                all_goals with_reducible rfl
              go_simp
              refine wpAnyH_ready (rs := [7, 11]) (by kernel_rfl) (by simp) ?_
              refine AllReadyH.cons rfl (fun K hK => ?_) (AllReadyH.cons rfl (fun K hK => ?_) AllReadyH.nil)
              · refine step_of (by kernel_rfl) ?_
                refine wp_load_be btP _ rfl rfl ly HRY.out hqi ?_
                refine hK.out _ _ trivial (fun hS => ?_)
                clear hK K
                refine wpAnyH_ready (rs := [11]) (by kernel_rfl) (by simp) ?_
                refine AllReadyH.cons rfl (fun K hK => ?_) AllReadyH.nil
                refine step_of (by kernel_rfl) ?_
                refine wp_load_be btP _ rfl rfl ly HRY.out hpi ?_
                refine hK.out _ _ trivial (fun hS => ?_)
                clear hK K
                refine wpAnyH_take (i := 12) (v := ?_) rfl (by kernel_rfl) (by kernel_rfl) (by kernel_rfl) (fun _ _ _ h => h) (Or.inl ⟨by kernel_rfl, ?_⟩) hS ?_
                rotate_left
                · intro W hSW
                  have hpi := HLpi.out
                  go_simp
                  all_goals with_reducible rfl
                go_simp
                refine wpAnyH_ready (rs := [13]) (by kernel_rfl) (by simp) ?_
                refine AllReadyH.cons rfl (fun K hK => ?_) AllReadyH.nil
                obtain ⟨hr1, hg1, hkey1⟩ := HRO.out.set (i := pi) hpi (e := beOf ly qi) (HRO.out.ops _ (beOf_mem hqi))
                have HR1 := Lib.hid hr1
                have HG1 := Lib.hid hg1
                have HE1 := Lib.hid (hkey1 (beOf ly pi) (HRO.out.ops _ (beOf_mem hpi)))
                refine step_of (by kernel_rfl) ?_
                refine wp_store_mid _ _ _ rfl g (pi * 4) (btA (beOf ly qi).x (beOf ly qi).p (beOf ly qi).c) rfl rfl (by rw [btA_size]; exact own_there HRO.out.own _ _ (by rw [beCells_length]; omega)) btP.size (btA_one _ _ _) ?_
                have hc1 : wd.setCells g (pi * 4) (btA (beOf ly qi).x (beOf ly qi).p (beOf ly qi).c).toList = wd.setCells g (pi * 4) (beL (beOf ly qi)) := rfl
                rw [hc1]
                refine hK.out _ _ trivial (fun hS => ?_)
                clear hK K hr1 hg1 hkey1 hc1
                generalize wd.setCells g (pi * 4) (beL (beOf ly qi)) = we at *
                refine wpAnyH_take (i := 14) (v := ?_) rfl (by kernel_rfl) (by kernel_rfl) (by kernel_rfl) (fun _ _ _ h => h) (Or.inl ⟨by kernel_rfl, ?_⟩) hS ?_
                rotate_left
                · intro W hSW
                  have hqi := HLqi.out
                  go_simp
                  all_goals with_reducible rfl
                go_simp
                refine wpAnyH_ready (rs := [15]) (by kernel_rfl) (by simp) ?_
                refine AllReadyH.cons rfl (fun K hK => ?_) AllReadyH.nil
                have hl1 : (ly.set pi (beOf ly qi)).length = ly.length := by simp
                obtain ⟨hr2, hg2, -⟩ := HR1.out.set (i := qi) (by rw [hl1]; exact hqi) (e := beOf ly pi) HE1.out
                have HR2 := Lib.hid hr2
                have HG2 := Lib.hid hg2
                refine step_of (by kernel_rfl) ?_
                refine wp_store_mid _ _ _ rfl g (qi * 4) (btA (beOf ly pi).x (beOf ly pi).p (beOf ly pi).c) rfl rfl (by rw [btA_size]; exact own_there HR1.out.own _ _ (by rw [beCells_length, hl1]; omega)) btP.size (btA_one _ _ _) ?_
                have hc2 : we.setCells g (qi * 4) (btA (beOf ly pi).x (beOf ly pi).p (beOf ly pi).c).toList = we.setCells g (qi * 4) (beL (beOf ly pi)) := rfl
                rw [hc2]
                refine hK.out _ _ trivial (fun hS => ?_)
                clear hK K hr2 hg2 hc2
                generalize we.setCells g (qi * 4) (beL (beOf ly pi)) = wf at *
                refine wpAnyH_done (by kernel_rfl) ?_ _
                go_simp
                clear hS
                have HL2 := Lib.hid (show ((ly.set pi (beOf ly qi)).set qi (beOf ly pi)).length = ly.length from by simp)
                have HPM := Lib.hid ((be_swap hpi hqi).trans HPY.out)
                have HBW := Lib.hid (show Below w9.heap.size w10 wf from (HBD.out.trans ((Turns.of_grown HG1.out).below (fun k _ hk => by cases hk; exact HGB.out) (Nat.le_trans HZ10.out HBD.out.size))).trans ((Turns.of_grown HG2.out).below (fun k _ hk => by cases hk; exact HGB.out) (Nat.le_trans (Nat.le_trans HZ10.out HBD.out.size) HG1.out.size)))
                go_wp2
                go_roundw
                case rel => exact ⟨k + 1, _, by omega, by omega, by go_num, HL2.out.trans hll, HPM.out, HR2.out, HBW.out⟩
                case measure => simp [intOf]; omega
              · refine step_of (by kernel_rfl) ?_
                refine wp_load_be btP _ rfl rfl ly HRY.out hpi ?_
                refine hK.out _ _ trivial (fun hS => ?_)
                clear hK K
                refine wpAnyH_ready (rs := [7]) (by kernel_rfl) (by simp) ?_
                refine AllReadyH.cons rfl (fun K hK => ?_) AllReadyH.nil
                refine step_of (by kernel_rfl) ?_
                refine wp_load_be btP _ rfl rfl ly HRY.out hqi ?_
                refine hK.out _ _ trivial (fun hS => ?_)
                clear hK K
                refine wpAnyH_take (i := 12) (v := ?_) rfl (by kernel_rfl) (by kernel_rfl) (by kernel_rfl) (fun _ _ _ h => h) (Or.inl ⟨by kernel_rfl, ?_⟩) hS ?_
                rotate_left
                · intro W hSW
                  have hpi := HLpi.out
                  go_simp
                  all_goals with_reducible rfl
                go_simp
                refine wpAnyH_ready (rs := [13]) (by kernel_rfl) (by simp) ?_
                refine AllReadyH.cons rfl (fun K hK => ?_) AllReadyH.nil
                obtain ⟨hr1, hg1, hkey1⟩ := HRO.out.set (i := pi) hpi (e := beOf ly qi) (HRO.out.ops _ (beOf_mem hqi))
                have HR1 := Lib.hid hr1
                have HG1 := Lib.hid hg1
                have HE1 := Lib.hid (hkey1 (beOf ly pi) (HRO.out.ops _ (beOf_mem hpi)))
                refine step_of (by kernel_rfl) ?_
                refine wp_store_mid _ _ _ rfl g (pi * 4) (btA (beOf ly qi).x (beOf ly qi).p (beOf ly qi).c) rfl rfl (by rw [btA_size]; exact own_there HRO.out.own _ _ (by rw [beCells_length]; omega)) btP.size (btA_one _ _ _) ?_
                have hc1 : wd.setCells g (pi * 4) (btA (beOf ly qi).x (beOf ly qi).p (beOf ly qi).c).toList = wd.setCells g (pi * 4) (beL (beOf ly qi)) := rfl
                rw [hc1]
                refine hK.out _ _ trivial (fun hS => ?_)
                clear hK K hr1 hg1 hkey1 hc1
                generalize wd.setCells g (pi * 4) (beL (beOf ly qi)) = we at *
                refine wpAnyH_take (i := 14) (v := ?_) rfl (by kernel_rfl) (by kernel_rfl) (by kernel_rfl) (fun _ _ _ h => h) (Or.inl ⟨by kernel_rfl, ?_⟩) hS ?_
                rotate_left
                · intro W hSW
                  have hqi := HLqi.out
                  go_simp
                  all_goals with_reducible rfl
                go_simp
                refine wpAnyH_ready (rs := [15]) (by kernel_rfl) (by simp) ?_
                refine AllReadyH.cons rfl (fun K hK => ?_) AllReadyH.nil
                have hl1 : (ly.set pi (beOf ly qi)).length = ly.length := by simp
                obtain ⟨hr2, hg2, -⟩ := HR1.out.set (i := qi) (by rw [hl1]; exact hqi) (e := beOf ly pi) HE1.out
                have HR2 := Lib.hid hr2
                have HG2 := Lib.hid hg2
                refine step_of (by kernel_rfl) ?_
                refine wp_store_mid _ _ _ rfl g (qi * 4) (btA (beOf ly pi).x (beOf ly pi).p (beOf ly pi).c) rfl rfl (by rw [btA_size]; exact own_there HR1.out.own _ _ (by rw [beCells_length, hl1]; omega)) btP.size (btA_one _ _ _) ?_
                have hc2 : we.setCells g (qi * 4) (btA (beOf ly pi).x (beOf ly pi).p (beOf ly pi).c).toList = we.setCells g (qi * 4) (beL (beOf ly pi)) := rfl
                rw [hc2]
                refine hK.out _ _ trivial (fun hS => ?_)
                clear hK K hr2 hg2 hc2
                generalize we.setCells g (qi * 4) (beL (beOf ly pi)) = wf at *
                refine wpAnyH_done (by kernel_rfl) ?_ _
                go_simp
                clear hS
                have HL2 := Lib.hid (show ((ly.set pi (beOf ly qi)).set qi (beOf ly pi)).length = ly.length from by simp)
                have HPM := Lib.hid ((be_swap hpi hqi).trans HPY.out)
                have HBW := Lib.hid (show Below w9.heap.size w10 wf from (HBD.out.trans ((Turns.of_grown HG1.out).below (fun k _ hk => by cases hk; exact HGB.out) (Nat.le_trans HZ10.out HBD.out.size))).trans ((Turns.of_grown HG2.out).below (fun k _ hk => by cases hk; exact HGB.out) (Nat.le_trans (Nat.le_trans HZ10.out HBD.out.size) HG1.out.size)))
                go_wp2
                go_roundw
                case rel => exact ⟨k + 1, _, by omega, by omega, by go_num, HL2.out.trans hll, HPM.out, HR2.out, HBW.out⟩
                case measure => simp [intOf]; omega
            · have HYE := Lib.hid (show ly.map (·.x) |>.Perm (l.map (·.x)) from by rw [← HMY.out]; exact HPY.out.map _)
              have hgo' : k < ts.length → k < 60 → ¬ 0 < l.length := fun a b c => hgo ⟨a, b, c⟩
              have HRO' := HRO
              have HW12 := Lib.hid (show Below w9.heap.size w9 wr from HB10.out.trans (HBD.out.mono (Nat.le_refl _)))
              have HBL12 := Lib.hid (HBL.out.trans (HW12.out.mono HBL.out.size))
              have HLA12 := Lib.hid (T.out.lo.kept HW12.out)
              have HLB12 := Lib.hid (HLBr.out.kept HW12.out)
              have HLL := Lib.hid hll
              obtain ⟨w12, hw12⟩ : ∃ w12 : World, w12 = wr := ⟨_, rfl⟩
              subst hw12
              by_cases a1 : k < ts.length
              · have d1 : decide ((k : Int) < (ts.length : Int)) = true := decide_eq_true (by omega)
                by_cases a2 : k < 60
                · have d2 : decide ((k : Int) < 60) = true := decide_eq_true (by omega)
                  have hl0 : ¬ 0 < l.length := hgo' a1 a2
                  have d3 : decide (0 < (l.length : Int)) = false := decide_eq_false (by omega)
                  clear hgo hgo'
                  have HASB := Lib.hid (AdS.start (X := ly.map (·.x)) HLB12.out HZB.out)
                  have HFPY := Lib.hid (FairP.perm HFP.out HYE.out.symm)
                  have HRXB := Lib.hid (fun W (ht : Turns Fb w12 W) => HRO.out.turns ht (fun j hj => by rw [HFB0.out] at hj; have := HZ5.out; have := HZ6.out; have := T.out.turns.size; omega))
                  have HEXB := Lib.hid (fun (k : Nat) (hk : k < ly.length) => (show ∃ e ∈ l, e.x = (beOf ly k).x from by
                    have h1 : (beOf ly k).x ∈ l.map (·.x) := HYE.out.mem_iff.1 (List.mem_map.2 ⟨_, beOf_mem hk, rfl⟩)
                    exact List.mem_map.1 h1))
                  clear HLB12
                  go_wp2_with fail
                  go_loopw [13] (fun i wr => ∃ (k : Nat) (m2 : Sm) (F2 : Nat → Prop), k ≤ l.length ∧ i = .int .i64 (k : Int) ∧ AdS w12 lb Sb Mb Fb (ly.map (·.x)) k m2 F2 wr) (fun i _ => l.length - (intOf i).toNat)
                  case atStart => exact ⟨0, mb, Fb, Nat.zero_le _, rfl, HASB.out⟩
                  case round =>
                    clear HASB
                    obtain ⟨k3, m2, F2, hk3, rfl, hT⟩ := hrel
                    have TB := Lib.hid hT
                    clear hT
                    by_cases hlk : k3 < l.length
                    · have hd3 : decide ((k3 : Int) < (l.length : Int)) = true := decide_eq_true (by omega)
                      have hkx : k3 < ly.length := by rw [HLL.out]; exact hlk
                      have HROW := Lib.hid (HRXB.out wr TB.out.turns)
                      have HRD := Lib.hid HROW.out.rd.1
                      obtain ⟨b, o, rfl, -⟩ := HRD.out.addr (by rw [beCells_length]; omega)
                      obtain ⟨ex, hex, hexx⟩ := HEXB.out k3 hkx
                      have HSX := Lib.hid (HSZ.out ex hex)
                      rw [hexx] at HSX
                      have HADD := Lib.hid (ladd_any (beOf ly k3).x (beOf ly k3).p (beOf ly k3).c wr TB.out.lo HSX.out.1 HSX.out.2.1 ((HROW.out.ops _ (beOf_mem hkx)).bops))
                      have HSTP := Lib.hid (fun e w' ha => TB.out.step (x := (beOf ly k3).x) (e := e) (w' := w') HFPY.out (by rw [List.length_map]; exact hkx) (by rw [List.getElem_map]; simp [beOf, hkx]) HSX.out.1 HSX.out.2.1 HSX.out.2.2 (by rw [List.length_map, HLL.out]; exact hn40) ha)
                      clear hex hexx
                      go_wp2_with (refine wpList_load_be btP rfl _ rfl b o k3 rfl ly HRD.out hkx ?_)
                      refine HADD.out.mono ?_
                      intro e w7 ha
                      obtain ⟨m', F', p', c', n', rfl, hT'⟩ := HSTP.out e w7 ha
                      have HT' := Lib.hid hT'
                      clear ha hT'
                      go_wp2
                      go_roundw
                      case rel => exact ⟨k3 + 1, m', F', by omega, by go_num, HT'.out⟩
                      case measure => simp [intOf]; omega
                    · obtain rfl : k3 = l.length := by omega
                      have hd3 : decide ((l.length : Int) < (l.length : Int)) = false := decide_eq_false (by omega)
                      obtain ⟨P1, hP1, hp1⟩ := T.out.ord
                      obtain ⟨P2, hP2, hp2⟩ := TB.out.ord
                      rw [List.take_of_length_le (by rw [List.length_map]; exact Nat.le_refl _)] at hp1
                      rw [List.take_of_length_le (by rw [List.length_map, HLL.out]; exact Nat.le_refl _)] at hp2
                      have huq := hP1.uniq hP2 ((hp1.trans HYE.out.symm).trans hp2.symm) (FairP.perm HFP.out hp1.symm)
                      have HSA := Lib.hid (same_tell huq.1)
                      have HWQ := Lib.hid (show m2.lg.wait.length = m.lg.wait.length from huq.2.symm)
                      clear huq hP1 hp1 hP2 hp2
                      have HLAz := Lib.hid (HLA12.out.turns TB.out.turns (fun j hj hh => by
                        rw [HFB0.out] at hh
                        have h1 := T.out.sub j hj
                        rw [HFA0.out] at h1
                        have := HZ6.out
                        have := HZ5.out
                        omega) (fun hh => by rw [HFB0.out] at hh; have := HZ3.out; omega))
                      have HBE := Lib.hid (HBL12.out.trans (TB.out.turns.below (fun j _ hj => by rw [HFB0.out] at hj; have := HB3.out.size; omega) HBL12.out.size))
                      have HBZ := Lib.hid (Below.refl wr.heap.size wr)
                      have HVA := Lib.hid (fun W (hW : Below wr.heap.size wr W) => lvector_any W (HLAz.out.kept hW))
                      have HVB := Lib.hid (fun W (hW : Below wr.heap.size wr W) => by
                        have := lvector_any W (TB.out.lo.kept hW)
                        rw [HSA.out.1] at this
                        exact this)
                      have HDA := Lib.hid (fun W (hW : Below wr.heap.size wr W) => ldigest_any W (HLAz.out.kept hW))
                      have HDB := Lib.hid (fun W (hW : Below wr.heap.size wr W) => by
                        have := ldigest_any W (TB.out.lo.kept hW)
                        rw [HSA.out.2.1] at this
                        exact this)
                      have HWA := Lib.hid (fun W (hW : Below wr.heap.size wr W) => (lwaiting_any W (HLAz.out.kept hW)).mono fun e w' h => (show e = .returned (.int .i64 (m.lg.wait.length : Int)) ∧ Below W.heap.size W w' from ⟨h.1, h.2 ▸ Below.refl _ _⟩))
                      have HWB := Lib.hid (fun W (hW : Below wr.heap.size wr W) => (lwaiting_any W (TB.out.lo.kept hW)).mono fun e w' h => (show e = .returned (.int .i64 (m.lg.wait.length : Int)) ∧ Below W.heap.size W w' from ⟨by rw [← HWQ.out]; exact h.1, h.2 ▸ Below.refl _ _⟩))
                      have HTA := Lib.hid (fun W (hW : Below wr.heap.size wr W) => ltime_any W (HLAz.out.kept hW))
                      have HTB := Lib.hid (fun W (hW : Below wr.heap.size wr W) => by
                        have := ltime_any W (TB.out.lo.kept hW)
                        rw [HSA.out.2.2.1] at this
                        exact this)
                      have hen : (entA m.lg).length ≤ 1500 := by have := T.out.cnt.ents; omega
                      have HEA := Lib.hid (fun W (hW : Below wr.heap.size wr W) => lentries_any W (HLAz.out.kept hW) hen)
                      have HEB := Lib.hid (fun W (hW : Below wr.heap.size wr W) => lentries_any W (TB.out.lo.kept hW) (by rw [HSA.out.2.2.2]; exact hen))
                      have hEq := fun (W : World) => vtP.eq W (vecL9 m.lg) (vecL9 m.lg)
                      simp only [eqv_refl] at hEq
                      clear hen
                      go_wp2_with fail
                      refine (HVA.out _ HBZ.out).mono ?_
                      rintro e wz0 ⟨rfl, hbz⟩
                      have HBZ0 := Lib.hid (HBZ.out.trans (hbz.mono HBZ.out.size))
                      clear hbz
                      go_wp2_with fail
                      refine (HVB.out _ HBZ0.out).mono ?_
                      rintro e wz1 ⟨rfl, hbz⟩
                      have HBZ1 := Lib.hid (HBZ0.out.trans (hbz.mono HBZ0.out.size))
                      clear hbz
                      go_wp2_with fail
                      refine (HDA.out _ HBZ1.out).mono ?_
                      rintro e wz2 ⟨rfl, hbz⟩
                      have HBZ2 := Lib.hid (HBZ1.out.trans (hbz.mono HBZ1.out.size))
                      clear hbz
                      go_wp2_with fail
                      refine (HDB.out _ HBZ2.out).mono ?_
                      rintro e wz3 ⟨rfl, hbz⟩
                      have HBZ3 := Lib.hid (HBZ2.out.trans (hbz.mono HBZ2.out.size))
                      clear hbz
                      go_wp2_with fail
                      refine (HWA.out _ HBZ3.out).mono ?_
                      rintro e wz4 ⟨rfl, hbz⟩
                      have HBZ4 := Lib.hid (HBZ3.out.trans (hbz.mono HBZ3.out.size))
                      clear hbz
                      go_wp2_with fail
                      refine (HWB.out _ HBZ4.out).mono ?_
                      rintro e wz5 ⟨rfl, hbz⟩
                      have HBZ5 := Lib.hid (HBZ4.out.trans (hbz.mono HBZ4.out.size))
                      clear hbz
                      go_wp2_with fail
                      refine (HTA.out _ HBZ5.out).mono ?_
                      rintro e wz6 ⟨rfl, hbz⟩
                      have HBZ6 := Lib.hid (HBZ5.out.trans (hbz.mono HBZ5.out.size))
                      clear hbz
                      go_wp2_with fail
                      refine (HTB.out _ HBZ6.out).mono ?_
                      rintro e wz7 ⟨rfl, hbz⟩
                      have HBZ7 := Lib.hid (HBZ6.out.trans (hbz.mono HBZ6.out.size))
                      clear hbz
                      go_wp2_with fail
                      refine (HEA.out _ HBZ7.out).mono ?_
                      rintro e wz8 ⟨pe8, ce8, le8, rfl, hpm8, -, -, -, hbz⟩
                      have HLE8 := Lib.hid (show le8.length = (entA m.lg).length from by have := hpm8.length_eq; rw [List.length_map] at this; exact this)
                      clear hpm8
                      rw [HLE8.out]
                      have HBZ8 := Lib.hid (HBZ7.out.trans (hbz.mono HBZ7.out.size))
                      clear hbz
                      go_wp2_with fail
                      refine (HEB.out _ HBZ8.out).mono ?_
                      rintro e wz9 ⟨pe9, ce9, le9, rfl, hpm9, -, -, -, hbz⟩
                      have HLE9 := Lib.hid (show le9.length = (entA m.lg).length from by have := hpm9.length_eq; rw [List.length_map] at this; rw [HSA.out.2.2.2] at this; exact this)
                      clear hpm9
                      rw [HLE9.out]
                      have HBZ9 := Lib.hid (HBZ8.out.trans (hbz.mono HBZ8.out.size))
                      clear hbz
                      go_wp2
                      go_ret
                      exact ⟨rfl, HBE.out.trans (HBZ9.out.mono HBE.out.size)⟩
                · have d2 : decide ((k : Int) < 60) = false := decide_eq_false (by omega)
                  clear hgo hgo'
                  have HASB := Lib.hid (AdS.start (X := ly.map (·.x)) HLB12.out HZB.out)
                  have HFPY := Lib.hid (FairP.perm HFP.out HYE.out.symm)
                  have HRXB := Lib.hid (fun W (ht : Turns Fb w12 W) => HRO.out.turns ht (fun j hj => by rw [HFB0.out] at hj; have := HZ5.out; have := HZ6.out; have := T.out.turns.size; omega))
                  have HEXB := Lib.hid (fun (k : Nat) (hk : k < ly.length) => (show ∃ e ∈ l, e.x = (beOf ly k).x from by
                    have h1 : (beOf ly k).x ∈ l.map (·.x) := HYE.out.mem_iff.1 (List.mem_map.2 ⟨_, beOf_mem hk, rfl⟩)
                    exact List.mem_map.1 h1))
                  clear HLB12
                  go_wp2_with fail
                  go_loopw [13] (fun i wr => ∃ (k : Nat) (m2 : Sm) (F2 : Nat → Prop), k ≤ l.length ∧ i = .int .i64 (k : Int) ∧ AdS w12 lb Sb Mb Fb (ly.map (·.x)) k m2 F2 wr) (fun i _ => l.length - (intOf i).toNat)
                  case atStart => exact ⟨0, mb, Fb, Nat.zero_le _, rfl, HASB.out⟩
                  case round =>
                    clear HASB
                    obtain ⟨k3, m2, F2, hk3, rfl, hT⟩ := hrel
                    have TB := Lib.hid hT
                    clear hT
                    by_cases hlk : k3 < l.length
                    · have hd3 : decide ((k3 : Int) < (l.length : Int)) = true := decide_eq_true (by omega)
                      have hkx : k3 < ly.length := by rw [HLL.out]; exact hlk
                      have HROW := Lib.hid (HRXB.out wr TB.out.turns)
                      have HRD := Lib.hid HROW.out.rd.1
                      obtain ⟨b, o, rfl, -⟩ := HRD.out.addr (by rw [beCells_length]; omega)
                      obtain ⟨ex, hex, hexx⟩ := HEXB.out k3 hkx
                      have HSX := Lib.hid (HSZ.out ex hex)
                      rw [hexx] at HSX
                      have HADD := Lib.hid (ladd_any (beOf ly k3).x (beOf ly k3).p (beOf ly k3).c wr TB.out.lo HSX.out.1 HSX.out.2.1 ((HROW.out.ops _ (beOf_mem hkx)).bops))
                      have HSTP := Lib.hid (fun e w' ha => TB.out.step (x := (beOf ly k3).x) (e := e) (w' := w') HFPY.out (by rw [List.length_map]; exact hkx) (by rw [List.getElem_map]; simp [beOf, hkx]) HSX.out.1 HSX.out.2.1 HSX.out.2.2 (by rw [List.length_map, HLL.out]; exact hn40) ha)
                      clear hex hexx
                      go_wp2_with (refine wpList_load_be btP rfl _ rfl b o k3 rfl ly HRD.out hkx ?_)
                      refine HADD.out.mono ?_
                      intro e w7 ha
                      obtain ⟨m', F', p', c', n', rfl, hT'⟩ := HSTP.out e w7 ha
                      have HT' := Lib.hid hT'
                      clear ha hT'
                      go_wp2
                      go_roundw
                      case rel => exact ⟨k3 + 1, m', F', by omega, by go_num, HT'.out⟩
                      case measure => simp [intOf]; omega
                    · obtain rfl : k3 = l.length := by omega
                      have hd3 : decide ((l.length : Int) < (l.length : Int)) = false := decide_eq_false (by omega)
                      obtain ⟨P1, hP1, hp1⟩ := T.out.ord
                      obtain ⟨P2, hP2, hp2⟩ := TB.out.ord
                      rw [List.take_of_length_le (by rw [List.length_map]; exact Nat.le_refl _)] at hp1
                      rw [List.take_of_length_le (by rw [List.length_map, HLL.out]; exact Nat.le_refl _)] at hp2
                      have huq := hP1.uniq hP2 ((hp1.trans HYE.out.symm).trans hp2.symm) (FairP.perm HFP.out hp1.symm)
                      have HSA := Lib.hid (same_tell huq.1)
                      have HWQ := Lib.hid (show m2.lg.wait.length = m.lg.wait.length from huq.2.symm)
                      clear huq hP1 hp1 hP2 hp2
                      have HLAz := Lib.hid (HLA12.out.turns TB.out.turns (fun j hj hh => by
                        rw [HFB0.out] at hh
                        have h1 := T.out.sub j hj
                        rw [HFA0.out] at h1
                        have := HZ6.out
                        have := HZ5.out
                        omega) (fun hh => by rw [HFB0.out] at hh; have := HZ3.out; omega))
                      have HBE := Lib.hid (HBL12.out.trans (TB.out.turns.below (fun j _ hj => by rw [HFB0.out] at hj; have := HB3.out.size; omega) HBL12.out.size))
                      have HBZ := Lib.hid (Below.refl wr.heap.size wr)
                      have HVA := Lib.hid (fun W (hW : Below wr.heap.size wr W) => lvector_any W (HLAz.out.kept hW))
                      have HVB := Lib.hid (fun W (hW : Below wr.heap.size wr W) => by
                        have := lvector_any W (TB.out.lo.kept hW)
                        rw [HSA.out.1] at this
                        exact this)
                      have HDA := Lib.hid (fun W (hW : Below wr.heap.size wr W) => ldigest_any W (HLAz.out.kept hW))
                      have HDB := Lib.hid (fun W (hW : Below wr.heap.size wr W) => by
                        have := ldigest_any W (TB.out.lo.kept hW)
                        rw [HSA.out.2.1] at this
                        exact this)
                      have HWA := Lib.hid (fun W (hW : Below wr.heap.size wr W) => (lwaiting_any W (HLAz.out.kept hW)).mono fun e w' h => (show e = .returned (.int .i64 (m.lg.wait.length : Int)) ∧ Below W.heap.size W w' from ⟨h.1, h.2 ▸ Below.refl _ _⟩))
                      have HWB := Lib.hid (fun W (hW : Below wr.heap.size wr W) => (lwaiting_any W (TB.out.lo.kept hW)).mono fun e w' h => (show e = .returned (.int .i64 (m.lg.wait.length : Int)) ∧ Below W.heap.size W w' from ⟨by rw [← HWQ.out]; exact h.1, h.2 ▸ Below.refl _ _⟩))
                      have HTA := Lib.hid (fun W (hW : Below wr.heap.size wr W) => ltime_any W (HLAz.out.kept hW))
                      have HTB := Lib.hid (fun W (hW : Below wr.heap.size wr W) => by
                        have := ltime_any W (TB.out.lo.kept hW)
                        rw [HSA.out.2.2.1] at this
                        exact this)
                      have hen : (entA m.lg).length ≤ 1500 := by have := T.out.cnt.ents; omega
                      have HEA := Lib.hid (fun W (hW : Below wr.heap.size wr W) => lentries_any W (HLAz.out.kept hW) hen)
                      have HEB := Lib.hid (fun W (hW : Below wr.heap.size wr W) => lentries_any W (TB.out.lo.kept hW) (by rw [HSA.out.2.2.2]; exact hen))
                      have hEq := fun (W : World) => vtP.eq W (vecL9 m.lg) (vecL9 m.lg)
                      simp only [eqv_refl] at hEq
                      clear hen
                      go_wp2_with fail
                      refine (HVA.out _ HBZ.out).mono ?_
                      rintro e wz0 ⟨rfl, hbz⟩
                      have HBZ0 := Lib.hid (HBZ.out.trans (hbz.mono HBZ.out.size))
                      clear hbz
                      go_wp2_with fail
                      refine (HVB.out _ HBZ0.out).mono ?_
                      rintro e wz1 ⟨rfl, hbz⟩
                      have HBZ1 := Lib.hid (HBZ0.out.trans (hbz.mono HBZ0.out.size))
                      clear hbz
                      go_wp2_with fail
                      refine (HDA.out _ HBZ1.out).mono ?_
                      rintro e wz2 ⟨rfl, hbz⟩
                      have HBZ2 := Lib.hid (HBZ1.out.trans (hbz.mono HBZ1.out.size))
                      clear hbz
                      go_wp2_with fail
                      refine (HDB.out _ HBZ2.out).mono ?_
                      rintro e wz3 ⟨rfl, hbz⟩
                      have HBZ3 := Lib.hid (HBZ2.out.trans (hbz.mono HBZ2.out.size))
                      clear hbz
                      go_wp2_with fail
                      refine (HWA.out _ HBZ3.out).mono ?_
                      rintro e wz4 ⟨rfl, hbz⟩
                      have HBZ4 := Lib.hid (HBZ3.out.trans (hbz.mono HBZ3.out.size))
                      clear hbz
                      go_wp2_with fail
                      refine (HWB.out _ HBZ4.out).mono ?_
                      rintro e wz5 ⟨rfl, hbz⟩
                      have HBZ5 := Lib.hid (HBZ4.out.trans (hbz.mono HBZ4.out.size))
                      clear hbz
                      go_wp2_with fail
                      refine (HTA.out _ HBZ5.out).mono ?_
                      rintro e wz6 ⟨rfl, hbz⟩
                      have HBZ6 := Lib.hid (HBZ5.out.trans (hbz.mono HBZ5.out.size))
                      clear hbz
                      go_wp2_with fail
                      refine (HTB.out _ HBZ6.out).mono ?_
                      rintro e wz7 ⟨rfl, hbz⟩
                      have HBZ7 := Lib.hid (HBZ6.out.trans (hbz.mono HBZ6.out.size))
                      clear hbz
                      go_wp2_with fail
                      refine (HEA.out _ HBZ7.out).mono ?_
                      rintro e wz8 ⟨pe8, ce8, le8, rfl, hpm8, -, -, -, hbz⟩
                      have HLE8 := Lib.hid (show le8.length = (entA m.lg).length from by have := hpm8.length_eq; rw [List.length_map] at this; exact this)
                      clear hpm8
                      rw [HLE8.out]
                      have HBZ8 := Lib.hid (HBZ7.out.trans (hbz.mono HBZ7.out.size))
                      clear hbz
                      go_wp2_with fail
                      refine (HEB.out _ HBZ8.out).mono ?_
                      rintro e wz9 ⟨pe9, ce9, le9, rfl, hpm9, -, -, -, hbz⟩
                      have HLE9 := Lib.hid (show le9.length = (entA m.lg).length from by have := hpm9.length_eq; rw [List.length_map] at this; rw [HSA.out.2.2.2] at this; exact this)
                      clear hpm9
                      rw [HLE9.out]
                      have HBZ9 := Lib.hid (HBZ8.out.trans (hbz.mono HBZ8.out.size))
                      clear hbz
                      go_wp2
                      go_ret
                      exact ⟨rfl, HBE.out.trans (HBZ9.out.mono HBE.out.size)⟩
              · have d1 : decide ((k : Int) < (ts.length : Int)) = false := decide_eq_false (by omega)
                clear hgo hgo'
                have HASB := Lib.hid (AdS.start (X := ly.map (·.x)) HLB12.out HZB.out)
                have HFPY := Lib.hid (FairP.perm HFP.out HYE.out.symm)
                have HRXB := Lib.hid (fun W (ht : Turns Fb w12 W) => HRO.out.turns ht (fun j hj => by rw [HFB0.out] at hj; have := HZ5.out; have := HZ6.out; have := T.out.turns.size; omega))
                have HEXB := Lib.hid (fun (k : Nat) (hk : k < ly.length) => (show ∃ e ∈ l, e.x = (beOf ly k).x from by
                  have h1 : (beOf ly k).x ∈ l.map (·.x) := HYE.out.mem_iff.1 (List.mem_map.2 ⟨_, beOf_mem hk, rfl⟩)
                  exact List.mem_map.1 h1))
                clear HLB12
                go_wp2_with fail
                go_loopw [13] (fun i wr => ∃ (k : Nat) (m2 : Sm) (F2 : Nat → Prop), k ≤ l.length ∧ i = .int .i64 (k : Int) ∧ AdS w12 lb Sb Mb Fb (ly.map (·.x)) k m2 F2 wr) (fun i _ => l.length - (intOf i).toNat)
                case atStart => exact ⟨0, mb, Fb, Nat.zero_le _, rfl, HASB.out⟩
                case round =>
                  clear HASB
                  obtain ⟨k3, m2, F2, hk3, rfl, hT⟩ := hrel
                  have TB := Lib.hid hT
                  clear hT
                  by_cases hlk : k3 < l.length
                  · have hd3 : decide ((k3 : Int) < (l.length : Int)) = true := decide_eq_true (by omega)
                    have hkx : k3 < ly.length := by rw [HLL.out]; exact hlk
                    have HROW := Lib.hid (HRXB.out wr TB.out.turns)
                    have HRD := Lib.hid HROW.out.rd.1
                    obtain ⟨b, o, rfl, -⟩ := HRD.out.addr (by rw [beCells_length]; omega)
                    obtain ⟨ex, hex, hexx⟩ := HEXB.out k3 hkx
                    have HSX := Lib.hid (HSZ.out ex hex)
                    rw [hexx] at HSX
                    have HADD := Lib.hid (ladd_any (beOf ly k3).x (beOf ly k3).p (beOf ly k3).c wr TB.out.lo HSX.out.1 HSX.out.2.1 ((HROW.out.ops _ (beOf_mem hkx)).bops))
                    have HSTP := Lib.hid (fun e w' ha => TB.out.step (x := (beOf ly k3).x) (e := e) (w' := w') HFPY.out (by rw [List.length_map]; exact hkx) (by rw [List.getElem_map]; simp [beOf, hkx]) HSX.out.1 HSX.out.2.1 HSX.out.2.2 (by rw [List.length_map, HLL.out]; exact hn40) ha)
                    clear hex hexx
                    go_wp2_with (refine wpList_load_be btP rfl _ rfl b o k3 rfl ly HRD.out hkx ?_)
                    refine HADD.out.mono ?_
                    intro e w7 ha
                    obtain ⟨m', F', p', c', n', rfl, hT'⟩ := HSTP.out e w7 ha
                    have HT' := Lib.hid hT'
                    clear ha hT'
                    go_wp2
                    go_roundw
                    case rel => exact ⟨k3 + 1, m', F', by omega, by go_num, HT'.out⟩
                    case measure => simp [intOf]; omega
                  · obtain rfl : k3 = l.length := by omega
                    have hd3 : decide ((l.length : Int) < (l.length : Int)) = false := decide_eq_false (by omega)
                    obtain ⟨P1, hP1, hp1⟩ := T.out.ord
                    obtain ⟨P2, hP2, hp2⟩ := TB.out.ord
                    rw [List.take_of_length_le (by rw [List.length_map]; exact Nat.le_refl _)] at hp1
                    rw [List.take_of_length_le (by rw [List.length_map, HLL.out]; exact Nat.le_refl _)] at hp2
                    have huq := hP1.uniq hP2 ((hp1.trans HYE.out.symm).trans hp2.symm) (FairP.perm HFP.out hp1.symm)
                    have HSA := Lib.hid (same_tell huq.1)
                    have HWQ := Lib.hid (show m2.lg.wait.length = m.lg.wait.length from huq.2.symm)
                    clear huq hP1 hp1 hP2 hp2
                    have HLAz := Lib.hid (HLA12.out.turns TB.out.turns (fun j hj hh => by
                      rw [HFB0.out] at hh
                      have h1 := T.out.sub j hj
                      rw [HFA0.out] at h1
                      have := HZ6.out
                      have := HZ5.out
                      omega) (fun hh => by rw [HFB0.out] at hh; have := HZ3.out; omega))
                    have HBE := Lib.hid (HBL12.out.trans (TB.out.turns.below (fun j _ hj => by rw [HFB0.out] at hj; have := HB3.out.size; omega) HBL12.out.size))
                    have HBZ := Lib.hid (Below.refl wr.heap.size wr)
                    have HVA := Lib.hid (fun W (hW : Below wr.heap.size wr W) => lvector_any W (HLAz.out.kept hW))
                    have HVB := Lib.hid (fun W (hW : Below wr.heap.size wr W) => by
                      have := lvector_any W (TB.out.lo.kept hW)
                      rw [HSA.out.1] at this
                      exact this)
                    have HDA := Lib.hid (fun W (hW : Below wr.heap.size wr W) => ldigest_any W (HLAz.out.kept hW))
                    have HDB := Lib.hid (fun W (hW : Below wr.heap.size wr W) => by
                      have := ldigest_any W (TB.out.lo.kept hW)
                      rw [HSA.out.2.1] at this
                      exact this)
                    have HWA := Lib.hid (fun W (hW : Below wr.heap.size wr W) => (lwaiting_any W (HLAz.out.kept hW)).mono fun e w' h => (show e = .returned (.int .i64 (m.lg.wait.length : Int)) ∧ Below W.heap.size W w' from ⟨h.1, h.2 ▸ Below.refl _ _⟩))
                    have HWB := Lib.hid (fun W (hW : Below wr.heap.size wr W) => (lwaiting_any W (TB.out.lo.kept hW)).mono fun e w' h => (show e = .returned (.int .i64 (m.lg.wait.length : Int)) ∧ Below W.heap.size W w' from ⟨by rw [← HWQ.out]; exact h.1, h.2 ▸ Below.refl _ _⟩))
                    have HTA := Lib.hid (fun W (hW : Below wr.heap.size wr W) => ltime_any W (HLAz.out.kept hW))
                    have HTB := Lib.hid (fun W (hW : Below wr.heap.size wr W) => by
                      have := ltime_any W (TB.out.lo.kept hW)
                      rw [HSA.out.2.2.1] at this
                      exact this)
                    have hen : (entA m.lg).length ≤ 1500 := by have := T.out.cnt.ents; omega
                    have HEA := Lib.hid (fun W (hW : Below wr.heap.size wr W) => lentries_any W (HLAz.out.kept hW) hen)
                    have HEB := Lib.hid (fun W (hW : Below wr.heap.size wr W) => lentries_any W (TB.out.lo.kept hW) (by rw [HSA.out.2.2.2]; exact hen))
                    have hEq := fun (W : World) => vtP.eq W (vecL9 m.lg) (vecL9 m.lg)
                    simp only [eqv_refl] at hEq
                    clear hen
                    go_wp2_with fail
                    refine (HVA.out _ HBZ.out).mono ?_
                    rintro e wz0 ⟨rfl, hbz⟩
                    have HBZ0 := Lib.hid (HBZ.out.trans (hbz.mono HBZ.out.size))
                    clear hbz
                    go_wp2_with fail
                    refine (HVB.out _ HBZ0.out).mono ?_
                    rintro e wz1 ⟨rfl, hbz⟩
                    have HBZ1 := Lib.hid (HBZ0.out.trans (hbz.mono HBZ0.out.size))
                    clear hbz
                    go_wp2_with fail
                    refine (HDA.out _ HBZ1.out).mono ?_
                    rintro e wz2 ⟨rfl, hbz⟩
                    have HBZ2 := Lib.hid (HBZ1.out.trans (hbz.mono HBZ1.out.size))
                    clear hbz
                    go_wp2_with fail
                    refine (HDB.out _ HBZ2.out).mono ?_
                    rintro e wz3 ⟨rfl, hbz⟩
                    have HBZ3 := Lib.hid (HBZ2.out.trans (hbz.mono HBZ2.out.size))
                    clear hbz
                    go_wp2_with fail
                    refine (HWA.out _ HBZ3.out).mono ?_
                    rintro e wz4 ⟨rfl, hbz⟩
                    have HBZ4 := Lib.hid (HBZ3.out.trans (hbz.mono HBZ3.out.size))
                    clear hbz
                    go_wp2_with fail
                    refine (HWB.out _ HBZ4.out).mono ?_
                    rintro e wz5 ⟨rfl, hbz⟩
                    have HBZ5 := Lib.hid (HBZ4.out.trans (hbz.mono HBZ4.out.size))
                    clear hbz
                    go_wp2_with fail
                    refine (HTA.out _ HBZ5.out).mono ?_
                    rintro e wz6 ⟨rfl, hbz⟩
                    have HBZ6 := Lib.hid (HBZ5.out.trans (hbz.mono HBZ5.out.size))
                    clear hbz
                    go_wp2_with fail
                    refine (HTB.out _ HBZ6.out).mono ?_
                    rintro e wz7 ⟨rfl, hbz⟩
                    have HBZ7 := Lib.hid (HBZ6.out.trans (hbz.mono HBZ6.out.size))
                    clear hbz
                    go_wp2_with fail
                    refine (HEA.out _ HBZ7.out).mono ?_
                    rintro e wz8 ⟨pe8, ce8, le8, rfl, hpm8, -, -, -, hbz⟩
                    have HLE8 := Lib.hid (show le8.length = (entA m.lg).length from by have := hpm8.length_eq; rw [List.length_map] at this; exact this)
                    clear hpm8
                    rw [HLE8.out]
                    have HBZ8 := Lib.hid (HBZ7.out.trans (hbz.mono HBZ7.out.size))
                    clear hbz
                    go_wp2_with fail
                    refine (HEB.out _ HBZ8.out).mono ?_
                    rintro e wz9 ⟨pe9, ce9, le9, rfl, hpm9, -, -, -, hbz⟩
                    have HLE9 := Lib.hid (show le9.length = (entA m.lg).length from by have := hpm9.length_eq; rw [List.length_map] at this; rw [HSA.out.2.2.2] at this; exact this)
                    clear hpm9
                    rw [HLE9.out]
                    have HBZ9 := Lib.hid (HBZ8.out.trans (hbz.mono HBZ8.out.size))
                    clear hbz
                    go_wp2
                    go_ret
                    exact ⟨rfl, HBE.out.trans (HBZ9.out.mono HBE.out.size)⟩
  · have HD := Lib.hid hg
    clear h ho hg hts
    cases hl : light9 l with
    | false =>
      rw [hl] at HLI
      clear hl
      go_enter Tryz.func4, Tryz.ntmps4
      go_wp2_with fail
      refine HLI.out.mono ?_
      rintro e w1 ⟨rfl, hb1⟩
      have HB1 := Lib.hid hb1
      clear hb1
      go_wp2_with fail
      refine (HKN.out _).mono ?_
      rintro e wk ⟨rfl, hbk⟩
      have HBK := Lib.hid (HB1.out.trans (hbk.mono HB1.out.size))
      clear hbk
      go_wp2
      go_ret
      exact ⟨rfl, HBK.out⟩
    | true =>
      have hd40 : decide (40 < (l.length : Int)) = true := decide_eq_true (by have := HD.out; simp only [hl, true_and] at this; omega)
      rw [hl] at HLI
      clear hl
      go_enter Tryz.func4, Tryz.ntmps4
      go_wp2_with fail
      refine HLI.out.mono ?_
      rintro e w1 ⟨rfl, hb1⟩
      have HB1 := Lib.hid hb1
      clear hb1
      go_wp2_with fail
      refine (HKN.out _).mono ?_
      rintro e wk ⟨rfl, hbk⟩
      have HBK := Lib.hid (HB1.out.trans (hbk.mono HB1.out.size))
      clear hbk
      go_wp2
      go_ret
      exact ⟨rfl, HBK.out⟩
end Go.Proofs.YtaplemkmkbjodaaGreat
