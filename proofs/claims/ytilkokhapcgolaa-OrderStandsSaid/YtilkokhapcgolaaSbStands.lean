/-
  ORDERSTANDS: the walk: a sibling with the key that Key answers stands at that place.
  Conditions: none.
-/
import Derived.Test.YtilkokhapcgolaaSbOne
import Derived.Deep.DeepCutAuto
namespace Go.Proofs.Ytilkokhapcgolaa
open Go.RowKit

theorem exec_neq_sib {c : Act} {o : Oper} {x y : Operand} {ty : TypeId} (ho : o.op = .binOp .neq 36 x y ty) {w : World} (p q : Sbm.Sib) (hx : c.eval x = sbV p) (hy : c.eval y = sbV q) :
    (execOp c.eval o).run Try.prog w = .ok (.value (.bool (decide (p ≠ q)))) w := by
  have e : decide (p ≠ q) = !((p.1.toList == q.1.toList) && ((p.2.1 == q.2.1) && (p.2.2 == q.2.2))) := by rw [sib_eqB]; simp
  rw [e]
  obtain ⟨k, t, r⟩ := p
  obtain ⟨k', t', r'⟩ := q
  unfold execOp
  simp only [ho, hx, hy]
  unfold sbV
  dsimp only
  go_simp
  cases h1 : (k.toList == k'.toList) <;> by_cases h2 : t = t' <;> by_cases h3 : r = r' <;> simp_all
theorem own_empty {w1 w : World} {B : Nat} (_ : Below B w1 w) (h : B ≤ w.heap.size) : (w.alloc (.cells #[] 36)).ownsRow B 36 3 (.slice (some ⟨w.heap.size, 0, none⟩) ([] : List Sbm.Sib).length 0) ([] : List Sbm.Sib).length (sbCells []) :=
  World.ownsRow_lit (base := B) (e := 36) (size := 3) w #[] 0 h (by simp [maxLen]) (by simp)
theorem rd_sbn {w1 w : World} {B : Nat} (_ : Below B w1 w) (x : Sbm.Sib) (E : TypeId) : Rd (w.alloc (.cells #[.string x.1, .int .i64 x.2.1, .int .i64 x.2.2] E)) (some ⟨w.heap.size, 0, none⟩) (sbCells [x]) := rd_sb1 w x E
theorem own_rd_sb {w : World} {B : Nat} {p : Option Addr} {c : Nat} {l : List Sbm.Sib} (h : w.ownsRow B 36 3 (.slice p l.length c) l.length (sbCells l)) : Rd w p (sbCells l) ∧ (p = none → c = 0) := by
  obtain ⟨p2, c2, hv, hrd, -, -, hn, -⟩ := own_rd h
  cases hv
  exact ⟨hrd, hn⟩
theorem step_append_sibs {w : World} {ops : Array Oper} {o : Oper} {a : Act} {K : Act → World → Prop} {Q : Exit → Act → World → Prop} {E : Prop} (hgd : o.guard = none) (s x : Operand)
    (ho : o.op = .call { callee := .builtin .append, args := #[s, x], argTypes := #[27, 27] })
    (base : Nat) (xs ys zs : List Sbm.Sib) (hz : xs ++ ys = zs) {p : Option Addr} {c : Nat} (hs : a.eval s = .slice p xs.length c) (hown : w.ownsRow base 36 3 (.slice p xs.length c) xs.length (sbCells xs))
    (q : Option Addr) (d : Nat) (hx : a.eval x = .slice q ys.length d) (hrd : Rd w q (sbCells ys)) (hpn : q = none → d = 0) (hsz : xs.length + ys.length ≤ 10000) (hbase : base ≤ w.heap.size)
    (h : ∀ p' c' w', w'.ownsRow base 36 3 (.slice p' zs.length c') zs.length (sbCells zs) → w.grownBy w' (Value.slice p xs.length c).ownBlock → K (a.put o.dst (.slice p' zs.length c')) w') :
    if Region.wanted o (yielded ops a.tmps) = true then Oper.wp Try.prog o a w K Q else E := by
  obtain ⟨i0, hi, hz0, hz1, hz2⟩ := info_split info_sib
  refine step_append_sb hgd s x 27 ho base 36 i0 _ 3 32 Try.underlying27 hi hz0 hz1 (by decide) hz2 (by decide) rfl _ xs.length (sbCells xs) hs hown q ys.length d (sbCells ys) hx (sbCells_length ys) hrd hpn sbCells_one hsz hbase ?_
  intro p' c' w' h1 h2 _
  have e : xs.length + ys.length = zs.length := by rw [← hz, List.length_append]
  rw [← sbCells_append, hz, e] at h1
  have := h p' c' w' h1 h2
  rwa [e]

theorem sbOf_low {X : List Sbm.Sib} {x : Sbm.Sib} {n k : Nat} (hn : n ≤ X.length) (hk : k < n) : Sbm.sbOf (X.take n ++ x :: X.drop n) k = Sbm.sbOf X k := by
  have h1 : k < X.length := by omega
  have h2 : k < (X.take n).length := by rw [List.length_take]; omega
  rw [Sbm.sbOf_lt h1, Sbm.sbOf_lt (by rw [List.length_append]; omega), List.getElem_append_left h2, List.getElem_take]
theorem sbOf_here {X : List Sbm.Sib} {x : Sbm.Sib} {n : Nat} (hn : n ≤ X.length) : Sbm.sbOf (X.take n ++ x :: X.drop n) n = x := by
  have h2 : (X.take n).length = n := by rw [List.length_take]; omega
  rw [Sbm.sbOf_lt (by rw [List.length_append, List.length_cons]; omega), List.getElem_append_right (by omega)]
  simp [h2]
theorem sbOf_high {X : List Sbm.Sib} {x : Sbm.Sib} {n k : Nat} (hn : n ≤ X.length) (hk : n ≤ k) (h1 : k < X.length) : Sbm.sbOf (X.take n ++ x :: X.drop n) (k + 1) = Sbm.sbOf X k := by
  have h2 : (X.take n).length = n := by rw [List.length_take]; omega
  rw [Sbm.sbOf_lt h1, Sbm.sbOf_lt (by rw [List.length_append, List.length_cons, List.length_drop]; omega), List.getElem_append_right (by omega)]
  have e : k + 1 - (X.take n).length = (k - n) + 1 := by omega
  simp only [e, List.getElem_cons_succ, List.getElem_drop]
  congr 1
  omega

set_option maxRecDepth 100000 in
set_option maxHeartbeats 16000000 in
theorem orderStands_walk (p : Option Addr) (cap : Nat) (l : List Sbm.Sib) (at' : Int) (s : Qm.St) (w : World) (h : Rd w p (sbCells l)) (_ : l.length ≤ cap) (_ : p = none → cap = 0) (_ : (Lit.int .i64 at').wf = true) :
    Calls Try.prog 3 #[.slice p l.length cap, .int .i64 at', .agg #[.int .i64 s.1, .int .i64 s.2]] w fun e w' => e = .returned (.bool true) ∧ Below w.heap.size w w' := by
  have hb0 : Below w.heap.size w (w.alloc (.cells #[.int .i64 s.1, .int .i64 s.2] 24)) := (Below.refl _ _).alloc (Nat.le_refl _) _
  have z0 : (w.alloc (.cells #[.int .i64 s.1, .int .i64 s.2] 24)).cell? ⟨w.heap.size, 0, none⟩ = some (.int .i64 s.1) := World.cell?_alloc_at _ _ _ _ rfl
  have z1 : (w.alloc (.cells #[.int .i64 s.1, .int .i64 s.2] 24)).cell? ⟨w.heap.size, 1, none⟩ = some (.int .i64 s.2) := World.cell?_alloc_at _ _ _ _ rfl
  have HL := Lib.hid (long_any p cap l _ (h.below hb0))
  have HR := Lib.hid (h.below hb0)
  have HZ := Lib.hid (And.intro z0 z1)
  have HB0 := Lib.hid hb0
  clear h hb0 z0 z1
  go_enter Try.func3, Try.ntmps3
  go_wp2_with fail
  generalize w.alloc (.cells #[.int .i64 s.1, .int .i64 s.2] 24) = w0 at *
  refine HL.out.mono ?_
  rintro e w1 ⟨⟨v, hv, rfl⟩, hb1⟩
  have HB1 := Lib.hid hb1
  clear hb1 HL
  cases v
  case true =>
    go_wp2_with fail
    refine (knows11_any _).mono ?_
    rintro e wk ⟨rfl, hbk⟩
    have HE := Lib.hid (HB0.out.trans ((HB1.out.trans (hbk.mono HB1.out.size)).mono HB0.out.size))
    clear hbk
    go_wp2
    go_ret
    exact ⟨rfl, HE.out⟩
  case false =>
    obtain ⟨hl100, hk200⟩ := hv rfl
    have HLL := Lib.hid hl100
    have HKL := Lib.hid hk200
    have HO := Lib.hid (ownSb_any p cap l w1 (HR.out.below HB1.out) (by omega))
    clear hv hl100 hk200
    go_wp2_with fail
    refine HO.out.mono ?_
    rintro e w2 ⟨po, co, l', rfl, rfl, ho, hb2⟩
    obtain ⟨p2, c2, hv, hrd, -, -, hpn, -⟩ := own_rd ho
    obtain ⟨rfl, rfl⟩ : po = p2 ∧ co = c2 := by cases hv; exact ⟨rfl, rfl⟩
    have HS := Lib.hid (sort_sib po co l' w2 hrd hpn (by have := HLL.out; omega))
    have HB2 := Lib.hid (HB1.out.trans (hb2.mono HB1.out.size))
    clear ho hb2 hv hrd hpn HO
    go_wp2_with fail
    refine HS.out.mono ?_
    rintro e w3 ⟨p1, c1, X, hp, hs, rfl, hr, -, hpn, hb3⟩
    have HB3 := Lib.hid (HB2.out.trans (hb3.mono HB2.out.size))
    have HRX := Lib.hid hr
    have HNX := Lib.hid hpn
    have HXL := Lib.hid (show X.length ≤ 100 from by rw [hp.length_eq]; exact HLL.out)
    have HXK := Lib.hid (show Keys 140737488355328 X from fun x hx => Nat.le_trans (HKL.out.perm hp x hx) (by decide))
    have hz := HZ.out
    have s0 := kept_cell HB3.out hz.1
    have s1 := kept_cell HB3.out hz.2
    have HKY := Lib.hid (fun at' W (hW : Below w3.heap.size w3 W) => key_sib p1 c1 X at' W (hr.below hW) (by have := HXL.out; omega) HXK.out)
    have HFN := Lib.hid (fun W (hW : Below w3.heap.size w3 W) => fine_any p1 c1 X W (hr.below hW) (by have := HXL.out; omega) HXK.out)
    clear hp hs hr hpn hb3 hz HS HKL HLL HR
    have HKO := Lib.hid (fun h => Sbm.keyOf_err (l := X) (at' := at') h)
    have HST := Lib.hid (fun (h0 : (Sbm.keyOf X at').2 = 0) hf (m : List Sbm.Sib) hp hm => Sbm.stands_sorted (l := X) (m := m) (at' := at') h0 hf s hp hm)
    have HKY := Lib.hid (fun W hW => HKY.out at' W hW)
    generalize Sbm.keyOf X at' = kx at *
    obtain ⟨K0, e0⟩ := kx
    dsimp only at HKO HST HKY
    go_wp2_with fail
    refine (HKY.out _ (Below.refl _ _)).mono ?_
    rintro e w4 ⟨rfl, hb4⟩
    have HB4 := Lib.hid hb4
    clear hb4 HKY
    by_cases h0 : e0 = 0
    case neg =>
      have d0 : (e0 == 0) = false := beq_eq_false_iff_ne.2 h0
      obtain rfl := HKO.out h0
      have es : strB [] = ⟨#[]⟩ := rfl
      rw [es]
      clear es HKO HST
      go_wp2_with fail
      refine (num11_any _ _).mono ?_
      rintro e wn ⟨rfl, rfl⟩
      go_wp2_with fail
      refine (knows11_any _).mono ?_
      rintro e wk ⟨rfl, hbk⟩
      have HE := Lib.hid (HB0.out.trans ((HB3.out.trans ((HB4.out.trans (hbk.mono HB4.out.size)).mono HB3.out.size)).mono HB0.out.size))
      clear hbk
      go_wp2
      go_ret
      exact ⟨rfl, HE.out⟩
    case pos =>
      subst h0
      replace HST := Lib.hid (HST.out rfl)
      clear HKO
      go_wp2_with fail
      refine (num11_any _ _).mono ?_
      rintro e wn ⟨rfl, rfl⟩
      go_wp2_with fail
      refine (HFN.out _ HB4.out).mono ?_
      rintro e w5 ⟨⟨v, hv, rfl⟩, hb5⟩
      have HBX := Lib.hid (HB4.out.trans (hb5.mono HB4.out.size))
      clear hb5 HFN HB4
      cases v
      case false =>
        go_wp2_with fail
        refine (knows11_any _).mono ?_
        rintro e wk ⟨rfl, hbk⟩
        have HE := Lib.hid (HB0.out.trans ((HB3.out.trans ((HBX.out.trans (hbk.mono HBX.out.size)).mono HB3.out.size)).mono HB0.out.size))
        clear hbk
        go_wp2
        go_ret
        exact ⟨rfl, HE.out⟩
      case true =>
        replace HST := Lib.hid (HST.out (hv rfl))
        clear hv
        have hks : strB K0 = ⟨K0.toArray⟩ := rfl
        rw [hks]
        generalize (⟨K0.toArray⟩ : ByteArray) = Ky at *
        obtain ⟨Y, hY⟩ : ∃ Y, X ++ [(Ky, s)] = Y := ⟨_, rfl⟩
        have HY := Lib.hid hY
        have HYL := Lib.hid (show Y.length ≤ 5000 from by rw [← hY, List.length_append]; have := HXL.out; simp; omega)
        rw [hY] at HST
        clear hY hks HB1 HB2 HZ
        go_upto_region 9 with fail
        go_cut [10] (fun s10 wx => ∃ (p9 : Option Addr) (c9 : Nat) (m : List Sbm.Sib), s10 = .slice p9 (X.length + 1) c9 ∧ m.length = X.length + 1 ∧ m.Perm Y ∧ Sbm.Srt m ∧ Rd wx p9 (sbCells m) ∧ Below w3.heap.size w3 wx)
        case first =>
          refine wp_region_held_drew (S := fun W => Below w3.heap.size w3 W) (by kernel_rfl) (Below.drew HBX.out) (fun hS => ?_)
          generalize w5.drew = wd at *
          refine wpAnyH_take (i := 1) (v := ?_) rfl (by kernel_rfl) (by kernel_rfl) (by kernel_rfl) (fun _ _ _ h => h) (Or.inl ⟨by kernel_rfl, ?_⟩) hS ?_
          rotate_left
          · intro W hSW
            go_simp
            all_goals with_reducible rfl
          refine wpAnyH_take (i := 3) (v := ?_) rfl (by kernel_rfl) (by kernel_rfl) (by kernel_rfl) (fun _ _ _ h => h) (Or.inl ⟨by kernel_rfl, ?_⟩) hS ?_
          rotate_left
          · intro W hSW
            go_simp
            all_goals with_reducible rfl
          refine wpAnyH_take (i := 4) (v := ?_) rfl (by kernel_rfl) (by kernel_rfl) (by kernel_rfl) (fun _ _ _ h => h) (Or.inl ⟨by kernel_rfl, ?_⟩) hS ?_
          rotate_left
          · intro W hSW
            have s0' := kept_cell hSW s0
            have s1' := kept_cell hSW s1
            go_simp
            all_goals with_reducible rfl
          refine wpAnyH_take (i := 5) (v := ?_) rfl (by kernel_rfl) (by kernel_rfl) (by kernel_rfl) (fun _ _ _ h => h) (Or.inl ⟨by kernel_rfl, ?_⟩) hS ?_
          rotate_left
          · intro W hSW
            go_simp
            all_goals with_reducible rfl
          go_simp
          refine wpAnyH_ready (rs := [0, 6]) (by kernel_rfl) (by simp) ?_
          refine AllReadyH.cons rfl (fun K hK => ?_) (AllReadyH.cons rfl (fun K hK => ?_) AllReadyH.nil)
          · go_simp
            have HE0 := Lib.hid (own_empty hS (Below.size hS))
            refine hK.out _ _ (Below.alloc hS (Below.size hS) _) (fun hS => ?_)
            clear hK K
            generalize wd.alloc (.cells #[] 36) = wa at *
            refine wpAnyH_ready (rs := [2, 6]) (by kernel_rfl) (by simp) ?_
            refine AllReadyH.cons rfl (fun K hK => ?_) (AllReadyH.cons rfl (fun K hK => ?_) AllReadyH.nil)
            · refine step_append_sibs (by kernel_rfl) _ _ rfl w3.heap.size [] X X (List.nil_append X) rfl HE0.out p1 c1 rfl (HRX.out.below hS) HNX.out (by have := HXL.out; simp; omega) (Below.size hS) ?_
              intro p2 c2 w2 ho2 hg2
              have HB2 := Lib.hid (Below.grown hS hg2 (Below.size hS) (fun j hj => (World.ownsRow.lt HE0.out j hj).1))
              have HO2 := Lib.hid ho2
              clear ho2 hg2
              refine hK.out _ _ HB2.out (fun hS => ?_)
              clear hK K
              refine wpAnyH_ready (rs := [6]) (by kernel_rfl) (by simp) ?_
              refine AllReadyH.cons rfl (fun K hK => ?_) AllReadyH.nil
              go_simp
              have HR6 := Lib.hid (rd_sbn hS (Ky, s) 36)
              have HO7 := Lib.hid (World.ownsRow.alloc HO2.out (.cells #[.string Ky, .int .i64 s.1, .int .i64 s.2] 36))
              have SB6 := Lib.hid (show w2.heap.size < (w2.alloc (.cells #[.string Ky, .int .i64 s.1, .int .i64 s.2] 36)).heap.size from by simp)
              refine hK.out _ _ (Below.alloc hS (Below.size hS) _) (fun hS => ?_)
              clear hK K
              generalize w2.alloc (.cells #[.string Ky, .int .i64 s.1, .int .i64 s.2] 36) = wb at *
              refine wpAnyH_ready (rs := [7]) (by kernel_rfl) (by simp) ?_
              refine AllReadyH.cons rfl (fun K hK => ?_) AllReadyH.nil
              refine step_append_sibs (by kernel_rfl) _ _ rfl w3.heap.size X [(Ky, s)] Y HY.out rfl HO7.out _ 1 rfl HR6.out (fun e => by cases e) (by have := HXL.out; simp; omega) (Below.size hS) ?_
              intro p7 c7 w7 ho7 hg7
              have HB7 := Lib.hid (Below.grown hS hg7 (Below.size hS) (fun j hj => (World.ownsRow.lt HO7.out j hj).1))
              obtain ⟨hrd7, hpn7⟩ := own_rd_sb ho7
              have HS7 := Lib.hid (sort_sib p7 c7 Y w7 hrd7 hpn7 HYL.out)
              clear ho7 hg7 hrd7 hpn7
              refine hK.out _ _ HB7.out (fun hS => ?_)
              clear hK K
              refine wpAnyH_ready (rs := [8]) (by kernel_rfl) (by simp) ?_
              refine AllReadyH.cons rfl (fun K hK => ?_) AllReadyH.nil
              go_simp
              go_wp2_with ((go_at_call 7; refine (HS7.out).mono ?_; rintro e wn ⟨p8, c8, m8, hp8, hs8, rfl, hr8, -, -, hbn⟩))
              have HM := Lib.hid (And.intro hp8 (And.intro hs8 (And.intro hr8 (hS.trans (hbn.mono hS.size)))))
              have HML := Lib.hid (show m8.length = X.length + 1 from by rw [hp8.length_eq, ← HY.out]; simp)
              rw [HML.out]
              clear hp8 hs8 hr8
              refine hK.out _ _ (hS.trans (hbn.mono hS.size)) (fun hS => ?_)
              clear hK K hbn
              refine wpAnyH_take (i := 9) (v := ?_) rfl (by kernel_rfl) (by kernel_rfl) (by kernel_rfl) (fun _ _ _ h => h) (Or.inl ⟨by kernel_rfl, ?_⟩) hS ?_
              rotate_left
              · intro W hSW
                go_simp
                all_goals with_reducible rfl
              go_simp
              refine wpAnyH_done (by kernel_rfl) ?_ _
              go_simp
              clear hS
              go_wp2
              go_meet
              case rel => exact ⟨p8, c8, m8, rfl, HML.out, HM.out.1, HM.out.2.1, HM.out.2.2.1, HM.out.2.2.2⟩
            · go_simp
              have HR6 := Lib.hid (rd_sbn hS (Ky, s) 36)
              have HE1 := Lib.hid (World.ownsRow.alloc HE0.out (.cells #[.string Ky, .int .i64 s.1, .int .i64 s.2] 36))
              have HNB := Lib.hid (World.ownsRow.lt HE0.out)
              have SB6 := Lib.hid (show wa.heap.size < (wa.alloc (.cells #[.string Ky, .int .i64 s.1, .int .i64 s.2] 36)).heap.size from by simp)
              refine hK.out _ _ (Below.alloc hS (Below.size hS) _) (fun hS => ?_)
              clear hK K
              generalize wa.alloc (.cells #[.string Ky, .int .i64 s.1, .int .i64 s.2] 36) = wb at *
              refine wpAnyH_ready (rs := [2]) (by kernel_rfl) (by simp) ?_
              refine AllReadyH.cons rfl (fun K hK => ?_) AllReadyH.nil
              refine step_append_sibs (by kernel_rfl) _ _ rfl w3.heap.size [] X X (List.nil_append X) rfl HE1.out p1 c1 rfl (HRX.out.below hS) HNX.out (by have := HXL.out; simp; omega) (Below.size hS) ?_
              intro p2 c2 w2 ho2 hg2
              have HR7 := Lib.hid ((Turns.of_grown hg2).rd HR6.out (fun a ha e => by obtain rfl := Option.some.inj ha; have h1 := (HNB.out _ e).2; exact Nat.lt_irrefl _ h1))
              have HB2 := Lib.hid (Below.grown hS hg2 (Below.size hS) (fun j hj => (World.ownsRow.lt HE1.out j hj).1))
              have HO2 := Lib.hid ho2
              clear ho2 hg2
              refine hK.out _ _ HB2.out (fun hS => ?_)
              clear hK K
              refine wpAnyH_ready (rs := [7]) (by kernel_rfl) (by simp) ?_
              refine AllReadyH.cons rfl (fun K hK => ?_) AllReadyH.nil
              refine step_append_sibs (by kernel_rfl) _ _ rfl w3.heap.size X [(Ky, s)] Y HY.out rfl HO2.out _ 1 rfl HR7.out (fun e => by cases e) (by have := HXL.out; simp; omega) (Below.size hS) ?_
              intro p7 c7 w7 ho7 hg7
              have HB7 := Lib.hid (Below.grown hS hg7 (Below.size hS) (fun j hj => (World.ownsRow.lt HO2.out j hj).1))
              obtain ⟨hrd7, hpn7⟩ := own_rd_sb ho7
              have HS7 := Lib.hid (sort_sib p7 c7 Y w7 hrd7 hpn7 HYL.out)
              clear ho7 hg7 hrd7 hpn7
              refine hK.out _ _ HB7.out (fun hS => ?_)
              clear hK K
              refine wpAnyH_ready (rs := [8]) (by kernel_rfl) (by simp) ?_
              refine AllReadyH.cons rfl (fun K hK => ?_) AllReadyH.nil
              go_simp
              go_wp2_with ((go_at_call 7; refine (HS7.out).mono ?_; rintro e wn ⟨p8, c8, m8, hp8, hs8, rfl, hr8, -, -, hbn⟩))
              have HM := Lib.hid (And.intro hp8 (And.intro hs8 (And.intro hr8 (hS.trans (hbn.mono hS.size)))))
              have HML := Lib.hid (show m8.length = X.length + 1 from by rw [hp8.length_eq, ← HY.out]; simp)
              rw [HML.out]
              clear hp8 hs8 hr8
              refine hK.out _ _ (hS.trans (hbn.mono hS.size)) (fun hS => ?_)
              clear hK K hbn
              refine wpAnyH_take (i := 9) (v := ?_) rfl (by kernel_rfl) (by kernel_rfl) (by kernel_rfl) (fun _ _ _ h => h) (Or.inl ⟨by kernel_rfl, ?_⟩) hS ?_
              rotate_left
              · intro W hSW
                go_simp
                all_goals with_reducible rfl
              go_simp
              refine wpAnyH_done (by kernel_rfl) ?_ _
              go_simp
              clear hS
              go_wp2
              go_meet
              case rel => exact ⟨p8, c8, m8, rfl, HML.out, HM.out.1, HM.out.2.1, HM.out.2.2.1, HM.out.2.2.2⟩
          · go_simp
            have HR6 := Lib.hid (rd_sbn hS (Ky, s) 36)
            have SB6 := Lib.hid (show wd.heap.size < (wd.alloc (.cells #[.string Ky, .int .i64 s.1, .int .i64 s.2] 36)).heap.size from by simp)
            refine hK.out _ _ (Below.alloc hS (Below.size hS) _) (fun hS => ?_)
            clear hK K
            generalize wd.alloc (.cells #[.string Ky, .int .i64 s.1, .int .i64 s.2] 36) = wa at *
            refine wpAnyH_ready (rs := [0]) (by kernel_rfl) (by simp) ?_
            refine AllReadyH.cons rfl (fun K hK => ?_) AllReadyH.nil
            go_simp
            have HE0 := Lib.hid (own_empty hS (Below.size hS))
            have HLT := Lib.hid (SB6.out)
            have HR7 := Lib.hid (HR6.out.below ((Below.refl _ _).alloc (Nat.le_refl _) (.cells #[] 36)))
            refine hK.out _ _ (Below.alloc hS (Below.size hS) _) (fun hS => ?_)
            clear hK K
            generalize wa.alloc (.cells #[] 36) = wb at *
            refine wpAnyH_ready (rs := [2]) (by kernel_rfl) (by simp) ?_
            refine AllReadyH.cons rfl (fun K hK => ?_) AllReadyH.nil
            refine step_append_sibs (by kernel_rfl) _ _ rfl w3.heap.size [] X X (List.nil_append X) rfl HE0.out p1 c1 rfl (HRX.out.below hS) HNX.out (by have := HXL.out; simp; omega) (Below.size hS) ?_
            intro p2 c2 w2 ho2 hg2
            have HR8 := Lib.hid ((Turns.of_grown hg2).rd HR7.out (fun a ha e => by obtain rfl := Option.some.inj ha; obtain h1 := Option.some.inj e; have h2 := HLT.out; dsimp only at h1; omega))
            have HB2 := Lib.hid (Below.grown hS hg2 (Below.size hS) (fun j hj => (World.ownsRow.lt HE0.out j hj).1))
            have HO2 := Lib.hid ho2
            clear ho2 hg2
            refine hK.out _ _ HB2.out (fun hS => ?_)
            clear hK K
            refine wpAnyH_ready (rs := [7]) (by kernel_rfl) (by simp) ?_
            refine AllReadyH.cons rfl (fun K hK => ?_) AllReadyH.nil
            refine step_append_sibs (by kernel_rfl) _ _ rfl w3.heap.size X [(Ky, s)] Y HY.out rfl HO2.out _ 1 rfl HR8.out (fun e => by cases e) (by have := HXL.out; simp; omega) (Below.size hS) ?_
            intro p7 c7 w7 ho7 hg7
            have HB7 := Lib.hid (Below.grown hS hg7 (Below.size hS) (fun j hj => (World.ownsRow.lt HO2.out j hj).1))
            obtain ⟨hrd7, hpn7⟩ := own_rd_sb ho7
            have HS7 := Lib.hid (sort_sib p7 c7 Y w7 hrd7 hpn7 HYL.out)
            clear ho7 hg7 hrd7 hpn7
            refine hK.out _ _ HB7.out (fun hS => ?_)
            clear hK K
            refine wpAnyH_ready (rs := [8]) (by kernel_rfl) (by simp) ?_
            refine AllReadyH.cons rfl (fun K hK => ?_) AllReadyH.nil
            go_simp
            go_wp2_with ((go_at_call 7; refine (HS7.out).mono ?_; rintro e wn ⟨p8, c8, m8, hp8, hs8, rfl, hr8, -, -, hbn⟩))
            have HM := Lib.hid (And.intro hp8 (And.intro hs8 (And.intro hr8 (hS.trans (hbn.mono hS.size)))))
            have HML := Lib.hid (show m8.length = X.length + 1 from by rw [hp8.length_eq, ← HY.out]; simp)
            rw [HML.out]
            clear hp8 hs8 hr8
            refine hK.out _ _ (hS.trans (hbn.mono hS.size)) (fun hS => ?_)
            clear hK K hbn
            refine wpAnyH_take (i := 9) (v := ?_) rfl (by kernel_rfl) (by kernel_rfl) (by kernel_rfl) (fun _ _ _ h => h) (Or.inl ⟨by kernel_rfl, ?_⟩) hS ?_
            rotate_left
            · intro W hSW
              go_simp
              all_goals with_reducible rfl
            go_simp
            refine wpAnyH_done (by kernel_rfl) ?_ _
            go_simp
            clear hS
            go_wp2
            go_meet
            case rel => exact ⟨p8, c8, m8, rfl, HML.out, HM.out.1, HM.out.2.1, HM.out.2.2.1, HM.out.2.2.2⟩
        case rest =>
          obtain ⟨p9, c9, m, rfl, hml, hpm, hsm, hrm, hbm⟩ := hcut
          obtain ⟨ha0, ha1, hm⟩ := HST.out m hpm hsm
          obtain ⟨n, rfl⟩ : ∃ n : Nat, at' = (n : Int) := ⟨at'.toNat, by omega⟩
          rw [Int.toNat_natCast] at hm
          have hnX : n ≤ X.length := by omega
          have hX100 := HXL.out
          have HNM := Lib.hid (show n < m.length from by omega)
          have HML := Lib.hid hml
          have HYN := Lib.hid (show Sbm.sbOf m n = (Ky, s) from by rw [hm]; exact sbOf_here hnX)
          have HLOW := Lib.hid (fun k (hk : k < n) => show Sbm.sbOf m k = Sbm.sbOf X k from by rw [hm]; exact sbOf_low hnX hk)
          have HHI := Lib.hid (fun k (hk : n ≤ k) (h1 : k < X.length) => show Sbm.sbOf m (k + 1) = Sbm.sbOf X k from by rw [hm]; exact sbOf_high hnX hk h1)
          have HR9 := Lib.hid hrm
          have HB9 := Lib.hid hbm
          obtain ⟨b9, o9, rfl, -⟩ := hrm.addr (by rw [sbCells_length]; omega)
          clear hml hpm hsm hrm hbm hm HST HY HYL
          generalize wc = w9 at *
          have hn1 : n < X.length + 1 := by omega
          have hn2 : (n : Int) < (X.length : Int) + 1 := by omega
          have hn3 : ¬ (X.length : Int) < (n : Int) := by omega
          have dn1 : decide ((n : Int) < 0) = false := decide_eq_false (by omega)
          have dn2 : decide ((X.length : Int) < (n : Int)) = false := decide_eq_false (by omega)
          have hw1 : IntKind.i64.wrap ((X.length : Int) + 1) = (X.length : Int) + 1 := wraps_i64 _ (by omega) (by omega)
          go_upto_region 10 with fail
          refine wp_region_held_drew (S := fun W => Below w9.heap.size w9 W) (by kernel_rfl) (Below.drew (Below.refl _ _)) (fun hS => ?_)
          refine wpAnyH_take (i := 0) (v := ?_) rfl (by kernel_rfl) (by kernel_rfl) (by kernel_rfl) (fun _ _ _ h => h) (Or.inl ⟨by kernel_rfl, ?_⟩) hS ?_
          rotate_left
          · intro W hSW
            go_simp
            all_goals with_reducible rfl
          refine wpAnyH_take (i := 1) (v := ?_) rfl (by kernel_rfl) (by kernel_rfl) (by kernel_rfl) (fun _ _ _ h => h) (Or.inl ⟨by kernel_rfl, ?_⟩) hS ?_
          rotate_left
          · intro W hSW
            go_simp
            all_goals with_reducible rfl
          refine wpAnyH_take (i := 2) (v := ?_) rfl (by kernel_rfl) (by kernel_rfl) (by kernel_rfl) (fun _ _ _ h => h) (Or.inl ⟨by kernel_rfl, ?_⟩) hS ?_
          rotate_left
          · intro W hSW
            go_simp
            all_goals with_reducible rfl
          go_simp
          refine wpAnyH_take (i := 3) (v := ?_) rfl (by kernel_rfl) (by kernel_rfl) (by kernel_rfl) (fun _ _ _ h => h) (Or.inl ⟨by kernel_rfl, ?_⟩) hS ?_
          rotate_left
          · intro W hSW
            go_simp
            all_goals with_reducible rfl
          refine wpAnyH_take (i := 4) (v := ?_) rfl (by kernel_rfl) (by kernel_rfl) (by kernel_rfl) (fun _ _ _ h => h) (Or.inl ⟨by kernel_rfl, ?_⟩) hS ?_
          rotate_left
          · intro W hSW
            go_simp
            all_goals with_reducible rfl
          refine wpAnyH_take (i := 5) (v := ?_) rfl (by kernel_rfl) (by kernel_rfl) (by kernel_rfl) (fun _ _ _ h => h) (Or.inl ⟨by kernel_rfl, ?_⟩) hS ?_
          rotate_left
          · intro W hSW
            go_simp
            all_goals with_reducible rfl
          go_simp
          refine wpAnyH_take (i := 6) (v := ?_) rfl (by kernel_rfl) (by kernel_rfl) (by kernel_rfl) (fun _ _ _ h => h) (Or.inl ⟨by kernel_rfl, ?_⟩) hS ?_
          rotate_left
          · intro W hSW
            go_simp
            all_goals with_reducible rfl
          refine wpAnyH_take (i := 7) (v := ?_) rfl (by kernel_rfl) (by kernel_rfl) (by kernel_rfl) (fun _ _ _ h => h) (Or.inl ⟨by kernel_rfl, ?_⟩) hS ?_
          rotate_left
          · intro W hSW
            go_simp
            all_goals with_reducible rfl
          refine wpAnyH_take (i := 8) (v := ?_) rfl (by kernel_rfl) (by kernel_rfl) (by kernel_rfl) (fun _ _ _ h => h) (Or.inl ⟨by kernel_rfl, ?_⟩) hS ?_
          rotate_left
          · intro W hSW
            go_simp
            all_goals with_reducible rfl
          go_simp
          refine wpAnyH_take (i := 9) (v := ?_) rfl (by kernel_rfl) (by kernel_rfl) (by kernel_rfl) (fun _ _ _ h => h) (Or.inl ⟨by kernel_rfl, ?_⟩) hS ?_
          rotate_left
          · intro W hSW
            go_simp
            all_goals with_reducible rfl
          refine wpAnyH_take (i := 10) (v := ?_) rfl (by kernel_rfl) (by kernel_rfl) (by kernel_rfl) (fun _ _ _ h => h) (Or.inl ⟨by kernel_rfl, ?_⟩) hS ?_
          rotate_left
          · intro W hSW
            go_simp
            all_goals with_reducible rfl
          refine wpAnyH_take (i := 11) (v := ?_) rfl (by kernel_rfl) (by kernel_rfl) (by kernel_rfl) (fun _ _ _ h => h) (Or.inl ⟨by kernel_rfl, ?_⟩) hS ?_
          rotate_left
          · intro W hSW
            go_simp
            all_goals with_reducible rfl
          go_simp
          refine wpAnyH_take (i := 12) (v := ?_) rfl (by kernel_rfl) (by kernel_rfl) (by kernel_rfl) (fun _ _ _ h => h) (Or.inl ⟨by kernel_rfl, ?_⟩) hS ?_
          rotate_left
          · intro W hSW
            go_simp
            all_goals with_reducible rfl
          refine wpAnyH_take (i := 13) (v := ?_) rfl (by kernel_rfl) (by kernel_rfl) (by kernel_rfl) (fun _ _ _ h => h) (Or.inl ⟨by kernel_rfl, ?_⟩) hS ?_
          rotate_left
          · intro W hSW
            go_simp
            all_goals with_reducible rfl
          refine wpAnyH_take (i := 14) (v := ?_) rfl (by kernel_rfl) (by kernel_rfl) (by kernel_rfl) (fun _ _ _ h => h) (Or.inl ⟨by kernel_rfl, ?_⟩) hS ?_
          rotate_left
          · intro W hSW
            go_simp
            all_goals with_reducible rfl
          go_simp
          refine wpAnyH_take (i := 15) (v := ?_) rfl (by kernel_rfl) (by kernel_rfl) (by kernel_rfl) (fun _ _ _ h => h) (Or.inl ⟨by kernel_rfl, ?_⟩) hS ?_
          rotate_left
          · intro W hSW
            go_simp
            all_goals with_reducible rfl
          refine wpAnyH_take (i := 16) (v := ?_) rfl (by kernel_rfl) (by kernel_rfl) (by kernel_rfl) (fun _ _ _ h => h) (Or.inl ⟨by kernel_rfl, ?_⟩) hS ?_
          rotate_left
          · intro W hSW
            go_simp
            all_goals with_reducible rfl
          refine wpAnyH_take (i := 17) (v := ?_) rfl (by kernel_rfl) (by kernel_rfl) (by kernel_rfl) (fun _ _ _ h => h) (Or.inl ⟨by kernel_rfl, ?_⟩) hS ?_
          rotate_left
          · intro W hSW
            go_simp
            all_goals with_reducible rfl
          go_simp
          refine wpAnyH_take (i := 18) (v := ?_) rfl (by kernel_rfl) (by kernel_rfl) (by kernel_rfl) (fun _ _ _ h => h) (Or.inl ⟨by kernel_rfl, ?_⟩) hS ?_
          rotate_left
          · intro W hSW
            go_simp
            all_goals with_reducible rfl
          refine wpAnyH_take (i := 19) (v := ?_) rfl (by kernel_rfl) (by kernel_rfl) (by kernel_rfl) (fun _ _ _ h => h) (Or.inl ⟨by kernel_rfl, ?_⟩) hS ?_
          rotate_left
          · intro W hSW
            go_simp
            all_goals with_reducible rfl
          refine wpAnyH_take (i := 20) (v := ?_) rfl (by kernel_rfl) (by kernel_rfl) (by kernel_rfl) (fun _ _ _ h => h) (Or.inl ⟨by kernel_rfl, ?_⟩) hS ?_
          rotate_left
          · intro W hSW
            go_simp
            all_goals with_reducible rfl
          go_simp
          refine wpAnyH_take (i := 21) (v := ?_) rfl (by kernel_rfl) (by kernel_rfl) (by kernel_rfl) (fun _ _ _ h => h) (Or.inl ⟨by kernel_rfl, ?_⟩) hS ?_
          rotate_left
          · intro W hSW
            obtain ⟨y0', y1', y2'⟩ := (HR9.out.below hSW).sb n HNM.out
            rw [HYN.out] at y0' y1' y2'
            go_simp
            all_goals with_reducible rfl
          refine wpAnyH_take (i := 22) (v := ?_) rfl (by kernel_rfl) (by kernel_rfl) (by kernel_rfl) (fun _ _ _ h => h) (Or.inl ⟨by kernel_rfl, ?_⟩) hS ?_
          rotate_left
          · intro W hSW
            go_simp
            all_goals with_reducible rfl
          refine wpAnyH_take (i := 23) (v := ?_) rfl (by kernel_rfl) (by kernel_rfl) (by kernel_rfl) (fun _ _ _ h => h) (Or.inl ⟨by kernel_rfl, ?_⟩) hS ?_
          rotate_left
          · intro W hSW
            go_simp
            all_goals with_reducible rfl
          go_simp
          refine wpAnyH_take (i := 24) (v := ?_) rfl (by kernel_rfl) (by kernel_rfl) (by kernel_rfl) (fun _ _ _ h => h) (Or.inl ⟨by kernel_rfl, ?_⟩) hS ?_
          rotate_left
          · intro W hSW
            go_simp
            all_goals with_reducible rfl
          refine wpAnyH_take (i := 25) (v := ?_) rfl (by kernel_rfl) (by kernel_rfl) (by kernel_rfl) (fun _ _ _ h => h) (Or.inl ⟨by kernel_rfl, ?_⟩) hS ?_
          rotate_left
          · intro W hSW
            go_simp
            all_goals with_reducible rfl
          refine wpAnyH_take (i := 26) (v := ?_) rfl (by kernel_rfl) (by kernel_rfl) (by kernel_rfl) (fun _ _ _ h => h) (Or.inl ⟨by kernel_rfl, ?_⟩) hS ?_
          rotate_left
          · intro W hSW
            go_simp
            all_goals with_reducible rfl
          go_simp
          refine wpAnyH_take (i := 27) (v := ?_) rfl (by kernel_rfl) (by kernel_rfl) (by kernel_rfl) (fun _ _ _ h => h) (Or.inl ⟨by kernel_rfl, ?_⟩) hS ?_
          rotate_left
          · intro W hSW
            go_simp
            all_goals with_reducible rfl
          refine wpAnyH_take (i := 28) (v := ?_) rfl (by kernel_rfl) (by kernel_rfl) (by kernel_rfl) (fun _ _ _ h => h) (Or.inl ⟨by kernel_rfl, ?_⟩) hS ?_
          rotate_left
          · intro W hSW
            go_simp
            all_goals with_reducible rfl
          refine wpAnyH_take (i := 29) (v := ?_) rfl (by kernel_rfl) (by kernel_rfl) (by kernel_rfl) (fun _ _ _ h => h) (Or.inl ⟨by kernel_rfl, ?_⟩) hS ?_
          rotate_left
          · intro W hSW
            go_simp
            all_goals with_reducible rfl
          go_simp
          refine wpAnyH_take (i := 30) (v := ?_) rfl (by kernel_rfl) (by kernel_rfl) (by kernel_rfl) (fun _ _ _ h => h) (Or.inl ⟨by kernel_rfl, ?_⟩) hS ?_
          rotate_left
          · intro W hSW
            obtain ⟨y0', y1', y2'⟩ := (HR9.out.below hSW).sb n HNM.out
            rw [HYN.out] at y0' y1' y2'
            go_simp
            all_goals with_reducible rfl
          refine wpAnyH_take (i := 31) (v := ?_) rfl (by kernel_rfl) (by kernel_rfl) (by kernel_rfl) (fun _ _ _ h => h) (Or.inl ⟨by kernel_rfl, ?_⟩) hS ?_
          rotate_left
          · intro W hSW
            have s0' := kept_cell (HB9.out.trans (hSW.mono HB9.out.size)) s0
            have s1' := kept_cell (HB9.out.trans (hSW.mono HB9.out.size)) s1
            go_simp
            all_goals with_reducible rfl
          refine wpAnyH_take (i := 32) (v := ?_) rfl (by kernel_rfl) (by kernel_rfl) (by kernel_rfl) (fun _ _ _ h => h) (Or.inl ⟨by kernel_rfl, ?_⟩) hS ?_
          rotate_left
          · intro W hSW
            go_simp
            all_goals with_reducible rfl
          go_simp
          refine wpAnyH_take (i := 33) (v := ?_) rfl (by kernel_rfl) (by kernel_rfl) (by kernel_rfl) (fun _ _ _ h => h) (Or.inl ⟨by kernel_rfl, ?_⟩) hS ?_
          rotate_left
          · intro W hSW
            go_simp
            all_goals with_reducible rfl
          go_simp
          refine wpAnyH_done (by kernel_rfl) ?_ _
          go_simp
          have HB10 := Lib.hid hS
          clear hS
          go_wp2_with fail
          go_loopw [11] (fun i wr => ∃ k : Nat, i = .int .i64 (k : Int) ∧ k ≤ X.length ∧ Below w9.heap.size w9 wr) (fun i _ => X.length - (intOf i).toNat)
          case atStart => exact ⟨0, rfl, Nat.zero_le _, HB10.out⟩
          case round =>
            obtain ⟨k, rfl, hkl, hbk⟩ := hrel
            have HBK := Lib.hid hbk
            clear hbk
            by_cases hlt : k < X.length
            · have d1 : decide ((k : Int) < (X.length : Int)) = true := decide_eq_true (by omega)
              have HKX := Lib.hid hlt
              have hk100 : k < 100 := by omega
              obtain ⟨bX, oX, rfl, -⟩ := HRX.out.addr (by rw [sbCells_length]; have := HKX.out; omega)
              by_cases hkn : k < n
              · have d2 : decide ((n : Int) ≤ (k : Int)) = false := decide_eq_false (by omega)
                have hk1 : k < X.length + 1 := by omega
                have hnk : ¬ n ≤ k := by omega
                have hk3 : (k : Int) < (X.length : Int) + 1 := by omega
                have HEQ := Lib.hid (HLOW.out k hkn)
                have HPM := Lib.hid (show k < m.length from by have := HML.out; omega)
                clear hkn
                go_wp2
                refine wp_region_held_drew (S := fun W => Below w9.heap.size w9 W) (by kernel_rfl) (Below.drew HBK.out) (fun hS => ?_)
                refine wpAnyH_take (i := 0) (v := ?_) rfl (by kernel_rfl) (by kernel_rfl) (by kernel_rfl) (fun _ _ _ h => h) (Or.inl ⟨by kernel_rfl, ?_⟩) hS ?_
                rotate_left
                · intro W hSW
                  go_simp
                  all_goals with_reducible rfl
                refine wpAnyH_take (i := 1) (v := ?_) rfl (by kernel_rfl) (by kernel_rfl) (by kernel_rfl) (fun _ _ _ h => h) (Or.inl ⟨by kernel_rfl, ?_⟩) hS ?_
                rotate_left
                · intro W hSW
                  go_simp
                  all_goals with_reducible rfl
                refine wpAnyH_take (i := 2) (v := ?_) rfl (by kernel_rfl) (by kernel_rfl) (by kernel_rfl) (fun _ _ _ h => h) (Or.inl ⟨by kernel_rfl, ?_⟩) hS ?_
                rotate_left
                · intro W hSW
                  go_simp
                  all_goals with_reducible rfl
                go_simp
                refine wpAnyH_take (i := 3) (v := sbV (Sbm.sbOf X k)) rfl (by kernel_rfl) (by kernel_rfl) (by kernel_rfl) (fun _ _ _ h => h) (Or.inl ⟨by kernel_rfl, fun W hSW => by rw [← HEQ.out]; exact exec_load_sib sibT rfl rfl (HR9.out.below hSW) HPM.out⟩) hS ?_
                refine wpAnyH_take (i := 4) (v := ?_) rfl (by kernel_rfl) (by kernel_rfl) (by kernel_rfl) (fun _ _ _ h => h) (Or.inl ⟨by kernel_rfl, ?_⟩) hS ?_
                rotate_left
                · intro W hSW
                  go_simp
                  all_goals with_reducible rfl
                refine wpAnyH_take (i := 5) (v := ?_) rfl (by kernel_rfl) (by kernel_rfl) (by kernel_rfl) (fun _ _ _ h => h) (Or.inl ⟨by kernel_rfl, ?_⟩) hS ?_
                rotate_left
                · intro W hSW
                  go_simp
                  all_goals with_reducible rfl
                refine wpAnyH_take (i := 6) (v := ?_) rfl (by kernel_rfl) (by kernel_rfl) (by kernel_rfl) (fun _ _ _ h => h) (Or.inl ⟨by kernel_rfl, ?_⟩) hS ?_
                rotate_left
                · intro W hSW
                  go_simp
                  all_goals with_reducible rfl
                go_simp
                refine wpAnyH_take (i := 7) (v := sbV (Sbm.sbOf X k)) rfl (by kernel_rfl) (by kernel_rfl) (by kernel_rfl) (fun _ _ _ h => h) (Or.inl ⟨by kernel_rfl, fun W hSW => exec_load_sib sibT rfl rfl (HRX.out.below (HB9.out.trans (hSW.mono HB9.out.size))) HKX.out⟩) hS ?_
                go_simp
                refine wpAnyH_take (i := 8) (v := .bool false) rfl (by kernel_rfl) (by kernel_rfl) (by kernel_rfl) (fun _ _ _ h => h) (Or.inl ⟨by kernel_rfl, fun W hSW => (exec_neq_sib rfl (Sbm.sbOf X k) (Sbm.sbOf X k) rfl rfl).trans (by simp)⟩) hS ?_
                go_simp
                refine wpAnyH_done (by kernel_rfl) ?_ _
                go_simp
                have HN := Lib.hid hS
                clear hS
                go_wp2
                go_roundw
                case rel => exact ⟨k + 1, by go_num, by omega, HN.out⟩
                case measure => simp [intOf]; omega
              · have d2 : decide ((n : Int) ≤ (k : Int)) = true := decide_eq_true (by omega)
                have hk1 : (k : Int) + 1 < (X.length : Int) + 1 := by omega
                have hk2 : 0 ≤ (k : Int) + 1 := by omega
                have hnk : n ≤ k := by omega
                have HEQ := Lib.hid (HHI.out k (by omega) hlt)
                have HPM := Lib.hid (show k + 1 < m.length from by have := HML.out; omega)
                clear hkn
                go_wp2
                refine wp_region_held_drew (S := fun W => Below w9.heap.size w9 W) (by kernel_rfl) (Below.drew HBK.out) (fun hS => ?_)
                refine wpAnyH_take (i := 0) (v := ?_) rfl (by kernel_rfl) (by kernel_rfl) (by kernel_rfl) (fun _ _ _ h => h) (Or.inl ⟨by kernel_rfl, ?_⟩) hS ?_
                rotate_left
                · intro W hSW
                  go_simp
                  all_goals with_reducible rfl
                refine wpAnyH_take (i := 1) (v := ?_) rfl (by kernel_rfl) (by kernel_rfl) (by kernel_rfl) (fun _ _ _ h => h) (Or.inl ⟨by kernel_rfl, ?_⟩) hS ?_
                rotate_left
                · intro W hSW
                  go_simp
                  all_goals with_reducible rfl
                refine wpAnyH_take (i := 2) (v := ?_) rfl (by kernel_rfl) (by kernel_rfl) (by kernel_rfl) (fun _ _ _ h => h) (Or.inl ⟨by kernel_rfl, ?_⟩) hS ?_
                rotate_left
                · intro W hSW
                  go_simp
                  all_goals with_reducible rfl
                go_simp
                refine wpAnyH_take (i := 3) (v := sbV (Sbm.sbOf X k)) rfl (by kernel_rfl) (by kernel_rfl) (by kernel_rfl) (fun _ _ _ h => h) (Or.inl ⟨by kernel_rfl, fun W hSW => by rw [← HEQ.out]; exact exec_load_sib sibT rfl rfl (HR9.out.below hSW) HPM.out⟩) hS ?_
                refine wpAnyH_take (i := 4) (v := ?_) rfl (by kernel_rfl) (by kernel_rfl) (by kernel_rfl) (fun _ _ _ h => h) (Or.inl ⟨by kernel_rfl, ?_⟩) hS ?_
                rotate_left
                · intro W hSW
                  go_simp
                  all_goals with_reducible rfl
                refine wpAnyH_take (i := 5) (v := ?_) rfl (by kernel_rfl) (by kernel_rfl) (by kernel_rfl) (fun _ _ _ h => h) (Or.inl ⟨by kernel_rfl, ?_⟩) hS ?_
                rotate_left
                · intro W hSW
                  go_simp
                  all_goals with_reducible rfl
                refine wpAnyH_take (i := 6) (v := ?_) rfl (by kernel_rfl) (by kernel_rfl) (by kernel_rfl) (fun _ _ _ h => h) (Or.inl ⟨by kernel_rfl, ?_⟩) hS ?_
                rotate_left
                · intro W hSW
                  go_simp
                  all_goals with_reducible rfl
                go_simp
                refine wpAnyH_take (i := 7) (v := sbV (Sbm.sbOf X k)) rfl (by kernel_rfl) (by kernel_rfl) (by kernel_rfl) (fun _ _ _ h => h) (Or.inl ⟨by kernel_rfl, fun W hSW => exec_load_sib sibT rfl rfl (HRX.out.below (HB9.out.trans (hSW.mono HB9.out.size))) HKX.out⟩) hS ?_
                go_simp
                refine wpAnyH_take (i := 8) (v := .bool false) rfl (by kernel_rfl) (by kernel_rfl) (by kernel_rfl) (fun _ _ _ h => h) (Or.inl ⟨by kernel_rfl, fun W hSW => (exec_neq_sib rfl (Sbm.sbOf X k) (Sbm.sbOf X k) rfl rfl).trans (by simp)⟩) hS ?_
                go_simp
                refine wpAnyH_done (by kernel_rfl) ?_ _
                go_simp
                have HN := Lib.hid hS
                clear hS
                go_wp2
                go_roundw
                case rel => exact ⟨k + 1, by go_num, by omega, HN.out⟩
                case measure => simp [intOf]; omega
            · have d1 : decide ((k : Int) < (X.length : Int)) = false := decide_eq_false (by omega)
              go_wp2_with fail
              refine (knows11_any _).mono ?_
              rintro e wk ⟨rfl, hbk⟩
              have HE := Lib.hid (HB0.out.trans ((HB3.out.trans ((HB9.out.trans ((HBK.out.trans (hbk.mono HBK.out.size)).mono HB9.out.size)).mono HB3.out.size)).mono HB0.out.size))
              clear hbk
              go_wp2
              go_ret
              exact ⟨rfl, HE.out⟩

end Go.Proofs.Ytilkokhapcgolaa
