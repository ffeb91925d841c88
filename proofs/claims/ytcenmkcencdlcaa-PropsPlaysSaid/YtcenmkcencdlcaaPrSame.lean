/-
  TWO MAPS OF REGISTERS: does each of the one have the other's value? A copy of one.
  No conditions.
-/
import Derived.Test.YtcenmkcencdlcaaPrReg
import Derived.Shelf.SlMaps.Clone
namespace Go.Proofs.Ytcenmkcencdlcaa
open Go.RowKit
open Go.Maps (Keyed)

theorem exec_load_part {t : TypeId} {n : Nat} (V : AgT t n) {c : Act} {o : Oper} {x : Operand} {w : World} (ho : o.op = .load t x) {b off : Nat} (hx : c.eval x = .pointer (some ⟨b, off, none⟩)) {A : Array Value} (hA : AgAt w b A) (cs : List Value) (hc : ∀ j v, cs[j]? = some v → A[off + j]? = some v) (hn : cs.length = n) :
    (execOp c.eval o).run Try.prog w = .ok (.value (.agg cs.toArray)) w := by
  obtain ⟨d, hu⟩ := V.und
  have h1 : w.rangeAt b off cs := fun j v hv => by rw [hA.cell]; exact hc j v hv
  unfold execOp
  simp only [ho, hx, Sem.run_bind, run_loadAt_mid w b off t cs _ h1 hu rfl (by rw [hn]; exact V.size), Result.andThen_ok, Sem.run_pure]
theorem same_str (a b : ByteArray) : (a.toList == b.toList) = decide (a = b) := by
  rw [ByteArray.toList_eq, ByteArray.toList_eq]
  by_cases e : a = b
  · subst e; simp
  · rw [decide_eq_false e]
    exact beq_eq_false_iff_ne.2 fun h => e (congrArg ByteArray.mk (Array.toList_inj.1 h))
theorem vl_neB (p q : Pm.Vl) : (!((p.1 == q.1) && ((p.2.1 == q.2.1) && (p.2.2.toList == q.2.2.toList)))) = !decide (p = q) := by
  obtain ⟨a, b, c⟩ := p
  obtain ⟨a', b', c'⟩ := q
  dsimp only
  rw [same_str]
  by_cases e1 : a = a' <;> by_cases e2 : b = b' <;> by_cases e3 : c = c' <;> simp [e1, e2, e3]
theorem exec_neq_vl {c : Act} {o : Oper} {x y : Operand} {ty : TypeId} (ho : o.op = .binOp .neq 34 x y ty) {w : World} (p q : Pm.Vl) (hx : c.eval x = .agg (vlA p)) (hy : c.eval y = .agg (vlA q)) :
    (execOp c.eval o).run Try.prog w = .ok (.value (.bool (!decide (p = q)))) w := by
  rw [← vl_neB]
  obtain ⟨a, b, s⟩ := p
  obtain ⟨a', b', s'⟩ := q
  unfold execOp
  simp only [ho, hx, hy]
  dsimp only [vlA]
  go_simp
  cases h3 : (s.toList == s'.toList) <;> by_cases h1 : a = a' <;> by_cases h2 : b = b' <;> simp_all
theorem exec_eql_vl {c : Act} {o : Oper} {x y : Operand} {ty : TypeId} (ho : o.op = .binOp .eql 34 x y ty) {w : World} (p q : Pm.Vl) (hx : c.eval x = .agg (vlA p)) (hy : c.eval y = .agg (vlA q)) :
    (execOp c.eval o).run Try.prog w = .ok (.value (.bool (decide (p = q)))) w := by
  have e : decide (p = q) = !(!decide (p = q)) := by simp
  rw [e, ← vl_neB, Bool.not_not]
  obtain ⟨a, b, s⟩ := p
  obtain ⟨a', b', s'⟩ := q
  unfold execOp
  simp only [ho, hx, hy]
  dsimp only [vlA]
  go_simp
  cases h3 : (s.toList == s'.toList) <;> by_cases h1 : a = a' <;> by_cases h2 : b = b' <;> simp_all

/-- what within tells -/
def Wn {V : Type} (f g : Pm.Rg V) (d : V) (b : Bool) : Prop := (b = true → ∀ y, (f y).2 = (g y).2 ∨ f y = ((0, 0), d)) ∧ (b = false → ∃ y, (f y).2 ≠ (g y).2)
theorem Wn.both {V : Type} {f g : Pm.Rg V} {d : V} {a b : Bool} (h : Wn f g d a) (k : Wn g f d b) : ((a && b) = true ↔ ∀ y, (f y).2 = (g y).2) := by
  constructor
  · intro e y
    rw [Bool.and_eq_true] at e
    rcases h.1 e.1 y with h1 | h1
    · exact h1
    · rcases k.1 e.2 y with k1 | k1
      · exact k1.symm
      · rw [h1, k1]
  · intro e
    cases a with
    | false => obtain ⟨y, hy⟩ := h.2 rfl; exact absurd (e y) hy
    | true =>
      cases b with
      | false => obtain ⟨y, hy⟩ := k.2 rfl; exact absurd (e y).symm hy
      | true => rfl

theorem GIt.sub {nk : Nat} {w : World} {r M : Nat} {l left : List (Pm.Nm × Value)} (h : GIt nk w r M l left) : ∀ b ∈ left, b ∈ l := by
  obtain ⟨es, clock, seen, c0, h1, h2, h3, h4, h5, -⟩ := h
  intro b hb
  obtain ⟨e0, hm, e1, e2⟩ := h5.of hb
  have hm2 : e0 ∈ es.toList := by
    unfold leftOf at hm
    rw [Array.toList_filter] at hm
    exact (List.mem_filter.1 hm).1
  obtain ⟨b', hb', f1, f2⟩ := h4.mem hm2
  have : b = b' := Prod.ext (kV_inj (e1.symm.trans f1)) (e2.symm.trans f2)
  rw [this]
  exact hb'
theorem rv_one (r : Qm.St × Pm.Vl) : (rvA r).all (·.oneCell') = true := all_oneCell_toArray (cs := [.int .i64 r.1.1, .int .i64 r.1.2, .int .i64 r.2.1, .int .i64 r.2.2.1, .string r.2.2.2]) (by
  intro u hu
  simp only [List.mem_cons, List.not_mem_nil, or_false] at hu
  rcases hu with rfl | rfl | rfl | rfl | rfl <;> rfl)
theorem rm_one (r : Qm.St × Bool) : (rmA r).all (·.oneCell') = true := all_oneCell_toArray (cs := [.int .i64 r.1.1, .int .i64 r.1.2, .bool r.2]) (by
  intro u hu
  simp only [List.mem_cons, List.not_mem_nil, or_false] at hu
  rcases hu with rfl | rfl | rfl <;> rfl)

/-- a walk through one, under way -/
structure WIV (w : World) (r M : Nat) (l : List (Pm.Nm × Value)) (f g : Pm.Rg Pm.Vl) (left : List (Pm.Nm × Value)) (wr : World) : Prop where
  it : GIt 3 wr r M l left
  done : ∀ b ∈ l, b ∈ left ∨ (f b.1).2 = (g b.1).2
  bel : Below w.heap.size w wr

set_option maxRecDepth 100000 in
set_option maxHeartbeats 4000000 in
theorem withinV_any (M M' : Nat) (f g : Pm.Rg Pm.Vl) (w : World) (h : RM 3 rvA Pm.z0 w M f) (h' : RM 3 rvA Pm.z0 w M' g) :
    Calls Try.prog 59 #[.map (some M), .map (some M')] w fun e w' => ∃ b, e = .returned (.bool b) ∧ Wn f g Pm.z0 b ∧ Below w.heap.size w w' := by
  obtain ⟨l, hl, hf⟩ := h
  have HF := Lib.hid (fun b (hb : b ∈ l) => show b.2 = .agg (rvA (f b.1)) from by
    have h1 := hf b.1
    rw [lk_some hl.nd hb] at h1
    exact h1)
  have HG := Lib.hid h'
  have HWF := Lib.hid hl.wf
  have HE := Lib.hid (fun (hd : ∀ b ∈ l, (f b.1).2 = (g b.1).2) => show Wn f g Pm.z0 true from ⟨fun _ y => by
    cases e : lk l y with
    | none =>
      right
      have h1 := hf y
      rw [e] at h1
      exact (rvA_inj h1).symm
    | some v =>
      left
      exact hd _ (lk_mem e), fun h => by cases h⟩)
  obtain ⟨o, hrg, hit⟩ := hl.range gtV
  have hb1 := (Below.refl w.heap.size w).alloc (Nat.le_refl _) o
  have HK := Lib.hid (show WIV w w.heap.size M l f g l (w.alloc o) from ⟨hit, fun b hb => Or.inl hb, hb1⟩)
  clear hl hf h' hit hb1
  go_enter Try.func59, Try.ntmps59
  go_wp2_with fail
  clear hrg
  generalize w.alloc o = w2 at *
  go_loopg [] (l.length + 1) (fun gk wr => ∃ left, WIV w w.heap.size M l f g left wr ∧ left.length < gk)
  case atStart => exact ⟨_, HK.out, Nat.lt_succ_self _⟩
  case round =>
    clear HK
    obtain ⟨left, hK, hlg⟩ := hrel
    obtain ⟨g1, rfl⟩ : ∃ g1, gk = g1 + 1 := ⟨gk - 1, by omega⟩
    have HK := Lib.hid hK
    have HLG := Lib.hid hlg
    clear hK hlg
    rcases HK.out.it.next 0 with ⟨h0, hnx⟩ | ⟨b, left', w3, hp, hnx, ht2, hit2, hen⟩
    · have HX := Lib.hid (HE.out fun b hb => (HK.out.done b hb).elim (fun h => by rw [h0] at h; cases h) id)
      have HB := Lib.hid HK.out.bel
      clear HK HLG h0 HE
      go_wp2
      go_ret
      exact ⟨true, rfl, HX.out, HB.out⟩
    · have HLT2 := Lib.hid (show left'.length < g1 from by have h1 := hp.length_eq; have h2 := HLG.out; simp only [List.length_cons] at h1; omega)
      have hml : b ∈ l := HK.out.it.sub b (hp.mem_iff.1 (List.mem_cons_self ..))
      have HDN := Lib.hid (fun (e : (f b.1).2 = (g b.1).2) => show ∀ a ∈ l, a ∈ left' ∨ (f a.1).2 = (g a.1).2 from fun a ha => by
        rcases HK.out.done a ha with h1 | h1
        · rcases List.mem_cons.1 (hp.mem_iff.2 h1) with h2 | h2
          · right; rw [h2]; exact e
          · exact Or.inl h2
        · exact Or.inr h1)
      have HB2 := Lib.hid (show Below w.heap.size w w3 from HK.out.bel.trans (ht2.below (fun k _ hk => by rw [hk]; exact Nat.le_refl _) HK.out.bel.size))
      have HIT2 := Lib.hid hit2
      have hbv := HF.out b hml
      have HXW := Lib.hid (HWF.out b hml)
      obtain ⟨y, v⟩ := b
      dsimp only at hbv HXW HDN
      subst hbv
      have HSZ := Lib.hid (kV_size HXW.out)
      have HON := Lib.hid (kV_one y)
      have HVC := Lib.hid (fun (W : World) (hb : Below w.heap.size w W) => valueV_any M' g y W (HG.out.below hb) HXW.out)
      have HNE := Lib.hid (fun (e : ¬ (f y).2 = (g y).2) => show Wn f g Pm.z0 false from ⟨fun h => (by cases h), fun _ => ⟨y, e⟩⟩)
      clear hp hit2 ht2 HLG HK hml HF HE HWF
      dsimp only [kV] at HVC hnx hen
      generalize (y.map fun i => Value.int .i64 i).toArray = A at *
      generalize f y = r at *
      generalize g y = s at *
      obtain ⟨⟨r1, r2⟩, r3, r4, r5⟩ := r
      obtain ⟨⟨s1, s2⟩, s3, s4, s5⟩ := s
      dsimp only [rvA] at hnx hen
      have HZ1 := Lib.hid ((AgAt.new w3 #[.int .i64 0, .int .i64 0, .int .i64 0] 68).kept ((Below.refl _ _).alloc (Nat.le_refl _) (.cells #[.int .i64 0, .int .i64 0, .int .i64 0, .int .i64 0, .string ⟨#[]⟩] 84)))
      have HZ2 := Lib.hid (AgAt.new (w3.alloc (.cells #[.int .i64 0, .int .i64 0, .int .i64 0] 68)) #[.int .i64 0, .int .i64 0, .int .i64 0, .int .i64 0, .string ⟨#[]⟩] 84)
      rw [World.size_alloc] at HZ2
      have HBZ := Lib.hid (show Below w3.heap.size w3 ((w3.alloc (.cells #[.int .i64 0, .int .i64 0, .int .i64 0] 68)).alloc (.cells #[.int .i64 0, .int .i64 0, .int .i64 0, .int .i64 0, .string ⟨#[]⟩] 84)) from ((Below.refl _ _).alloc (Nat.le_refl _) _).alloc (by simp) _)
      go_upto_region 4 with (first | (refine wpList_store_ag pA rfl _ _ rfl _ rfl _ HZ1.out rfl rfl HSZ.out HON.out ?_; intro w4 hv4 hko4 hsz4 hbn4) | (refine wpList_store_ag grV rfl _ _ rfl _ rfl _ (HZ2.out.block (hko4 _ (Nat.succ_ne_self _))) rfl rfl rfl (rv_one ((r1, r2), (r3, r4, r5))) ?_; intro w5 hv5 hko5 hsz5 hbn5))
      have HB5 := Lib.hid (hbn5 _ _ (hbn4 _ _ HBZ.out (Nat.le_refl _)) (Nat.le_succ _))
      have HV4 := Lib.hid (AgAt.block hv4 (hko5 _ (by omega)))
      have HV5 := Lib.hid hv5
      replace HB2 := Lib.hid (HB2.out.trans (HB5.out.mono HB2.out.size))
      replace HIT2 := Lib.hid (HIT2.out.below HB5.out)
      clear hv4 hv5 hko4 hko5 hsz4 hsz5 hbn4 hbn5 hen hnx HZ1 HZ2 HBZ HB5
      by_cases heq : (r3, r4, r5) = (s3, s4, s5)
      · refine wp_region_held_drew (S := fun W => Below w5.heap.size w5 W) (by kernel_rfl) (Below.drew (Below.refl _ _)) (fun hS => ?_)
        refine wpAnyH_take (i := 0) (v := ?_) rfl (by kernel_rfl) (by kernel_rfl) (by kernel_rfl) (fun _ _ _ h => h) (Or.inl ⟨by kernel_rfl, ?_⟩) hS ?_
        rotate_left
        · intro W hSW
          go_simp
          all_goals with_reducible rfl
        go_simp
        refine wpAnyH_take (i := 1) (v := .agg #[.int .i64 r3, .int .i64 r4, .string r5]) rfl (by kernel_rfl) (by kernel_rfl) (by kernel_rfl) (fun _ _ _ h => h) (Or.inl ⟨by kernel_rfl, fun W hSW => exec_load_part vA rfl rfl (HV5.out.kept hSW) [.int .i64 r3, .int .i64 r4, .string r5] (by intro j v hv; match j, hv with | 0, hv => exact hv | 1, hv => exact hv | 2, hv => exact hv) rfl⟩) hS ?_
        refine wpAnyH_take (i := 2) (v := ?_) rfl (by kernel_rfl) (by kernel_rfl) (by kernel_rfl) (fun _ _ _ h => h) (Or.inl ⟨by kernel_rfl, ?_⟩) hS ?_
        rotate_left
        · intro W hSW
          go_simp
          all_goals with_reducible rfl
        go_simp
        refine wpAnyH_take (i := 3) (v := .agg A) rfl (by kernel_rfl) (by kernel_rfl) (by kernel_rfl) (fun _ _ _ h => h) (Or.inl ⟨by kernel_rfl, fun W hSW => exec_load_ag pA rfl rfl HSZ.out (HV4.out.kept hSW)⟩) hS ?_
        go_simp
        refine wpAnyH_ready (rs := [4]) (by kernel_rfl) (by simp) ?_
        refine AllReadyH.cons rfl (fun K hK => ?_) AllReadyH.nil
        go_simp
        go_wp2_with ((go_at_call 37; refine (HVC.out _ (HB2.out.trans (hS.mono HB2.out.size))).mono ?_; rintro e wn ⟨rfl, hbn⟩))
        refine hK.out _ _ (hS.trans (hbn.mono hS.size)) (fun hS => ?_)
        clear hK K hbn
        refine wpAnyH_take (i := 5) (v := .bool (!decide ((r3, r4, r5) = (s3, s4, s5)))) rfl (by kernel_rfl) (by kernel_rfl) (by kernel_rfl) (fun _ _ _ h => h) (Or.inl ⟨by kernel_rfl, fun W hSW => exec_neq_vl rfl (r3, r4, r5) (s3, s4, s5) rfl rfl⟩) hS ?_
        go_simp
        refine wpAnyH_done (by kernel_rfl) ?_ _
        go_simp
        have HN := Lib.hid hS
        clear hS
        try rw [decide_eq_true heq]
        go_wp2
        go_roundg g1
        case rel => exact ⟨_, ⟨HIT2.out.below HN.out, HDN.out heq, HB2.out.trans (HN.out.mono HB2.out.size)⟩, HLT2.out⟩
        case measure => omega
      · refine wp_region_held_drew (S := fun W => Below w5.heap.size w5 W) (by kernel_rfl) (Below.drew (Below.refl _ _)) (fun hS => ?_)
        refine wpAnyH_take (i := 0) (v := ?_) rfl (by kernel_rfl) (by kernel_rfl) (by kernel_rfl) (fun _ _ _ h => h) (Or.inl ⟨by kernel_rfl, ?_⟩) hS ?_
        rotate_left
        · intro W hSW
          go_simp
          all_goals with_reducible rfl
        go_simp
        refine wpAnyH_take (i := 1) (v := .agg #[.int .i64 r3, .int .i64 r4, .string r5]) rfl (by kernel_rfl) (by kernel_rfl) (by kernel_rfl) (fun _ _ _ h => h) (Or.inl ⟨by kernel_rfl, fun W hSW => exec_load_part vA rfl rfl (HV5.out.kept hSW) [.int .i64 r3, .int .i64 r4, .string r5] (by intro j v hv; match j, hv with | 0, hv => exact hv | 1, hv => exact hv | 2, hv => exact hv) rfl⟩) hS ?_
        refine wpAnyH_take (i := 2) (v := ?_) rfl (by kernel_rfl) (by kernel_rfl) (by kernel_rfl) (fun _ _ _ h => h) (Or.inl ⟨by kernel_rfl, ?_⟩) hS ?_
        rotate_left
        · intro W hSW
          go_simp
          all_goals with_reducible rfl
        go_simp
        refine wpAnyH_take (i := 3) (v := .agg A) rfl (by kernel_rfl) (by kernel_rfl) (by kernel_rfl) (fun _ _ _ h => h) (Or.inl ⟨by kernel_rfl, fun W hSW => exec_load_ag pA rfl rfl HSZ.out (HV4.out.kept hSW)⟩) hS ?_
        go_simp
        refine wpAnyH_ready (rs := [4]) (by kernel_rfl) (by simp) ?_
        refine AllReadyH.cons rfl (fun K hK => ?_) AllReadyH.nil
        go_simp
        go_wp2_with ((go_at_call 37; refine (HVC.out _ (HB2.out.trans (hS.mono HB2.out.size))).mono ?_; rintro e wn ⟨rfl, hbn⟩))
        refine hK.out _ _ (hS.trans (hbn.mono hS.size)) (fun hS => ?_)
        clear hK K hbn
        refine wpAnyH_take (i := 5) (v := .bool (!decide ((r3, r4, r5) = (s3, s4, s5)))) rfl (by kernel_rfl) (by kernel_rfl) (by kernel_rfl) (fun _ _ _ h => h) (Or.inl ⟨by kernel_rfl, fun W hSW => exec_neq_vl rfl (r3, r4, r5) (s3, s4, s5) rfl rfl⟩) hS ?_
        go_simp
        refine wpAnyH_done (by kernel_rfl) ?_ _
        go_simp
        have HN := Lib.hid (HB2.out.trans (hS.mono HB2.out.size))
        clear hS
        try rw [decide_eq_false heq]
        go_wp2
        go_ret
        exact ⟨false, rfl, HNE.out heq, HN.out⟩

/-- a walk through one, under way -/
structure WIM (w : World) (r M : Nat) (l : List (Pm.Nm × Value)) (f g : Pm.Rg Bool) (left : List (Pm.Nm × Value)) (wr : World) : Prop where
  it : GIt 2 wr r M l left
  done : ∀ b ∈ l, b ∈ left ∨ (f b.1).2 = (g b.1).2
  bel : Below w.heap.size w wr

set_option maxRecDepth 100000 in
set_option maxHeartbeats 4000000 in
theorem withinM_any (M M' : Nat) (f g : Pm.Rg Bool) (w : World) (h : RM 2 rmA false w M f) (h' : RM 2 rmA false w M' g) :
    Calls Try.prog 60 #[.map (some M), .map (some M')] w fun e w' => ∃ b, e = .returned (.bool b) ∧ Wn f g false b ∧ Below w.heap.size w w' := by
  obtain ⟨l, hl, hf⟩ := h
  have HF := Lib.hid (fun b (hb : b ∈ l) => show b.2 = .agg (rmA (f b.1)) from by
    have h1 := hf b.1
    rw [lk_some hl.nd hb] at h1
    exact h1)
  have HG := Lib.hid h'
  have HWF := Lib.hid hl.wf
  have HE := Lib.hid (fun (hd : ∀ b ∈ l, (f b.1).2 = (g b.1).2) => show Wn f g false true from ⟨fun _ y => by
    cases e : lk l y with
    | none =>
      right
      have h1 := hf y
      rw [e] at h1
      exact (rmA_inj h1).symm
    | some v =>
      left
      exact hd _ (lk_mem e), fun h => by cases h⟩)
  obtain ⟨o, hrg, hit⟩ := hl.range gtM
  have hb1 := (Below.refl w.heap.size w).alloc (Nat.le_refl _) o
  have HK := Lib.hid (show WIM w w.heap.size M l f g l (w.alloc o) from ⟨hit, fun b hb => Or.inl hb, hb1⟩)
  clear hl hf h' hit hb1
  go_enter Try.func60, Try.ntmps60
  go_wp2_with fail
  clear hrg
  generalize w.alloc o = w2 at *
  go_loopg [] (l.length + 1) (fun gk wr => ∃ left, WIM w w.heap.size M l f g left wr ∧ left.length < gk)
  case atStart => exact ⟨_, HK.out, Nat.lt_succ_self _⟩
  case round =>
    clear HK
    obtain ⟨left, hK, hlg⟩ := hrel
    obtain ⟨g1, rfl⟩ : ∃ g1, gk = g1 + 1 := ⟨gk - 1, by omega⟩
    have HK := Lib.hid hK
    have HLG := Lib.hid hlg
    clear hK hlg
    rcases HK.out.it.next 0 with ⟨h0, hnx⟩ | ⟨b, left', w3, hp, hnx, ht2, hit2, hen⟩
    · have HX := Lib.hid (HE.out fun b hb => (HK.out.done b hb).elim (fun h => by rw [h0] at h; cases h) id)
      have HB := Lib.hid HK.out.bel
      clear HK HLG h0 HE
      go_wp2
      go_ret
      exact ⟨true, rfl, HX.out, HB.out⟩
    · have HLT2 := Lib.hid (show left'.length < g1 from by have h1 := hp.length_eq; have h2 := HLG.out; simp only [List.length_cons] at h1; omega)
      have hml : b ∈ l := HK.out.it.sub b (hp.mem_iff.1 (List.mem_cons_self ..))
      have HDN := Lib.hid (fun (e : (f b.1).2 = (g b.1).2) => show ∀ a ∈ l, a ∈ left' ∨ (f a.1).2 = (g a.1).2 from fun a ha => by
        rcases HK.out.done a ha with h1 | h1
        · rcases List.mem_cons.1 (hp.mem_iff.2 h1) with h2 | h2
          · right; rw [h2]; exact e
          · exact Or.inl h2
        · exact Or.inr h1)
      have HB2 := Lib.hid (show Below w.heap.size w w3 from HK.out.bel.trans (ht2.below (fun k _ hk => by rw [hk]; exact Nat.le_refl _) HK.out.bel.size))
      have HIT2 := Lib.hid hit2
      have hbv := HF.out b hml
      have HXW := Lib.hid (HWF.out b hml)
      obtain ⟨y, v⟩ := b
      dsimp only at hbv HXW HDN
      subst hbv
      have HSZ := Lib.hid (kV_size HXW.out)
      have HON := Lib.hid (kV_one y)
      have HVC := Lib.hid (fun (W : World) (hb : Below w.heap.size w W) => valueM_any M' g y W (HG.out.below hb) HXW.out)
      have HNE := Lib.hid (fun (e : ¬ (f y).2 = (g y).2) => show Wn f g false false from ⟨fun h => (by cases h), fun _ => ⟨y, e⟩⟩)
      clear hp hit2 ht2 HLG HK hml HF HE HWF
      dsimp only [kV] at HVC hnx hen
      generalize (y.map fun i => Value.int .i64 i).toArray = A at *
      generalize f y = r at *
      generalize g y = s at *
      obtain ⟨⟨r1, r2⟩, r3⟩ := r
      obtain ⟨⟨s1, s2⟩, s3⟩ := s
      dsimp only [rmA] at hnx hen
      have HZ1 := Lib.hid ((AgAt.new w3 #[.int .i64 0, .int .i64 0] 32).kept ((Below.refl _ _).alloc (Nat.le_refl _) (.cells #[.int .i64 0, .int .i64 0, .bool false] 87)))
      have HZ2 := Lib.hid (AgAt.new (w3.alloc (.cells #[.int .i64 0, .int .i64 0] 32)) #[.int .i64 0, .int .i64 0, .bool false] 87)
      rw [World.size_alloc] at HZ2
      have HBZ := Lib.hid (show Below w3.heap.size w3 ((w3.alloc (.cells #[.int .i64 0, .int .i64 0] 32)).alloc (.cells #[.int .i64 0, .int .i64 0, .bool false] 87)) from ((Below.refl _ _).alloc (Nat.le_refl _) _).alloc (by simp) _)
      go_upto_region 4 with (first | (refine wpList_store_ag stT rfl _ _ rfl _ rfl _ HZ1.out rfl rfl HSZ.out HON.out ?_; intro w4 hv4 hko4 hsz4 hbn4) | (refine wpList_store_ag grM rfl _ _ rfl _ rfl _ (HZ2.out.block (hko4 _ (Nat.succ_ne_self _))) rfl rfl rfl (rm_one ((r1, r2), r3)) ?_; intro w5 hv5 hko5 hsz5 hbn5))
      have HB5 := Lib.hid (hbn5 _ _ (hbn4 _ _ HBZ.out (Nat.le_refl _)) (Nat.le_succ _))
      have HV4 := Lib.hid (AgAt.block hv4 (hko5 _ (by omega)))
      have HV5 := Lib.hid hv5
      replace HB2 := Lib.hid (HB2.out.trans (HB5.out.mono HB2.out.size))
      replace HIT2 := Lib.hid (HIT2.out.below HB5.out)
      clear hv4 hv5 hko4 hko5 hsz4 hsz5 hbn4 hbn5 hen hnx HZ1 HZ2 HBZ HB5
      by_cases heq : r3 = s3
      · subst heq
        refine wp_region_held_drew (S := fun W => Below w5.heap.size w5 W) (by kernel_rfl) (Below.drew (Below.refl _ _)) (fun hS => ?_)
        refine wpAnyH_take (i := 0) (v := ?_) rfl (by kernel_rfl) (by kernel_rfl) (by kernel_rfl) (fun _ _ _ h => h) (Or.inl ⟨by kernel_rfl, ?_⟩) hS ?_
        rotate_left
        · intro W hSW
          go_simp
          all_goals with_reducible rfl
        refine wpAnyH_take (i := 1) (v := ?_) rfl (by kernel_rfl) (by kernel_rfl) (by kernel_rfl) (fun _ _ _ h => h) (Or.inl ⟨by kernel_rfl, ?_⟩) hS ?_
        rotate_left
        · intro W hSW
          have y2 : W.cell? ⟨w3.heap.size + 1, 2, none⟩ = some (.bool r3) := (HV5.out.kept hSW).cell 2
          go_simp
          all_goals with_reducible rfl
        refine wpAnyH_take (i := 2) (v := ?_) rfl (by kernel_rfl) (by kernel_rfl) (by kernel_rfl) (fun _ _ _ h => h) (Or.inl ⟨by kernel_rfl, ?_⟩) hS ?_
        rotate_left
        · intro W hSW
          go_simp
          all_goals with_reducible rfl
        go_simp
        refine wpAnyH_take (i := 3) (v := .agg A) rfl (by kernel_rfl) (by kernel_rfl) (by kernel_rfl) (fun _ _ _ h => h) (Or.inl ⟨by kernel_rfl, fun W hSW => exec_load_ag stT rfl rfl HSZ.out (HV4.out.kept hSW)⟩) hS ?_
        go_simp
        refine wpAnyH_ready (rs := [4]) (by kernel_rfl) (by simp) ?_
        refine AllReadyH.cons rfl (fun K hK => ?_) AllReadyH.nil
        go_simp
        go_wp2_with ((go_at_call 38; refine (HVC.out _ (HB2.out.trans (hS.mono HB2.out.size))).mono ?_; rintro e wn ⟨rfl, hbn⟩))
        refine hK.out _ _ (hS.trans (hbn.mono hS.size)) (fun hS => ?_)
        clear hK K hbn
        refine wpAnyH_take (i := 5) (v := ?_) rfl (by kernel_rfl) (by kernel_rfl) (by kernel_rfl) (fun _ _ _ h => h) (Or.inl ⟨by kernel_rfl, ?_⟩) hS ?_
        rotate_left
        · intro W hSW
          go_simp
          all_goals with_reducible rfl
        go_simp
        refine wpAnyH_done (by kernel_rfl) ?_ _
        go_simp
        have HN := Lib.hid hS
        clear hS
        go_wp2
        go_roundg g1
        case rel => exact ⟨_, ⟨HIT2.out.below HN.out, HDN.out (by first | rfl | trivial), HB2.out.trans (HN.out.mono HB2.out.size)⟩, HLT2.out⟩
        case measure => omega
      · have hne : (r3 == s3) = false := by simpa using heq
        refine wp_region_held_drew (S := fun W => Below w5.heap.size w5 W) (by kernel_rfl) (Below.drew (Below.refl _ _)) (fun hS => ?_)
        refine wpAnyH_take (i := 0) (v := ?_) rfl (by kernel_rfl) (by kernel_rfl) (by kernel_rfl) (fun _ _ _ h => h) (Or.inl ⟨by kernel_rfl, ?_⟩) hS ?_
        rotate_left
        · intro W hSW
          go_simp
          all_goals with_reducible rfl
        refine wpAnyH_take (i := 1) (v := ?_) rfl (by kernel_rfl) (by kernel_rfl) (by kernel_rfl) (fun _ _ _ h => h) (Or.inl ⟨by kernel_rfl, ?_⟩) hS ?_
        rotate_left
        · intro W hSW
          have y2 : W.cell? ⟨w3.heap.size + 1, 2, none⟩ = some (.bool r3) := (HV5.out.kept hSW).cell 2
          go_simp
          all_goals with_reducible rfl
        refine wpAnyH_take (i := 2) (v := ?_) rfl (by kernel_rfl) (by kernel_rfl) (by kernel_rfl) (fun _ _ _ h => h) (Or.inl ⟨by kernel_rfl, ?_⟩) hS ?_
        rotate_left
        · intro W hSW
          go_simp
          all_goals with_reducible rfl
        go_simp
        refine wpAnyH_take (i := 3) (v := .agg A) rfl (by kernel_rfl) (by kernel_rfl) (by kernel_rfl) (fun _ _ _ h => h) (Or.inl ⟨by kernel_rfl, fun W hSW => exec_load_ag stT rfl rfl HSZ.out (HV4.out.kept hSW)⟩) hS ?_
        go_simp
        refine wpAnyH_ready (rs := [4]) (by kernel_rfl) (by simp) ?_
        refine AllReadyH.cons rfl (fun K hK => ?_) AllReadyH.nil
        go_simp
        go_wp2_with ((go_at_call 38; refine (HVC.out _ (HB2.out.trans (hS.mono HB2.out.size))).mono ?_; rintro e wn ⟨rfl, hbn⟩))
        refine hK.out _ _ (hS.trans (hbn.mono hS.size)) (fun hS => ?_)
        clear hK K hbn
        refine wpAnyH_take (i := 5) (v := ?_) rfl (by kernel_rfl) (by kernel_rfl) (by kernel_rfl) (fun _ _ _ h => h) (Or.inl ⟨by kernel_rfl, ?_⟩) hS ?_
        rotate_left
        · intro W hSW
          go_simp
          all_goals with_reducible rfl
        go_simp
        refine wpAnyH_done (by kernel_rfl) ?_ _
        go_simp
        have HN := Lib.hid (HB2.out.trans (hS.mono HB2.out.size))
        clear hS
        go_wp2
        go_ret
        exact ⟨false, rfl, HNE.out heq, HN.out⟩

/-- a walk through one, under way -/
structure WIO (w : World) (r M : Nat) (l : List (Pm.Nm × Value)) (f g : Pm.Rg Pm.Vl) (left : List (Pm.Nm × Value)) (wr : World) : Prop where
  it : GIt 20 wr r M l left
  done : ∀ b ∈ l, b ∈ left ∨ (f b.1).2 = (g b.1).2
  bel : Below w.heap.size w wr

set_option maxRecDepth 100000 in
set_option maxHeartbeats 4000000 in
theorem withinO_any (M M' : Nat) (f g : Pm.Rg Pm.Vl) (w : World) (h : RM 20 rvA Pm.z0 w M f) (h' : RM 20 rvA Pm.z0 w M' g) :
    Calls Try.prog 61 #[.map (some M), .map (some M')] w fun e w' => ∃ b, e = .returned (.bool b) ∧ Wn f g Pm.z0 b ∧ Below w.heap.size w w' := by
  obtain ⟨l, hl, hf⟩ := h
  have HF := Lib.hid (fun b (hb : b ∈ l) => show b.2 = .agg (rvA (f b.1)) from by
    have h1 := hf b.1
    rw [lk_some hl.nd hb] at h1
    exact h1)
  have HG := Lib.hid h'
  have HWF := Lib.hid hl.wf
  have HE := Lib.hid (fun (hd : ∀ b ∈ l, (f b.1).2 = (g b.1).2) => show Wn f g Pm.z0 true from ⟨fun _ y => by
    cases e : lk l y with
    | none =>
      right
      have h1 := hf y
      rw [e] at h1
      exact (rvA_inj h1).symm
    | some v =>
      left
      exact hd _ (lk_mem e), fun h => by cases h⟩)
  obtain ⟨o, hrg, hit⟩ := hl.range gtO
  have hb1 := (Below.refl w.heap.size w).alloc (Nat.le_refl _) o
  have HK := Lib.hid (show WIO w w.heap.size M l f g l (w.alloc o) from ⟨hit, fun b hb => Or.inl hb, hb1⟩)
  clear hl hf h' hit hb1
  go_enter Try.func61, Try.ntmps61
  go_wp2_with fail
  clear hrg
  generalize w.alloc o = w2 at *
  go_loopg [] (l.length + 1) (fun gk wr => ∃ left, WIO w w.heap.size M l f g left wr ∧ left.length < gk)
  case atStart => exact ⟨_, HK.out, Nat.lt_succ_self _⟩
  case round =>
    clear HK
    obtain ⟨left, hK, hlg⟩ := hrel
    obtain ⟨g1, rfl⟩ : ∃ g1, gk = g1 + 1 := ⟨gk - 1, by omega⟩
    have HK := Lib.hid hK
    have HLG := Lib.hid hlg
    clear hK hlg
    rcases HK.out.it.next 0 with ⟨h0, hnx⟩ | ⟨b, left', w3, hp, hnx, ht2, hit2, hen⟩
    · have HX := Lib.hid (HE.out fun b hb => (HK.out.done b hb).elim (fun h => by rw [h0] at h; cases h) id)
      have HB := Lib.hid HK.out.bel
      clear HK HLG h0 HE
      go_wp2
      go_ret
      exact ⟨true, rfl, HX.out, HB.out⟩
    · have HLT2 := Lib.hid (show left'.length < g1 from by have h1 := hp.length_eq; have h2 := HLG.out; simp only [List.length_cons] at h1; omega)
      have hml : b ∈ l := HK.out.it.sub b (hp.mem_iff.1 (List.mem_cons_self ..))
      have HDN := Lib.hid (fun (e : (f b.1).2 = (g b.1).2) => show ∀ a ∈ l, a ∈ left' ∨ (f a.1).2 = (g a.1).2 from fun a ha => by
        rcases HK.out.done a ha with h1 | h1
        · rcases List.mem_cons.1 (hp.mem_iff.2 h1) with h2 | h2
          · right; rw [h2]; exact e
          · exact Or.inl h2
        · exact Or.inr h1)
      have HB2 := Lib.hid (show Below w.heap.size w w3 from HK.out.bel.trans (ht2.below (fun k _ hk => by rw [hk]; exact Nat.le_refl _) HK.out.bel.size))
      have HIT2 := Lib.hid hit2
      have hbv := HF.out b hml
      have HXW := Lib.hid (HWF.out b hml)
      obtain ⟨y, v⟩ := b
      dsimp only at hbv HXW HDN
      subst hbv
      have HSZ := Lib.hid (kV_size HXW.out)
      have HON := Lib.hid (kV_one y)
      have HVC := Lib.hid (fun (W : World) (hb : Below w.heap.size w W) => valueO_any M' g y W (HG.out.below hb) HXW.out)
      have HNE := Lib.hid (fun (e : ¬ (f y).2 = (g y).2) => show Wn f g Pm.z0 false from ⟨fun h => (by cases h), fun _ => ⟨y, e⟩⟩)
      clear hp hit2 ht2 HLG HK hml HF HE HWF
      dsimp only [kV] at HVC hnx hen
      generalize (y.map fun i => Value.int .i64 i).toArray = A at *
      generalize f y = r at *
      generalize g y = s at *
      obtain ⟨⟨r1, r2⟩, r3, r4, r5⟩ := r
      obtain ⟨⟨s1, s2⟩, s3, s4, s5⟩ := s
      dsimp only [rvA] at hnx hen
      have HZ1 := Lib.hid ((AgAt.new w3 #[.int .i64 0, .int .i64 0, .int .i64 0, .int .i64 0, .int .i64 0, .int .i64 0, .int .i64 0, .int .i64 0, .int .i64 0, .int .i64 0, .int .i64 0, .int .i64 0, .int .i64 0, .int .i64 0, .int .i64 0, .int .i64 0, .int .i64 0, .int .i64 0, .int .i64 0, .int .i64 0] 73).kept ((Below.refl _ _).alloc (Nat.le_refl _) (.cells #[.int .i64 0, .int .i64 0, .int .i64 0, .int .i64 0, .string ⟨#[]⟩] 84)))
      have HZ2 := Lib.hid (AgAt.new (w3.alloc (.cells #[.int .i64 0, .int .i64 0, .int .i64 0, .int .i64 0, .int .i64 0, .int .i64 0, .int .i64 0, .int .i64 0, .int .i64 0, .int .i64 0, .int .i64 0, .int .i64 0, .int .i64 0, .int .i64 0, .int .i64 0, .int .i64 0, .int .i64 0, .int .i64 0, .int .i64 0, .int .i64 0] 73)) #[.int .i64 0, .int .i64 0, .int .i64 0, .int .i64 0, .string ⟨#[]⟩] 84)
      rw [World.size_alloc] at HZ2
      have HBZ := Lib.hid (show Below w3.heap.size w3 ((w3.alloc (.cells #[.int .i64 0, .int .i64 0, .int .i64 0, .int .i64 0, .int .i64 0, .int .i64 0, .int .i64 0, .int .i64 0, .int .i64 0, .int .i64 0, .int .i64 0, .int .i64 0, .int .i64 0, .int .i64 0, .int .i64 0, .int .i64 0, .int .i64 0, .int .i64 0, .int .i64 0, .int .i64 0] 73)).alloc (.cells #[.int .i64 0, .int .i64 0, .int .i64 0, .int .i64 0, .string ⟨#[]⟩] 84)) from ((Below.refl _ _).alloc (Nat.le_refl _) _).alloc (by simp) _)
      go_upto_region 4 with (first | (refine wpList_store_ag oA rfl _ _ rfl _ rfl _ HZ1.out rfl rfl HSZ.out HON.out ?_; intro w4 hv4 hko4 hsz4 hbn4) | (refine wpList_store_ag grV rfl _ _ rfl _ rfl _ (HZ2.out.block (hko4 _ (Nat.succ_ne_self _))) rfl rfl rfl (rv_one ((r1, r2), (r3, r4, r5))) ?_; intro w5 hv5 hko5 hsz5 hbn5))
      have HB5 := Lib.hid (hbn5 _ _ (hbn4 _ _ HBZ.out (Nat.le_refl _)) (Nat.le_succ _))
      have HV4 := Lib.hid (AgAt.block hv4 (hko5 _ (by omega)))
      have HV5 := Lib.hid hv5
      replace HB2 := Lib.hid (HB2.out.trans (HB5.out.mono HB2.out.size))
      replace HIT2 := Lib.hid (HIT2.out.below HB5.out)
      clear hv4 hv5 hko4 hko5 hsz4 hsz5 hbn4 hbn5 hen hnx HZ1 HZ2 HBZ HB5
      by_cases heq : (r3, r4, r5) = (s3, s4, s5)
      · refine wp_region_held_drew (S := fun W => Below w5.heap.size w5 W) (by kernel_rfl) (Below.drew (Below.refl _ _)) (fun hS => ?_)
        refine wpAnyH_take (i := 0) (v := ?_) rfl (by kernel_rfl) (by kernel_rfl) (by kernel_rfl) (fun _ _ _ h => h) (Or.inl ⟨by kernel_rfl, ?_⟩) hS ?_
        rotate_left
        · intro W hSW
          go_simp
          all_goals with_reducible rfl
        go_simp
        refine wpAnyH_take (i := 1) (v := .agg #[.int .i64 r3, .int .i64 r4, .string r5]) rfl (by kernel_rfl) (by kernel_rfl) (by kernel_rfl) (fun _ _ _ h => h) (Or.inl ⟨by kernel_rfl, fun W hSW => exec_load_part vA rfl rfl (HV5.out.kept hSW) [.int .i64 r3, .int .i64 r4, .string r5] (by intro j v hv; match j, hv with | 0, hv => exact hv | 1, hv => exact hv | 2, hv => exact hv) rfl⟩) hS ?_
        refine wpAnyH_take (i := 2) (v := ?_) rfl (by kernel_rfl) (by kernel_rfl) (by kernel_rfl) (fun _ _ _ h => h) (Or.inl ⟨by kernel_rfl, ?_⟩) hS ?_
        rotate_left
        · intro W hSW
          go_simp
          all_goals with_reducible rfl
        go_simp
        refine wpAnyH_take (i := 3) (v := .agg A) rfl (by kernel_rfl) (by kernel_rfl) (by kernel_rfl) (fun _ _ _ h => h) (Or.inl ⟨by kernel_rfl, fun W hSW => exec_load_ag oA rfl rfl HSZ.out (HV4.out.kept hSW)⟩) hS ?_
        go_simp
        refine wpAnyH_ready (rs := [4]) (by kernel_rfl) (by simp) ?_
        refine AllReadyH.cons rfl (fun K hK => ?_) AllReadyH.nil
        go_simp
        go_wp2_with ((go_at_call 35; refine (HVC.out _ (HB2.out.trans (hS.mono HB2.out.size))).mono ?_; rintro e wn ⟨rfl, hbn⟩))
        refine hK.out _ _ (hS.trans (hbn.mono hS.size)) (fun hS => ?_)
        clear hK K hbn
        refine wpAnyH_take (i := 5) (v := .bool (!decide ((r3, r4, r5) = (s3, s4, s5)))) rfl (by kernel_rfl) (by kernel_rfl) (by kernel_rfl) (fun _ _ _ h => h) (Or.inl ⟨by kernel_rfl, fun W hSW => exec_neq_vl rfl (r3, r4, r5) (s3, s4, s5) rfl rfl⟩) hS ?_
        go_simp
        refine wpAnyH_done (by kernel_rfl) ?_ _
        go_simp
        have HN := Lib.hid hS
        clear hS
        try rw [decide_eq_true heq]
        go_wp2
        go_roundg g1
        case rel => exact ⟨_, ⟨HIT2.out.below HN.out, HDN.out heq, HB2.out.trans (HN.out.mono HB2.out.size)⟩, HLT2.out⟩
        case measure => omega
      · refine wp_region_held_drew (S := fun W => Below w5.heap.size w5 W) (by kernel_rfl) (Below.drew (Below.refl _ _)) (fun hS => ?_)
        refine wpAnyH_take (i := 0) (v := ?_) rfl (by kernel_rfl) (by kernel_rfl) (by kernel_rfl) (fun _ _ _ h => h) (Or.inl ⟨by kernel_rfl, ?_⟩) hS ?_
        rotate_left
        · intro W hSW
          go_simp
          all_goals with_reducible rfl
        go_simp
        refine wpAnyH_take (i := 1) (v := .agg #[.int .i64 r3, .int .i64 r4, .string r5]) rfl (by kernel_rfl) (by kernel_rfl) (by kernel_rfl) (fun _ _ _ h => h) (Or.inl ⟨by kernel_rfl, fun W hSW => exec_load_part vA rfl rfl (HV5.out.kept hSW) [.int .i64 r3, .int .i64 r4, .string r5] (by intro j v hv; match j, hv with | 0, hv => exact hv | 1, hv => exact hv | 2, hv => exact hv) rfl⟩) hS ?_
        refine wpAnyH_take (i := 2) (v := ?_) rfl (by kernel_rfl) (by kernel_rfl) (by kernel_rfl) (fun _ _ _ h => h) (Or.inl ⟨by kernel_rfl, ?_⟩) hS ?_
        rotate_left
        · intro W hSW
          go_simp
          all_goals with_reducible rfl
        go_simp
        refine wpAnyH_take (i := 3) (v := .agg A) rfl (by kernel_rfl) (by kernel_rfl) (by kernel_rfl) (fun _ _ _ h => h) (Or.inl ⟨by kernel_rfl, fun W hSW => exec_load_ag oA rfl rfl HSZ.out (HV4.out.kept hSW)⟩) hS ?_
        go_simp
        refine wpAnyH_ready (rs := [4]) (by kernel_rfl) (by simp) ?_
        refine AllReadyH.cons rfl (fun K hK => ?_) AllReadyH.nil
        go_simp
        go_wp2_with ((go_at_call 35; refine (HVC.out _ (HB2.out.trans (hS.mono HB2.out.size))).mono ?_; rintro e wn ⟨rfl, hbn⟩))
        refine hK.out _ _ (hS.trans (hbn.mono hS.size)) (fun hS => ?_)
        clear hK K hbn
        refine wpAnyH_take (i := 5) (v := .bool (!decide ((r3, r4, r5) = (s3, s4, s5)))) rfl (by kernel_rfl) (by kernel_rfl) (by kernel_rfl) (fun _ _ _ h => h) (Or.inl ⟨by kernel_rfl, fun W hSW => exec_neq_vl rfl (r3, r4, r5) (s3, s4, s5) rfl rfl⟩) hS ?_
        go_simp
        refine wpAnyH_done (by kernel_rfl) ?_ _
        go_simp
        have HN := Lib.hid (HB2.out.trans (hS.mono HB2.out.size))
        clear hS
        try rw [decide_eq_false heq]
        go_wp2
        go_ret
        exact ⟨false, rfl, HNE.out heq, HN.out⟩

set_option maxRecDepth 100000 in
set_option maxHeartbeats 4000000 in
theorem sameV_any (M M' : Nat) (f g : Pm.Rg Pm.Vl) (w : World) (h : RM 3 rvA Pm.z0 w M f) (h' : RM 3 rvA Pm.z0 w M' g) :
    Calls Try.prog 39 #[.map (some M), .map (some M')] w fun e w' => ∃ b, e = .returned (.bool b) ∧ (b = true ↔ ∀ y, (f y).2 = (g y).2) ∧ Below w.heap.size w w' := by
  have H := Lib.hid h
  have H' := Lib.hid h'
  clear h h'
  go_enter Try.func39, Try.ntmps39
  go_wp2_with fail
  refine (withinV_any M M' f g w H.out H'.out).mono ?_
  rintro e w1 ⟨a, rfl, ha, hb⟩
  have HA := Lib.hid ha
  have HB := Lib.hid hb
  clear ha hb
  cases a
  · have HX := Lib.hid (show (false = true ↔ ∀ y, (f y).2 = (g y).2) from ⟨fun h => (by cases h), fun e => by obtain ⟨y, hy⟩ := HA.out.2 rfl; exact absurd (e y) hy⟩)
    go_wp2
    go_ret
    exact ⟨false, rfl, HX.out, HB.out⟩
  · go_wp2_with fail
    refine (withinV_any M' M g f w1 (H'.out.below HB.out) (H.out.below HB.out)).mono ?_
    rintro e w2 ⟨b, rfl, hb1, hb2⟩
    have HX := Lib.hid (HA.out.both hb1)
    have HBB := Lib.hid (HB.out.trans (hb2.mono HB.out.size))
    clear hb1 hb2
    go_wp2
    go_ret
    exact ⟨b, rfl, HX.out, HBB.out⟩

set_option maxRecDepth 100000 in
set_option maxHeartbeats 4000000 in
theorem sameM_any (M M' : Nat) (f g : Pm.Rg Bool) (w : World) (h : RM 2 rmA false w M f) (h' : RM 2 rmA false w M' g) :
    Calls Try.prog 40 #[.map (some M), .map (some M')] w fun e w' => ∃ b, e = .returned (.bool b) ∧ (b = true ↔ ∀ y, (f y).2 = (g y).2) ∧ Below w.heap.size w w' := by
  have H := Lib.hid h
  have H' := Lib.hid h'
  clear h h'
  go_enter Try.func40, Try.ntmps40
  go_wp2_with fail
  refine (withinM_any M M' f g w H.out H'.out).mono ?_
  rintro e w1 ⟨a, rfl, ha, hb⟩
  have HA := Lib.hid ha
  have HB := Lib.hid hb
  clear ha hb
  cases a
  · have HX := Lib.hid (show (false = true ↔ ∀ y, (f y).2 = (g y).2) from ⟨fun h => (by cases h), fun e => by obtain ⟨y, hy⟩ := HA.out.2 rfl; exact absurd (e y) hy⟩)
    go_wp2
    go_ret
    exact ⟨false, rfl, HX.out, HB.out⟩
  · go_wp2_with fail
    refine (withinM_any M' M g f w1 (H'.out.below HB.out) (H.out.below HB.out)).mono ?_
    rintro e w2 ⟨b, rfl, hb1, hb2⟩
    have HX := Lib.hid (HA.out.both hb1)
    have HBB := Lib.hid (HB.out.trans (hb2.mono HB.out.size))
    clear hb1 hb2
    go_wp2
    go_ret
    exact ⟨b, rfl, HX.out, HBB.out⟩

set_option maxRecDepth 100000 in
set_option maxHeartbeats 4000000 in
theorem sameO_any (M M' : Nat) (f g : Pm.Rg Pm.Vl) (w : World) (h : RM 20 rvA Pm.z0 w M f) (h' : RM 20 rvA Pm.z0 w M' g) :
    Calls Try.prog 41 #[.map (some M), .map (some M')] w fun e w' => ∃ b, e = .returned (.bool b) ∧ (b = true ↔ ∀ y, (f y).2 = (g y).2) ∧ Below w.heap.size w w' := by
  have H := Lib.hid h
  have H' := Lib.hid h'
  clear h h'
  go_enter Try.func41, Try.ntmps41
  go_wp2_with fail
  refine (withinO_any M M' f g w H.out H'.out).mono ?_
  rintro e w1 ⟨a, rfl, ha, hb⟩
  have HA := Lib.hid ha
  have HB := Lib.hid hb
  clear ha hb
  cases a
  · have HX := Lib.hid (show (false = true ↔ ∀ y, (f y).2 = (g y).2) from ⟨fun h => (by cases h), fun e => by obtain ⟨y, hy⟩ := HA.out.2 rfl; exact absurd (e y) hy⟩)
    go_wp2
    go_ret
    exact ⟨false, rfl, HX.out, HB.out⟩
  · go_wp2_with fail
    refine (withinO_any M' M g f w1 (H'.out.below HB.out) (H.out.below HB.out)).mono ?_
    rintro e w2 ⟨b, rfl, hb1, hb2⟩
    have HX := Lib.hid (HA.out.both hb1)
    have HBB := Lib.hid (HB.out.trans (hb2.mono HB.out.size))
    clear hb1 hb2
    go_wp2
    go_ret
    exact ⟨b, rfl, HX.out, HBB.out⟩

set_option maxRecDepth 100000 in
set_option maxHeartbeats 2000000 in
theorem cloneV_any (M : Nat) (f : Pm.Rg Pm.Vl) (w : World) (h : RM 3 rvA Pm.z0 w M f) :
    Calls Try.prog 42 #[.map (some M)] w fun e w' => ∃ M', e = .returned (.map (some M')) ∧ w.heap.size ≤ M' ∧ RM 3 rvA Pm.z0 w' M' f ∧ Below w.heap.size w w' := by
  obtain ⟨l, ⟨es, clock, hb, h1⟩, hf⟩ := h
  have hq := fun w => run_eql_map_nil_sl (P := Try.prog) w 54 _ _ (some M) Try.underlying54
  go_enter Try.func42, Try.ntmps42
  go_wp2
  rw [run_callFunc_extern Try.func62 (by kernel_rfl) (by kernel_rfl) (by kernel_rfl) (e := Extern.MapsClone.clone) (by kernel_rfl), run_maps_clone_sl w 54 hb]
  simp only [Result.andThen]
  rw [Oper.upon_value]
  go_wp2
  rw [run_typeAssert_map_sl _ 54 20 _ _ _ Try.underlying54]
  simp only [Result.andThen]
  rw [Oper.upon_value]
  go_wp2
  go_ret
  exact ⟨_, rfl, Nat.le_refl _, ⟨l, ⟨es, clock, heap_alloc_new w _, h1⟩, hf⟩, (Below.refl _ _).alloc (Nat.le_refl _) _⟩

set_option maxRecDepth 100000 in
set_option maxHeartbeats 2000000 in
theorem cloneM_any (M : Nat) (f : Pm.Rg Bool) (w : World) (h : RM 2 rmA false w M f) :
    Calls Try.prog 43 #[.map (some M)] w fun e w' => ∃ M', e = .returned (.map (some M')) ∧ w.heap.size ≤ M' ∧ RM 2 rmA false w' M' f ∧ Below w.heap.size w w' := by
  obtain ⟨l, ⟨es, clock, hb, h1⟩, hf⟩ := h
  have hq := fun w => run_eql_map_nil_sl (P := Try.prog) w 56 _ _ (some M) Try.underlying56
  go_enter Try.func43, Try.ntmps43
  go_wp2
  rw [run_callFunc_extern Try.func62 (by kernel_rfl) (by kernel_rfl) (by kernel_rfl) (e := Extern.MapsClone.clone) (by kernel_rfl), run_maps_clone_sl w 56 hb]
  simp only [Result.andThen]
  rw [Oper.upon_value]
  go_wp2
  rw [run_typeAssert_map_sl _ 56 20 _ _ _ Try.underlying56]
  simp only [Result.andThen]
  rw [Oper.upon_value]
  go_wp2
  go_ret
  exact ⟨_, rfl, Nat.le_refl _, ⟨l, ⟨es, clock, heap_alloc_new w _, h1⟩, hf⟩, (Below.refl _ _).alloc (Nat.le_refl _) _⟩

set_option maxRecDepth 100000 in
set_option maxHeartbeats 2000000 in
theorem cloneO_any (M : Nat) (f : Pm.Rg Pm.Vl) (w : World) (h : RM 20 rvA Pm.z0 w M f) :
    Calls Try.prog 44 #[.map (some M)] w fun e w' => ∃ M', e = .returned (.map (some M')) ∧ w.heap.size ≤ M' ∧ RM 20 rvA Pm.z0 w' M' f ∧ Below w.heap.size w w' := by
  obtain ⟨l, ⟨es, clock, hb, h1⟩, hf⟩ := h
  have hq := fun w => run_eql_map_nil_sl (P := Try.prog) w 58 _ _ (some M) Try.underlying58
  go_enter Try.func44, Try.ntmps44
  go_wp2
  rw [run_callFunc_extern Try.func62 (by kernel_rfl) (by kernel_rfl) (by kernel_rfl) (e := Extern.MapsClone.clone) (by kernel_rfl), run_maps_clone_sl w 58 hb]
  simp only [Result.andThen]
  rw [Oper.upon_value]
  go_wp2
  rw [run_typeAssert_map_sl _ 58 20 _ _ _ Try.underlying58]
  simp only [Result.andThen]
  rw [Oper.upon_value]
  go_wp2
  go_ret
  exact ⟨_, rfl, Nat.le_refl _, ⟨l, ⟨es, clock, heap_alloc_new w _, h1⟩, hf⟩, (Below.refl _ _).alloc (Nat.le_refl _) _⟩
end Go.Proofs.Ytcenmkcencdlcaa
