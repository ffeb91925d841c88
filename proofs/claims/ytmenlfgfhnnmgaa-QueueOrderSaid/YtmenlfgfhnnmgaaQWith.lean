/-
  The document's With: a stamp more in a rising row, once.
  No conditions but sizes.
-/
import Derived.Test.YtmenlfgfhnnmgaaQSearch
import Derived.Test.YtmenlfgfhnnmgaaQPush
namespace Go.Proofs.Ytmenlfgfhnnmgaa
open Go.RowKit

theorem rd_st_one (w : World) (x : Qm.St) (E : TypeId) : Rd (w.alloc (.cells #[.int .i64 x.1, .int .i64 x.2] E)) (some ⟨w.heap.size, 0, none⟩) (stCells [x]) := fun _ => ⟨_, 0, rfl, fun i u hu => by
  rw [Nat.zero_add, World.cell?_alloc_at _ _ _ _ rfl]
  rw [← hu]
  simp [stCells]⟩
theorem rd_drop_any {w : World} {b o : Nat} {sp : Option Nat} {l : List Qm.St} (h : Rd w (some ⟨b, o, sp⟩) (stCells l)) (n : Nat) : Rd w (some ⟨b, o + n * 2, sp⟩) (stCells (l.drop n)) := by
  intro h0
  obtain ⟨b', o', e, -⟩ := h.addr (by rw [stCells_length] at h0 ⊢; simp at h0; omega)
  cases e
  rw [← stCells_drop] at h0 ⊢
  exact h.drop (n * 2) h0

theorem rd_nil_drop (w : World) (p : Option Addr) (l : List Qm.St) : Rd w p (stCells (l.drop l.length)) := by rw [List.drop_length]; exact Rd.nil _ _

/-- the first append, to an empty row -/
theorem step_append_k0 {P : Program} {w : World} {ops : Array Oper} {o : Oper} {a : Act} {K : Act → World → Prop} {Q : Exit → Act → World → Prop} {E : Prop} (hgd : o.guard = none) (s x : Operand) (t : TypeId)
    (ho : o.op = .call { callee := .builtin .append, args := #[s, x], argTypes := #[t, t] })
    (base : Nat) (e : TypeId) (i : TypeInfo) (z : Value) (k bytes : Nat) (ht : P.underlying t = some (.slice e)) (hi : P.info? e = some i) (hz : i.zero = some z)
    (hsize : i.size = k) (hk0 : 0 < k) (hby : i.bytes = bytes) (hb1 : bytes ≤ 1000) (hzs : z.cells.size = k)
    (v : Value) (hs : a.eval s = v) (hown : w.ownsRow base e k v 0 [])
    (p : Option Addr) (m c : Nat) (us : List Value) (hx : a.eval x = .slice p m c) (hus : us.length = m * k) (hrd : Rd w p us) (hpn : p = none → c = 0) (h1 : ∀ u ∈ us, u.oneCell' = true)
    (hsz : m ≤ 10000) (hbase : base ≤ w.heap.size)
    (h : ∀ p' c' w', w'.ownsRow base e k (.slice p' m c') m us → w.grownBy w' v.ownBlock → (∀ g, (Value.slice p' m c').ownBlock = some g → v.ownBlock = some g ∨ w.heap.size ≤ g) → K (a.put o.dst (.slice p' m c')) w') :
    if Region.wanted o (yielded ops a.tmps) = true then Oper.wp P o a w K Q else E :=
  step_append_k hgd s x t ho base e i z k bytes ht hi hz hsize hk0 hby hb1 hzs v 0 [] hs hown p m c us hx hus hrd hpn h1 (by omega) hbase (fun p' c' w' => by rw [Nat.zero_add, List.nil_append]; exact h p' c' w')

/-- what With leaves -/
def Withed (l : List Qm.St) (s : Qm.St) (w : World) (e : Ending) (w' : World) : Prop :=
  ∃ p c M, e = .returned (.slice p M.length c) ∧ Rd w' p (stCells M) ∧ (p = none → c = 0) ∧ Qm.Rising M ∧ (∀ x, x ∈ M ↔ x ∈ l ∨ x = s) ∧ M.length ≤ c ∧ Below w.heap.size w w'
theorem withed_new {l : List Qm.St} {s : Qm.St} {n B : Nat} {w w' : World} {p : Option Addr} {c : Nat} (hr : Qm.Rising l) (hn : n ≤ l.length) (hb : ∀ i, i < n → Qm.ltS (Qm.stOf l i) s) (ha : n < l.length → ¬ Qm.ltS (Qm.stOf l n) s) (hne : ¬ (n < l.length ∧ Qm.stOf l n = s))
    (ho : w'.ownsRow B 34 2 (.slice p (n + 1 + (l.length - n)) c) (n + 1 + (l.length - n)) (stCells (l.take n) ++ stCells [s] ++ stCells (l.drop n))) (hbel : Below w.heap.size w w') :
    Withed l s w (.returned (.slice p (n + 1 + (l.length - n)) c)) w' := by
  have hM : Qm.withS l s n = l.take n ++ [s] ++ l.drop n := if_neg hne
  obtain ⟨h1, h2⟩ := Qm.with_rising hr hn hb ha
  have hlen : (Qm.withS l s n).length = n + 1 + (l.length - n) := by
    rw [hM]; simp only [List.length_append, List.length_take, List.length_singleton, List.length_drop]; omega
  obtain ⟨p', c', e, hrd, hnc, -, hpn, -⟩ := own_rd ho
  cases e
  refine ⟨p, c, Qm.withS l s n, by rw [hlen], ?_, hpn, h1, h2, by rw [hlen]; exact hnc, hbel⟩
  rw [hM, stCells_append, stCells_append]
  exact hrd

set_option maxRecDepth 100000 in
set_option maxHeartbeats 8000000 in
theorem with_any (p : Option Addr) (cap : Nat) (l : List Qm.St) (st sr : Int) (w : World) (h : Rd w p (stCells l)) (hpn : p = none → cap = 0) (hlc : l.length ≤ cap) (hr : Qm.Rising l) (hl : l.length ≤ 2000) :
    Calls Try.prog 40 #[.slice p l.length cap, .agg #[.int .i64 st, .int .i64 sr]] w (Withed l (st, sr) w) := by
  obtain ⟨i0, hi, hz0, hz1, hz2⟩ := info_parts info_st
  have HB0 := Lib.hid ((Below.refl w.heap.size w).alloc (Nat.le_refl _) (.cells #[.int .i64 st, .int .i64 sr] 34))
  have HR := Lib.hid h
  have HRI := Lib.hid hr
  have HPP := Lib.hid hpn
  clear h hr hpn
  go_enter Try.func40, Try.ntmps40
  go_wp2
  go_loopw [5] (fun x wr => ∃ n : Nat, n ≤ l.length ∧ x = .int .i64 (n : Int) ∧ (∀ i, i < n → Qm.ltS (Qm.stOf l i) (st, sr)) ∧ Below (w.heap.size + 1) (w.alloc (.cells #[.int .i64 st, .int .i64 sr] 34)) wr) (fun x _ => l.length - (intOf x).toNat)
  case atStart => exact ⟨0, Nat.zero_le _, rfl, fun i h => by omega, Below.refl _ _⟩
  case round =>
    obtain ⟨n, hn, rfl, hall, hb⟩ := hrel
    have HA := Lib.hid hall
    have HB := Lib.hid hb
    have s0 := hb.cell (p := ⟨w.heap.size, 0, none⟩) (by simp)
    have s1 := hb.cell (p := ⟨w.heap.size, 1, none⟩) (by simp)
    rw [World.cell?_alloc_at _ _ _ _ rfl] at s0 s1
    have s0 : wr.cell? ⟨w.heap.size, 0, none⟩ = some (.int .i64 st) := s0
    have s1 : wr.cell? ⟨w.heap.size, 1, none⟩ = some (.int .i64 sr) := s1
    have hbw : Below w.heap.size w wr := HB0.out.trans (hb.mono (by omega))
    have hrd := HR.out.below hbw
    have HBW := Lib.hid hbw
    have hn5 : n ≤ 5000 := by omega
    clear hall hb hbw
    by_cases hlt : n < l.length
    · obtain ⟨b, o, rfl, -⟩ := hrd.addr (by rw [stCells_length]; omega)
      obtain ⟨x0, x1⟩ := hrd.st n hlt
      have HC := Lib.hid (fun W => refCompare_any (Qm.stOf l n).1 (Qm.stOf l n).2 st sr W)
      clear hrd
      by_cases hs : Qm.ltS (Qm.stOf l n) (st, sr)
      · have hv : cmpS (Qm.stOf l n).1 (Qm.stOf l n).2 st sr = -1 := cmpV_lt hs
        have HS := Lib.hid hs
        rw [hv] at HC
        clear hv hs
        go_wp2
        refine wp_region_held_drew (S := Bel wr) (by kernel_rfl) (Bel.start wr) (fun hS => ?_)
        refine wpAnyH_take (i := 0) (v := ?_) rfl (by kernel_rfl) (by kernel_rfl) (by kernel_rfl) (fun _ _ _ h => h) (Or.inl ⟨by kernel_rfl, ?_⟩) hS ?_
        rotate_left
        · intro W hSW
          go_simp
          all_goals with_reducible rfl
        refine wpAnyH_take (i := 1) (v := ?_) rfl (by kernel_rfl) (by kernel_rfl) (by kernel_rfl) (fun _ _ _ h => h) (Or.inl ⟨by kernel_rfl, ?_⟩) hS ?_
        rotate_left
        · intro W hSW
          go_simp
          all_goals with_reducible rfl
        refine wpAnyH_take (i := 2) (v := ?_) rfl (by kernel_rfl) (by kernel_rfl) (by kernel_rfl) (fun _ _ _ h => h) (Or.inl ⟨by kernel_rfl, ?_⟩) hS ?_
        rotate_left
        · intro W hSW
          go_simp
          all_goals with_reducible rfl
        refine wpAnyH_take (i := 3) (v := ?_) rfl (by kernel_rfl) (by kernel_rfl) (by kernel_rfl) (fun _ _ _ h => h) (Or.inl ⟨by kernel_rfl, ?_⟩) hS ?_
        rotate_left
        · intro W hSW
          go_simp
          all_goals with_reducible rfl
        refine wpAnyH_take (i := 4) (v := ?_) rfl (by kernel_rfl) (by kernel_rfl) (by kernel_rfl) (fun _ _ _ h => h) (Or.inl ⟨by kernel_rfl, ?_⟩) hS ?_
        rotate_left
        · intro W hSW
          go_simp
          all_goals with_reducible rfl
        refine wpAnyH_take (i := 5) (v := ?_) rfl (by kernel_rfl) (by kernel_rfl) (by kernel_rfl) (fun _ _ _ h => h) (Or.inl ⟨by kernel_rfl, ?_⟩) hS ?_
        rotate_left
        · intro W hSW
          go_simp
          all_goals with_reducible rfl
        refine wpAnyH_take (i := 6) (v := ?_) rfl (by kernel_rfl) (by kernel_rfl) (by kernel_rfl) (fun _ _ _ h => h) (Or.inl ⟨by kernel_rfl, ?_⟩) hS ?_
        rotate_left
        · intro W hSW
          go_simp
          all_goals with_reducible rfl
        refine wpAnyH_take (i := 7) (v := ?_) rfl (by kernel_rfl) (by kernel_rfl) (by kernel_rfl) (fun _ _ _ h => h) (Or.inl ⟨by kernel_rfl, ?_⟩) hS ?_
        rotate_left
        · intro W hSW
          go_simp
          all_goals with_reducible rfl
        refine wpAnyH_take (i := 8) (v := ?_) rfl (by kernel_rfl) (by kernel_rfl) (by kernel_rfl) (fun _ _ _ h => h) (Or.inl ⟨by kernel_rfl, ?_⟩) hS ?_
        rotate_left
        · intro W hSW
          have x0' := hSW.get x0
          have x1' := hSW.get x1
          go_simp
          all_goals with_reducible rfl
        refine wpAnyH_take (i := 9) (v := ?_) rfl (by kernel_rfl) (by kernel_rfl) (by kernel_rfl) (fun _ _ _ h => h) (Or.inl ⟨by kernel_rfl, ?_⟩) hS ?_
        rotate_left
        · intro W hSW
          have s0' := hSW.get s0
          have s1' := hSW.get s1
          go_simp
          all_goals with_reducible rfl
        refine wpAnyH_ready (rs := [10]) (by kernel_rfl) (by simp) ?_
        refine AllReadyH.cons rfl (fun K hK => ?_) AllReadyH.nil
        go_simp
        go_wp2_with ((go_at_call 42; refine (HC.out _).mono ?_; rintro e wn ⟨rfl, hbn⟩))
        refine hK.out _ _ (hS.trans hbn) (fun hS => ?_)
        clear hK K
        refine wpAnyH_take (i := 11) (v := ?_) rfl (by kernel_rfl) (by kernel_rfl) (by kernel_rfl) (fun _ _ _ h => h) (Or.inl ⟨by kernel_rfl, ?_⟩) hS ?_
        rotate_left
        · intro W hSW
          go_simp
          all_goals with_reducible rfl
        refine wpAnyH_take (i := 12) (v := ?_) rfl (by kernel_rfl) (by kernel_rfl) (by kernel_rfl) (fun _ _ _ h => h) (Or.inl ⟨by kernel_rfl, ?_⟩) hS ?_
        rotate_left
        · intro W hSW
          go_simp
          all_goals with_reducible rfl
        refine wpAnyH_done (by kernel_rfl) ?_ _
        have HB2 := Lib.hid (HB.out.trans (Below.mono hS (by have := HB.out.size; simp only [World.size_alloc] at this; omega)))
        clear hS hbn
        go_simp
        go_wp2
        go_roundw
        case rel => exact ⟨n + 1, by omega, by go_num, fun i hi => by
          by_cases e : i = n
          · subst e; exact HS.out
          · exact HA.out i (by omega), HB2.out⟩
        case measure => simp [intOf]; omega
      · have HNL := Lib.hid (show n < l.length → ¬ Qm.ltS (Qm.stOf l n) (st, sr) from fun _ => hs)
        obtain ⟨v, hv, dv⟩ : ∃ v, cmpS (Qm.stOf l n).1 (Qm.stOf l n).2 st sr = v ∧ decide (v < 0) = false := ⟨_, rfl, by
          refine decide_eq_false fun hc => ?_
          rcases Qm.ltS_tri (Qm.stOf l n) (st, sr) with h | h | h
          · exact hs h
          · have e : cmpS (Qm.stOf l n).1 (Qm.stOf l n).2 st sr = 0 := by rw [h]; exact cmpV_eq (st, sr)
            omega
          · have e : cmpS (Qm.stOf l n).1 (Qm.stOf l n).2 st sr = 1 := cmpV_gt h
            omega⟩
        rw [hv] at HC
        clear hs hv
        go_wp2
        refine wp_region_held_drew (S := Bel wr) (by kernel_rfl) (Bel.start wr) (fun hS => ?_)
        refine wpAnyH_take (i := 0) (v := ?_) rfl (by kernel_rfl) (by kernel_rfl) (by kernel_rfl) (fun _ _ _ h => h) (Or.inl ⟨by kernel_rfl, ?_⟩) hS ?_
        rotate_left
        · intro W hSW
          go_simp
          all_goals with_reducible rfl
        refine wpAnyH_take (i := 1) (v := ?_) rfl (by kernel_rfl) (by kernel_rfl) (by kernel_rfl) (fun _ _ _ h => h) (Or.inl ⟨by kernel_rfl, ?_⟩) hS ?_
        rotate_left
        · intro W hSW
          go_simp
          all_goals with_reducible rfl
        refine wpAnyH_take (i := 2) (v := ?_) rfl (by kernel_rfl) (by kernel_rfl) (by kernel_rfl) (fun _ _ _ h => h) (Or.inl ⟨by kernel_rfl, ?_⟩) hS ?_
        rotate_left
        · intro W hSW
          go_simp
          all_goals with_reducible rfl
        refine wpAnyH_take (i := 3) (v := ?_) rfl (by kernel_rfl) (by kernel_rfl) (by kernel_rfl) (fun _ _ _ h => h) (Or.inl ⟨by kernel_rfl, ?_⟩) hS ?_
        rotate_left
        · intro W hSW
          go_simp
          all_goals with_reducible rfl
        refine wpAnyH_take (i := 4) (v := ?_) rfl (by kernel_rfl) (by kernel_rfl) (by kernel_rfl) (fun _ _ _ h => h) (Or.inl ⟨by kernel_rfl, ?_⟩) hS ?_
        rotate_left
        · intro W hSW
          go_simp
          all_goals with_reducible rfl
        refine wpAnyH_take (i := 5) (v := ?_) rfl (by kernel_rfl) (by kernel_rfl) (by kernel_rfl) (fun _ _ _ h => h) (Or.inl ⟨by kernel_rfl, ?_⟩) hS ?_
        rotate_left
        · intro W hSW
          go_simp
          all_goals with_reducible rfl
        refine wpAnyH_take (i := 6) (v := ?_) rfl (by kernel_rfl) (by kernel_rfl) (by kernel_rfl) (fun _ _ _ h => h) (Or.inl ⟨by kernel_rfl, ?_⟩) hS ?_
        rotate_left
        · intro W hSW
          go_simp
          all_goals with_reducible rfl
        refine wpAnyH_take (i := 7) (v := ?_) rfl (by kernel_rfl) (by kernel_rfl) (by kernel_rfl) (fun _ _ _ h => h) (Or.inl ⟨by kernel_rfl, ?_⟩) hS ?_
        rotate_left
        · intro W hSW
          go_simp
          all_goals with_reducible rfl
        refine wpAnyH_take (i := 8) (v := ?_) rfl (by kernel_rfl) (by kernel_rfl) (by kernel_rfl) (fun _ _ _ h => h) (Or.inl ⟨by kernel_rfl, ?_⟩) hS ?_
        rotate_left
        · intro W hSW
          have x0' := hSW.get x0
          have x1' := hSW.get x1
          go_simp
          all_goals with_reducible rfl
        refine wpAnyH_take (i := 9) (v := ?_) rfl (by kernel_rfl) (by kernel_rfl) (by kernel_rfl) (fun _ _ _ h => h) (Or.inl ⟨by kernel_rfl, ?_⟩) hS ?_
        rotate_left
        · intro W hSW
          have s0' := hSW.get s0
          have s1' := hSW.get s1
          go_simp
          all_goals with_reducible rfl
        refine wpAnyH_ready (rs := [10]) (by kernel_rfl) (by simp) ?_
        refine AllReadyH.cons rfl (fun K hK => ?_) AllReadyH.nil
        go_simp
        go_wp2_with ((go_at_call 42; refine (HC.out _).mono ?_; rintro e wn ⟨rfl, hbn⟩))
        refine hK.out _ _ (hS.trans hbn) (fun hS => ?_)
        clear hK K
        refine wpAnyH_take (i := 11) (v := ?_) rfl (by kernel_rfl) (by kernel_rfl) (by kernel_rfl) (fun _ _ _ h => h) (Or.inl ⟨by kernel_rfl, ?_⟩) hS ?_
        rotate_left
        · intro W hSW
          go_simp
          all_goals with_reducible rfl
        refine wpAnyH_take (i := 12) (v := ?_) rfl (by kernel_rfl) (by kernel_rfl) (by kernel_rfl) (fun _ _ _ h => h) (Or.inl ⟨by kernel_rfl, ?_⟩) hS ?_
        rotate_left
        · intro W hSW
          go_simp
          all_goals with_reducible rfl
        refine wpAnyH_done (by kernel_rfl) ?_ _
        have HB2 := Lib.hid (HBW.out.trans (Below.mono hS HBW.out.size))
        have x0 := Bel.get hS x0
        have x1 := Bel.get hS x1
        have s0 := Bel.get hS s0
        have s1 := Bel.get hS s1
        clear hS hbn
        go_simp
        rcases st_cases (Qm.stOf l n) (st, sr) with he | ⟨hne, he⟩ | ⟨hne, he1, he⟩
        · have HMEM := Lib.hid (show ((st, sr) : Qm.St) ∈ l by rw [← he, Qm.stOf_lt hlt]; exact List.getElem_mem _)
          rw [he] at x0 x1
          dsimp only at x0 x1
          clear he
          go_wp2
          refine wp_region_held_drew (S := Bel wn) (by kernel_rfl) (Bel.start wn) (fun hS => ?_)
          refine wpAnyH_take (i := 0) (v := ?_) rfl (by kernel_rfl) (by kernel_rfl) (by kernel_rfl) (fun _ _ _ h => h) (Or.inl ⟨by kernel_rfl, ?_⟩) hS ?_
          rotate_left
          · intro W hSW
            go_simp
            all_goals with_reducible rfl
          refine wpAnyH_take (i := 1) (v := ?_) rfl (by kernel_rfl) (by kernel_rfl) (by kernel_rfl) (fun _ _ _ h => h) (Or.inl ⟨by kernel_rfl, ?_⟩) hS ?_
          rotate_left
          · intro W hSW
            go_simp
            all_goals with_reducible rfl
          refine wpAnyH_take (i := 2) (v := ?_) rfl (by kernel_rfl) (by kernel_rfl) (by kernel_rfl) (fun _ _ _ h => h) (Or.inl ⟨by kernel_rfl, ?_⟩) hS ?_
          rotate_left
          · intro W hSW
            go_simp
            all_goals with_reducible rfl
          refine wpAnyH_take (i := 3) (v := ?_) rfl (by kernel_rfl) (by kernel_rfl) (by kernel_rfl) (fun _ _ _ h => h) (Or.inl ⟨by kernel_rfl, ?_⟩) hS ?_
          rotate_left
          · intro W hSW
            go_simp
            all_goals with_reducible rfl
          refine wpAnyH_take (i := 4) (v := ?_) rfl (by kernel_rfl) (by kernel_rfl) (by kernel_rfl) (fun _ _ _ h => h) (Or.inl ⟨by kernel_rfl, ?_⟩) hS ?_
          rotate_left
          · intro W hSW
            go_simp
            all_goals with_reducible rfl
          refine wpAnyH_take (i := 5) (v := ?_) rfl (by kernel_rfl) (by kernel_rfl) (by kernel_rfl) (fun _ _ _ h => h) (Or.inl ⟨by kernel_rfl, ?_⟩) hS ?_
          rotate_left
          · intro W hSW
            go_simp
            all_goals with_reducible rfl
          refine wpAnyH_take (i := 6) (v := ?_) rfl (by kernel_rfl) (by kernel_rfl) (by kernel_rfl) (fun _ _ _ h => h) (Or.inl ⟨by kernel_rfl, ?_⟩) hS ?_
          rotate_left
          · intro W hSW
            go_simp
            all_goals with_reducible rfl
          refine wpAnyH_take (i := 7) (v := ?_) rfl (by kernel_rfl) (by kernel_rfl) (by kernel_rfl) (fun _ _ _ h => h) (Or.inl ⟨by kernel_rfl, ?_⟩) hS ?_
          rotate_left
          · intro W hSW
            go_simp
            all_goals with_reducible rfl
          refine wpAnyH_take (i := 8) (v := ?_) rfl (by kernel_rfl) (by kernel_rfl) (by kernel_rfl) (fun _ _ _ h => h) (Or.inl ⟨by kernel_rfl, ?_⟩) hS ?_
          rotate_left
          · intro W hSW
            have x0' := hSW.get x0
            have x1' := hSW.get x1
            go_simp
            all_goals with_reducible rfl
          refine wpAnyH_take (i := 9) (v := ?_) rfl (by kernel_rfl) (by kernel_rfl) (by kernel_rfl) (fun _ _ _ h => h) (Or.inl ⟨by kernel_rfl, ?_⟩) hS ?_
          rotate_left
          · intro W hSW
            have s0' := hSW.get s0
            have s1' := hSW.get s1
            go_simp
            all_goals with_reducible rfl
          refine wpAnyH_take (i := 10) (v := ?_) rfl (by kernel_rfl) (by kernel_rfl) (by kernel_rfl) (fun _ _ _ h => h) (Or.inl ⟨by kernel_rfl, ?_⟩) hS ?_
          rotate_left
          · intro W hSW
            go_simp
            all_goals with_reducible rfl
          refine wpAnyH_take (i := 11) (v := ?_) rfl (by kernel_rfl) (by kernel_rfl) (by kernel_rfl) (fun _ _ _ h => h) (Or.inl ⟨by kernel_rfl, ?_⟩) hS ?_
          rotate_left
          · intro W hSW
            go_simp
            all_goals with_reducible rfl
          refine wpAnyH_done (by kernel_rfl) ?_ _
          have HE := Lib.hid (show Withed l (st, sr) w (.returned (.slice (some ⟨b, o, none⟩) l.length cap)) _ from ⟨_, _, l, rfl, HR.out.below (HB2.out.trans (Below.mono hS HB2.out.size)), HPP.out, HRI.out, fun x => ⟨Or.inl, fun h => h.elim id fun e => by rw [e]; exact HMEM.out⟩, hlc, HB2.out.trans (Below.mono hS HB2.out.size)⟩)
          clear hS
          go_simp
          go_wp2
          go_ret
          exact HE.out
        · have HNE := Lib.hid (show ¬ (n < l.length ∧ Qm.stOf l n = (st, sr)) from fun h => hne h.2)
          dsimp only at he
          clear hne
          go_wp2
          refine wp_region_held_drew (S := Bel wn) (by kernel_rfl) (Bel.start wn) (fun hS => ?_)
          refine wpAnyH_take (i := 0) (v := ?_) rfl (by kernel_rfl) (by kernel_rfl) (by kernel_rfl) (fun _ _ _ h => h) (Or.inl ⟨by kernel_rfl, ?_⟩) hS ?_
          rotate_left
          · intro W hSW
            go_simp
            all_goals with_reducible rfl
          refine wpAnyH_take (i := 1) (v := ?_) rfl (by kernel_rfl) (by kernel_rfl) (by kernel_rfl) (fun _ _ _ h => h) (Or.inl ⟨by kernel_rfl, ?_⟩) hS ?_
          rotate_left
          · intro W hSW
            go_simp
            all_goals with_reducible rfl
          refine wpAnyH_take (i := 2) (v := ?_) rfl (by kernel_rfl) (by kernel_rfl) (by kernel_rfl) (fun _ _ _ h => h) (Or.inl ⟨by kernel_rfl, ?_⟩) hS ?_
          rotate_left
          · intro W hSW
            go_simp
            all_goals with_reducible rfl
          refine wpAnyH_take (i := 3) (v := ?_) rfl (by kernel_rfl) (by kernel_rfl) (by kernel_rfl) (fun _ _ _ h => h) (Or.inl ⟨by kernel_rfl, ?_⟩) hS ?_
          rotate_left
          · intro W hSW
            go_simp
            all_goals with_reducible rfl
          refine wpAnyH_take (i := 4) (v := ?_) rfl (by kernel_rfl) (by kernel_rfl) (by kernel_rfl) (fun _ _ _ h => h) (Or.inl ⟨by kernel_rfl, ?_⟩) hS ?_
          rotate_left
          · intro W hSW
            go_simp
            all_goals with_reducible rfl
          refine wpAnyH_take (i := 5) (v := ?_) rfl (by kernel_rfl) (by kernel_rfl) (by kernel_rfl) (fun _ _ _ h => h) (Or.inl ⟨by kernel_rfl, ?_⟩) hS ?_
          rotate_left
          · intro W hSW
            go_simp
            all_goals with_reducible rfl
          refine wpAnyH_take (i := 6) (v := ?_) rfl (by kernel_rfl) (by kernel_rfl) (by kernel_rfl) (fun _ _ _ h => h) (Or.inl ⟨by kernel_rfl, ?_⟩) hS ?_
          rotate_left
          · intro W hSW
            go_simp
            all_goals with_reducible rfl
          refine wpAnyH_take (i := 7) (v := ?_) rfl (by kernel_rfl) (by kernel_rfl) (by kernel_rfl) (fun _ _ _ h => h) (Or.inl ⟨by kernel_rfl, ?_⟩) hS ?_
          rotate_left
          · intro W hSW
            go_simp
            all_goals with_reducible rfl
          refine wpAnyH_take (i := 8) (v := ?_) rfl (by kernel_rfl) (by kernel_rfl) (by kernel_rfl) (fun _ _ _ h => h) (Or.inl ⟨by kernel_rfl, ?_⟩) hS ?_
          rotate_left
          · intro W hSW
            have x0' := hSW.get x0
            have x1' := hSW.get x1
            go_simp
            all_goals with_reducible rfl
          refine wpAnyH_take (i := 9) (v := ?_) rfl (by kernel_rfl) (by kernel_rfl) (by kernel_rfl) (fun _ _ _ h => h) (Or.inl ⟨by kernel_rfl, ?_⟩) hS ?_
          rotate_left
          · intro W hSW
            have s0' := hSW.get s0
            have s1' := hSW.get s1
            go_simp
            all_goals with_reducible rfl
          refine wpAnyH_take (i := 10) (v := ?_) rfl (by kernel_rfl) (by kernel_rfl) (by kernel_rfl) (fun _ _ _ h => h) (Or.inl ⟨by kernel_rfl, ?_⟩) hS ?_
          rotate_left
          · intro W hSW
            go_simp
            all_goals with_reducible rfl
          refine wpAnyH_take (i := 11) (v := ?_) rfl (by kernel_rfl) (by kernel_rfl) (by kernel_rfl) (fun _ _ _ h => h) (Or.inl ⟨by kernel_rfl, ?_⟩) hS ?_
          rotate_left
          · intro W hSW
            go_simp
            all_goals with_reducible rfl
          refine wpAnyH_done (by kernel_rfl) ?_ _
          clear hS x0 x1 he
          go_simp
          go_wp2
          obtain ⟨W6, hW6⟩ : ∃ W6, World.drew wn = W6 := ⟨_, rfl⟩
          rw [hW6]
          have HB6 := Lib.hid (show Below w.heap.size w W6 by rw [← hW6]; exact HB2.out.drew)
          have s0 : W6.cell? ⟨w.heap.size, 0, none⟩ = some (.int .i64 st) := by rw [← hW6]; exact s0
          have s1 : W6.cell? ⟨w.heap.size, 1, none⟩ = some (.int .i64 sr) := by rw [← hW6]; exact s1
          have HRW := Lib.hid (HR.out.below HB6.out)
          clear hW6
          have hck : ¬ cap = n := by omega
          have hncap : n ≤ cap := by omega
          have HRDR := Lib.hid (rd_drop_any HRW.out n)
          have HRT := Lib.hid (show Rd W6 (some ⟨b, o, none⟩) (stCells (l.take n)) from by rw [← stCells_take]; exact HRW.out.take (n * 2))
          have HPN := Lib.hid (show (some (⟨b, o + n * 2, none⟩ : Addr) = none → cap - n = 0) from fun e => by cases e)
          have hpn' : (some (⟨b, o, none⟩ : Addr) = none → cap = 0) := fun e => by cases e
          have HS2 := Lib.hid (show Rd ((W6.alloc (.cells #[] 34)).alloc (.cells #[.int .i64 st, .int .i64 sr] 34)).drew (some ⟨W6.heap.size + 1, 0, none⟩) (stCells [(st, sr)]) from by
            have h := rd_st_one (W6.alloc (.cells #[] 34)) (st, sr) 34
            simp only [World.size_alloc] at h
            exact h)
          have HS3 := Lib.hid (show Rd ((W6.alloc (.cells #[.int .i64 st, .int .i64 sr] 34)).alloc (.cells #[] 34)).drew (some ⟨W6.heap.size, 0, none⟩) (stCells [(st, sr)]) from (rd_st_one W6 (st, sr) 34).below (((Below.refl _ _).alloc (Nat.le_refl _) _).drew))
          have HL3 := Lib.hid (show ((W6.alloc (.cells #[.int .i64 st, .int .i64 sr] 34)).alloc (.cells #[] 34)).drew.ownsRow W6.heap.size 34 2 (.slice (some ⟨W6.heap.size + 1, 0, none⟩) 0 0) 0 [] from by
            have h := World.ownsRow_lit (base := W6.heap.size) (e := 34) (size := 2) (W6.alloc (.cells #[.int .i64 st, .int .i64 sr] 34)) #[] 0 (by simp) (by simp [maxLen]) (by simp)
            simp only [World.size_alloc] at h
            exact h)
          refine wp_region_held_drew (S := Bel W6) (by kernel_rfl) (Bel.start W6) (fun hS => ?_)
          refine wpAnyH_take (i := 1) (v := ?_) rfl (by kernel_rfl) (by kernel_rfl) (by kernel_rfl) (fun _ _ _ h => h) (Or.inl ⟨by kernel_rfl, ?_⟩) hS ?_
          rotate_left
          · intro W hSW
            go_simp
            all_goals with_reducible rfl
          refine wpAnyH_take (i := 2) (v := ?_) rfl (by kernel_rfl) (by kernel_rfl) (by kernel_rfl) (fun _ _ _ h => h) (Or.inl ⟨by kernel_rfl, ?_⟩) hS ?_
          rotate_left
          · intro W hSW
            go_simp
            all_goals with_reducible rfl
          refine wpAnyH_take (i := 3) (v := ?_) rfl (by kernel_rfl) (by kernel_rfl) (by kernel_rfl) (fun _ _ _ h => h) (Or.inl ⟨by kernel_rfl, ?_⟩) hS ?_
          rotate_left
          · intro W hSW
            go_simp
            all_goals with_reducible rfl
          refine wpAnyH_take (i := 5) (v := ?_) rfl (by kernel_rfl) (by kernel_rfl) (by kernel_rfl) (fun _ _ _ h => h) (Or.inl ⟨by kernel_rfl, ?_⟩) hS ?_
          rotate_left
          · intro W hSW
            have s0' := hSW.get s0
            have s1' := hSW.get s1
            go_simp
            all_goals with_reducible rfl
          refine wpAnyH_take (i := 8) (v := ?_) rfl (by kernel_rfl) (by kernel_rfl) (by kernel_rfl) (fun _ _ _ h => h) (Or.inl ⟨by kernel_rfl, ?_⟩) hS ?_
          rotate_left
          · intro W hSW
            go_simp
            all_goals with_reducible rfl
          refine wpAnyH_take (i := 9) (v := ?_) rfl (by kernel_rfl) (by kernel_rfl) (by kernel_rfl) (fun _ _ _ h => h) (Or.inl ⟨by kernel_rfl, ?_⟩) hS ?_
          rotate_left
          · intro W hSW
            go_simp
            all_goals with_reducible rfl
          refine wpAnyH_take (i := 10) (v := ?_) rfl (by kernel_rfl) (by kernel_rfl) (by kernel_rfl) (fun _ _ _ h => h) (Or.inl ⟨by kernel_rfl, ?_⟩) hS ?_
          rotate_left
          · intro W hSW
            go_simp
            all_goals with_reducible rfl
          refine wpAnyH_ready (rs := [0, 6]) (by kernel_rfl) (by simp) ?_
          refine AllReadyH.cons rfl (fun K hK => ?_) (AllReadyH.cons rfl (fun K hK => ?_) AllReadyH.nil)
          · skip
            go_simp
            refine hK.out _ _ (hS.trans ((Below.refl _ _).alloc (Nat.le_refl _) _)) (fun hS => ?_)
            clear hK K
            refine wpAnyH_ready (rs := [4, 6]) (by kernel_rfl) (by simp) ?_
            refine AllReadyH.cons rfl (fun K hK => ?_) (AllReadyH.cons rfl (fun K hK => ?_) AllReadyH.nil)
            · skip
              refine step_append_k0 (by kernel_rfl) _ _ 52 rfl W6.heap.size 34 i0 _ 2 16 Try.underlying52 hi hz0 hz1 (by decide) hz2 (by decide) rfl _ rfl (World.ownsRow_lit (base := W6.heap.size) (e := 34) (size := 2) W6 #[] 0 (by simp) (by simp [maxLen]) (by simp)) _ (n) (cap) (stCells (l.take n)) rfl (by rw [stCells_length, List.length_take]; omega) (HRT.out.below hS) hpn' stCells_one (by omega) (Below.size hS) ?_
              intro pa ca w2 ho hg hf
              have HGw2 := Lib.hid hg
              have HOw2 := Lib.hid ho
              have HNB := Lib.hid (Below.grown hS hg (Below.size hS) (fun k hk => by cases hk; simp))
              clear ho hg hf
              refine hK.out _ _ HNB.out (fun hS => ?_)
              clear hK K
              refine wpAnyH_ready (rs := [6]) (by kernel_rfl) (by simp) ?_
              refine AllReadyH.cons rfl (fun K hK => ?_) AllReadyH.nil
              go_simp
              refine hK.out _ _ (hS.trans ((Below.refl _ _).alloc (Nat.le_refl _) _)) (fun hS => ?_)
              clear hK K
              refine wpAnyH_ready (rs := [7]) (by kernel_rfl) (by simp) ?_
              refine AllReadyH.cons rfl (fun K hK => ?_) AllReadyH.nil
              refine step_append_k (by kernel_rfl) _ _ 52 rfl W6.heap.size 34 i0 _ 2 16 Try.underlying52 hi hz0 hz1 (by decide) hz2 (by decide) rfl _ (n) (stCells (l.take n)) rfl (HOw2.out.alloc _) _ (1) (1) (stCells [(st, sr)]) rfl rfl (rd_st_one w2 (st, sr) 34) (fun e => by cases e) stCells_one (by omega) (Below.size hS) ?_
              intro pb cb w3 ho hg hf
              have HGw3 := Lib.hid hg
              have HOw3 := Lib.hid ho
              have HNB := Lib.hid (Below.grown hS hg (Below.size hS) (fun k hk => (World.ownsRow.lt HOw2.out k hk).1))
              clear ho hg hf
              refine hK.out _ _ HNB.out (fun hS => ?_)
              clear hK K
              refine wpAnyH_ready (rs := [11]) (by kernel_rfl) (by simp) ?_
              refine AllReadyH.cons rfl (fun K hK => ?_) AllReadyH.nil
              refine step_append_k (by kernel_rfl) _ _ 52 rfl W6.heap.size 34 i0 _ 2 16 Try.underlying52 hi hz0 hz1 (by decide) hz2 (by decide) rfl _ (n + 1) (stCells (l.take n) ++ stCells [(st, sr)]) rfl HOw3.out _ (l.length - n) (cap - n) (stCells (l.drop n)) rfl (by rw [stCells_length, List.length_drop]) (HRDR.out.below hS) HPN.out stCells_one (by omega) (Below.size hS) ?_
              intro pc cc w4 ho hg hf
              have HGw4 := Lib.hid hg
              have HOw4 := Lib.hid ho
              have HNB := Lib.hid (Below.grown hS hg (Below.size hS) (fun k hk => (World.ownsRow.lt HOw3.out k hk).1))
              clear ho hg hf
              refine hK.out _ _ HNB.out (fun hS => ?_)
              clear hK K
              refine wpAnyH_take (i := 12) (v := ?_) rfl (by kernel_rfl) (by kernel_rfl) (by kernel_rfl) (fun _ _ _ h => h) (Or.inl ⟨by kernel_rfl, ?_⟩) hS ?_
              rotate_left
              · intro W hSW
                go_simp
                all_goals with_reducible rfl
              refine wpAnyH_done (by kernel_rfl) ?_ _
              have HE := Lib.hid (withed_new HRI.out hn HA.out HNL.out HNE.out HOw4.out (HB6.out.trans (Below.mono hS HB6.out.size)))
              clear hS
              go_simp
              go_wp2
              go_ret
              exact HE.out
            · skip
              go_simp
              refine hK.out _ _ (hS.trans ((Below.refl _ _).alloc (Nat.le_refl _) _)) (fun hS => ?_)
              clear hK K
              refine wpAnyH_ready (rs := [4]) (by kernel_rfl) (by simp) ?_
              refine AllReadyH.cons rfl (fun K hK => ?_) AllReadyH.nil
              refine step_append_k0 (by kernel_rfl) _ _ 52 rfl W6.heap.size 34 i0 _ 2 16 Try.underlying52 hi hz0 hz1 (by decide) hz2 (by decide) rfl _ rfl ((World.ownsRow_lit (base := W6.heap.size) (e := 34) (size := 2) W6 #[] 0 (by simp) (by simp [maxLen]) (by simp)).alloc _) _ (n) (cap) (stCells (l.take n)) rfl (by rw [stCells_length, List.length_take]; omega) (HRT.out.below hS) hpn' stCells_one (by omega) (Below.size hS) ?_
              intro pa ca w2 ho hg hf
              have HGw2 := Lib.hid hg
              have HOw2 := Lib.hid ho
              have HNB := Lib.hid (Below.grown hS hg (Below.size hS) (fun k hk => by cases hk; simp))
              clear ho hg hf
              refine hK.out _ _ HNB.out (fun hS => ?_)
              clear hK K
              refine wpAnyH_ready (rs := [7]) (by kernel_rfl) (by simp) ?_
              refine AllReadyH.cons rfl (fun K hK => ?_) AllReadyH.nil
              refine step_append_k (by kernel_rfl) _ _ 52 rfl W6.heap.size 34 i0 _ 2 16 Try.underlying52 hi hz0 hz1 (by decide) hz2 (by decide) rfl _ (n) (stCells (l.take n)) rfl HOw2.out _ (1) (1) (stCells [(st, sr)]) rfl rfl ((Turns.of_grown HGw2.out).rd HS2.out (fun a ha e => by cases ha; have e' : W6.heap.size = W6.heap.size + 1 := Option.some.inj e; omega)) (fun e => by cases e) stCells_one (by omega) (Below.size hS) ?_
              intro pb cb w3 ho hg hf
              have HGw3 := Lib.hid hg
              have HOw3 := Lib.hid ho
              have HNB := Lib.hid (Below.grown hS hg (Below.size hS) (fun k hk => (World.ownsRow.lt HOw2.out k hk).1))
              clear ho hg hf
              refine hK.out _ _ HNB.out (fun hS => ?_)
              clear hK K
              refine wpAnyH_ready (rs := [11]) (by kernel_rfl) (by simp) ?_
              refine AllReadyH.cons rfl (fun K hK => ?_) AllReadyH.nil
              refine step_append_k (by kernel_rfl) _ _ 52 rfl W6.heap.size 34 i0 _ 2 16 Try.underlying52 hi hz0 hz1 (by decide) hz2 (by decide) rfl _ (n + 1) (stCells (l.take n) ++ stCells [(st, sr)]) rfl HOw3.out _ (l.length - n) (cap - n) (stCells (l.drop n)) rfl (by rw [stCells_length, List.length_drop]) (HRDR.out.below hS) HPN.out stCells_one (by omega) (Below.size hS) ?_
              intro pc cc w4 ho hg hf
              have HGw4 := Lib.hid hg
              have HOw4 := Lib.hid ho
              have HNB := Lib.hid (Below.grown hS hg (Below.size hS) (fun k hk => (World.ownsRow.lt HOw3.out k hk).1))
              clear ho hg hf
              refine hK.out _ _ HNB.out (fun hS => ?_)
              clear hK K
              refine wpAnyH_take (i := 12) (v := ?_) rfl (by kernel_rfl) (by kernel_rfl) (by kernel_rfl) (fun _ _ _ h => h) (Or.inl ⟨by kernel_rfl, ?_⟩) hS ?_
              rotate_left
              · intro W hSW
                go_simp
                all_goals with_reducible rfl
              refine wpAnyH_done (by kernel_rfl) ?_ _
              have HE := Lib.hid (withed_new HRI.out hn HA.out HNL.out HNE.out HOw4.out (HB6.out.trans (Below.mono hS HB6.out.size)))
              clear hS
              go_simp
              go_wp2
              go_ret
              exact HE.out
          · skip
            go_simp
            refine hK.out _ _ (hS.trans ((Below.refl _ _).alloc (Nat.le_refl _) _)) (fun hS => ?_)
            clear hK K
            refine wpAnyH_ready (rs := [0]) (by kernel_rfl) (by simp) ?_
            refine AllReadyH.cons rfl (fun K hK => ?_) AllReadyH.nil
            go_simp
            refine hK.out _ _ (hS.trans ((Below.refl _ _).alloc (Nat.le_refl _) _)) (fun hS => ?_)
            clear hK K
            refine wpAnyH_ready (rs := [4]) (by kernel_rfl) (by simp) ?_
            refine AllReadyH.cons rfl (fun K hK => ?_) AllReadyH.nil
            refine step_append_k0 (by kernel_rfl) _ _ 52 rfl W6.heap.size 34 i0 _ 2 16 Try.underlying52 hi hz0 hz1 (by decide) hz2 (by decide) rfl _ rfl HL3.out _ (n) (cap) (stCells (l.take n)) rfl (by rw [stCells_length, List.length_take]; omega) (HRT.out.below hS) hpn' stCells_one (by omega) (Below.size hS) ?_
            intro pa ca w2 ho hg hf
            have HGw2 := Lib.hid hg
            have HOw2 := Lib.hid ho
            have HNB := Lib.hid (Below.grown hS hg (Below.size hS) (fun k hk => by cases hk; simp))
            clear ho hg hf
            refine hK.out _ _ HNB.out (fun hS => ?_)
            clear hK K
            refine wpAnyH_ready (rs := [7]) (by kernel_rfl) (by simp) ?_
            refine AllReadyH.cons rfl (fun K hK => ?_) AllReadyH.nil
            refine step_append_k (by kernel_rfl) _ _ 52 rfl W6.heap.size 34 i0 _ 2 16 Try.underlying52 hi hz0 hz1 (by decide) hz2 (by decide) rfl _ (n) (stCells (l.take n)) rfl HOw2.out _ (1) (1) (stCells [(st, sr)]) rfl rfl ((Turns.of_grown HGw2.out).rd HS3.out (fun a ha e => by cases ha; have e' : W6.heap.size + 1 = W6.heap.size := Option.some.inj e; omega)) (fun e => by cases e) stCells_one (by omega) (Below.size hS) ?_
            intro pb cb w3 ho hg hf
            have HGw3 := Lib.hid hg
            have HOw3 := Lib.hid ho
            have HNB := Lib.hid (Below.grown hS hg (Below.size hS) (fun k hk => (World.ownsRow.lt HOw2.out k hk).1))
            clear ho hg hf
            refine hK.out _ _ HNB.out (fun hS => ?_)
            clear hK K
            refine wpAnyH_ready (rs := [11]) (by kernel_rfl) (by simp) ?_
            refine AllReadyH.cons rfl (fun K hK => ?_) AllReadyH.nil
            refine step_append_k (by kernel_rfl) _ _ 52 rfl W6.heap.size 34 i0 _ 2 16 Try.underlying52 hi hz0 hz1 (by decide) hz2 (by decide) rfl _ (n + 1) (stCells (l.take n) ++ stCells [(st, sr)]) rfl HOw3.out _ (l.length - n) (cap - n) (stCells (l.drop n)) rfl (by rw [stCells_length, List.length_drop]) (HRDR.out.below hS) HPN.out stCells_one (by omega) (Below.size hS) ?_
            intro pc cc w4 ho hg hf
            have HGw4 := Lib.hid hg
            have HOw4 := Lib.hid ho
            have HNB := Lib.hid (Below.grown hS hg (Below.size hS) (fun k hk => (World.ownsRow.lt HOw3.out k hk).1))
            clear ho hg hf
            refine hK.out _ _ HNB.out (fun hS => ?_)
            clear hK K
            refine wpAnyH_take (i := 12) (v := ?_) rfl (by kernel_rfl) (by kernel_rfl) (by kernel_rfl) (fun _ _ _ h => h) (Or.inl ⟨by kernel_rfl, ?_⟩) hS ?_
            rotate_left
            · intro W hSW
              go_simp
              all_goals with_reducible rfl
            refine wpAnyH_done (by kernel_rfl) ?_ _
            have HE := Lib.hid (withed_new HRI.out hn HA.out HNL.out HNE.out HOw4.out (HB6.out.trans (Below.mono hS HB6.out.size)))
            clear hS
            go_simp
            go_wp2
            go_ret
            exact HE.out
        · have HNE := Lib.hid (show ¬ (n < l.length ∧ Qm.stOf l n = (st, sr)) from fun h => hne h.2)
          dsimp only at he he1
          rw [he1] at x0
          clear hne he1
          go_wp2
          refine wp_region_held_drew (S := Bel wn) (by kernel_rfl) (Bel.start wn) (fun hS => ?_)
          refine wpAnyH_take (i := 0) (v := ?_) rfl (by kernel_rfl) (by kernel_rfl) (by kernel_rfl) (fun _ _ _ h => h) (Or.inl ⟨by kernel_rfl, ?_⟩) hS ?_
          rotate_left
          · intro W hSW
            go_simp
            all_goals with_reducible rfl
          refine wpAnyH_take (i := 1) (v := ?_) rfl (by kernel_rfl) (by kernel_rfl) (by kernel_rfl) (fun _ _ _ h => h) (Or.inl ⟨by kernel_rfl, ?_⟩) hS ?_
          rotate_left
          · intro W hSW
            go_simp
            all_goals with_reducible rfl
          refine wpAnyH_take (i := 2) (v := ?_) rfl (by kernel_rfl) (by kernel_rfl) (by kernel_rfl) (fun _ _ _ h => h) (Or.inl ⟨by kernel_rfl, ?_⟩) hS ?_
          rotate_left
          · intro W hSW
            go_simp
            all_goals with_reducible rfl
          refine wpAnyH_take (i := 3) (v := ?_) rfl (by kernel_rfl) (by kernel_rfl) (by kernel_rfl) (fun _ _ _ h => h) (Or.inl ⟨by kernel_rfl, ?_⟩) hS ?_
          rotate_left
          · intro W hSW
            go_simp
            all_goals with_reducible rfl
          refine wpAnyH_take (i := 4) (v := ?_) rfl (by kernel_rfl) (by kernel_rfl) (by kernel_rfl) (fun _ _ _ h => h) (Or.inl ⟨by kernel_rfl, ?_⟩) hS ?_
          rotate_left
          · intro W hSW
            go_simp
            all_goals with_reducible rfl
          refine wpAnyH_take (i := 5) (v := ?_) rfl (by kernel_rfl) (by kernel_rfl) (by kernel_rfl) (fun _ _ _ h => h) (Or.inl ⟨by kernel_rfl, ?_⟩) hS ?_
          rotate_left
          · intro W hSW
            go_simp
            all_goals with_reducible rfl
          refine wpAnyH_take (i := 6) (v := ?_) rfl (by kernel_rfl) (by kernel_rfl) (by kernel_rfl) (fun _ _ _ h => h) (Or.inl ⟨by kernel_rfl, ?_⟩) hS ?_
          rotate_left
          · intro W hSW
            go_simp
            all_goals with_reducible rfl
          refine wpAnyH_take (i := 7) (v := ?_) rfl (by kernel_rfl) (by kernel_rfl) (by kernel_rfl) (fun _ _ _ h => h) (Or.inl ⟨by kernel_rfl, ?_⟩) hS ?_
          rotate_left
          · intro W hSW
            go_simp
            all_goals with_reducible rfl
          refine wpAnyH_take (i := 8) (v := ?_) rfl (by kernel_rfl) (by kernel_rfl) (by kernel_rfl) (fun _ _ _ h => h) (Or.inl ⟨by kernel_rfl, ?_⟩) hS ?_
          rotate_left
          · intro W hSW
            have x0' := hSW.get x0
            have x1' := hSW.get x1
            go_simp
            all_goals with_reducible rfl
          refine wpAnyH_take (i := 9) (v := ?_) rfl (by kernel_rfl) (by kernel_rfl) (by kernel_rfl) (fun _ _ _ h => h) (Or.inl ⟨by kernel_rfl, ?_⟩) hS ?_
          rotate_left
          · intro W hSW
            have s0' := hSW.get s0
            have s1' := hSW.get s1
            go_simp
            all_goals with_reducible rfl
          refine wpAnyH_take (i := 10) (v := ?_) rfl (by kernel_rfl) (by kernel_rfl) (by kernel_rfl) (fun _ _ _ h => h) (Or.inl ⟨by kernel_rfl, ?_⟩) hS ?_
          rotate_left
          · intro W hSW
            go_simp
            all_goals with_reducible rfl
          refine wpAnyH_take (i := 11) (v := ?_) rfl (by kernel_rfl) (by kernel_rfl) (by kernel_rfl) (fun _ _ _ h => h) (Or.inl ⟨by kernel_rfl, ?_⟩) hS ?_
          rotate_left
          · intro W hSW
            go_simp
            all_goals with_reducible rfl
          refine wpAnyH_done (by kernel_rfl) ?_ _
          clear hS x0 x1 he
          go_simp
          go_wp2
          obtain ⟨W6, hW6⟩ : ∃ W6, World.drew wn = W6 := ⟨_, rfl⟩
          rw [hW6]
          have HB6 := Lib.hid (show Below w.heap.size w W6 by rw [← hW6]; exact HB2.out.drew)
          have s0 : W6.cell? ⟨w.heap.size, 0, none⟩ = some (.int .i64 st) := by rw [← hW6]; exact s0
          have s1 : W6.cell? ⟨w.heap.size, 1, none⟩ = some (.int .i64 sr) := by rw [← hW6]; exact s1
          have HRW := Lib.hid (HR.out.below HB6.out)
          clear hW6
          have hck : ¬ cap = n := by omega
          have hncap : n ≤ cap := by omega
          have HRDR := Lib.hid (rd_drop_any HRW.out n)
          have HRT := Lib.hid (show Rd W6 (some ⟨b, o, none⟩) (stCells (l.take n)) from by rw [← stCells_take]; exact HRW.out.take (n * 2))
          have HPN := Lib.hid (show (some (⟨b, o + n * 2, none⟩ : Addr) = none → cap - n = 0) from fun e => by cases e)
          have hpn' : (some (⟨b, o, none⟩ : Addr) = none → cap = 0) := fun e => by cases e
          have HS2 := Lib.hid (show Rd ((W6.alloc (.cells #[] 34)).alloc (.cells #[.int .i64 st, .int .i64 sr] 34)).drew (some ⟨W6.heap.size + 1, 0, none⟩) (stCells [(st, sr)]) from by
            have h := rd_st_one (W6.alloc (.cells #[] 34)) (st, sr) 34
            simp only [World.size_alloc] at h
            exact h)
          have HS3 := Lib.hid (show Rd ((W6.alloc (.cells #[.int .i64 st, .int .i64 sr] 34)).alloc (.cells #[] 34)).drew (some ⟨W6.heap.size, 0, none⟩) (stCells [(st, sr)]) from (rd_st_one W6 (st, sr) 34).below (((Below.refl _ _).alloc (Nat.le_refl _) _).drew))
          have HL3 := Lib.hid (show ((W6.alloc (.cells #[.int .i64 st, .int .i64 sr] 34)).alloc (.cells #[] 34)).drew.ownsRow W6.heap.size 34 2 (.slice (some ⟨W6.heap.size + 1, 0, none⟩) 0 0) 0 [] from by
            have h := World.ownsRow_lit (base := W6.heap.size) (e := 34) (size := 2) (W6.alloc (.cells #[.int .i64 st, .int .i64 sr] 34)) #[] 0 (by simp) (by simp [maxLen]) (by simp)
            simp only [World.size_alloc] at h
            exact h)
          refine wp_region_held_drew (S := Bel W6) (by kernel_rfl) (Bel.start W6) (fun hS => ?_)
          refine wpAnyH_take (i := 1) (v := ?_) rfl (by kernel_rfl) (by kernel_rfl) (by kernel_rfl) (fun _ _ _ h => h) (Or.inl ⟨by kernel_rfl, ?_⟩) hS ?_
          rotate_left
          · intro W hSW
            go_simp
            all_goals with_reducible rfl
          refine wpAnyH_take (i := 2) (v := ?_) rfl (by kernel_rfl) (by kernel_rfl) (by kernel_rfl) (fun _ _ _ h => h) (Or.inl ⟨by kernel_rfl, ?_⟩) hS ?_
          rotate_left
          · intro W hSW
            go_simp
            all_goals with_reducible rfl
          refine wpAnyH_take (i := 3) (v := ?_) rfl (by kernel_rfl) (by kernel_rfl) (by kernel_rfl) (fun _ _ _ h => h) (Or.inl ⟨by kernel_rfl, ?_⟩) hS ?_
          rotate_left
          · intro W hSW
            go_simp
            all_goals with_reducible rfl
          refine wpAnyH_take (i := 5) (v := ?_) rfl (by kernel_rfl) (by kernel_rfl) (by kernel_rfl) (fun _ _ _ h => h) (Or.inl ⟨by kernel_rfl, ?_⟩) hS ?_
          rotate_left
          · intro W hSW
            have s0' := hSW.get s0
            have s1' := hSW.get s1
            go_simp
            all_goals with_reducible rfl
          refine wpAnyH_take (i := 8) (v := ?_) rfl (by kernel_rfl) (by kernel_rfl) (by kernel_rfl) (fun _ _ _ h => h) (Or.inl ⟨by kernel_rfl, ?_⟩) hS ?_
          rotate_left
          · intro W hSW
            go_simp
            all_goals with_reducible rfl
          refine wpAnyH_take (i := 9) (v := ?_) rfl (by kernel_rfl) (by kernel_rfl) (by kernel_rfl) (fun _ _ _ h => h) (Or.inl ⟨by kernel_rfl, ?_⟩) hS ?_
          rotate_left
          · intro W hSW
            go_simp
            all_goals with_reducible rfl
          refine wpAnyH_take (i := 10) (v := ?_) rfl (by kernel_rfl) (by kernel_rfl) (by kernel_rfl) (fun _ _ _ h => h) (Or.inl ⟨by kernel_rfl, ?_⟩) hS ?_
          rotate_left
          · intro W hSW
            go_simp
            all_goals with_reducible rfl
          refine wpAnyH_ready (rs := [0, 6]) (by kernel_rfl) (by simp) ?_
          refine AllReadyH.cons rfl (fun K hK => ?_) (AllReadyH.cons rfl (fun K hK => ?_) AllReadyH.nil)
          · skip
            go_simp
            refine hK.out _ _ (hS.trans ((Below.refl _ _).alloc (Nat.le_refl _) _)) (fun hS => ?_)
            clear hK K
            refine wpAnyH_ready (rs := [4, 6]) (by kernel_rfl) (by simp) ?_
            refine AllReadyH.cons rfl (fun K hK => ?_) (AllReadyH.cons rfl (fun K hK => ?_) AllReadyH.nil)
            · skip
              refine step_append_k0 (by kernel_rfl) _ _ 52 rfl W6.heap.size 34 i0 _ 2 16 Try.underlying52 hi hz0 hz1 (by decide) hz2 (by decide) rfl _ rfl (World.ownsRow_lit (base := W6.heap.size) (e := 34) (size := 2) W6 #[] 0 (by simp) (by simp [maxLen]) (by simp)) _ (n) (cap) (stCells (l.take n)) rfl (by rw [stCells_length, List.length_take]; omega) (HRT.out.below hS) hpn' stCells_one (by omega) (Below.size hS) ?_
              intro pa ca w2 ho hg hf
              have HGw2 := Lib.hid hg
              have HOw2 := Lib.hid ho
              have HNB := Lib.hid (Below.grown hS hg (Below.size hS) (fun k hk => by cases hk; simp))
              clear ho hg hf
              refine hK.out _ _ HNB.out (fun hS => ?_)
              clear hK K
              refine wpAnyH_ready (rs := [6]) (by kernel_rfl) (by simp) ?_
              refine AllReadyH.cons rfl (fun K hK => ?_) AllReadyH.nil
              go_simp
              refine hK.out _ _ (hS.trans ((Below.refl _ _).alloc (Nat.le_refl _) _)) (fun hS => ?_)
              clear hK K
              refine wpAnyH_ready (rs := [7]) (by kernel_rfl) (by simp) ?_
              refine AllReadyH.cons rfl (fun K hK => ?_) AllReadyH.nil
              refine step_append_k (by kernel_rfl) _ _ 52 rfl W6.heap.size 34 i0 _ 2 16 Try.underlying52 hi hz0 hz1 (by decide) hz2 (by decide) rfl _ (n) (stCells (l.take n)) rfl (HOw2.out.alloc _) _ (1) (1) (stCells [(st, sr)]) rfl rfl (rd_st_one w2 (st, sr) 34) (fun e => by cases e) stCells_one (by omega) (Below.size hS) ?_
              intro pb cb w3 ho hg hf
              have HGw3 := Lib.hid hg
              have HOw3 := Lib.hid ho
              have HNB := Lib.hid (Below.grown hS hg (Below.size hS) (fun k hk => (World.ownsRow.lt HOw2.out k hk).1))
              clear ho hg hf
              refine hK.out _ _ HNB.out (fun hS => ?_)
              clear hK K
              refine wpAnyH_ready (rs := [11]) (by kernel_rfl) (by simp) ?_
              refine AllReadyH.cons rfl (fun K hK => ?_) AllReadyH.nil
              refine step_append_k (by kernel_rfl) _ _ 52 rfl W6.heap.size 34 i0 _ 2 16 Try.underlying52 hi hz0 hz1 (by decide) hz2 (by decide) rfl _ (n + 1) (stCells (l.take n) ++ stCells [(st, sr)]) rfl HOw3.out _ (l.length - n) (cap - n) (stCells (l.drop n)) rfl (by rw [stCells_length, List.length_drop]) (HRDR.out.below hS) HPN.out stCells_one (by omega) (Below.size hS) ?_
              intro pc cc w4 ho hg hf
              have HGw4 := Lib.hid hg
              have HOw4 := Lib.hid ho
              have HNB := Lib.hid (Below.grown hS hg (Below.size hS) (fun k hk => (World.ownsRow.lt HOw3.out k hk).1))
              clear ho hg hf
              refine hK.out _ _ HNB.out (fun hS => ?_)
              clear hK K
              refine wpAnyH_take (i := 12) (v := ?_) rfl (by kernel_rfl) (by kernel_rfl) (by kernel_rfl) (fun _ _ _ h => h) (Or.inl ⟨by kernel_rfl, ?_⟩) hS ?_
              rotate_left
              · intro W hSW
                go_simp
                all_goals with_reducible rfl
              refine wpAnyH_done (by kernel_rfl) ?_ _
              have HE := Lib.hid (withed_new HRI.out hn HA.out HNL.out HNE.out HOw4.out (HB6.out.trans (Below.mono hS HB6.out.size)))
              clear hS
              go_simp
              go_wp2
              go_ret
              exact HE.out
            · skip
              go_simp
              refine hK.out _ _ (hS.trans ((Below.refl _ _).alloc (Nat.le_refl _) _)) (fun hS => ?_)
              clear hK K
              refine wpAnyH_ready (rs := [4]) (by kernel_rfl) (by simp) ?_
              refine AllReadyH.cons rfl (fun K hK => ?_) AllReadyH.nil
              refine step_append_k0 (by kernel_rfl) _ _ 52 rfl W6.heap.size 34 i0 _ 2 16 Try.underlying52 hi hz0 hz1 (by decide) hz2 (by decide) rfl _ rfl ((World.ownsRow_lit (base := W6.heap.size) (e := 34) (size := 2) W6 #[] 0 (by simp) (by simp [maxLen]) (by simp)).alloc _) _ (n) (cap) (stCells (l.take n)) rfl (by rw [stCells_length, List.length_take]; omega) (HRT.out.below hS) hpn' stCells_one (by omega) (Below.size hS) ?_
              intro pa ca w2 ho hg hf
              have HGw2 := Lib.hid hg
              have HOw2 := Lib.hid ho
              have HNB := Lib.hid (Below.grown hS hg (Below.size hS) (fun k hk => by cases hk; simp))
              clear ho hg hf
              refine hK.out _ _ HNB.out (fun hS => ?_)
              clear hK K
              refine wpAnyH_ready (rs := [7]) (by kernel_rfl) (by simp) ?_
              refine AllReadyH.cons rfl (fun K hK => ?_) AllReadyH.nil
              refine step_append_k (by kernel_rfl) _ _ 52 rfl W6.heap.size 34 i0 _ 2 16 Try.underlying52 hi hz0 hz1 (by decide) hz2 (by decide) rfl _ (n) (stCells (l.take n)) rfl HOw2.out _ (1) (1) (stCells [(st, sr)]) rfl rfl ((Turns.of_grown HGw2.out).rd HS2.out (fun a ha e => by cases ha; have e' : W6.heap.size = W6.heap.size + 1 := Option.some.inj e; omega)) (fun e => by cases e) stCells_one (by omega) (Below.size hS) ?_
              intro pb cb w3 ho hg hf
              have HGw3 := Lib.hid hg
              have HOw3 := Lib.hid ho
              have HNB := Lib.hid (Below.grown hS hg (Below.size hS) (fun k hk => (World.ownsRow.lt HOw2.out k hk).1))
              clear ho hg hf
              refine hK.out _ _ HNB.out (fun hS => ?_)
              clear hK K
              refine wpAnyH_ready (rs := [11]) (by kernel_rfl) (by simp) ?_
              refine AllReadyH.cons rfl (fun K hK => ?_) AllReadyH.nil
              refine step_append_k (by kernel_rfl) _ _ 52 rfl W6.heap.size 34 i0 _ 2 16 Try.underlying52 hi hz0 hz1 (by decide) hz2 (by decide) rfl _ (n + 1) (stCells (l.take n) ++ stCells [(st, sr)]) rfl HOw3.out _ (l.length - n) (cap - n) (stCells (l.drop n)) rfl (by rw [stCells_length, List.length_drop]) (HRDR.out.below hS) HPN.out stCells_one (by omega) (Below.size hS) ?_
              intro pc cc w4 ho hg hf
              have HGw4 := Lib.hid hg
              have HOw4 := Lib.hid ho
              have HNB := Lib.hid (Below.grown hS hg (Below.size hS) (fun k hk => (World.ownsRow.lt HOw3.out k hk).1))
              clear ho hg hf
              refine hK.out _ _ HNB.out (fun hS => ?_)
              clear hK K
              refine wpAnyH_take (i := 12) (v := ?_) rfl (by kernel_rfl) (by kernel_rfl) (by kernel_rfl) (fun _ _ _ h => h) (Or.inl ⟨by kernel_rfl, ?_⟩) hS ?_
              rotate_left
              · intro W hSW
                go_simp
                all_goals with_reducible rfl
              refine wpAnyH_done (by kernel_rfl) ?_ _
              have HE := Lib.hid (withed_new HRI.out hn HA.out HNL.out HNE.out HOw4.out (HB6.out.trans (Below.mono hS HB6.out.size)))
              clear hS
              go_simp
              go_wp2
              go_ret
              exact HE.out
          · skip
            go_simp
            refine hK.out _ _ (hS.trans ((Below.refl _ _).alloc (Nat.le_refl _) _)) (fun hS => ?_)
            clear hK K
            refine wpAnyH_ready (rs := [0]) (by kernel_rfl) (by simp) ?_
            refine AllReadyH.cons rfl (fun K hK => ?_) AllReadyH.nil
            go_simp
            refine hK.out _ _ (hS.trans ((Below.refl _ _).alloc (Nat.le_refl _) _)) (fun hS => ?_)
            clear hK K
            refine wpAnyH_ready (rs := [4]) (by kernel_rfl) (by simp) ?_
            refine AllReadyH.cons rfl (fun K hK => ?_) AllReadyH.nil
            refine step_append_k0 (by kernel_rfl) _ _ 52 rfl W6.heap.size 34 i0 _ 2 16 Try.underlying52 hi hz0 hz1 (by decide) hz2 (by decide) rfl _ rfl HL3.out _ (n) (cap) (stCells (l.take n)) rfl (by rw [stCells_length, List.length_take]; omega) (HRT.out.below hS) hpn' stCells_one (by omega) (Below.size hS) ?_
            intro pa ca w2 ho hg hf
            have HGw2 := Lib.hid hg
            have HOw2 := Lib.hid ho
            have HNB := Lib.hid (Below.grown hS hg (Below.size hS) (fun k hk => by cases hk; simp))
            clear ho hg hf
            refine hK.out _ _ HNB.out (fun hS => ?_)
            clear hK K
            refine wpAnyH_ready (rs := [7]) (by kernel_rfl) (by simp) ?_
            refine AllReadyH.cons rfl (fun K hK => ?_) AllReadyH.nil
            refine step_append_k (by kernel_rfl) _ _ 52 rfl W6.heap.size 34 i0 _ 2 16 Try.underlying52 hi hz0 hz1 (by decide) hz2 (by decide) rfl _ (n) (stCells (l.take n)) rfl HOw2.out _ (1) (1) (stCells [(st, sr)]) rfl rfl ((Turns.of_grown HGw2.out).rd HS3.out (fun a ha e => by cases ha; have e' : W6.heap.size + 1 = W6.heap.size := Option.some.inj e; omega)) (fun e => by cases e) stCells_one (by omega) (Below.size hS) ?_
            intro pb cb w3 ho hg hf
            have HGw3 := Lib.hid hg
            have HOw3 := Lib.hid ho
            have HNB := Lib.hid (Below.grown hS hg (Below.size hS) (fun k hk => (World.ownsRow.lt HOw2.out k hk).1))
            clear ho hg hf
            refine hK.out _ _ HNB.out (fun hS => ?_)
            clear hK K
            refine wpAnyH_ready (rs := [11]) (by kernel_rfl) (by simp) ?_
            refine AllReadyH.cons rfl (fun K hK => ?_) AllReadyH.nil
            refine step_append_k (by kernel_rfl) _ _ 52 rfl W6.heap.size 34 i0 _ 2 16 Try.underlying52 hi hz0 hz1 (by decide) hz2 (by decide) rfl _ (n + 1) (stCells (l.take n) ++ stCells [(st, sr)]) rfl HOw3.out _ (l.length - n) (cap - n) (stCells (l.drop n)) rfl (by rw [stCells_length, List.length_drop]) (HRDR.out.below hS) HPN.out stCells_one (by omega) (Below.size hS) ?_
            intro pc cc w4 ho hg hf
            have HGw4 := Lib.hid hg
            have HOw4 := Lib.hid ho
            have HNB := Lib.hid (Below.grown hS hg (Below.size hS) (fun k hk => (World.ownsRow.lt HOw3.out k hk).1))
            clear ho hg hf
            refine hK.out _ _ HNB.out (fun hS => ?_)
            clear hK K
            refine wpAnyH_take (i := 12) (v := ?_) rfl (by kernel_rfl) (by kernel_rfl) (by kernel_rfl) (fun _ _ _ h => h) (Or.inl ⟨by kernel_rfl, ?_⟩) hS ?_
            rotate_left
            · intro W hSW
              go_simp
              all_goals with_reducible rfl
            refine wpAnyH_done (by kernel_rfl) ?_ _
            have HE := Lib.hid (withed_new HRI.out hn HA.out HNL.out HNE.out HOw4.out (HB6.out.trans (Below.mono hS HB6.out.size)))
            clear hS
            go_simp
            go_wp2
            go_ret
            exact HE.out
    · obtain rfl : n = l.length := by omega
      clear hrd
      have HNL := Lib.hid (show l.length < l.length → ¬ Qm.ltS (Qm.stOf l l.length) (st, sr) from fun h => absurd h (Nat.lt_irrefl _))
      have HNE := Lib.hid (show ¬ (l.length < l.length ∧ Qm.stOf l l.length = (st, sr)) from fun h => Nat.lt_irrefl _ h.1)
      go_wp2
      refine wp_region_held_drew (S := Bel wr) (by kernel_rfl) (Bel.start wr) (fun hS => ?_)
      refine wpAnyH_take (i := 0) (v := ?_) rfl (by kernel_rfl) (by kernel_rfl) (by kernel_rfl) (fun _ _ _ h => h) (Or.inl ⟨by kernel_rfl, ?_⟩) hS ?_
      rotate_left
      · intro W hSW
        go_simp
        all_goals with_reducible rfl
      refine wpAnyH_take (i := 1) (v := ?_) rfl (by kernel_rfl) (by kernel_rfl) (by kernel_rfl) (fun _ _ _ h => h) (Or.inl ⟨by kernel_rfl, ?_⟩) hS ?_
      rotate_left
      · intro W hSW
        go_simp
        all_goals with_reducible rfl
      refine wpAnyH_take (i := 2) (v := ?_) rfl (by kernel_rfl) (by kernel_rfl) (by kernel_rfl) (fun _ _ _ h => h) (Or.inl ⟨by kernel_rfl, ?_⟩) hS ?_
      rotate_left
      · intro W hSW
        go_simp
        all_goals with_reducible rfl
      refine wpAnyH_take (i := 3) (v := ?_) rfl (by kernel_rfl) (by kernel_rfl) (by kernel_rfl) (fun _ _ _ h => h) (Or.inl ⟨by kernel_rfl, ?_⟩) hS ?_
      rotate_left
      · intro W hSW
        go_simp
        all_goals with_reducible rfl
      refine wpAnyH_take (i := 4) (v := ?_) rfl (by kernel_rfl) (by kernel_rfl) (by kernel_rfl) (fun _ _ _ h => h) (Or.inl ⟨by kernel_rfl, ?_⟩) hS ?_
      rotate_left
      · intro W hSW
        go_simp
        all_goals with_reducible rfl
      refine wpAnyH_take (i := 5) (v := undef) rfl (by kernel_rfl) (by kernel_rfl) (by kernel_rfl) (fun _ _ _ h => h) (Or.inr ⟨by kernel_rfl, rfl⟩) hS ?_
      refine wpAnyH_take (i := 6) (v := undef) rfl (by kernel_rfl) (by kernel_rfl) (by kernel_rfl) (fun _ _ _ h => h) (Or.inr ⟨by kernel_rfl, rfl⟩) hS ?_
      refine wpAnyH_take (i := 7) (v := undef) rfl (by kernel_rfl) (by kernel_rfl) (by kernel_rfl) (fun _ _ _ h => h) (Or.inr ⟨by kernel_rfl, rfl⟩) hS ?_
      refine wpAnyH_take (i := 8) (v := undef) rfl (by kernel_rfl) (by kernel_rfl) (by kernel_rfl) (fun _ _ _ h => h) (Or.inr ⟨by kernel_rfl, rfl⟩) hS ?_
      refine wpAnyH_take (i := 9) (v := undef) rfl (by kernel_rfl) (by kernel_rfl) (by kernel_rfl) (fun _ _ _ h => h) (Or.inr ⟨by kernel_rfl, rfl⟩) hS ?_
      refine wpAnyH_take (i := 10) (v := undef) rfl (by kernel_rfl) (by kernel_rfl) (by kernel_rfl) (fun _ _ _ h => h) (Or.inr ⟨by kernel_rfl, rfl⟩) hS ?_
      refine wpAnyH_take (i := 11) (v := undef) rfl (by kernel_rfl) (by kernel_rfl) (by kernel_rfl) (fun _ _ _ h => h) (Or.inr ⟨by kernel_rfl, rfl⟩) hS ?_
      refine wpAnyH_take (i := 12) (v := ?_) rfl (by kernel_rfl) (by kernel_rfl) (by kernel_rfl) (fun _ _ _ h => h) (Or.inl ⟨by kernel_rfl, ?_⟩) hS ?_
      rotate_left
      · intro W hSW
        go_simp
        all_goals with_reducible rfl
      refine wpAnyH_done (by kernel_rfl) ?_ _
      clear hS
      go_simp
      go_wp2
      refine wp_region_held_drew (S := Bel (World.drew wr)) (by kernel_rfl) (Bel.start (World.drew wr)) (fun hS => ?_)
      refine wpAnyH_take (i := 0) (v := ?_) rfl (by kernel_rfl) (by kernel_rfl) (by kernel_rfl) (fun _ _ _ h => h) (Or.inl ⟨by kernel_rfl, ?_⟩) hS ?_
      rotate_left
      · intro W hSW
        go_simp
        all_goals with_reducible rfl
      refine wpAnyH_take (i := 1) (v := ?_) rfl (by kernel_rfl) (by kernel_rfl) (by kernel_rfl) (fun _ _ _ h => h) (Or.inl ⟨by kernel_rfl, ?_⟩) hS ?_
      rotate_left
      · intro W hSW
        go_simp
        all_goals with_reducible rfl
      refine wpAnyH_take (i := 2) (v := ?_) rfl (by kernel_rfl) (by kernel_rfl) (by kernel_rfl) (fun _ _ _ h => h) (Or.inl ⟨by kernel_rfl, ?_⟩) hS ?_
      rotate_left
      · intro W hSW
        go_simp
        all_goals with_reducible rfl
      refine wpAnyH_take (i := 3) (v := ?_) rfl (by kernel_rfl) (by kernel_rfl) (by kernel_rfl) (fun _ _ _ h => h) (Or.inl ⟨by kernel_rfl, ?_⟩) hS ?_
      rotate_left
      · intro W hSW
        go_simp
        all_goals with_reducible rfl
      refine wpAnyH_take (i := 4) (v := ?_) rfl (by kernel_rfl) (by kernel_rfl) (by kernel_rfl) (fun _ _ _ h => h) (Or.inl ⟨by kernel_rfl, ?_⟩) hS ?_
      rotate_left
      · intro W hSW
        go_simp
        all_goals with_reducible rfl
      refine wpAnyH_take (i := 5) (v := undef) rfl (by kernel_rfl) (by kernel_rfl) (by kernel_rfl) (fun _ _ _ h => h) (Or.inr ⟨by kernel_rfl, rfl⟩) hS ?_
      refine wpAnyH_take (i := 6) (v := undef) rfl (by kernel_rfl) (by kernel_rfl) (by kernel_rfl) (fun _ _ _ h => h) (Or.inr ⟨by kernel_rfl, rfl⟩) hS ?_
      refine wpAnyH_take (i := 7) (v := undef) rfl (by kernel_rfl) (by kernel_rfl) (by kernel_rfl) (fun _ _ _ h => h) (Or.inr ⟨by kernel_rfl, rfl⟩) hS ?_
      refine wpAnyH_take (i := 8) (v := undef) rfl (by kernel_rfl) (by kernel_rfl) (by kernel_rfl) (fun _ _ _ h => h) (Or.inr ⟨by kernel_rfl, rfl⟩) hS ?_
      refine wpAnyH_take (i := 9) (v := undef) rfl (by kernel_rfl) (by kernel_rfl) (by kernel_rfl) (fun _ _ _ h => h) (Or.inr ⟨by kernel_rfl, rfl⟩) hS ?_
      refine wpAnyH_take (i := 10) (v := undef) rfl (by kernel_rfl) (by kernel_rfl) (by kernel_rfl) (fun _ _ _ h => h) (Or.inr ⟨by kernel_rfl, rfl⟩) hS ?_
      refine wpAnyH_take (i := 11) (v := ?_) rfl (by kernel_rfl) (by kernel_rfl) (by kernel_rfl) (fun _ _ _ h => h) (Or.inl ⟨by kernel_rfl, ?_⟩) hS ?_
      rotate_left
      · intro W hSW
        go_simp
        all_goals with_reducible rfl
      refine wpAnyH_done (by kernel_rfl) ?_ _
      clear hS
      go_simp
      go_wp2
      have HB2 := Lib.hid (HBW.out.drew)
      obtain ⟨W6, hW6⟩ : ∃ W6, World.drew (World.drew wr) = W6 := ⟨_, rfl⟩
      rw [hW6]
      have HB6 := Lib.hid (show Below w.heap.size w W6 by rw [← hW6]; exact HB2.out.drew)
      have s0 : W6.cell? ⟨w.heap.size, 0, none⟩ = some (.int .i64 st) := by rw [← hW6]; exact s0
      have s1 : W6.cell? ⟨w.heap.size, 1, none⟩ = some (.int .i64 sr) := by rw [← hW6]; exact s1
      have HRW := Lib.hid (HR.out.below HB6.out)
      clear hW6
      by_cases hcn : l.length < cap
      · obtain ⟨ad, rfl⟩ : ∃ ad, p = some ad := by
          cases p with
          | none => have := HPP.out rfl; omega
          | some ad => exact ⟨ad, rfl⟩
        obtain ⟨b', o', sp'⟩ := ad
        have hck : ¬ cap = l.length := by omega
        have hncap : l.length ≤ cap := by omega
        have HRDR := Lib.hid (rd_drop_any HRW.out l.length)
        have HRT := Lib.hid (show Rd W6 (some ⟨b', o', sp'⟩) (stCells (l.take l.length)) from by rw [← stCells_take]; exact HRW.out.take (l.length * 2))
        have HPN := Lib.hid (show (some (⟨b', o' + l.length * 2, sp'⟩ : Addr) = none → cap - l.length = 0) from fun e => by cases e)
        have hpn' : (some (⟨b', o', sp'⟩ : Addr) = none → cap = 0) := fun e => by cases e
        have HS2 := Lib.hid (show Rd ((W6.alloc (.cells #[] 34)).alloc (.cells #[.int .i64 st, .int .i64 sr] 34)).drew (some ⟨W6.heap.size + 1, 0, none⟩) (stCells [(st, sr)]) from by
          have h := rd_st_one (W6.alloc (.cells #[] 34)) (st, sr) 34
          simp only [World.size_alloc] at h
          exact h)
        have HS3 := Lib.hid (show Rd ((W6.alloc (.cells #[.int .i64 st, .int .i64 sr] 34)).alloc (.cells #[] 34)).drew (some ⟨W6.heap.size, 0, none⟩) (stCells [(st, sr)]) from (rd_st_one W6 (st, sr) 34).below (((Below.refl _ _).alloc (Nat.le_refl _) _).drew))
        have HL3 := Lib.hid (show ((W6.alloc (.cells #[.int .i64 st, .int .i64 sr] 34)).alloc (.cells #[] 34)).drew.ownsRow W6.heap.size 34 2 (.slice (some ⟨W6.heap.size + 1, 0, none⟩) 0 0) 0 [] from by
          have h := World.ownsRow_lit (base := W6.heap.size) (e := 34) (size := 2) (W6.alloc (.cells #[.int .i64 st, .int .i64 sr] 34)) #[] 0 (by simp) (by simp [maxLen]) (by simp)
          simp only [World.size_alloc] at h
          exact h)
        refine wp_region_held_drew (S := Bel W6) (by kernel_rfl) (Bel.start W6) (fun hS => ?_)
        refine wpAnyH_take (i := 1) (v := ?_) rfl (by kernel_rfl) (by kernel_rfl) (by kernel_rfl) (fun _ _ _ h => h) (Or.inl ⟨by kernel_rfl, ?_⟩) hS ?_
        rotate_left
        · intro W hSW
          go_simp
          all_goals with_reducible rfl
        refine wpAnyH_take (i := 2) (v := ?_) rfl (by kernel_rfl) (by kernel_rfl) (by kernel_rfl) (fun _ _ _ h => h) (Or.inl ⟨by kernel_rfl, ?_⟩) hS ?_
        rotate_left
        · intro W hSW
          go_simp
          all_goals with_reducible rfl
        refine wpAnyH_take (i := 3) (v := ?_) rfl (by kernel_rfl) (by kernel_rfl) (by kernel_rfl) (fun _ _ _ h => h) (Or.inl ⟨by kernel_rfl, ?_⟩) hS ?_
        rotate_left
        · intro W hSW
          go_simp
          all_goals with_reducible rfl
        refine wpAnyH_take (i := 5) (v := ?_) rfl (by kernel_rfl) (by kernel_rfl) (by kernel_rfl) (fun _ _ _ h => h) (Or.inl ⟨by kernel_rfl, ?_⟩) hS ?_
        rotate_left
        · intro W hSW
          have s0' := hSW.get s0
          have s1' := hSW.get s1
          go_simp
          all_goals with_reducible rfl
        refine wpAnyH_take (i := 8) (v := ?_) rfl (by kernel_rfl) (by kernel_rfl) (by kernel_rfl) (fun _ _ _ h => h) (Or.inl ⟨by kernel_rfl, ?_⟩) hS ?_
        rotate_left
        · intro W hSW
          go_simp
          all_goals with_reducible rfl
        refine wpAnyH_take (i := 9) (v := ?_) rfl (by kernel_rfl) (by kernel_rfl) (by kernel_rfl) (fun _ _ _ h => h) (Or.inl ⟨by kernel_rfl, ?_⟩) hS ?_
        rotate_left
        · intro W hSW
          go_simp
          all_goals with_reducible rfl
        refine wpAnyH_take (i := 10) (v := ?_) rfl (by kernel_rfl) (by kernel_rfl) (by kernel_rfl) (fun _ _ _ h => h) (Or.inl ⟨by kernel_rfl, ?_⟩) hS ?_
        rotate_left
        · intro W hSW
          go_simp
          all_goals with_reducible rfl
        refine wpAnyH_ready (rs := [0, 6]) (by kernel_rfl) (by simp) ?_
        refine AllReadyH.cons rfl (fun K hK => ?_) (AllReadyH.cons rfl (fun K hK => ?_) AllReadyH.nil)
        · skip
          go_simp
          refine hK.out _ _ (hS.trans ((Below.refl _ _).alloc (Nat.le_refl _) _)) (fun hS => ?_)
          clear hK K
          refine wpAnyH_ready (rs := [4, 6]) (by kernel_rfl) (by simp) ?_
          refine AllReadyH.cons rfl (fun K hK => ?_) (AllReadyH.cons rfl (fun K hK => ?_) AllReadyH.nil)
          · skip
            refine step_append_k0 (by kernel_rfl) _ _ 52 rfl W6.heap.size 34 i0 _ 2 16 Try.underlying52 hi hz0 hz1 (by decide) hz2 (by decide) rfl _ rfl (World.ownsRow_lit (base := W6.heap.size) (e := 34) (size := 2) W6 #[] 0 (by simp) (by simp [maxLen]) (by simp)) _ (l.length) (cap) (stCells (l.take l.length)) rfl (by rw [stCells_length, List.length_take]; omega) (HRT.out.below hS) hpn' stCells_one (by omega) (Below.size hS) ?_
            intro pa ca w2 ho hg hf
            have HGw2 := Lib.hid hg
            have HOw2 := Lib.hid ho
            have HNB := Lib.hid (Below.grown hS hg (Below.size hS) (fun k hk => by cases hk; simp))
            clear ho hg hf
            refine hK.out _ _ HNB.out (fun hS => ?_)
            clear hK K
            refine wpAnyH_ready (rs := [6]) (by kernel_rfl) (by simp) ?_
            refine AllReadyH.cons rfl (fun K hK => ?_) AllReadyH.nil
            go_simp
            refine hK.out _ _ (hS.trans ((Below.refl _ _).alloc (Nat.le_refl _) _)) (fun hS => ?_)
            clear hK K
            refine wpAnyH_ready (rs := [7]) (by kernel_rfl) (by simp) ?_
            refine AllReadyH.cons rfl (fun K hK => ?_) AllReadyH.nil
            refine step_append_k (by kernel_rfl) _ _ 52 rfl W6.heap.size 34 i0 _ 2 16 Try.underlying52 hi hz0 hz1 (by decide) hz2 (by decide) rfl _ (l.length) (stCells (l.take l.length)) rfl (HOw2.out.alloc _) _ (1) (1) (stCells [(st, sr)]) rfl rfl (rd_st_one w2 (st, sr) 34) (fun e => by cases e) stCells_one (by omega) (Below.size hS) ?_
            intro pb cb w3 ho hg hf
            have HGw3 := Lib.hid hg
            have HOw3 := Lib.hid ho
            have HNB := Lib.hid (Below.grown hS hg (Below.size hS) (fun k hk => (World.ownsRow.lt HOw2.out k hk).1))
            clear ho hg hf
            refine hK.out _ _ HNB.out (fun hS => ?_)
            clear hK K
            refine wpAnyH_ready (rs := [11]) (by kernel_rfl) (by simp) ?_
            refine AllReadyH.cons rfl (fun K hK => ?_) AllReadyH.nil
            refine step_append_k (by kernel_rfl) _ _ 52 rfl W6.heap.size 34 i0 _ 2 16 Try.underlying52 hi hz0 hz1 (by decide) hz2 (by decide) rfl _ (l.length + 1) (stCells (l.take l.length) ++ stCells [(st, sr)]) rfl HOw3.out _ (0) _ (stCells (l.drop l.length)) rfl (by rw [stCells_length, List.length_drop]; omega) (rd_nil_drop _ _ _) (fun e => by cases e) stCells_one (by omega) (Below.size hS) ?_
            intro pc cc w4 ho hg hf
            have HGw4 := Lib.hid hg
            have HOw4 := Lib.hid ho
            have HNB := Lib.hid (Below.grown hS hg (Below.size hS) (fun k hk => (World.ownsRow.lt HOw3.out k hk).1))
            clear ho hg hf
            refine hK.out _ _ HNB.out (fun hS => ?_)
            clear hK K
            refine wpAnyH_take (i := 12) (v := ?_) rfl (by kernel_rfl) (by kernel_rfl) (by kernel_rfl) (fun _ _ _ h => h) (Or.inl ⟨by kernel_rfl, ?_⟩) hS ?_
            rotate_left
            · intro W hSW
              go_simp
              all_goals with_reducible rfl
            refine wpAnyH_done (by kernel_rfl) ?_ _
            have hE := withed_new HRI.out hn HA.out HNL.out HNE.out (by have h := HOw4.out; rw [Nat.sub_self]; exact h) (HB6.out.trans (Below.mono hS HB6.out.size))
            simp only [Nat.sub_self, Nat.add_zero] at hE
            have HE := Lib.hid hE
            clear hS
            go_simp
            go_wp2
            go_ret
            exact HE.out
          · skip
            go_simp
            refine hK.out _ _ (hS.trans ((Below.refl _ _).alloc (Nat.le_refl _) _)) (fun hS => ?_)
            clear hK K
            refine wpAnyH_ready (rs := [4]) (by kernel_rfl) (by simp) ?_
            refine AllReadyH.cons rfl (fun K hK => ?_) AllReadyH.nil
            refine step_append_k0 (by kernel_rfl) _ _ 52 rfl W6.heap.size 34 i0 _ 2 16 Try.underlying52 hi hz0 hz1 (by decide) hz2 (by decide) rfl _ rfl ((World.ownsRow_lit (base := W6.heap.size) (e := 34) (size := 2) W6 #[] 0 (by simp) (by simp [maxLen]) (by simp)).alloc _) _ (l.length) (cap) (stCells (l.take l.length)) rfl (by rw [stCells_length, List.length_take]; omega) (HRT.out.below hS) hpn' stCells_one (by omega) (Below.size hS) ?_
            intro pa ca w2 ho hg hf
            have HGw2 := Lib.hid hg
            have HOw2 := Lib.hid ho
            have HNB := Lib.hid (Below.grown hS hg (Below.size hS) (fun k hk => by cases hk; simp))
            clear ho hg hf
            refine hK.out _ _ HNB.out (fun hS => ?_)
            clear hK K
            refine wpAnyH_ready (rs := [7]) (by kernel_rfl) (by simp) ?_
            refine AllReadyH.cons rfl (fun K hK => ?_) AllReadyH.nil
            refine step_append_k (by kernel_rfl) _ _ 52 rfl W6.heap.size 34 i0 _ 2 16 Try.underlying52 hi hz0 hz1 (by decide) hz2 (by decide) rfl _ (l.length) (stCells (l.take l.length)) rfl HOw2.out _ (1) (1) (stCells [(st, sr)]) rfl rfl ((Turns.of_grown HGw2.out).rd HS2.out (fun a ha e => by cases ha; have e' : W6.heap.size = W6.heap.size + 1 := Option.some.inj e; omega)) (fun e => by cases e) stCells_one (by omega) (Below.size hS) ?_
            intro pb cb w3 ho hg hf
            have HGw3 := Lib.hid hg
            have HOw3 := Lib.hid ho
            have HNB := Lib.hid (Below.grown hS hg (Below.size hS) (fun k hk => (World.ownsRow.lt HOw2.out k hk).1))
            clear ho hg hf
            refine hK.out _ _ HNB.out (fun hS => ?_)
            clear hK K
            refine wpAnyH_ready (rs := [11]) (by kernel_rfl) (by simp) ?_
            refine AllReadyH.cons rfl (fun K hK => ?_) AllReadyH.nil
            refine step_append_k (by kernel_rfl) _ _ 52 rfl W6.heap.size 34 i0 _ 2 16 Try.underlying52 hi hz0 hz1 (by decide) hz2 (by decide) rfl _ (l.length + 1) (stCells (l.take l.length) ++ stCells [(st, sr)]) rfl HOw3.out _ (0) _ (stCells (l.drop l.length)) rfl (by rw [stCells_length, List.length_drop]; omega) (rd_nil_drop _ _ _) (fun e => by cases e) stCells_one (by omega) (Below.size hS) ?_
            intro pc cc w4 ho hg hf
            have HGw4 := Lib.hid hg
            have HOw4 := Lib.hid ho
            have HNB := Lib.hid (Below.grown hS hg (Below.size hS) (fun k hk => (World.ownsRow.lt HOw3.out k hk).1))
            clear ho hg hf
            refine hK.out _ _ HNB.out (fun hS => ?_)
            clear hK K
            refine wpAnyH_take (i := 12) (v := ?_) rfl (by kernel_rfl) (by kernel_rfl) (by kernel_rfl) (fun _ _ _ h => h) (Or.inl ⟨by kernel_rfl, ?_⟩) hS ?_
            rotate_left
            · intro W hSW
              go_simp
              all_goals with_reducible rfl
            refine wpAnyH_done (by kernel_rfl) ?_ _
            have hE := withed_new HRI.out hn HA.out HNL.out HNE.out (by have h := HOw4.out; rw [Nat.sub_self]; exact h) (HB6.out.trans (Below.mono hS HB6.out.size))
            simp only [Nat.sub_self, Nat.add_zero] at hE
            have HE := Lib.hid hE
            clear hS
            go_simp
            go_wp2
            go_ret
            exact HE.out
        · skip
          go_simp
          refine hK.out _ _ (hS.trans ((Below.refl _ _).alloc (Nat.le_refl _) _)) (fun hS => ?_)
          clear hK K
          refine wpAnyH_ready (rs := [0]) (by kernel_rfl) (by simp) ?_
          refine AllReadyH.cons rfl (fun K hK => ?_) AllReadyH.nil
          go_simp
          refine hK.out _ _ (hS.trans ((Below.refl _ _).alloc (Nat.le_refl _) _)) (fun hS => ?_)
          clear hK K
          refine wpAnyH_ready (rs := [4]) (by kernel_rfl) (by simp) ?_
          refine AllReadyH.cons rfl (fun K hK => ?_) AllReadyH.nil
          refine step_append_k0 (by kernel_rfl) _ _ 52 rfl W6.heap.size 34 i0 _ 2 16 Try.underlying52 hi hz0 hz1 (by decide) hz2 (by decide) rfl _ rfl HL3.out _ (l.length) (cap) (stCells (l.take l.length)) rfl (by rw [stCells_length, List.length_take]; omega) (HRT.out.below hS) hpn' stCells_one (by omega) (Below.size hS) ?_
          intro pa ca w2 ho hg hf
          have HGw2 := Lib.hid hg
          have HOw2 := Lib.hid ho
          have HNB := Lib.hid (Below.grown hS hg (Below.size hS) (fun k hk => by cases hk; simp))
          clear ho hg hf
          refine hK.out _ _ HNB.out (fun hS => ?_)
          clear hK K
          refine wpAnyH_ready (rs := [7]) (by kernel_rfl) (by simp) ?_
          refine AllReadyH.cons rfl (fun K hK => ?_) AllReadyH.nil
          refine step_append_k (by kernel_rfl) _ _ 52 rfl W6.heap.size 34 i0 _ 2 16 Try.underlying52 hi hz0 hz1 (by decide) hz2 (by decide) rfl _ (l.length) (stCells (l.take l.length)) rfl HOw2.out _ (1) (1) (stCells [(st, sr)]) rfl rfl ((Turns.of_grown HGw2.out).rd HS3.out (fun a ha e => by cases ha; have e' : W6.heap.size + 1 = W6.heap.size := Option.some.inj e; omega)) (fun e => by cases e) stCells_one (by omega) (Below.size hS) ?_
          intro pb cb w3 ho hg hf
          have HGw3 := Lib.hid hg
          have HOw3 := Lib.hid ho
          have HNB := Lib.hid (Below.grown hS hg (Below.size hS) (fun k hk => (World.ownsRow.lt HOw2.out k hk).1))
          clear ho hg hf
          refine hK.out _ _ HNB.out (fun hS => ?_)
          clear hK K
          refine wpAnyH_ready (rs := [11]) (by kernel_rfl) (by simp) ?_
          refine AllReadyH.cons rfl (fun K hK => ?_) AllReadyH.nil
          refine step_append_k (by kernel_rfl) _ _ 52 rfl W6.heap.size 34 i0 _ 2 16 Try.underlying52 hi hz0 hz1 (by decide) hz2 (by decide) rfl _ (l.length + 1) (stCells (l.take l.length) ++ stCells [(st, sr)]) rfl HOw3.out _ (0) _ (stCells (l.drop l.length)) rfl (by rw [stCells_length, List.length_drop]; omega) (rd_nil_drop _ _ _) (fun e => by cases e) stCells_one (by omega) (Below.size hS) ?_
          intro pc cc w4 ho hg hf
          have HGw4 := Lib.hid hg
          have HOw4 := Lib.hid ho
          have HNB := Lib.hid (Below.grown hS hg (Below.size hS) (fun k hk => (World.ownsRow.lt HOw3.out k hk).1))
          clear ho hg hf
          refine hK.out _ _ HNB.out (fun hS => ?_)
          clear hK K
          refine wpAnyH_take (i := 12) (v := ?_) rfl (by kernel_rfl) (by kernel_rfl) (by kernel_rfl) (fun _ _ _ h => h) (Or.inl ⟨by kernel_rfl, ?_⟩) hS ?_
          rotate_left
          · intro W hSW
            go_simp
            all_goals with_reducible rfl
          refine wpAnyH_done (by kernel_rfl) ?_ _
          have hE := withed_new HRI.out hn HA.out HNL.out HNE.out (by have h := HOw4.out; rw [Nat.sub_self]; exact h) (HB6.out.trans (Below.mono hS HB6.out.size))
          simp only [Nat.sub_self, Nat.add_zero] at hE
          have HE := Lib.hid hE
          clear hS
          go_simp
          go_wp2
          go_ret
          exact HE.out
      · skip
        have HRDR := Lib.hid (show Rd W6 p (stCells (l.drop l.length)) from by rw [List.drop_of_length_le (by omega)]; exact Rd.nil _ _)
        have HRT := Lib.hid (show Rd W6 p (stCells (l.take l.length)) from by rw [← stCells_take]; exact HRW.out.take (l.length * 2))
        have hpn' := HPP.out
        obtain rfl : cap = l.length := by omega
        have HS2 := Lib.hid (show Rd ((W6.alloc (.cells #[] 34)).alloc (.cells #[.int .i64 st, .int .i64 sr] 34)).drew (some ⟨W6.heap.size + 1, 0, none⟩) (stCells [(st, sr)]) from by
          have h := rd_st_one (W6.alloc (.cells #[] 34)) (st, sr) 34
          simp only [World.size_alloc] at h
          exact h)
        have HS3 := Lib.hid (show Rd ((W6.alloc (.cells #[.int .i64 st, .int .i64 sr] 34)).alloc (.cells #[] 34)).drew (some ⟨W6.heap.size, 0, none⟩) (stCells [(st, sr)]) from (rd_st_one W6 (st, sr) 34).below (((Below.refl _ _).alloc (Nat.le_refl _) _).drew))
        have HL3 := Lib.hid (show ((W6.alloc (.cells #[.int .i64 st, .int .i64 sr] 34)).alloc (.cells #[] 34)).drew.ownsRow W6.heap.size 34 2 (.slice (some ⟨W6.heap.size + 1, 0, none⟩) 0 0) 0 [] from by
          have h := World.ownsRow_lit (base := W6.heap.size) (e := 34) (size := 2) (W6.alloc (.cells #[.int .i64 st, .int .i64 sr] 34)) #[] 0 (by simp) (by simp [maxLen]) (by simp)
          simp only [World.size_alloc] at h
          exact h)
        refine wp_region_held_drew (S := Bel W6) (by kernel_rfl) (Bel.start W6) (fun hS => ?_)
        refine wpAnyH_take (i := 1) (v := ?_) rfl (by kernel_rfl) (by kernel_rfl) (by kernel_rfl) (fun _ _ _ h => h) (Or.inl ⟨by kernel_rfl, ?_⟩) hS ?_
        rotate_left
        · intro W hSW
          go_simp
          all_goals with_reducible rfl
        refine wpAnyH_take (i := 2) (v := ?_) rfl (by kernel_rfl) (by kernel_rfl) (by kernel_rfl) (fun _ _ _ h => h) (Or.inl ⟨by kernel_rfl, ?_⟩) hS ?_
        rotate_left
        · intro W hSW
          go_simp
          all_goals with_reducible rfl
        refine wpAnyH_take (i := 3) (v := ?_) rfl (by kernel_rfl) (by kernel_rfl) (by kernel_rfl) (fun _ _ _ h => h) (Or.inl ⟨by kernel_rfl, ?_⟩) hS ?_
        rotate_left
        · intro W hSW
          go_simp
          all_goals with_reducible rfl
        refine wpAnyH_take (i := 5) (v := ?_) rfl (by kernel_rfl) (by kernel_rfl) (by kernel_rfl) (fun _ _ _ h => h) (Or.inl ⟨by kernel_rfl, ?_⟩) hS ?_
        rotate_left
        · intro W hSW
          have s0' := hSW.get s0
          have s1' := hSW.get s1
          go_simp
          all_goals with_reducible rfl
        refine wpAnyH_take (i := 8) (v := ?_) rfl (by kernel_rfl) (by kernel_rfl) (by kernel_rfl) (fun _ _ _ h => h) (Or.inl ⟨by kernel_rfl, ?_⟩) hS ?_
        rotate_left
        · intro W hSW
          go_simp
          all_goals with_reducible rfl
        refine wpAnyH_take (i := 9) (v := ?_) rfl (by kernel_rfl) (by kernel_rfl) (by kernel_rfl) (fun _ _ _ h => h) (Or.inl ⟨by kernel_rfl, ?_⟩) hS ?_
        rotate_left
        · intro W hSW
          go_simp
          all_goals with_reducible rfl
        refine wpAnyH_take (i := 10) (v := ?_) rfl (by kernel_rfl) (by kernel_rfl) (by kernel_rfl) (fun _ _ _ h => h) (Or.inl ⟨by kernel_rfl, ?_⟩) hS ?_
        rotate_left
        · intro W hSW
          go_simp
          all_goals with_reducible rfl
        refine wpAnyH_ready (rs := [0, 6]) (by kernel_rfl) (by simp) ?_
        refine AllReadyH.cons rfl (fun K hK => ?_) (AllReadyH.cons rfl (fun K hK => ?_) AllReadyH.nil)
        · skip
          go_simp
          refine hK.out _ _ (hS.trans ((Below.refl _ _).alloc (Nat.le_refl _) _)) (fun hS => ?_)
          clear hK K
          refine wpAnyH_ready (rs := [4, 6]) (by kernel_rfl) (by simp) ?_
          refine AllReadyH.cons rfl (fun K hK => ?_) (AllReadyH.cons rfl (fun K hK => ?_) AllReadyH.nil)
          · skip
            refine step_append_k0 (by kernel_rfl) _ _ 52 rfl W6.heap.size 34 i0 _ 2 16 Try.underlying52 hi hz0 hz1 (by decide) hz2 (by decide) rfl _ rfl (World.ownsRow_lit (base := W6.heap.size) (e := 34) (size := 2) W6 #[] 0 (by simp) (by simp [maxLen]) (by simp)) _ (l.length) (l.length) (stCells (l.take l.length)) rfl (by rw [stCells_length, List.length_take]; omega) (HRT.out.below hS) hpn' stCells_one (by omega) (Below.size hS) ?_
            intro pa ca w2 ho hg hf
            have HGw2 := Lib.hid hg
            have HOw2 := Lib.hid ho
            have HNB := Lib.hid (Below.grown hS hg (Below.size hS) (fun k hk => by cases hk; simp))
            clear ho hg hf
            refine hK.out _ _ HNB.out (fun hS => ?_)
            clear hK K
            refine wpAnyH_ready (rs := [6]) (by kernel_rfl) (by simp) ?_
            refine AllReadyH.cons rfl (fun K hK => ?_) AllReadyH.nil
            go_simp
            refine hK.out _ _ (hS.trans ((Below.refl _ _).alloc (Nat.le_refl _) _)) (fun hS => ?_)
            clear hK K
            refine wpAnyH_ready (rs := [7]) (by kernel_rfl) (by simp) ?_
            refine AllReadyH.cons rfl (fun K hK => ?_) AllReadyH.nil
            refine step_append_k (by kernel_rfl) _ _ 52 rfl W6.heap.size 34 i0 _ 2 16 Try.underlying52 hi hz0 hz1 (by decide) hz2 (by decide) rfl _ (l.length) (stCells (l.take l.length)) rfl (HOw2.out.alloc _) _ (1) (1) (stCells [(st, sr)]) rfl rfl (rd_st_one w2 (st, sr) 34) (fun e => by cases e) stCells_one (by omega) (Below.size hS) ?_
            intro pb cb w3 ho hg hf
            have HGw3 := Lib.hid hg
            have HOw3 := Lib.hid ho
            have HNB := Lib.hid (Below.grown hS hg (Below.size hS) (fun k hk => (World.ownsRow.lt HOw2.out k hk).1))
            clear ho hg hf
            refine hK.out _ _ HNB.out (fun hS => ?_)
            clear hK K
            refine wpAnyH_ready (rs := [11]) (by kernel_rfl) (by simp) ?_
            refine AllReadyH.cons rfl (fun K hK => ?_) AllReadyH.nil
            refine step_append_k (by kernel_rfl) _ _ 52 rfl W6.heap.size 34 i0 _ 2 16 Try.underlying52 hi hz0 hz1 (by decide) hz2 (by decide) rfl _ (l.length + 1) (stCells (l.take l.length) ++ stCells [(st, sr)]) rfl HOw3.out _ (0) _ (stCells (l.drop l.length)) rfl (by rw [stCells_length, List.length_drop]; omega) (rd_nil_drop _ _ _) (fun _ => rfl) stCells_one (by omega) (Below.size hS) ?_
            intro pc cc w4 ho hg hf
            have HGw4 := Lib.hid hg
            have HOw4 := Lib.hid ho
            have HNB := Lib.hid (Below.grown hS hg (Below.size hS) (fun k hk => (World.ownsRow.lt HOw3.out k hk).1))
            clear ho hg hf
            refine hK.out _ _ HNB.out (fun hS => ?_)
            clear hK K
            refine wpAnyH_take (i := 12) (v := ?_) rfl (by kernel_rfl) (by kernel_rfl) (by kernel_rfl) (fun _ _ _ h => h) (Or.inl ⟨by kernel_rfl, ?_⟩) hS ?_
            rotate_left
            · intro W hSW
              go_simp
              all_goals with_reducible rfl
            refine wpAnyH_done (by kernel_rfl) ?_ _
            have hE := withed_new HRI.out hn HA.out HNL.out HNE.out (by have h := HOw4.out; rw [Nat.sub_self]; exact h) (HB6.out.trans (Below.mono hS HB6.out.size))
            simp only [Nat.sub_self, Nat.add_zero] at hE
            have HE := Lib.hid hE
            clear hS
            go_simp
            go_wp2
            go_ret
            exact HE.out
          · skip
            go_simp
            refine hK.out _ _ (hS.trans ((Below.refl _ _).alloc (Nat.le_refl _) _)) (fun hS => ?_)
            clear hK K
            refine wpAnyH_ready (rs := [4]) (by kernel_rfl) (by simp) ?_
            refine AllReadyH.cons rfl (fun K hK => ?_) AllReadyH.nil
            refine step_append_k0 (by kernel_rfl) _ _ 52 rfl W6.heap.size 34 i0 _ 2 16 Try.underlying52 hi hz0 hz1 (by decide) hz2 (by decide) rfl _ rfl ((World.ownsRow_lit (base := W6.heap.size) (e := 34) (size := 2) W6 #[] 0 (by simp) (by simp [maxLen]) (by simp)).alloc _) _ (l.length) (l.length) (stCells (l.take l.length)) rfl (by rw [stCells_length, List.length_take]; omega) (HRT.out.below hS) hpn' stCells_one (by omega) (Below.size hS) ?_
            intro pa ca w2 ho hg hf
            have HGw2 := Lib.hid hg
            have HOw2 := Lib.hid ho
            have HNB := Lib.hid (Below.grown hS hg (Below.size hS) (fun k hk => by cases hk; simp))
            clear ho hg hf
            refine hK.out _ _ HNB.out (fun hS => ?_)
            clear hK K
            refine wpAnyH_ready (rs := [7]) (by kernel_rfl) (by simp) ?_
            refine AllReadyH.cons rfl (fun K hK => ?_) AllReadyH.nil
            refine step_append_k (by kernel_rfl) _ _ 52 rfl W6.heap.size 34 i0 _ 2 16 Try.underlying52 hi hz0 hz1 (by decide) hz2 (by decide) rfl _ (l.length) (stCells (l.take l.length)) rfl HOw2.out _ (1) (1) (stCells [(st, sr)]) rfl rfl ((Turns.of_grown HGw2.out).rd HS2.out (fun a ha e => by cases ha; have e' : W6.heap.size = W6.heap.size + 1 := Option.some.inj e; omega)) (fun e => by cases e) stCells_one (by omega) (Below.size hS) ?_
            intro pb cb w3 ho hg hf
            have HGw3 := Lib.hid hg
            have HOw3 := Lib.hid ho
            have HNB := Lib.hid (Below.grown hS hg (Below.size hS) (fun k hk => (World.ownsRow.lt HOw2.out k hk).1))
            clear ho hg hf
            refine hK.out _ _ HNB.out (fun hS => ?_)
            clear hK K
            refine wpAnyH_ready (rs := [11]) (by kernel_rfl) (by simp) ?_
            refine AllReadyH.cons rfl (fun K hK => ?_) AllReadyH.nil
            refine step_append_k (by kernel_rfl) _ _ 52 rfl W6.heap.size 34 i0 _ 2 16 Try.underlying52 hi hz0 hz1 (by decide) hz2 (by decide) rfl _ (l.length + 1) (stCells (l.take l.length) ++ stCells [(st, sr)]) rfl HOw3.out _ (0) _ (stCells (l.drop l.length)) rfl (by rw [stCells_length, List.length_drop]; omega) (rd_nil_drop _ _ _) (fun _ => rfl) stCells_one (by omega) (Below.size hS) ?_
            intro pc cc w4 ho hg hf
            have HGw4 := Lib.hid hg
            have HOw4 := Lib.hid ho
            have HNB := Lib.hid (Below.grown hS hg (Below.size hS) (fun k hk => (World.ownsRow.lt HOw3.out k hk).1))
            clear ho hg hf
            refine hK.out _ _ HNB.out (fun hS => ?_)
            clear hK K
            refine wpAnyH_take (i := 12) (v := ?_) rfl (by kernel_rfl) (by kernel_rfl) (by kernel_rfl) (fun _ _ _ h => h) (Or.inl ⟨by kernel_rfl, ?_⟩) hS ?_
            rotate_left
            · intro W hSW
              go_simp
              all_goals with_reducible rfl
            refine wpAnyH_done (by kernel_rfl) ?_ _
            have hE := withed_new HRI.out hn HA.out HNL.out HNE.out (by have h := HOw4.out; rw [Nat.sub_self]; exact h) (HB6.out.trans (Below.mono hS HB6.out.size))
            simp only [Nat.sub_self, Nat.add_zero] at hE
            have HE := Lib.hid hE
            clear hS
            go_simp
            go_wp2
            go_ret
            exact HE.out
        · skip
          go_simp
          refine hK.out _ _ (hS.trans ((Below.refl _ _).alloc (Nat.le_refl _) _)) (fun hS => ?_)
          clear hK K
          refine wpAnyH_ready (rs := [0]) (by kernel_rfl) (by simp) ?_
          refine AllReadyH.cons rfl (fun K hK => ?_) AllReadyH.nil
          go_simp
          refine hK.out _ _ (hS.trans ((Below.refl _ _).alloc (Nat.le_refl _) _)) (fun hS => ?_)
          clear hK K
          refine wpAnyH_ready (rs := [4]) (by kernel_rfl) (by simp) ?_
          refine AllReadyH.cons rfl (fun K hK => ?_) AllReadyH.nil
          refine step_append_k0 (by kernel_rfl) _ _ 52 rfl W6.heap.size 34 i0 _ 2 16 Try.underlying52 hi hz0 hz1 (by decide) hz2 (by decide) rfl _ rfl HL3.out _ (l.length) (l.length) (stCells (l.take l.length)) rfl (by rw [stCells_length, List.length_take]; omega) (HRT.out.below hS) hpn' stCells_one (by omega) (Below.size hS) ?_
          intro pa ca w2 ho hg hf
          have HGw2 := Lib.hid hg
          have HOw2 := Lib.hid ho
          have HNB := Lib.hid (Below.grown hS hg (Below.size hS) (fun k hk => by cases hk; simp))
          clear ho hg hf
          refine hK.out _ _ HNB.out (fun hS => ?_)
          clear hK K
          refine wpAnyH_ready (rs := [7]) (by kernel_rfl) (by simp) ?_
          refine AllReadyH.cons rfl (fun K hK => ?_) AllReadyH.nil
          refine step_append_k (by kernel_rfl) _ _ 52 rfl W6.heap.size 34 i0 _ 2 16 Try.underlying52 hi hz0 hz1 (by decide) hz2 (by decide) rfl _ (l.length) (stCells (l.take l.length)) rfl HOw2.out _ (1) (1) (stCells [(st, sr)]) rfl rfl ((Turns.of_grown HGw2.out).rd HS3.out (fun a ha e => by cases ha; have e' : W6.heap.size + 1 = W6.heap.size := Option.some.inj e; omega)) (fun e => by cases e) stCells_one (by omega) (Below.size hS) ?_
          intro pb cb w3 ho hg hf
          have HGw3 := Lib.hid hg
          have HOw3 := Lib.hid ho
          have HNB := Lib.hid (Below.grown hS hg (Below.size hS) (fun k hk => (World.ownsRow.lt HOw2.out k hk).1))
          clear ho hg hf
          refine hK.out _ _ HNB.out (fun hS => ?_)
          clear hK K
          refine wpAnyH_ready (rs := [11]) (by kernel_rfl) (by simp) ?_
          refine AllReadyH.cons rfl (fun K hK => ?_) AllReadyH.nil
          refine step_append_k (by kernel_rfl) _ _ 52 rfl W6.heap.size 34 i0 _ 2 16 Try.underlying52 hi hz0 hz1 (by decide) hz2 (by decide) rfl _ (l.length + 1) (stCells (l.take l.length) ++ stCells [(st, sr)]) rfl HOw3.out _ (0) _ (stCells (l.drop l.length)) rfl (by rw [stCells_length, List.length_drop]; omega) (rd_nil_drop _ _ _) (fun _ => rfl) stCells_one (by omega) (Below.size hS) ?_
          intro pc cc w4 ho hg hf
          have HGw4 := Lib.hid hg
          have HOw4 := Lib.hid ho
          have HNB := Lib.hid (Below.grown hS hg (Below.size hS) (fun k hk => (World.ownsRow.lt HOw3.out k hk).1))
          clear ho hg hf
          refine hK.out _ _ HNB.out (fun hS => ?_)
          clear hK K
          refine wpAnyH_take (i := 12) (v := ?_) rfl (by kernel_rfl) (by kernel_rfl) (by kernel_rfl) (fun _ _ _ h => h) (Or.inl ⟨by kernel_rfl, ?_⟩) hS ?_
          rotate_left
          · intro W hSW
            go_simp
            all_goals with_reducible rfl
          refine wpAnyH_done (by kernel_rfl) ?_ _
          have hE := withed_new HRI.out hn HA.out HNL.out HNE.out (by have h := HOw4.out; rw [Nat.sub_self]; exact h) (HB6.out.trans (Below.mono hS HB6.out.size))
          simp only [Nat.sub_self, Nat.add_zero] at hE
          have HE := Lib.hid hE
          clear hS
          go_simp
          go_wp2
          go_ret
          exact HE.out

end Go.Proofs.Ytmenlfgfhnnmgaa
