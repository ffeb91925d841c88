/-
  QueuePlays' walk: two queues beside the document's two, by turns.
  Conditions: none.
-/
import Derived.Test.YtmenlfgfhnnmgaaQStepP
import Derived.Test.YtmenlfgfhnnmgaaQItems
import Derived.Test.YtmenlfgfhnnmgaaQKnows
import Derived.Test.YtmenlfgfhnnmgaaLiftKit5
namespace Go.Proofs.Ytmenlfgfhnnmgaa
open Go.RowKit

/-- act k of a row -/
def actAt (l : List ActQ) (k : Nat) : ActQ := l.getD k (0, ((0, 0), 0))
theorem actC_get (l : List ActQ) (i : Nat) (h : i < l.length) : (l.flatMap actC)[i * 4]? = some (.int .i64 (actAt l i).1) ∧ (l.flatMap actC)[i * 4 + 1]? = some (.int .i64 (actAt l i).2.1.1) ∧ (l.flatMap actC)[i * 4 + 2]? = some (.int .i64 (actAt l i).2.1.2) ∧ (l.flatMap actC)[i * 4 + 3]? = some (.int .i64 (actAt l i).2.2) := by
  induction l generalizing i with
  | nil => simp at h
  | cons a l ih =>
    cases i with
    | zero => simp [actC, actAt]
    | succ i =>
      have := ih i (by simpa using h)
      have e : (i + 1) * 4 = i * 4 + 1 + 1 + 1 + 1 := by omega
      rw [e]
      simpa [actC, actAt] using this
theorem actC_length (l : List ActQ) : (l.flatMap actC).length = l.length * 4 := by
  induction l with
  | nil => rfl
  | cons a l ih => simp only [List.flatMap_cons, List.length_append, List.length_cons, actC, List.length_nil] at ih ⊢; omega
theorem Rd.act {w : World} {b o : Nat} {l : List ActQ} (h : Rd w (some ⟨b, o, none⟩) (l.flatMap actC)) (i : Nat) (hi : i < l.length) :
    w.cell? ⟨b, o + i * 4, none⟩ = some (.int .i64 (actAt l i).1) ∧ w.cell? ⟨b, o + i * 4 + 1, none⟩ = some (.int .i64 (actAt l i).2.1.1) ∧ w.cell? ⟨b, o + i * 4 + 2, none⟩ = some (.int .i64 (actAt l i).2.1.2) ∧ w.cell? ⟨b, o + i * 4 + 3, none⟩ = some (.int .i64 (actAt l i).2.2) := by
  obtain ⟨h0, h1, h2, h3⟩ := actC_get l i hi
  exact ⟨h.cell h0, by rw [Nat.add_assoc]; exact h.cell h1, by rw [Nat.add_assoc]; exact h.cell h2, by rw [Nat.add_assoc]; exact h.cell h3⟩

/-- two pairs, apart, in new blocks -/
structure Two (w : World) (q s q2 s2 : Nat) (A B : Nat → Prop) (n m : Nat) (W : World) : Prop where
  below : Below w.heap.size w W
  one : Pair W q s A n
  two : Pair W q2 s2 B m
  ap : ∀ k, A k → ¬ B k
  ha : ∀ k, A k → w.heap.size ≤ k ∧ k < W.heap.size
  hb : ∀ k, B k → w.heap.size ≤ k ∧ k < W.heap.size
theorem Two.step1 {w W W' : World} {q s q2 s2 n m : Nat} {A B : Nat → Prop} {e : Ending} (h : Two w q s q2 s2 A B n m W) (k : Stepped q s A n W e W') : Two w q s q2 s2 (ext A W W') B (n + 1) m W' := by
  obtain ⟨-, k1, k2⟩ := k
  have hs := h.below.size
  have hz := k2.size
  refine ⟨h.below.trans (k2.below (fun j _ hj => (h.ha j hj).1) hs), k1, h.two.turns k2 fun j hj ha => h.ap j ha hj, fun j hj hb => ?_, fun j hj => ?_, fun j hj => ?_⟩
  · rcases hj with hj | hj
    · exact h.ap j hj hb
    · have := (h.hb j hb).2; omega
  · rcases hj with hj | hj
    · have := h.ha j hj; omega
    · omega
  · have := h.hb j hj; omega
theorem Two.step2 {w W W' : World} {q s q2 s2 n m : Nat} {A B : Nat → Prop} {e : Ending} (h : Two w q s q2 s2 A B n m W) (k : Stepped q2 s2 B m W e W') : Two w q s q2 s2 A (ext B W W') n (m + 1) W' := by
  obtain ⟨-, k1, k2⟩ := k
  have hs := h.below.size
  have hz := k2.size
  refine ⟨h.below.trans (k2.below (fun j _ hj => (h.hb j hj).1) hs), h.one.turns k2 fun j hj hb => h.ap j hj hb, k1, fun j hj hb => ?_, fun j hj => ?_, fun j hj => ?_⟩
  · rcases hb with hb | hb
    · exact h.ap j hj hb
    · have := (h.ha j hj).2; omega
  · have := h.ha j hj; omega
  · rcases hj with hj | hj
    · have := h.hb j hj; omega
    · omega
theorem Two.mono {w W : World} {q s q2 s2 n m n' m' : Nat} {A B : Nat → Prop} (h : Two w q s q2 s2 A B n m W) (hn : n ≤ n') (hm : m ≤ m') : Two w q s q2 s2 A B n' m' W :=
  ⟨h.below, h.one.mono (fun _ h => h) hn, h.two.mono (fun _ h => h) hm, h.ap, h.ha, h.hb⟩
theorem Two.more {w W W' : World} {q s q2 s2 n m : Nat} {A B : Nat → Prop} (h : Two w q s q2 s2 A B n m W) (hb : Below W.heap.size W W') : Two w q s q2 s2 A B n m W' :=
  ⟨h.below.trans (hb.mono h.below.size), h.one.turns (Turns.of_below (F := fun _ => False) hb) fun _ _ h => h, h.two.turns (Turns.of_below (F := fun _ => False) hb) fun _ _ h => h, h.ap,
    fun k hk => by have := h.ha k hk; have := hb.size; omega, fun k hk => by have := h.hb k hk; have := hb.size; omega⟩

/-- as the law begins -/
theorem Two.start {w w1 w2 w3 wa : World} {q q2 : Nat} {l : List Qm.It} {pa : Option Addr} {ca : Nat} (hb1 : Below w.heap.size w w1) (hq : QO w2 q (fun k => w1.heap.size ≤ k ∧ k < w2.heap.size) l) (hb2 : Below w1.heap.size w1 w2)
    (hp : QO w3 q2 (fun k => w2.heap.size ≤ k ∧ k < w3.heap.size) []) (hb3 : Below w2.heap.size w2 w3) (ho : wa.ownsRow w3.heap.size 36 3 (.slice pa l.length ca) l.length (itCells l)) (hba : Below w3.heap.size w3 wa) (hl : l.length ≤ 200) :
    Two w q wa.heap.size q2 (wa.heap.size + 1) (fun k => (w1.heap.size ≤ k ∧ k < w2.heap.size) ∨ (w3.heap.size ≤ k ∧ k < wa.heap.size + 1)) (fun k => (w2.heap.size ≤ k ∧ k < w3.heap.size) ∨ (wa.heap.size + 1 ≤ k ∧ k < wa.heap.size + 2)) 200 0
      ((wa.alloc (.cells #[.slice pa l.length ca] 31)).alloc (.cells #[.slice none 0 0] 31)) := by
  have z1 := hb1.size
  have z2 := hb2.size
  have z3 := hb3.size
  have za := hba.size
  have hlt := World.ownsRow.lt ho
  have e1 : (wa.alloc (.cells #[.slice pa l.length ca] 31)).heap.size = wa.heap.size + 1 := by simp
  have e2 : ((wa.alloc (.cells #[.slice pa l.length ca] 31)).alloc (.cells #[.slice none 0 0] 31)).heap.size = wa.heap.size + 2 := by simp
  have B1 : Below wa.heap.size wa (wa.alloc (.cells #[.slice pa l.length ca] 31)) := (Below.refl _ _).alloc (Nat.le_refl _) _
  have B2 : Below (wa.heap.size + 1) (wa.alloc (.cells #[.slice pa l.length ca] 31)) ((wa.alloc (.cells #[.slice pa l.length ca] 31)).alloc (.cells #[.slice none 0 0] 31)) := (Below.refl _ _).alloc (by rw [e1]; omega) _
  have B : Below wa.heap.size wa ((wa.alloc (.cells #[.slice pa l.length ca] 31)).alloc (.cells #[.slice none 0 0] 31)) := B1.trans (B2.mono (by omega))
  obtain ⟨hA, hfA⟩ := at3 wa #[Value.slice pa l.length ca] 31 _ rfl
  obtain ⟨hB, hfB⟩ := at3 (wa.alloc (.cells #[.slice pa l.length ca] 31)) #[Value.slice none 0 0] 31 _ e1
  have hq4 : QO ((wa.alloc (.cells #[.slice pa l.length ca] 31)).alloc (.cells #[.slice none 0 0] 31)) q (fun k => w1.heap.size ≤ k ∧ k < w2.heap.size) l := ((hq.below hb3).below hba).below B
  have hp4 : QO ((wa.alloc (.cells #[.slice pa l.length ca] 31)).alloc (.cells #[.slice none 0 0] 31)) q2 (fun k => w2.heap.size ≤ k ∧ k < w3.heap.size) [] := (hp.below hba).below B
  refine ⟨hb1.trans ((hb2.trans ((hb3.trans ((hba.trans (B.mono (by omega))).mono (by omega))).mono (by omega))).mono (by omega)), ⟨_, pa, ca, l, l, hq4, ⟨?_, ?_, ?_, ?_, by omega⟩, List.Perm.refl _, hl, fun k hk => Or.inl hk, Or.inr ⟨za, by omega⟩, fun a ha => ?_, ?_, fun a ha => ?_⟩,
    ⟨_, none, 0, [], [], hp4, ⟨?_, hfB 0, World.ownsRow_nil _ _ _ _, (fun a ha => by cases ha), by simp⟩, List.Perm.refl _, Nat.le_refl _, fun k hk => Or.inl hk, Or.inr ⟨by omega, by omega⟩, (fun a ha => by cases ha), ?_, (fun a ha => by cases ha)⟩, ?_, ?_, ?_⟩
  · rw [B2.cell (by show wa.heap.size < _; omega), hA]; rfl
  · rw [B2.frozen (by show wa.heap.size < _; omega)]; exact hfA 0
  · exact (own_base ho fun _ _ => Nat.zero_le _).alloc _ |>.alloc _
  · intro a ha e
    have := (hlt a.block (by rw [ha]; rfl)).2
    omega
  · have := hlt a.block (by rw [ha]; rfl)
    right; omega
  · intro h; omega
  · have := hlt a.block (by rw [ha]; rfl)
    intro h; omega
  · rw [hB]; rfl
  · intro h; omega
  · rintro k (h | h) (h' | h') <;> omega
  · rintro k (h | h) <;> omega
  · rintro k (h | h) <;> omega

set_option maxRecDepth 100000 in
set_option maxHeartbeats 2000000 in
theorem plays_early (p0 p1 p2 : Option Addr) (c0 c1 c2 n0 n1 n2 : Nat) (w : World) (h : 200 < n0 ∨ 300 < n1 ∨ 300 < n2) :
    Calls Try.prog 3 #[.slice p0 n0 c0, .slice p1 n1 c1, .slice p2 n2 c2] w (Yes w) := by
  have HK := Lib.hid (knows_any w)
  by_cases h0 : 200 < n0
  · have d0 : decide (200 < (n0 : Int)) = true := decide_eq_true (by omega)
    clear h
    go_enter Try.func3, Try.ntmps3
    go_wp2_with fail
    refine HK.out.mono ?_
    rintro e w1 ⟨rfl, hb⟩
    go_wp2
    go_ret
    exact ⟨rfl, hb⟩
  · have d0 : decide (200 < (n0 : Int)) = false := decide_eq_false (by omega)
    by_cases h1 : 300 < n1
    · have d1 : decide (300 < (n1 : Int)) = true := decide_eq_true (by omega)
      clear h
      go_enter Try.func3, Try.ntmps3
      go_wp2_with fail
      refine HK.out.mono ?_
      rintro e w1 ⟨rfl, hb⟩
      go_wp2
      go_ret
      exact ⟨rfl, hb⟩
    · have d1 : decide (300 < (n1 : Int)) = false := decide_eq_false (by omega)
      have d2 : decide (300 < (n2 : Int)) = true := decide_eq_true (by omega)
      clear h
      go_enter Try.func3, Try.ntmps3
      go_wp2_with fail
      refine HK.out.mono ?_
      rintro e w1 ⟨rfl, hb⟩
      go_wp2
      go_ret
      exact ⟨rfl, hb⟩

set_option maxRecDepth 100000 in
set_option maxHeartbeats 4000000 in
theorem queuePlays_walk (p0 : Option Addr) (c0 : Nat) (l0 : List Qm.It) (p1 : Option Addr) (c1 : Nat) (l1 : List ActQ) (p2 : Option Addr) (c2 : Nat) (l2 : List ActQ) (w : World) (r0 : Rd w p0 (itCells l0)) (_ : l0.length ≤ c0) (n0 : p0 = none → c0 = 0)
    (r1 : Rd w p1 (l1.flatMap actC)) (_ : l1.length ≤ c1) (_ : p1 = none → c1 = 0) (r2 : Rd w p2 (l2.flatMap actC)) (_ : l2.length ≤ c2) (_ : p2 = none → c2 = 0) :
    Calls Try.prog 3 #[.slice p0 l0.length c0, .slice p1 l1.length c1, .slice p2 l2.length c2] w (Yes w) := by
  by_cases hbig : 200 < l0.length ∨ 300 < l1.length ∨ 300 < l2.length
  · exact plays_early p0 p1 p2 c0 c1 c2 _ _ _ w hbig
  · have q0 : l0.length ≤ 200 := by omega
    have q1 : l1.length ≤ 300 := by omega
    have q2 : l2.length ≤ 300 := by omega
    have d0 : decide (200 < (l0.length : Int)) = false := decide_eq_false (by omega)
    have d1 : decide (300 < (l1.length : Int)) = false := decide_eq_false (by omega)
    have d2 : decide (300 < (l2.length : Int)) = false := decide_eq_false (by omega)
    obtain ⟨i0, hi, hz0, hz1, hz2⟩ := info_parts info_ritem
    have HR0 := Lib.hid r0
    have HR1 := Lib.hid r1
    have HR2 := Lib.hid r2
    have HN0 := Lib.hid n0
    have HI := Lib.hid (items_any p0 c0 l0 w r0 (by omega))
    clear r0 r1 r2 n0 hbig
    go_enter Try.func3, Try.ntmps3
    go_wp2_with fail
    refine HI.out.mono ?_
    rintro e w1 ⟨px, cx, rfl, hox, hb1⟩
    obtain ⟨px', cx', ex, hrx, hlx, -, hnx, -⟩ := own_rd hox
    obtain ⟨rfl, rfl⟩ : px = px' ∧ cx = cx' := by cases ex; exact ⟨rfl, rfl⟩
    have HB1 := Lib.hid hb1
    have HN := Lib.hid (new_any px cx l0 w1 hrx hnx (by omega) hlx)
    clear hox hb1 ex hrx hlx hnx
    go_wp2_with fail
    refine HN.out.mono ?_
    rintro e w2 ⟨q, rfl, hq, hb2⟩
    have HQ := Lib.hid hq
    have HB2 := Lib.hid hb2
    have HN2 := Lib.hid (new_any none 0 [] w2 (Rd.nil _ _) (fun _ => rfl) (by simp) (by simp))
    clear hq hb2
    go_wp2_with fail
    refine HN2.out.mono ?_
    rintro e w3 ⟨q2, rfl, hp, hb3⟩
    have HP := Lib.hid hp
    have HB3 := Lib.hid hb3
    have HB03 := Lib.hid (HB1.out.trans ((HB2.out.trans (hb3.mono HB2.out.size)).mono HB1.out.size))
    have ho0 := World.ownsRow_lit (base := w3.heap.size) (e := 36) (size := 3) w3 #[] 0 (Nat.le_refl _) (by simp [maxLen]) (by simp)
    have HO0 := Lib.hid ho0
    have hba : Below w3.heap.size w3 (w3.alloc (.cells #[] 36)) := (Below.refl _ _).alloc (Nat.le_refl _) _
    have HBA := Lib.hid hba
    have HA0 := Lib.hid ((HR0.out.below HB03.out).below hba)
    clear hp hb3 ho0 hba
    go_wp2_with (at_builtin; refine wpList_append_k rfl (.tmp 30) _ 22 rfl w3.heap.size 36 i0 _ 3 24 Try.underlying22 hi hz0 hz1 (by decide) hz2 (by decide) rfl _ 0 [] rfl HO0.out _ l0.length c0 (itCells l0) rfl (itCells_length l0) HA0.out HN0.out itCells_one (by omega) (by simp) ?_)
    intro pa ca wa hoa hga _
    have HBA1 := Lib.hid (HBA.out.grown hga (by simp) (fun k hk => by cases hk; exact Nat.le_refl _))
    have hza : 0 + l0.length = l0.length := by omega
    have HTW := Lib.hid (Two.start HB1.out HQ.out HB2.out HP.out HB3.out (pa := pa) (ca := ca) (by simpa using hoa) HBA1.out q0)
    clear hoa hga
    go_wp2_with fail
    refine (knows_any _).mono ?_
    rintro e w5 ⟨rfl, hb5⟩
    have HT5 := Lib.hid (HTW.out.more hb5)
    clear hb5
    go_wp2
    go_loopw [11] (fun i wr => ∃ (k : Nat) (A B : Nat → Prop), k ≤ 300 ∧ (k ≤ l1.length ∨ k ≤ l2.length) ∧ i = .int .i64 (k : Int) ∧ Two w q wa.heap.size q2 (wa.heap.size + 1) A B (200 + k) k wr) (fun i _ => (l1.length + l2.length) - (intOf i).toNat)
    case atStart => exact ⟨0, _, _, Nat.zero_le _, Or.inl (Nat.zero_le _), rfl, HT5.out⟩
    case round =>
      obtain ⟨k, A, B, hk3, hk, rfl, htw⟩ := hrel
      have HTR := Lib.hid htw
      clear htw
      by_cases hl1 : k < l1.length
      · obtain ⟨b, o, rfl, -⟩ := (HR1.out.below HTR.out.below).addr (by rw [actC_length]; omega)
        obtain ⟨x0, x1, x2, x3⟩ := (HR1.out.below HTR.out.below).act k hl1
        have HS1 := Lib.hid (fun kd t r g => step_any q wa.heap.size A (200 + k) kd t r g wr HTR.out.one (fun j hj => (HTR.out.ha j hj).2) (by omega))
        have e1 : decide ((k : Int) < (l1.length : Int)) = true := decide_eq_true (by omega)
        generalize actAt l1 k = x at *
        obtain ⟨kd, ⟨t, r⟩, g⟩ := x
        dsimp only at x0 x1 x2 x3
        by_cases hl2 : k < l2.length
        · have e2 : decide ((k : Int) < (l2.length : Int)) = true := decide_eq_true (by omega)
          go_wp2_with fail
          refine (HS1.out kd t r g).mono ?_
          rintro e w6 hst
          have HT6 := Lib.hid (HTR.out.step1 hst)
          obtain ⟨rfl, -⟩ := hst
          clear x0 x1 x2 x3
          obtain ⟨b2, o2, rfl, -⟩ := (HR2.out.below HT6.out.below).addr (by rw [actC_length]; omega)
          obtain ⟨x0, x1, x2, x3⟩ := (HR2.out.below HT6.out.below).act k hl2
          have HS2 := Lib.hid (fun kd t r g => step_any q2 (wa.heap.size + 1) B k kd t r g w6 HT6.out.two (fun j hj => (HT6.out.hb j hj).2) (by omega))
          generalize actAt l2 k = y at *
          obtain ⟨kd', ⟨t', r'⟩, g'⟩ := y
          dsimp only at x0 x1 x2 x3
          go_wp2_with fail
          refine (HS2.out kd' t' r' g').mono ?_
          rintro e w7 hst
          have HT7 := Lib.hid ((HT6.out.step2 hst).mono (n' := 200 + (k + 1)) (m' := k + 1) (by omega) (by omega))
          obtain ⟨rfl, -⟩ := hst
          clear x0 x1 x2 x3
          go_wp2
          go_roundw
          case rel => exact ⟨k + 1, _, _, by omega, by omega, by go_num, HT7.out⟩
          case measure => simp [intOf]; omega
        · have e2 : decide ((k : Int) < (l2.length : Int)) = false := decide_eq_false (by omega)
          go_wp2_with fail
          refine (HS1.out kd t r g).mono ?_
          rintro e w6 hst
          have HT6 := Lib.hid ((HTR.out.step1 hst).mono (n' := 200 + (k + 1)) (m' := k + 1) (by omega) (by omega))
          obtain ⟨rfl, -⟩ := hst
          clear x0 x1 x2 x3
          go_wp2
          go_roundw
          case rel => exact ⟨k + 1, _, _, by omega, by omega, by go_num, HT6.out⟩
          case measure => simp [intOf]; omega
      · have e1 : decide ((k : Int) < (l1.length : Int)) = false := decide_eq_false (by omega)
        by_cases hl2 : k < l2.length
        · have e2 : decide ((k : Int) < (l2.length : Int)) = true := decide_eq_true (by omega)
          obtain ⟨b2, o2, rfl, -⟩ := (HR2.out.below HTR.out.below).addr (by rw [actC_length]; omega)
          obtain ⟨x0, x1, x2, x3⟩ := (HR2.out.below HTR.out.below).act k hl2
          have HS2 := Lib.hid (fun kd t r g => step_any q2 (wa.heap.size + 1) B k kd t r g wr HTR.out.two (fun j hj => (HTR.out.hb j hj).2) (by omega))
          generalize actAt l2 k = y at *
          obtain ⟨kd', ⟨t', r'⟩, g'⟩ := y
          dsimp only at x0 x1 x2 x3
          go_wp2_with fail
          refine (HS2.out kd' t' r' g').mono ?_
          rintro e w7 hst
          have HT7 := Lib.hid ((HTR.out.step2 hst).mono (n' := 200 + (k + 1)) (m' := k + 1) (by omega) (by omega))
          obtain ⟨rfl, -⟩ := hst
          clear x0 x1 x2 x3
          go_wp2
          go_roundw
          case rel => exact ⟨k + 1, _, _, by omega, by omega, by go_num, HT7.out⟩
          case measure => simp [intOf]; omega
        · have e2 : decide ((k : Int) < (l2.length : Int)) = false := decide_eq_false (by omega)
          have HE := Lib.hid HTR.out.below
          clear HTR
          go_wp2
          go_ret
          exact ⟨rfl, HE.out⟩

end Go.Proofs.Ytmenlfgfhnnmgaa
