/-
  WHAT THE LAWS' WALKS SHARE: registers apart; the cells of a write; what a list of writes leaves, step by step.
  No conditions.
  THE LAW's apart: have no two one stamp? Rows of writes, two of which change places.
  No conditions but sizes.
-/
import Derived.Test.YtcenmkcencdlcaaGQ
import Derived.Test.YtcenmkcencdlcaaGL
import Derived.Test.YtcenmkcencdlcaaGK
namespace Go.Proofs.Ytcenmkcencdlcaa
open Go.RowKit

theorem Lay.above {w w' : World} {Q N1 N2 N3 M1 M2 M3 B : Nat} {q : Pm.Rs} (h : Lay w Q N1 N2 N3 q) (ht : Turns (fun k => k = M1 ∨ k = M2 ∨ k = M3) w w') (hl : M1 < B ∧ M2 < B ∧ M3 < B) (hg : B ≤ Q ∧ B ≤ N1 ∧ B ≤ N2 ∧ B ≤ N3) : Lay w' Q N1 N2 N3 q :=
  h.turns ht (by omega) (by omega) (by omega) (by omega)
theorem Lay.under {w w' : World} {Q N1 N2 N3 M1 M2 M3 B : Nat} {q : Pm.Rs} (h : Lay w Q N1 N2 N3 q) (ht : Turns (fun k => k = M1 ∨ k = M2 ∨ k = M3) w w') (hl : B ≤ M1 ∧ B ≤ M2 ∧ B ≤ M3) (hg : Q < B ∧ N1 < B ∧ N2 < B ∧ N3 < B) : Lay w' Q N1 N2 N3 q :=
  h.turns ht (by omega) (by omega) (by omega) (by omega)
theorem turns3_below {w0 w w' : World} {M1 M2 M3 : Nat} (ht : Turns (fun k => k = M1 ∨ k = M2 ∨ k = M3) w w') (hg : w0.heap.size ≤ M1 ∧ w0.heap.size ≤ M2 ∧ w0.heap.size ≤ M3) (hb : Below w0.heap.size w0 w) : Below w0.heap.size w0 w' :=
  hb.trans (ht.below (fun k _ hk => by omega) hb.size)
theorem ceW_st (s1 s2 : Int) (x : Opp) (q : Option Addr) (c : Nat) (j : Nat) (v : Value) (h : ([.int .i64 s1, .int .i64 s2] : List Value)[j]? = some v) : (ceW ⟨⟨(s1, s2), x⟩, q, c⟩)[0 + j]? = some v := by
  match j, h with
  | 0, h => exact h
  | 1, h => exact h
theorem ceW_op (s1 s2 : Int) (x : Opp) (q : Option Addr) (c : Nat) (j : Nat) (v : Value) (h : (opL x q c)[j]? = some v) : (ceW ⟨⟨(s1, s2), x⟩, q, c⟩)[2 + j]? = some v := by
  unfold ceW
  rw [List.getElem?_append_right (by simp)]
  simpa using h
theorem wrA_op (s1 s2 : Int) (x : Opp) (q : Option Addr) (c : Nat) (j : Nat) (v : Value) (h : (opL x q c)[j]? = some v) : (wrA ⟨⟨(s1, s2), x⟩, q, c⟩)[2 + j]? = some v := by
  show (ceW ⟨⟨(s1, s2), x⟩, q, c⟩).toArray[2 + j]? = some v
  rw [List.getElem?_toArray]
  exact ceW_op s1 s2 x q c j v h
theorem wpList_load_in {t : TypeId} {n : Nat} (V : AgT t n) {ops : Array Oper} {rest : List Oper} {o : Oper} {a : Act} {w : World} {Q : Exit → Act → World → Prop} (hgd : o.guard = none) (y : Operand) (ho : o.op = .load t y)
    (b off : Nat) (hx : a.eval y = .pointer (some ⟨b, off, none⟩)) {A : Array Value} (hA : AgAt w b A) (cs : List Value) (hc : ∀ j v, cs[j]? = some v → A[off + j]? = some v) (hn : cs.length = n)
    (h : wpList Try.prog ops Q rest (a.put o.dst (.agg cs.toArray)) w) : wpList Try.prog ops Q (o :: rest) a w := by
  obtain ⟨d, hu⟩ := V.und
  have h1 : w.rangeAt b off cs := fun j v hv => by rw [hA.cell]; exact hc j v hv
  exact wpList_load_mid hgd t y ho b off hx cs _ h1 hu rfl (by rw [hn]; exact V.size) h
theorem opT12 : AgT 38 12 := ⟨⟨_, Try.underlying38⟩, by kernel_rfl⟩
theorem exec_wr_st {c0 : Act} {o : Oper} {y : Operand} {w : World} (ho : o.op = .load 32 y) {b s i : Nat} {l : List WrE} {s1 s2 : Int} {x : Opp} {q : Option Addr} {c : Nat} (hx : c0.eval y = .pointer (some ⟨b, s + i * 14, none⟩)) (hrd : Rd w (some ⟨b, s, none⟩) (l.flatMap ceW)) (hi : l[i]? = some ⟨⟨(s1, s2), x⟩, q, c⟩) :
    (execOp c0.eval o).run Try.prog w = .ok (.value (.agg #[.int .i64 s1, .int .i64 s2])) w :=
  wrK.loadPart (off := 0) Try.underlying32 ho hx [.int .i64 s1, .int .i64 s2] hrd hi (ceW_st s1 s2 x q c) (by kernel_rfl)
theorem exec_wr_op {c0 : Act} {o : Oper} {y : Operand} {w : World} (ho : o.op = .load 38 y) {b s i : Nat} {l : List WrE} {s1 s2 : Int} {x : Opp} {q : Option Addr} {c : Nat} (hx : c0.eval y = .pointer (some ⟨b, s + i * 14 + 2, none⟩)) (hrd : Rd w (some ⟨b, s, none⟩) (l.flatMap ceW)) (hi : l[i]? = some ⟨⟨(s1, s2), x⟩, q, c⟩) :
    (execOp c0.eval o).run Try.prog w = .ok (.value (.agg (opA x q c))) w :=
  wrK.loadPart (off := 2) Try.underlying38 ho hx (opL x q c) hrd hi (ceW_op s1 s2 x q c) (by kernel_rfl)
theorem wpList_build1 {SE E : TypeId} {ops : Array Oper} {rest : List Oper} {o : Oper} {a : Act} {w : World} {Q : Exit → Act → World → Prop} (hgd : Region.wanted o (yielded ops a.tmps) = true) (x : Operand) (ho : o.op = .buildSlice SE 1 #[(0, x)]) (A : Array Value) (hx : a.eval x = .agg A)
    (hr : ∀ w : World, (Instr.buildSlice SE 1 #[(0, .agg A)]).run Try.prog w = .ok (.slice (some ⟨w.heap.size, 0, none⟩) 1 1) (w.alloc (.cells A E)))
    (h : wpList Try.prog ops Q rest (a.put o.dst (.slice (some ⟨w.heap.size, 0, none⟩) 1 1)) (w.alloc (.cells A E))) : wpList Try.prog ops Q (o :: rest) a w := by
  rw [wpList, if_pos hgd]
  exact Or.inl (wp_build1 x ho A hx hr h)
theorem pl_take {l : List WrE} {k : Nat} {e : WrE} (h : l[k]? = some e) : (pl l).take (k + 1) = (pl l).take k ++ [e.w] := by
  have hk : k < (pl l).length := by unfold pl; rw [List.length_map]; exact (List.getElem?_eq_some_iff.1 h).1
  rw [List.take_succ_eq_append_getElem hk]
  congr 2
  have : (pl l)[k]? = some e.w := by unfold pl; rw [List.getElem?_map, h]; rfl
  rw [List.getElem?_eq_getElem hk] at this
  exact Option.some.inj this
theorem pl_mem {l : List WrE} {k : Nat} {e : WrE} (h : l[k]? = some e) : e.w ∈ pl l := List.mem_map.2 ⟨e, List.mem_of_getElem? h, rfl⟩

namespace Pm
/-- low stamps -/
def low (w : Wr) : Bool := decide (w.s.1 < 549755813888)
def lows (l : List Wr) : List Wr := l.filter low
theorem lows_yes {l : List Wr} {w : Wr} (h : w.s.1 < 549755813888) : lows (l ++ [w]) = lows l ++ [w] := by
  unfold lows
  rw [List.filter_append, List.filter_cons_of_pos (by simp [low, h])]
  rfl
theorem lows_no {l : List Wr} {w : Wr} (h : ¬ w.s.1 < 549755813888) : lows (l ++ [w]) = lows l := by
  unfold lows
  rw [List.filter_append, List.filter_cons_of_neg (by simp [low, h])]
  simp
theorem low_top {V : Type} {h : Wr → Option (Nm × V)} {d : V} {l : List Wr} {f : Rg V} (t : Top h d (lows l) f) (n : Nm) : Qm.ltS (f n).1 (1099511627776, 0) := by
  rcases t n with ⟨h1, -⟩ | ⟨w, hm, v, -, h2, -⟩
  · rw [h1]; exact Or.inl (by show (0 : Int) < 1099511627776; decide)
  · rw [h2]
    have := of_decide_eq_true (List.mem_filter.1 hm).2
    exact Or.inl (by show w.s.1 < 1099511627776; omega)
theorem low_v (l : List Wr) (n : Nm) : Qm.ltS ((allR (lows l)).v n).1 (1099511627776, 0) := by rw [allR_eq]; exact low_top (top_all pV _) n
theorem low_m (l : List Wr) (n : Nm) : Qm.ltS ((allR (lows l)).m n).1 (1099511627776, 0) := by rw [allR_eq]; exact low_top (top_all pM _) n
theorem low_o (l : List Wr) (n : Nm) : Qm.ltS ((allR (lows l)).o n).1 (1099511627776, 0) := by rw [allR_eq]; exact low_top (top_all pO _) n
theorem put_at {V : Type} {f : Rg V} {n : Nm} {s : Qm.St} {v : V} (h : Qm.ltS (f n).1 s) : put f n s v n = (s, v) := by unfold put; rw [if_pos rfl, if_pos h]
theorem put_off {V : Type} {f : Rg V} {n m : Nm} {s : Qm.St} {v : V} (h : m ≠ n) : put f n s v m = f m := by unfold put; rw [if_neg h]
theorem nameV_ne {n : Qm.St} {p q : Int} (h : p ≠ q) : nameV n p ≠ nameV n q := fun e => by
  unfold nameV at e
  simp only [List.cons.injEq, and_true, true_and] at e
  exact h e
theorem doE_zero {w : Wr} (h : doE w = 0) : okW w = true ∧ (w.x.k = 3 ∨ w.x.k = 4 ∨ w.x.k = 6) := kept_iff.1 (by unfold kept; rw [h]; rfl)
theorem okW_node {w : Wr} (h : okW w = true) : okNode w.s.1 w.s.2 = true ∧ rightO w.x = true := by
  unfold okW at h
  rwa [Bool.and_eq_true] at h
end Pm
end Go.Proofs.Ytcenmkcencdlcaa

namespace Go.Proofs.Ytcenmkcencdlcaa
open Go.RowKit

theorem st_eqB (p q : Qm.St) : ((p.1 == q.1) && (p.2 == q.2)) = decide (p = q) := by
  obtain ⟨a, b⟩ := p
  obtain ⟨a', b'⟩ := q
  by_cases e1 : a = a' <;> by_cases e2 : b = b' <;> simp [e1, e2]
theorem exec_eql_st {c : Act} {o : Oper} {x y : Operand} {ty : TypeId} (ho : o.op = .binOp .eql 32 x y ty) {w : World} (p q : Qm.St) (hx : c.eval x = .agg #[.int .i64 p.1, .int .i64 p.2]) (hy : c.eval y = .agg #[.int .i64 q.1, .int .i64 q.2]) :
    (execOp c.eval o).run Try.prog w = .ok (.value (.bool (decide (p = q)))) w := by
  rw [← st_eqB]
  obtain ⟨a, b⟩ := p
  obtain ⟨a', b'⟩ := q
  unfold execOp
  simp only [ho, hx, hy]
  go_simp
  by_cases h1 : a = a' <;> by_cases h2 : b = b' <;> simp_all
/-- no two have one stamp -/
def ApartL (l : List WrE) (k : Nat) : Prop := ∀ i j a b, j < i → i < k → l[i]? = some a → l[j]? = some b → a.w.s ≠ b.w.s
theorem ApartL.apart {l : List WrE} (h : ApartL l l.length) : Pm.Apart (pl l) := by
  intro a ha b hb e
  obtain ⟨x, hx, rfl⟩ := List.mem_map.1 ha
  obtain ⟨y, hy, rfl⟩ := List.mem_map.1 hb
  obtain ⟨i, hi, rfl⟩ := List.mem_iff_getElem.1 hx
  obtain ⟨j, hj, rfl⟩ := List.mem_iff_getElem.1 hy
  rcases Nat.lt_trichotomy i j with h1 | h1 | h1
  · exact absurd e.symm (h j i _ _ h1 hj (List.getElem?_eq_getElem hj) (List.getElem?_eq_getElem hi))
  · subst h1; rfl
  · exact absurd e (h i j _ _ h1 hi (List.getElem?_eq_getElem hi) (List.getElem?_eq_getElem hj))

set_option maxRecDepth 100000 in
set_option maxHeartbeats 8000000 in
theorem apart12_any (p : Option Addr) (c : Nat) (l : List WrE) (w : World) (h : Rd w p (l.flatMap ceW)) (hl : l.length ≤ 60) :
    Calls Try.prog 25 #[.slice p l.length c] w fun e w' => ∃ b, e = .returned (.bool b) ∧ (b = true → ApartL l l.length) ∧ Below w.heap.size w w' := by
  have HR := Lib.hid h
  clear h
  go_enter Try.func25, Try.ntmps25
  go_wp2
  go_loopw [3] (fun i wr => ∃ k : Nat, k ≤ l.length ∧ i = .int .i64 (k : Int) ∧ ApartL l k ∧ Below w.heap.size w wr) (fun i _ => l.length - (intOf i).toNat)
  case atStart => exact ⟨0, Nat.zero_le _, rfl, fun i j a b _ h => by omega, Below.refl _ _⟩
  case round =>
    obtain ⟨k, hk, rfl, hap, hbw⟩ := hrel
    have HAP := Lib.hid hap
    have HB0 := Lib.hid hbw
    clear hap hbw
    by_cases hlt : k < l.length
    · have d0 : decide ((k : Int) < (l.length : Int)) = true := decide_eq_true (by omega)
      obtain ⟨b, o, rfl, -⟩ := HR.out.addr (by rw [wrK.length]; omega)
      obtain ⟨e, he⟩ : ∃ e, l[k]? = some e := ⟨_, List.getElem?_eq_getElem hlt⟩
      obtain ⟨⟨⟨s1, s2⟩, x⟩, q, cc⟩ := e
      have HE := Lib.hid he
      clear he
      go_wp2
      go_loopw [4] (fun i wr => ∃ j : Nat, j ≤ k ∧ i = .int .i64 (j : Int) ∧ (∀ j' b, j' < j → l[j']? = some b → ((s1, s2) : Qm.St) ≠ b.w.s) ∧ Below w.heap.size w wr) (fun i _ => k - (intOf i).toNat)
      case atStart => exact ⟨0, Nat.zero_le _, rfl, fun j' b h => by omega, HB0.out⟩
      case round =>
        obtain ⟨j, hj, rfl, hin, hbw⟩ := hrel
        have HIN := Lib.hid hin
        have HB := Lib.hid hbw
        clear hin hbw
        by_cases hjk : j < k
        · have d1 : decide ((j : Int) < (k : Int)) = true := decide_eq_true (by omega)
          have hjl : j < l.length := by omega
          obtain ⟨e2, he2⟩ : ∃ e, l[j]? = some e := ⟨_, List.getElem?_eq_getElem hjl⟩
          obtain ⟨⟨⟨t1, t2⟩, x2⟩, q2, c2⟩ := e2
          have HE2 := Lib.hid he2
          by_cases heq : ((s1, s2) : Qm.St) = (t1, t2)
          · have HEQ := Lib.hid (show decide (((s1, s2) : Qm.St) = (t1, t2)) = true from decide_eq_true heq)
            clear heq he2
            go_upto_region 7 with fail
            refine wp_region_held_drew (S := fun W => Below wr.heap.size wr W) (by kernel_rfl) (Below.drew (Below.refl _ _)) (fun hS => ?_)
            refine wpAnyH_take (i := 0) (v := ?_) rfl (by kernel_rfl) (by kernel_rfl) (by kernel_rfl) (fun _ _ _ h => h) (Or.inl ⟨by kernel_rfl, ?_⟩) hS ?_
            rotate_left
            · intro W hSW
              go_simp
              all_goals with_reducible rfl
            refine wpAnyH_take (i := 1) (v := ?_) rfl (by kernel_rfl) (by kernel_rfl) (by kernel_rfl) (fun _ _ _ h => h) (Or.inl ⟨by kernel_rfl, ?_⟩) hS ?_
            rotate_left
            · intro W hSW
              go_simp
              all_goals with_reducible rfl
            refine wpAnyH_take (i := 2) (v := ?_) rfl (by kernel_rfl) (by kernel_rfl) (by kernel_rfl) (fun _ _ _ h => h) (Or.inl ⟨by kernel_rfl, ?_⟩) hS ?_
            rotate_left
            · intro W hSW
              go_simp
              all_goals with_reducible rfl
            refine wpAnyH_take (i := 3) (v := ?_) rfl (by kernel_rfl) (by kernel_rfl) (by kernel_rfl) (fun _ _ _ h => h) (Or.inl ⟨by kernel_rfl, ?_⟩) hS ?_
            rotate_left
            · intro W hSW
              go_simp
              all_goals with_reducible rfl
            go_simp
            refine wpAnyH_take (i := 4) (v := .agg #[.int .i64 s1, .int .i64 s2]) rfl (by kernel_rfl) (by kernel_rfl) (by kernel_rfl) (fun _ _ _ h => h) (Or.inl ⟨by kernel_rfl, fun W hSW => exec_wr_st rfl rfl (HR.out.below (HB.out.trans (hSW.mono HB.out.size))) HE.out⟩) hS ?_
            refine wpAnyH_take (i := 5) (v := ?_) rfl (by kernel_rfl) (by kernel_rfl) (by kernel_rfl) (fun _ _ _ h => h) (Or.inl ⟨by kernel_rfl, ?_⟩) hS ?_
            rotate_left
            · intro W hSW
              go_simp
              all_goals with_reducible rfl
            refine wpAnyH_take (i := 6) (v := ?_) rfl (by kernel_rfl) (by kernel_rfl) (by kernel_rfl) (fun _ _ _ h => h) (Or.inl ⟨by kernel_rfl, ?_⟩) hS ?_
            rotate_left
            · intro W hSW
              go_simp
              all_goals with_reducible rfl
            refine wpAnyH_take (i := 7) (v := ?_) rfl (by kernel_rfl) (by kernel_rfl) (by kernel_rfl) (fun _ _ _ h => h) (Or.inl ⟨by kernel_rfl, ?_⟩) hS ?_
            rotate_left
            · intro W hSW
              go_simp
              all_goals with_reducible rfl
            go_simp
            refine wpAnyH_take (i := 8) (v := ?_) rfl (by kernel_rfl) (by kernel_rfl) (by kernel_rfl) (fun _ _ _ h => h) (Or.inl ⟨by kernel_rfl, ?_⟩) hS ?_
            rotate_left
            · intro W hSW
              go_simp
              all_goals with_reducible rfl
            go_simp
            refine wpAnyH_take (i := 9) (v := .agg #[.int .i64 t1, .int .i64 t2]) rfl (by kernel_rfl) (by kernel_rfl) (by kernel_rfl) (fun _ _ _ h => h) (Or.inl ⟨by kernel_rfl, fun W hSW => exec_wr_st rfl rfl (HR.out.below (HB.out.trans (hSW.mono HB.out.size))) HE2.out⟩) hS ?_
            go_simp
            refine wpAnyH_take (i := 10) (v := .bool true) rfl (by kernel_rfl) (by kernel_rfl) (by kernel_rfl) (fun _ _ _ h => h) (Or.inl ⟨by kernel_rfl, fun W hSW => (exec_eql_st rfl (s1, s2) (t1, t2) rfl rfl).trans (by rw [HEQ.out])⟩) hS ?_
            go_simp
            refine wpAnyH_done (by kernel_rfl) ?_ _
            go_simp
            have HN := Lib.hid (HB.out.trans (hS.mono HB.out.size))
            clear hS
            go_wp2
            go_ret
            exact ⟨false, rfl, fun h => (by cases h), HN.out⟩
          · have HEQ := Lib.hid (show decide (((s1, s2) : Qm.St) = (t1, t2)) = false from decide_eq_false heq)
            have HNX := Lib.hid (show ∀ j' b, j' < j + 1 → l[j']? = some b → ((s1, s2) : Qm.St) ≠ b.w.s from fun j' b h1 h2 => by
              by_cases e : j' = j
              · subst e; rw [he2] at h2; cases h2; exact heq
              · exact HIN.out j' b (by omega) h2)
            clear heq he2
            go_upto_region 7 with fail
            refine wp_region_held_drew (S := fun W => Below wr.heap.size wr W) (by kernel_rfl) (Below.drew (Below.refl _ _)) (fun hS => ?_)
            refine wpAnyH_take (i := 0) (v := ?_) rfl (by kernel_rfl) (by kernel_rfl) (by kernel_rfl) (fun _ _ _ h => h) (Or.inl ⟨by kernel_rfl, ?_⟩) hS ?_
            rotate_left
            · intro W hSW
              go_simp
              all_goals with_reducible rfl
            refine wpAnyH_take (i := 1) (v := ?_) rfl (by kernel_rfl) (by kernel_rfl) (by kernel_rfl) (fun _ _ _ h => h) (Or.inl ⟨by kernel_rfl, ?_⟩) hS ?_
            rotate_left
            · intro W hSW
              go_simp
              all_goals with_reducible rfl
            refine wpAnyH_take (i := 2) (v := ?_) rfl (by kernel_rfl) (by kernel_rfl) (by kernel_rfl) (fun _ _ _ h => h) (Or.inl ⟨by kernel_rfl, ?_⟩) hS ?_
            rotate_left
            · intro W hSW
              go_simp
              all_goals with_reducible rfl
            refine wpAnyH_take (i := 3) (v := ?_) rfl (by kernel_rfl) (by kernel_rfl) (by kernel_rfl) (fun _ _ _ h => h) (Or.inl ⟨by kernel_rfl, ?_⟩) hS ?_
            rotate_left
            · intro W hSW
              go_simp
              all_goals with_reducible rfl
            go_simp
            refine wpAnyH_take (i := 4) (v := .agg #[.int .i64 s1, .int .i64 s2]) rfl (by kernel_rfl) (by kernel_rfl) (by kernel_rfl) (fun _ _ _ h => h) (Or.inl ⟨by kernel_rfl, fun W hSW => exec_wr_st rfl rfl (HR.out.below (HB.out.trans (hSW.mono HB.out.size))) HE.out⟩) hS ?_
            refine wpAnyH_take (i := 5) (v := ?_) rfl (by kernel_rfl) (by kernel_rfl) (by kernel_rfl) (fun _ _ _ h => h) (Or.inl ⟨by kernel_rfl, ?_⟩) hS ?_
            rotate_left
            · intro W hSW
              go_simp
              all_goals with_reducible rfl
            refine wpAnyH_take (i := 6) (v := ?_) rfl (by kernel_rfl) (by kernel_rfl) (by kernel_rfl) (fun _ _ _ h => h) (Or.inl ⟨by kernel_rfl, ?_⟩) hS ?_
            rotate_left
            · intro W hSW
              go_simp
              all_goals with_reducible rfl
            refine wpAnyH_take (i := 7) (v := ?_) rfl (by kernel_rfl) (by kernel_rfl) (by kernel_rfl) (fun _ _ _ h => h) (Or.inl ⟨by kernel_rfl, ?_⟩) hS ?_
            rotate_left
            · intro W hSW
              go_simp
              all_goals with_reducible rfl
            go_simp
            refine wpAnyH_take (i := 8) (v := ?_) rfl (by kernel_rfl) (by kernel_rfl) (by kernel_rfl) (fun _ _ _ h => h) (Or.inl ⟨by kernel_rfl, ?_⟩) hS ?_
            rotate_left
            · intro W hSW
              go_simp
              all_goals with_reducible rfl
            go_simp
            refine wpAnyH_take (i := 9) (v := .agg #[.int .i64 t1, .int .i64 t2]) rfl (by kernel_rfl) (by kernel_rfl) (by kernel_rfl) (fun _ _ _ h => h) (Or.inl ⟨by kernel_rfl, fun W hSW => exec_wr_st rfl rfl (HR.out.below (HB.out.trans (hSW.mono HB.out.size))) HE2.out⟩) hS ?_
            go_simp
            refine wpAnyH_take (i := 10) (v := .bool false) rfl (by kernel_rfl) (by kernel_rfl) (by kernel_rfl) (fun _ _ _ h => h) (Or.inl ⟨by kernel_rfl, fun W hSW => (exec_eql_st rfl (s1, s2) (t1, t2) rfl rfl).trans (by rw [HEQ.out])⟩) hS ?_
            go_simp
            refine wpAnyH_done (by kernel_rfl) ?_ _
            go_simp
            have HN := Lib.hid (HB.out.trans (hS.mono HB.out.size))
            clear hS
            go_wp2
            go_roundw
            case rel => exact ⟨j + 1, by omega, by go_num, HNX.out, HN.out⟩
            case measure => simp [intOf]; omega
        · obtain rfl : j = k := by omega
          have d1 : decide ((j : Int) < (j : Int)) = false := decide_eq_false (by omega)
          have HNX := Lib.hid (show ApartL l (j + 1) from fun i j' a b h1 h2 h3 h4 => by
            by_cases e : i = j
            · subst e
              rw [HE.out] at h3
              cases h3
              exact HIN.out j' b h1 h4
            · exact HAP.out i j' a b h1 (by omega) h3 h4)
          go_wp2
          go_roundw
          case rel => exact ⟨j + 1, by omega, by go_num, HNX.out, HB.out⟩
          case measure => simp [intOf]; omega
    · obtain rfl : k = l.length := by omega
      have d0 : decide ((l.length : Int) < (l.length : Int)) = false := decide_eq_false (by omega)
      go_wp2
      go_ret
      exact ⟨true, rfl, fun _ => HAP.out, HB0.out⟩

theorem RK.wpLoad {α : Type} {E SE : TypeId} {k by_ : Nat} {ce : α → List Value} (V : RK E SE k by_ ce) {a : Act} {o : Oper} {x : Operand} {w : World} {K : Act → World → Prop} {Q : Exit → Act → World → Prop} (ho : o.op = .load E x) {b s i : Nat} (hx : a.eval x = .pointer (some ⟨b, s + i * k, none⟩)) {l : List α} {y : α} (hrd : Rd w (some ⟨b, s, none⟩) (l.flatMap ce)) (hi : l[i]? = some y)
    (h : K (a.put o.dst (.agg (ce y).toArray)) w) : Oper.wp Try.prog o a w K Q := by
  have hr := V.load ho hx hrd hi
  unfold Oper.wp
  rw [hr]
  exact h
theorem RK.wpAppend {α : Type} {E SE : TypeId} {k by_ : Nat} {ce : α → List Value} (V : RK E SE k by_ ce) {w : World} {ops : Array Oper} {rest : List Oper} {o : Oper} {a : Act} {Q : Exit → Act → World → Prop} (hgd : o.guard = none) (s x : Operand)
    (ho : o.op = .call { callee := .builtin .append, args := #[s, x], argTypes := #[SE, SE] })
    (base : Nat) (xs ys zs : List α) (hz : xs ++ ys = zs) {p : Option Addr} {c : Nat} (hs : a.eval s = .slice p xs.length c) (hown : w.ownsRow base E k (.slice p xs.length c) xs.length (xs.flatMap ce))
    (q : Option Addr) (d : Nat) (hx : a.eval x = .slice q ys.length d) (hrd : Rd w q (ys.flatMap ce)) (hpn : q = none → d = 0) (hsz : xs.length + ys.length ≤ 10000) (hbase : base ≤ w.heap.size)
    (h : ∀ p' c' w', w'.ownsRow base E k (.slice p' zs.length c') zs.length (zs.flatMap ce) → w.grownBy w' (Value.slice p xs.length c).ownBlock → wpList Try.prog ops Q rest (a.put o.dst (.slice p' zs.length c')) w') : wpList Try.prog ops Q (o :: rest) a w := by
  refine wpList_plain hgd fun K hK => ?_
  have := V.append (K := K) (X := True) (ops := ops) (Q := Q) hgd s x ho base xs ys zs hz hs hown q d hx hrd hpn hsz hbase (fun p' c' w' h1 h2 => hK _ _ (h p' c' w' h1 h2))
  rwa [if_pos (by simp [Region.wanted, hgd])] at this
/-- one of a row is written anew -/
theorem wr_set {B : Nat} {w : World} {g c : Nat} {l : List WrE} (h : w.ownsRow B 40 14 (.slice (some ⟨g, 0, none⟩) l.length c) l.length (l.flatMap ceW)) {i : Nat} {x : WrE} (hi : l[i]? = some x) (e : WrE) :
    (w.setCells g (i * 14) (ceW e)).ownsRow B 40 14 (.slice (some ⟨g, 0, none⟩) (l.set i e).length c) (l.set i e).length ((l.set i e).flatMap ceW) ∧ w.grownBy (w.setCells g (i * 14) (ceW e)) (some g) := by
  obtain ⟨h1, h2⟩ := own_setCells (ceW e) w (i * 14) h
  have e1 := wrK.setL l i 0 x e (ceW e) hi (by show 0 + 14 ≤ 14; omega) (fun j hj => by
    rw [if_pos ⟨Nat.zero_le _, by rw [wrK.len]; omega⟩]
    rfl)
  rw [Nat.add_zero] at e1
  rw [e1] at h1
  exact ⟨by rw [List.length_set]; exact h1, h2⟩
theorem wr_swap {l : List WrE} {i j : Nat} {a b : WrE} (hi : l[i]? = some a) (hj : l[j]? = some b) : ((l.set i b).set j a).Perm l := by
  obtain ⟨h1, rfl⟩ := List.getElem?_eq_some_iff.1 hi
  obtain ⟨h2, rfl⟩ := List.getElem?_eq_some_iff.1 hj
  exact List.set_set_perm h1 h2
end Go.Proofs.Ytcenmkcencdlcaa
