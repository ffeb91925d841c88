/-
  A GRAPH THAT A LAW HAS MADE, beside boxes and rows of the law's: what each look leaves.
  No conditions but sizes.
  GRAPHNORING, plainly: what each node's steps say.
  No conditions.
-/
import Derived.Test.YthifdefjmfakgaaGreatH4
import Derived.Test.YthifdefjmfakgaaGreatH3
import Derived.Test.YthifdefjmfakgaaGreatG8
import Derived.Test.YthifdefjmfakgaaGreatG4
namespace Go.Proofs.YthifdefjmfakgaaGreat
open Go.RowKit
open Tm (Sp Tr has put cut kids)

abbrev Rws := List (Option Addr × List Value)
structure GHx (w : World) (gg : Nat) (ops : List Pm.Wr) (χ : Nat → Nat) (bs : Bxs) (rs : Rws) (W : World) : Prop extends GB1x w gg ops χ bs W where
  rw : ∀ e ∈ rs, Rd W e.1 e.2 ∧ (0 < e.2.length → ∀ a, e.1 = some a → a.block < W.heap.size ∧ χ a.block = 0)
def GH (w : World) (gg : Nat) (ops : List Pm.Wr) (bs : Bxs) (rs : Rws) (W : World) : Prop := ∃ χ, GHx w gg ops χ bs rs W
section
variable {w W W' : World} {gg : Nat} {ops ops1 : List Pm.Wr} {χ χ1 : Nat → Nat} {bs : Bxs} {rs : Rws}
theorem rd_keep {p : Option Addr} {cs : List Value} {G : Nat → Prop} (h : Rd W p cs) (ht : Turns G W W') (hg : 0 < cs.length → ∀ a, p = some a → ¬ G a.block) : Rd W' p cs := fun h0 => ht.rd h (fun a ha => hg h0 a ha) h0
theorem GHx.goes (h : GHx w gg ops χ bs rs W) (ha : Gra W' gg ops1 χ1) (hg : Goes W χ W' χ1) : GHx w gg ops1 χ1 bs rs W' :=
  ⟨h.toGB1x.goes ha hg, fun e he => by
    obtain ⟨h1, h2⟩ := h.rw e he
    refine ⟨rd_keep h1 hg.turns fun h0 a ha hf => ?_, fun h0 a ha => ?_⟩
    · rw [(h2 h0 a ha).2] at hf; omega
    · obtain ⟨h3, h4⟩ := h2 h0 a ha
      exact ⟨Nat.lt_of_lt_of_le h3 hg.turns.size, (hg.keep _ h3).trans h4⟩⟩
theorem GH.kept (h : GH w gg ops bs rs W) (hb : Below W.heap.size W W') : GH w gg ops bs rs W' := by
  obtain ⟨χ, h⟩ := h
  exact ⟨χ, h.goes (h.g.kept hb) (Goes.of_below hb)⟩
theorem GH.bel (h : GH w gg ops bs rs W) : Below w.heap.size w W := by
  obtain ⟨χ, h⟩ := h
  exact h.bel
theorem GH.at_ (h : GH w gg ops bs rs W) {b : Nat} {A : Array Value} (hb : (b, A) ∈ bs) : AgAt W b A := by
  obtain ⟨χ, h⟩ := h
  exact (h.bx _ hb).1
theorem GH.rd (h : GH w gg ops bs rs W) {p : Option Addr} {cs : List Value} (hb : (p, cs) ∈ rs) : Rd W p cs := by
  obtain ⟨χ, h⟩ := h
  exact (h.rw _ hb).1
theorem GH.less {bs' : Bxs} {rs' : Rws} (h : GH w gg ops bs rs W) (hb : ∀ e ∈ bs', e ∈ bs) (hr : ∀ e ∈ rs', e ∈ rs) : GH w gg ops bs' rs' W := by
  obtain ⟨χ, h⟩ := h
  exact ⟨χ, ⟨h.g, h.bel, h.far, fun e he => h.bx e (hb e he)⟩, fun e he => h.rw e (hr e he)⟩
theorem GB1.hold (h : GB1 w gg ops bs W) : GH w gg ops bs [] W := by
  obtain ⟨χ, h⟩ := h
  exact ⟨χ, h, fun e he => by cases he⟩
theorem GH.box (h : GH w gg ops bs rs W) (hb : Below W.heap.size W W') {b : Nat} {A : Array Value} (ha : AgAt W' b A) (hl : W.heap.size ≤ b) : GH w gg ops ((b, A) :: bs) rs W' := by
  obtain ⟨χ, h⟩ := h
  have h2 := h.goes (h.g.kept hb) (Goes.of_below hb)
  refine ⟨χ, ⟨h2.g, h2.bel, h2.far, fun e he => ?_⟩, h2.rw⟩
  rcases List.mem_cons.1 he with rfl | he
  · exact ⟨ha, gra_zero h.g hl⟩
  · exact h2.bx e he
theorem GHx.leftR {p : Option Addr} {cs : List Value} (h : GHx w gg ops χ bs rs W) (hl : LeftR gg ops χ p cs W W') : GH w gg ops bs ((p, cs) :: rs) W' := by
  obtain ⟨χ1, ha, hg, hr, hp⟩ := hl
  have h2 := h.goes ha hg
  refine ⟨χ1, h2.toGB1x, fun e he => ?_⟩
  rcases List.mem_cons.1 he with rfl | he
  · refine ⟨hr, fun h0 a ha => ⟨?_, (hp a ha).2⟩⟩
    obtain ⟨b, o, e, hb⟩ := hr.addr h0
    rw [show p = some a from ha] at e
    cases e
    exact hb
  · exact h2.rw e he
theorem GH.nodes (h : GH w gg ops bs rs W) : Calls Tryz.prog 18 #[ptV gg] W fun e w' => ∃ p c m T, e = .returned (.slice p m.length c) ∧ TreeG ops T ∧ m.Perm (T.map Prod.fst) ∧ GH w gg ops bs ((p, stCells m) :: rs) w' := by
  obtain ⟨χ, h⟩ := h
  exact (gnodes_any W h.g).mono fun _ _ ⟨p, c, m, T, h1, h2, h3, h4⟩ => ⟨p, c, m, T, h1, h2, h3, h.leftR h4⟩
theorem GH.above (s1 s2 : Int) (h : GH w gg ops bs rs W) (hn : StWf (s1, s2)) : Calls Tryz.prog 27 #[ptV gg, .agg #[.int .i64 s1, .int .i64 s2]] W fun e w' => ∃ p c m T, e = .returned (.slice p m.length c) ∧ TreeG ops T ∧ m = Tm.chain T (s1, s2) ∧ GH w gg ops bs ((p, stCells m) :: rs) w' := by
  obtain ⟨χ, h⟩ := h
  exact (gabove_any (s1, s2) W h.g hn).mono fun _ _ ⟨p, c, m, T, h1, h2, h3, h4⟩ => ⟨p, c, m, T, h1, h2, h3, h.leftR h4⟩
theorem GH.row (s1 s2 : Int) (h : GH w gg ops bs rs W) (hn : StWf (s1, s2)) : Calls Tryz.prog 26 #[ptV gg, .agg #[.int .i64 s1, .int .i64 s2]] W fun e w' => ∃ p c m T, e = .returned (.slice p m.length c) ∧ TreeG ops T ∧ (m.Perm (Rtm.sibs T (s1, s2)) ∧ Sbm.Srt m) ∧ GH w gg ops bs ((p, sbCells m) :: rs) w' := by
  obtain ⟨χ, h⟩ := h
  exact (grow_any (s1, s2) W h.g hn).mono fun _ _ ⟨p, c, m, T, h1, h2, h3, h4⟩ => ⟨p, c, m, T, h1, h2, h3, h.leftR h4⟩
theorem GH.spot (s1 s2 : Int) (h : GH w gg ops bs rs W) (hn : StWf (s1, s2)) {v : Sp} (hv : (Gm.run ops).s (s1, s2) = some v) :
    Calls Tryz.prog 22 #[ptV gg, .agg #[.int .i64 s1, .int .i64 s2]] W fun e w' => e = .returned (.tuple #[.agg (spA v), .bool true]) ∧ GH w gg ops bs rs w' := by
  obtain ⟨χ, h⟩ := h
  refine (gspot_any (s1, s2) W h.g hn).mono ?_
  rintro e w' ⟨rfl, χ1, hg, hgo⟩
  exact ⟨by rw [hv]; rfl, χ1, h.goes hg hgo⟩
theorem GH.has (s1 s2 : Int) (h : GH w gg ops bs rs W) (hn : StWf (s1, s2)) {b : Bool} (hb : Gm.has (Gm.run ops) (s1, s2) = b) :
    Calls Tryz.prog 24 #[ptV gg, .agg #[.int .i64 s1, .int .i64 s2]] W fun e w' => e = .returned (.bool b) ∧ GH w gg ops bs rs w' := by
  obtain ⟨χ, h⟩ := h
  refine (ghas_any (s1, s2) W h.g hn).mono ?_
  rintro e w' ⟨rfl, χ1, hg, hgo⟩
  exact ⟨by rw [hb], χ1, h.goes hg hgo⟩
theorem GH.ref (s1 s2 : Int) (h : GH w gg ops bs rs W) (hn : StWf (s1, s2)) {r1 r2 : Int} {b : Bool} (hb : ((Gm.run ops).m (s1, s2)).getD (0, 0) = (r1, r2) ∧ ((Gm.run ops).m (s1, s2)).isSome = b) :
    Calls Tryz.prog 23 #[ptV gg, .agg #[.int .i64 s1, .int .i64 s2]] W fun e w' => e = .returned (.tuple #[.agg #[.int .i64 r1, .int .i64 r2], .bool b]) ∧ GH w gg ops bs rs w' := by
  obtain ⟨χ, h⟩ := h
  refine (gref_any (s1, s2) W h.g hn).mono ?_
  rintro e w' ⟨rfl, χ1, hg, hgo⟩
  exact ⟨by rw [hb.1, hb.2], χ1, h.goes hg hgo⟩
theorem GH.reach (n1 n2 m1 m2 : Int) (up : Bool) (h : GH w gg ops bs rs W) (hn : StWf (n1, n2)) (hm : StWf (m1, m2)) {b : Bool} (hb : b = true ↔ Gm.Leads (Gm.run ops) up (n1, n2) (m1, m2)) :
    Calls Tryz.prog 25 #[ptV gg, .agg #[.int .i64 n1, .int .i64 n2], .agg #[.int .i64 m1, .int .i64 m2], .bool up] W fun e w' => e = .returned (.bool b) ∧ GH w gg ops bs rs w' := by
  obtain ⟨χ, h⟩ := h
  refine (greach_any (n1, n2) (m1, m2) up W h.g hn hm).mono ?_
  rintro e w' ⟨b', rfl, hb', χ1, hg, hgo⟩
  exact ⟨by rw [show b' = b from Bool.eq_iff_iff.2 (hb'.trans hb.symm)], χ1, h.goes hg hgo⟩
end
/-- one of a row of stamps, loaded -/
theorem exec_load_stH {c : Act} {o : Oper} {x : Operand} {w : World} (ho : o.op = .load 35 x) {b s i : Nat} (hx : c.eval x = .pointer (some ⟨b, s + i * 2, none⟩)) {l : List Qm.St} {y1 y2 : Int} (hrd : Rd w (some ⟨b, s, none⟩) (stCells l)) (hi : l[i]? = some (y1, y2)) :
    (execOp c.eval o).run Tryz.prog w = .ok (.value (.agg #[.int .i64 y1, .int .i64 y2])) w := stK.load ho hx hrd hi
theorem exec_load_stH0 {c : Act} {o : Oper} {x : Operand} {w : World} (ho : o.op = .load 35 x) {b s : Nat} (hx : c.eval x = .pointer (some ⟨b, s, none⟩)) {l : List Qm.St} {y1 y2 : Int} (hrd : Rd w (some ⟨b, s, none⟩) (stCells l)) (hi : l[0]? = some (y1, y2)) :
    (execOp c.eval o).run Tryz.prog w = .ok (.value (.agg #[.int .i64 y1, .int .i64 y2])) w := stK.load (i := 0) ho (by rw [hx, Nat.zero_mul, Nat.add_zero]) hrd hi
theorem gobK : RK 86 78 3 32 sbC where
  und := Tryz.underlying78
  elem := by kernel_rfl
  size := fun _ => by kernel_rfl
  info := by
    obtain ⟨i, h0, h1, h2, h3⟩ := info_split info_sib
    exact ⟨i, _, h0, h1, h2, h3, rfl⟩
  row := ⟨_, Tryz.underlying86⟩
  len := fun _ => rfl
  one := fun x u hu => by
    simp [sbC] at hu
    rcases hu with rfl | rfl | rfl <;> rfl
  pos := by decide
  small := by decide
theorem sb_node (k : ByteArray) (y1 y2 : Int) (j : Nat) (v : Value) (h : ([.int .i64 y1, .int .i64 y2] : List Value)[j]? = some v) : (sbC (k, (y1, y2)))[1 + j]? = some v := by
  match j, h with
  | 0, h => exact h
  | 1, h => exact h
theorem exec_load_sbH {c : Act} {o : Oper} {x : Operand} {w : World} (ho : o.op = .load 35 x) {b s i : Nat} (hx : c.eval x = .pointer (some ⟨b, s + i * 3 + 1, none⟩)) {l : List Sbm.Sib} {k : ByteArray} {y1 y2 : Int} (hrd : Rd w (some ⟨b, s, none⟩) (sbCells l)) (hi : l[i]? = some (k, (y1, y2))) :
    (execOp c.eval o).run Tryz.prog w = .ok (.value (.agg #[.int .i64 y1, .int .i64 y2])) w :=
  gobK.loadPart (off := 1) Tryz.underlying35 ho hx [.int .i64 y1, .int .i64 y2] hrd hi (sb_node k y1 y2) (by kernel_rfl)
theorem exec_neq_stH {c : Act} {o : Oper} {x y : Operand} {ty : TypeId} (ho : o.op = .binOp .neq 35 x y ty) {w : World} (p q : Qm.St) (hx : c.eval x = snV p) (hy : c.eval y = snV q) {b : Bool} (hb : decide (p = q) = !b) :
    (execOp c.eval o).run Tryz.prog w = .ok (.value (.bool b)) w := by
  have h1 : b = !decide (p = q) := by rw [hb, Bool.not_not]
  rw [h1]
  obtain ⟨a, b⟩ := p
  obtain ⟨d, e⟩ := q
  unfold execOp
  simp only [ho, hx, hy]
  go_simp
  by_cases h1 : a = d <;> by_cases h2 : b = e <;> simp [h1, h2]
end Go.Proofs.YthifdefjmfakgaaGreat

namespace Go.Proofs.YthifdefjmfakgaaGreat
open Go.RowKit
open Tm (Sp Tr has put cut kids)

/-- what is so of a node -/
structure RingN (g : Gm.G) (n : Qm.St) (s : Sp) : Prop where
  at_ : g.s n = some s
  wn : StWf n
  wp : StWf s.1
  upP : ¬ Gm.Leads g true s.1 n
  mas : ∀ m, g.m n = some m → StWf m ∧ ¬ Gm.Leads g true m n ∧ ¬ Gm.Leads g false m n ∧ Gm.has g m = true
  kid : ∀ c k, g.s c = some (n, k) → StWf c ∧ ¬ Gm.Leads g false c n
theorem Gm.Good.ring {g : Gm.G} (h : Gm.Good g) {n : Qm.St} {s : Sp} (hs : g.s n = some s) : RingN g n s := by
  have hok : ∀ x, (g.s x).isSome = true → Tm.okN x = true := fun x hx => by
    obtain ⟨t, ht⟩ := Option.isSome_iff_exists.1 hx
    exact (h.node x t ht).1
  have u1 : Gm.UpS g n s.1 := Or.inl ⟨s.2, by rw [hs]⟩
  refine ⟨hs, okN_wf (h.node n s hs).1, (rightSp_wf (h.node n s hs).2.1).1, fun hl => h.up _ _ u1 hl.2.2, fun m hm => ?_, fun c k hc => ?_⟩
  · have h1 := h.mas n m hm
    exact ⟨okN_wf (hok m h1.2), fun hl => h.up n m (Or.inr hm) hl.2.2, fun hl => h.dn n m (Or.inr hm) hl.2.2, by unfold Gm.has; rw [h1.2]; rfl⟩
  · exact ⟨okN_wf (h.node c _ hc).1, fun hl => h.dn n c (Or.inl ⟨k, hc⟩) hl.2.2⟩
/-- the way up from a node -/
structure ChainN (l : List Qm.St) (s : Sp) (n : Nat) : Prop where
  pos : 0 < l.length
  le : l.length ≤ n
  first : l[0]? = some s.1
  last : l[l.length - 1]? = some (0, 0) ∨ l[l.length - 1]? = some (0, 1)
theorem TreeG.len {ops : List Pm.Wr} {T U : Tr} (h : TreeG ops T) (k : TreeG ops U) : T.length = U.length := (alikeT_of h.ok.nd k.ok.nd fun n => (h.lk n).trans (k.lk n).symm).1
theorem TreeG.chain {ops : List Pm.Wr} {T U : Tr} {m : List Qm.St} (h : TreeG ops T) (k : TreeG ops U) (hm : m.Perm (T.map Prod.fst)) {n : Qm.St} {s : Sp} (hs : (Gm.run ops).s n = some s) : ChainN (Tm.chain U n) s m.length := by
  have hl : Tm.look U n = some s := (k.lk n).trans hs
  have hu := k.ok.chain n
  have hml : m.length = U.length := by rw [hm.length_eq, List.length_map]; exact h.len k
  generalize Tm.chain U n = l at *
  have h1 := Tm.up_len hu
  cases hu with
  | stop h2 => rw [hl] at h2; cases h2
  | step h2 h3 =>
    next s' l' =>
    rw [hl] at h2
    cases h2
    have h4 := Tm.up_last (.step hl h3) (by simp) k.ok.par
    refine ⟨by simp, by rw [hml]; exact h1, rfl, ?_⟩
    rw [List.getLast_eq_getElem] at h4
    rw [List.getElem?_eq_getElem (by simp)]
    rcases Tm.top_iff.1 h4 with h5 | h5
    · exact Or.inl (by rw [h5])
    · exact Or.inr (by rw [h5])
theorem TreeG.node {ops : List Pm.Wr} {T : Tr} {m : List Qm.St} (h : TreeG ops T) (hm : m.Perm (T.map Prod.fst)) {n : Qm.St} (hn : n ∈ m) : ∃ s, (Gm.run ops).s n = some s := by
  obtain ⟨e, he, rfl⟩ := List.mem_map.1 (hm.mem_iff.1 hn)
  exact ⟨e.2, by rw [← h.lk]; exact Tm.look_some h.ok.nd he⟩
theorem TreeG.kid {ops : List Pm.Wr} {T : Tr} {m : List Sbm.Sib} (h : TreeG ops T) {p : Qm.St} (hm : m.Perm (Rtm.sibs T p)) {e : Sbm.Sib} (he : e ∈ m) : (Gm.run ops).s e.2 = some (p, e.1) := by
  obtain ⟨t, ht, rfl⟩ := List.mem_map.1 (hm.mem_iff.1 he)
  obtain ⟨h1, h2⟩ := List.mem_filter.1 ht
  have h3 : t.2.1 = p := by simpa using h2
  rw [← h.lk, Tm.look_some h.ok.nd (n := t.1) (s := t.2) h1, ← h3]
end Go.Proofs.YthifdefjmfakgaaGreat
