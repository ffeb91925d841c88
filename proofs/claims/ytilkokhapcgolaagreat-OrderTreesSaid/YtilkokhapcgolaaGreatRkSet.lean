/-
  ROWS OF STRUCTS: cells of an element of an own row are written; a new row of one element.
  No conditions but sizes.
-/
import Derived.Test.YtilkokhapcgolaaGreatRk
namespace Go.Proofs.YtilkokhapcgolaaGreat
open Go.RowKit

def setL (xs : List Value) : Nat → List Value → List Value
  | _, [] => xs
  | o, v :: vs => setL (xs.set o v) (o + 1) vs
theorem setL_length : ∀ (vs xs : List Value) (o : Nat), (setL xs o vs).length = xs.length
  | [], _, _ => rfl
  | v :: vs, xs, o => by rw [setL, setL_length vs]; simp
theorem setL_get : ∀ (vs xs : List Value) (o : Nat), o + vs.length ≤ xs.length → ∀ i, (setL xs o vs)[i]? = if o ≤ i ∧ i < o + vs.length then vs[i - o]? else xs[i]?
  | [], xs, o, _, i => by rw [setL, if_neg (by simp)]
  | v :: vs, xs, o, h, i => by
    rw [setL, setL_get vs _ _ (by simp at h ⊢; omega) i]
    simp only [List.length_cons] at h ⊢
    by_cases h1 : o + 1 ≤ i ∧ i < o + 1 + vs.length
    · rw [if_pos h1, if_pos (by omega)]
      obtain ⟨d, rfl⟩ : ∃ d, i = o + 1 + d := ⟨i - (o + 1), by omega⟩
      rw [show o + 1 + d - (o + 1) = d from by omega, show o + 1 + d - o = d + 1 from by omega]
      rfl
    · rw [if_neg h1]
      by_cases h2 : i = o
      · subst h2
        rw [if_pos (by omega), List.getElem?_set_self (by omega), Nat.sub_self]
        rfl
      · rw [if_neg (by omega), List.getElem?_set_ne (fun e => h2 e.symm)]
theorem own_setCells : ∀ (vs : List Value) (w : World) {B k g n cap : Nat} {E : TypeId} {xs : List Value} (o : Nat), w.ownsRow B E k (.slice (some ⟨g, 0, none⟩) n cap) n xs →
    (w.setCells g o vs).ownsRow B E k (.slice (some ⟨g, 0, none⟩) n cap) n (setL xs o vs) ∧ w.grownBy (w.setCells g o vs) (some g)
  | [], w, _, _, _, _, _, _, _, _, h => ⟨h, ⟨rfl, rfl, rfl, Nat.le_refl _, fun _ _ _ => rfl⟩⟩
  | v :: vs, w, _, _, _, _, _, _, _, o, h => by
    obtain ⟨h1, g1⟩ := h.stored o v
    obtain ⟨h2, g2⟩ := own_setCells vs (w.setCell ⟨_, o, none⟩ v) (o + 1) h1
    exact ⟨h2, ⟨g2.os.trans g1.os, g2.tape.trans g1.tape, g2.output.trans g1.output, Nat.le_trans g1.size g2.size, fun k hk hn => (g2.block k (Nat.lt_of_lt_of_le hk g1.size) hn).trans (g1.block k hk hn)⟩⟩
theorem own_there {w : World} {B k g n cap : Nat} {E : TypeId} {xs : List Value} (h : w.ownsRow B E k (.slice (some ⟨g, 0, none⟩) n cap) n xs) (o m : Nat) (hm : o + m ≤ xs.length) : w.there g o m := fun j hj => by
  refine ⟨?_, h.frozenAt _⟩
  rw [h.cellAt (o + j) (by have := h.1; omega)]
  simp
  omega
section
variable {α : Type} {E SE : TypeId} {k by_ : Nat} {ce : α → List Value}
/-- a part of an element, written -/
theorem RK.setL (V : RK E SE k by_ ce) (l : List α) (i off : Nat) (x y : α) (cs : List Value) (h : l[i]? = some x) (hoff : off + cs.length ≤ k)
    (hcs : ∀ j, j < k → (ce y)[j]? = if off ≤ j ∧ j < off + cs.length then cs[j - off]? else (ce x)[j]?) : Go.Proofs.YtilkokhapcgolaaGreat.setL (l.flatMap ce) (i * k + off) cs = (l.set i y).flatMap ce := by
  have hi : i < l.length := (List.getElem?_eq_some_iff.1 h).1
  have hk := V.pos
  have hik : i * k + k ≤ l.length * k := by
    have := Nat.mul_le_mul_right k (show i + 1 ≤ l.length by omega)
    rw [Nat.add_mul, Nat.one_mul] at this
    exact this
  apply List.ext_getElem?
  intro j
  rw [setL_get _ _ _ (by rw [V.length]; omega)]
  by_cases hj : j < l.length * k
  · have hb : j % k < k := Nat.mod_lt _ hk
    have hd : j / k < l.length := Nat.div_lt_of_lt_mul (by rw [Nat.mul_comm]; exact hj)
    have e : j = j / k * k + j % k := by have := Nat.div_add_mod j k; rw [Nat.mul_comm] at this; omega
    generalize j / k = a at *
    generalize j % k = b at *
    subst e
    by_cases q : a = i
    · subst q
      rw [V.get (l.set a y) a b y (by rw [List.getElem?_set_self hd]) hb, hcs b hb, V.get l a b x h hb]
      by_cases hr : off ≤ b ∧ b < off + cs.length
      · rw [if_pos (by omega), if_pos hr, show a * k + b - (a * k + off) = b - off from by omega]
      · rw [if_neg (by omega), if_neg hr]
    · have hne : ¬ (i * k + off ≤ a * k + b ∧ a * k + b < i * k + off + cs.length) := by
        rintro ⟨h1, h2⟩
        rcases Nat.lt_or_gt_of_ne q with h3 | h3
        · have := Nat.mul_le_mul_right k (show a + 1 ≤ i by omega)
          rw [Nat.add_mul, Nat.one_mul] at this
          omega
        · have := Nat.mul_le_mul_right k (show i + 1 ≤ a by omega)
          rw [Nat.add_mul, Nat.one_mul] at this
          omega
      rw [if_neg hne, V.get l a b l[a] (List.getElem?_eq_getElem hd) hb, V.get (l.set i y) a b l[a] (by rw [List.getElem?_set_ne (fun e => q e.symm)]; exact List.getElem?_eq_getElem hd) hb]
  · rw [if_neg (by omega), List.getElem?_eq_none (by rw [V.length]; omega), List.getElem?_eq_none (by rw [V.length, List.length_set]; omega)]
theorem wp_build1 {w : World} {o : Oper} {a : Act} {K : Act → World → Prop} {Q : Exit → Act → World → Prop} (x : Operand) (ho : o.op = .buildSlice SE 1 #[(0, x)]) (A : Array Value) (hx : a.eval x = .agg A)
    (hr : ∀ w : World, (Instr.buildSlice SE 1 #[(0, .agg A)]).run Tryz.prog w = .ok (.slice (some ⟨w.heap.size, 0, none⟩) 1 1) (w.alloc (.cells A E)))
    (h : K (a.put o.dst (.slice (some ⟨w.heap.size, 0, none⟩) 1 1)) (w.alloc (.cells A E))) : Oper.wp Tryz.prog o a w K Q := by
  unfold Oper.wp execOp
  simp only [ho, Sem.run_bind, Sem.run_pure, Result.andThen_ok, List.map_toArray, List.map_cons, List.map_nil, hx, hr]
  exact h
end
end Go.Proofs.YtilkokhapcgolaaGreat
