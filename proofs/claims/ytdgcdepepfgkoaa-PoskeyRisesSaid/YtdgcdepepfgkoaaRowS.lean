/-
  ROWS OF TEXTS of the call's own: append to them, reading them.
  No conditions but sizes.
-/
import Derived.Test.YtdgcdepepfgkoaaAppend
namespace Go.Proofs.Ytdgcdepepfgkoaa
open Go.RowKit

/-- the cells of texts -/
def vstr (l : List ByteArray) : List Value := l.map Value.string
theorem vstr_length (l : List ByteArray) : (vstr l).length = l.length := by simp [vstr]
theorem vstr_one {l : List ByteArray} : ∀ u ∈ vstr l, u.oneCell' = true := by
  intro u hu
  obtain ⟨x, _, rfl⟩ := List.mem_map.1 hu
  rfl
/-- the value owns a row of the call's own (from block B on) that holds these texts -/
def OwnS (E : TypeId) (w : World) (B : Nat) (v : Value) (l : List ByteArray) : Prop := w.ownsRow B E 1 v l.length (vstr l)
theorem OwnS.nil (E : TypeId) (w : World) (B : Nat) : OwnS E w B (.slice none 0 0) [] := World.ownsRow_nil w B E 1
theorem OwnS.below {E : TypeId} {w w' : World} {B : Nat} {v : Value} {l : List ByteArray} (h : OwnS E w B v l) (hb : Below w.heap.size w w') : OwnS E w' B v l := own_below h hb
theorem OwnS.base {E : TypeId} {w : World} {B B' : Nat} {v : Value} {l : List ByteArray} (h : OwnS E w B v l) (hB : B' ≤ B) : OwnS E w B' v l := by
  have h0 : w.ownsRow B E 1 v l.length (vstr l) := h
  refine ⟨h0.1, ?_⟩
  rcases h0.2 with h2 | ⟨g, cap, cur, hv, hg, r⟩
  · exact Or.inl h2
  · exact Or.inr ⟨g, cap, cur, hv, by omega, r⟩
/-- what is written elsewhere leaves it -/
theorem OwnS.grown {E : TypeId} {w w' : World} {B : Nat} {v : Value} {l : List ByteArray} {row : Option Nat} (h : OwnS E w B v l) (hg : w.grownBy w' row) (hr : ∀ g, v.ownBlock = some g → row ≠ some g) : OwnS E w' B v l :=
  World.ownsRow.kept (row := row) h hg (by
    cases hv : v.ownBlock with
    | none => simp
    | some g => have := hr g hv; simpa using fun e => this (Eq.symm e))
theorem OwnS.lt {E : TypeId} {w : World} {B : Nat} {v : Value} {l : List ByteArray} (h : OwnS E w B v l) : ∀ g, v.ownBlock = some g → B ≤ g ∧ g < w.heap.size := fun g hg => World.ownsRow.lt h g hg
/-- it is a slice that reads as its texts -/
theorem OwnS.rd {E : TypeId} {w : World} {B : Nat} {v : Value} {l : List ByteArray} (h : OwnS E w B v l) : ∃ p c, v = .slice p l.length c ∧ Rd w p (vstr l) ∧ (p = none → c = 0) ∧ ∀ a, p = some a → B ≤ a.block ∧ a.block < w.heap.size := by
  have h0 : w.ownsRow B E 1 v l.length (vstr l) := h
  rcases h0.2 with ⟨rfl, hn⟩ | ⟨g, cap, cur, rfl, hg, hh, hnc, hcm, -, -⟩
  · exact ⟨none, 0, by rw [hn], fun h => by rw [vstr_length] at h; omega, fun _ => rfl, fun a ha => by cases ha⟩
  · refine ⟨_, cap, rfl, fun _ => ⟨g, 0, rfl, fun i u hu => ?_⟩, (fun e => by cases e), fun a ha => ?_⟩
    · rw [Nat.zero_add]
      have hi := (List.getElem?_eq_some_iff.1 hu).1
      rw [vstr_length] at hi
      rw [h0.cellAt i (by omega), hu]
    · cases ha
      exact ⟨hg, (Array.getElem?_eq_some_iff.1 hh).1⟩
theorem OwnS.slice {E : TypeId} {w : World} {B : Nat} {v : Value} {l : List ByteArray} (h : OwnS E w B v l) : ∃ p n c, v = .slice p n c := by
  obtain ⟨p, c, h, -⟩ := h.rd
  exact ⟨p, _, c, h⟩
theorem Rd.cell {w : World} {p : Option Addr} {l : List ByteArray} (h : Rd w p (vstr l)) (h0 : 0 < l.length) : ∃ b o, p = some ⟨b, o, none⟩ ∧ ∀ i, i < l.length → w.cell? ⟨b, o + i, none⟩ = some (.string (l.getD i ByteArray.empty)) := by
  obtain ⟨b, o, rfl, hc⟩ := h (by rw [vstr_length]; exact h0)
  refine ⟨b, o, rfl, fun i hi => hc i _ ?_⟩
  simp [vstr, List.getD, List.getElem?_eq_getElem hi]
theorem Rd.kept {w w' : World} {p : Option Addr} {us : List Value} (h : Rd w p us) (hb : Below w.heap.size w w') : Rd w' p us := by
  intro h0
  obtain ⟨b, o, rfl, hc⟩ := h h0
  refine ⟨b, o, rfl, fun i u hu => ?_⟩
  have h1 := hc i u hu
  have := cell_lt h1
  rw [hb.cell (by simpa using this)]
  exact h1
/-- one new cell -/
theorem Rd.one (w : World) (s : ByteArray) (E : TypeId) : Rd (w.alloc (.cells #[.string s] E)) (some ⟨w.heap.size, 0, none⟩) (vstr [s]) := fun _ => ⟨_, 0, rfl, fun i u hu => by
  have hi : i < 1 := (List.getElem?_eq_some_iff.1 hu).1
  obtain rfl : i = 0 := by omega
  rw [World.cell?_alloc_at _ _ _ _ rfl]
  simp [vstr] at hu
  subst hu
  rfl⟩

section
variable {P : Program}
/-- THE OPERATION, for the walk: append of texts. -/
theorem wpList_append_s {w : World} {ops : Array Oper} {rest : List Oper} {o : Oper} {a : Act} {Q : Exit → Act → World → Prop} (hgd : o.guard = none) (s x : Operand) (t : TypeId)
    (ho : o.op = .call { callee := .builtin .append, args := #[s, x], argTypes := #[t, t] })
    (base : Nat) (e : TypeId) (i : TypeInfo) (ht : P.underlying t = some (.slice e)) (hi : P.info? e = some i) (hz : i.zero = some (.string ByteArray.empty))
    (hsize : i.size = 1) (hby : i.bytes = 16)
    (v : Value) (xs : List ByteArray) (hs : a.eval s = v) (hown : OwnS e w base v xs)
    (p : Option Addr) (m c : Nat) (l : List ByteArray) (hx : a.eval x = .slice p m c) (hm : l.length = m) (hrd : Rd w p (vstr l)) (hpn : p = none → c = 0)
    (hbytes : xs.length + l.length ≤ 1000) (hbase : base ≤ w.heap.size)
    (h : ∀ v' w', OwnS e w' base v' (xs ++ l) → Below base w w' → w.grownBy w' v.ownBlock → wpList P ops Q rest (a.put o.dst v') w') : wpList P ops Q (o :: rest) a w := by
  subst hm
  refine wpList_plain hgd fun K hK => ?_
  obtain ⟨v', w', hr, h2, h3, h4⟩ := run_append_rd (P := P) w base t o.type e i (.string ByteArray.empty) 16 ht hi hz hsize hby (by decide) rfl v xs.length (vstr xs) hown p c (vstr l) hrd hpn vstr_one
    (by rw [vstr_length]; omega) (by rw [vstr_length]; unfold maxLen; omega) hbase
  rw [vstr_length] at hr h2 h4
  unfold Oper.wp execOp
  simp only [ho, resolve, invoke, builtin, Sem.run_bind, Sem.run_pure, Result.andThen_ok, List.map_toArray, List.map_cons, List.map_nil, hs, hx, hr]
  refine hK _ _ (h v' w' ?_ ?_ h3)
  · unfold OwnS vstr; rw [List.map_append, List.length_append]; exact h2
  · exact (Below.refl _ _).grown h3 hbase fun k hk => (World.ownsRow.lt hown k hk).1
end

end Go.Proofs.Ytdgcdepepfgkoaa
