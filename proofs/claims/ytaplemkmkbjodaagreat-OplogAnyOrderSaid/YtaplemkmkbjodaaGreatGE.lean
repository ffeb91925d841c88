/-
  READING, whatever the reader's error is: numbers, stamps, texts, values, the Path, On.
  No conditions but sizes.
  READING, whatever the reader's error is: values, On, the Path.
  No conditions but sizes.
  READING a Path: as many stamps as its count says, until an error.
  Conditions: at most 10^12 bytes are left, or the count is at most 10^12.
-/
import Derived.Test.YtaplemkmkbjodaaGreatOFit
namespace Go.Proofs.YtaplemkmkbjodaaGreat
open Go.RowKit

/-- a reader that has s left -/
def RdS (w : World) (B b : Nat) (s : RS) : Prop := Rdr w B b s.1 s.2
theorem RdS.kept {w w' : World} {B b : Nat} {s : RS} (h : RdS w B b s) (hb : Below w.heap.size w w') : RdS w' B b s := Rdr.kept h hb
theorem RdS.lt {w : World} {B b : Nat} {s : RS} (h : RdS w B b s) : b < w.heap.size := Rdr.lt h
theorem RdS.len {w : World} {B b : Nat} {s : RS} (h : RdS w B b s) : s.1.length ≤ 4611686018427387904 := h.2.2.2.2.2.1

end Go.Proofs.YtaplemkmkbjodaaGreat

namespace Go.Proofs.YtaplemkmkbjodaaGreat
open Go.RowKit

/-- what turns above the reader leaves it -/
theorem Rdr.under {w w' : World} {B b M : Nat} {l : List UInt8} {err : Nat} (h : Rdr w B b l err) (hb : Below M w w') (hM : b < M) : Rdr w' B b l err := by
  obtain ⟨h0, h1, h2, h3, h4, h5, p, c, h6, h7, h8, h9, h10⟩ := h
  exact ⟨h0, by rw [hb.cell (by simpa using hM)]; exact h1, by rw [hb.cell (by simpa using hM)]; exact h2, by rw [hb.frozen (by simpa using hM)]; exact h3, by rw [hb.frozen (by simpa using hM)]; exact h4, h5, p, c, by rw [hb.cell (by simpa using hM)]; exact h6,
    h7.below hb (fun a ha => Nat.lt_trans (h10 a ha).1 hM), h8, h9, h10⟩
theorem RdS.under {w w' : World} {B b M : Nat} {s : RS} (h : RdS w B b s) (hb : Below M w w') (hM : b < M) : RdS w' B b s := Rdr.under h hb hM

end Go.Proofs.YtaplemkmkbjodaaGreat

namespace Go.Proofs.YtaplemkmkbjodaaGreat
open Go.RowKit

section
variable {P : Program}
/-- append of elements of k cells, however many there is room for -/
theorem wpList_append_kL {w : World} {ops : Array Oper} {rest : List Oper} {o : Oper} {a : Act} {Q : Exit → Act → World → Prop} (hgd : o.guard = none) (s x : Operand) (t : TypeId)
    (ho : o.op = .call { callee := .builtin .append, args := #[s, x], argTypes := #[t, t] })
    (base : Nat) (e : TypeId) (i : TypeInfo) (z : Value) (k bytes : Nat) (ht : P.underlying t = some (.slice e)) (hi : P.info? e = some i) (hz : i.zero = some z)
    (hsize : i.size = k) (hk0 : 0 < k) (hby : i.bytes = bytes) (hb1 : bytes ≤ 1000) (hzs : z.cells.size = k)
    (v : Value) (n : Nat) (xs : List Value) (hs : a.eval s = v) (hown : w.ownsRow base e k v n xs)
    (p : Option Addr) (m c : Nat) (us : List Value) (hx : a.eval x = .slice p m c) (hus : us.length = m * k) (hrd : Rd w p us) (hpn : p = none → c = 0) (h1 : ∀ u ∈ us, u.oneCell' = true)
    (hsz : (n + m) * bytes ≤ 211106232532992) (hm : n + m ≤ 9000000000000000000) (hbase : base ≤ w.heap.size)
    (h : ∀ p' c' w', w'.ownsRow base e k (.slice p' (n + m) c') (n + m) (xs ++ us) → w.grownBy w' v.ownBlock → (∀ g, (Value.slice p' (n + m) c').ownBlock = some g → v.ownBlock = some g ∨ w.heap.size ≤ g) → wpList P ops Q rest (a.put o.dst (.slice p' (n + m) c')) w') : wpList P ops Q (o :: rest) a w := by
  refine wpList_plain hgd fun K hK => ?_
  obtain ⟨v', w', hr, h2, h3, h4⟩ := run_append_k (P := P) w base t o.type e i z k bytes ht hi hz hsize hk0 hby (by omega) hzs v n xs hown p m c us hus hrd hpn h1 hsz (by unfold maxLen; omega) hbase
  obtain ⟨p', c', rfl, -⟩ := own_rd h2
  unfold Oper.wp execOp
  simp only [ho, resolve, invoke, builtin, Sem.run_bind, Sem.run_pure, Result.andThen_ok, List.map_toArray, List.map_cons, List.map_nil, hs, hx, hr]
  exact hK _ _ (h p' c' w' h2 h3 h4)
end
theorem oinfo_st : (Tryz.prog.info? 50).map (fun i => (i.zero, i.size, i.bytes)) = some (some (.agg #[.int .i64 0, .int .i64 0]), 2, 16) := by kernel_rfl
theorem rd_st_one (w : World) (x : Qm.St) (E : TypeId) : Rd (w.alloc (.cells #[.int .i64 x.1, .int .i64 x.2] E)) (some ⟨w.heap.size, 0, none⟩) (stCells [x]) := fun _ => ⟨_, 0, rfl, fun i u hu => by
  rw [Nat.zero_add, World.cell?_alloc_at _ _ _ _ rfl]
  rw [← hu]
  simp [stCells]⟩
/-- a row of the call's own, from block B on -/
def OwnP (w : World) (B : Nat) (v : Value) (l : List Qm.St) : Prop := w.ownsRow B 50 2 v l.length (stCells l)
theorem OwnP.below {w w' : World} {B : Nat} {v : Value} {l : List Qm.St} (h : OwnP w B v l) (hb : Below w.heap.size w w') : OwnP w' B v l := World.ownsRow.kept (row := none) h ⟨hb.os, hb.tape, hb.output, hb.size, fun k hk _ => hb.block k hk⟩ (by cases hv : v.ownBlock <;> simp)
theorem OwnP.only {w w' : World} {B b : Nat} {v : Value} {l : List Qm.St} (h : OwnP w B v l) (ho : Only b w w') (hb : b < B) : OwnP w' B v l :=
  World.ownsRow.kept (row := some b) h ho (by
    cases hv : v.ownBlock with
    | none => simp
    | some g => have := (World.ownsRow.lt h g hv).1; simp; omega)
theorem OwnP.grown {w w' : World} {B : Nat} {v : Value} {l : List Qm.St} (h : OwnP w B v l) (hg : w.grownBy w' v.ownBlock) (hB : B ≤ w.heap.size) : Below B w w' :=
  ⟨hg.os, hg.tape, hg.output, hg.size, fun k hk => hg.block k (by omega) (by
    intro e
    have := (World.ownsRow.lt h k e.symm).1
    omega)⟩
theorem OwnP.nil (w : World) (B : Nat) : OwnP w B (.slice none 0 0) [] := World.ownsRow_nil w B 50 2

theorem numR_len {l : List UInt8} {m : Int} (h : (uptoR l m).2.2 = 0) : (uptoR l m).2.1.length + 1 ≤ l.length := by
  unfold uptoR at h ⊢
  have hs := numR_small l 281474976710655
  split
  · next h1 => rw [if_pos h1] at h; exact absurd h h1
  · next h1 =>
    rw [if_neg h1] at h
    have h1' : (numR l 281474976710655).2.2 = 0 := by simpa using h1
    have := hs.2.2 h1'
    split
    · next h2 => rw [if_pos h2] at h; simp at h
    · simp only [List.length_drop]; omega
theorem takeR_len {l : List UInt8} (h : (takeR l).2.2.2 = 0) : (takeR l).2.2.1.length + 1 ≤ l.length := by
  unfold takeR at h ⊢
  split
  · next h1 => rw [if_pos h1] at h; exact absurd h h1
  · next h1 =>
    rw [if_neg h1] at h
    have h1' : (uptoR l 1099511627776).2.2 = 0 := by simpa using h1
    have := numR_len h1'
    have := uptoR_len (uptoR l 1099511627776).2.1 15
    split
    · next h2 => rw [if_pos h2] at h; exact absurd h h2
    · simp only; omega
theorem stS_len {s : RS} (h : (stS s).2.2 = 0) : (stS s).2.1.length + 1 ≤ s.1.length := by
  unfold stS at h ⊢
  split
  · next h1 => rw [if_pos h1] at h; exact absurd h h1
  · next h1 => rw [if_neg h1] at h; exact takeR_len h
theorem numS_len (s : RS) : (numS s).2.1.length ≤ s.1.length := by
  unfold numS
  split
  · exact Nat.le_refl _
  · exact uptoR_len _ _
theorem numS_lt (s : RS) : (numS s).1 < 281474976710656 := by
  unfold numS
  split
  · show (0 : Nat) < 281474976710656
    omega
  · exact uptoR_lt _
theorem lpS_bad {n : Nat} {s : RS} {a : List Qm.St} (h : (stS s).2.2 ≠ 0) : lpS (n + 1) s a = ([], (stS s).2) := by rw [lpS, if_pos h]
theorem lpS_ok {n : Nat} {s : RS} {a : List Qm.St} (h : (stS s).2.2 = 0) : lpS (n + 1) s a = lpS n (stS s).2 (a ++ [(stS s).1]) := by rw [lpS, if_neg (by simp [h])]

theorem Only.then_new {b : Nat} {w x y : World} (h : Only b w x) (k : Below w.heap.size x y) : Only b w y :=
  ⟨k.os.trans h.os, k.tape.trans h.tape, k.output.trans h.output, Nat.le_trans h.size k.size, fun i hi hn => (k.block i hi).trans (h.block i hi hn)⟩
/-- what takePath leaves -/
def TookP (w : World) (B b : Nat) (r : List Qm.St × RS) (e : Ending) (w' : World) : Prop :=
  ∃ p c, e = .returned (.slice p r.1.length c) ∧ OwnP w' w.heap.size (.slice p r.1.length c) r.1 ∧ RdS w' B b r.2 ∧ Only b w w'

end Go.Proofs.YtaplemkmkbjodaaGreat
