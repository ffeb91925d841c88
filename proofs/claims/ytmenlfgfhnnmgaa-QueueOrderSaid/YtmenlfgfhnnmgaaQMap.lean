/-
  A MAP FROM ITEMS TO NUMBERS, as what it tells at each item.
  No conditions but sizes.
-/
import Derived.Test.YtmenlfgfhnnmgaaQMem
import Derived.Maps.Views
import Derived.Maps.OwnOps
import Derived.DeepKeys4
namespace Go.Proofs.Ytmenlfgfhnnmgaa
open Go.RowKit
open Go.Maps (Keyed)

theorem laidB : laidOutB Try.prog = true := by kernel_rfl
theorem lawIt : Keyed Try.prog 40 := Keyed.of_law (deep_law_laid laidB (m := 3) (by omega) (of_decide_eq_true (by kernel_rfl)) (by kernel_rfl) (by kernel_rfl))

/-- a number that a word holds -/
def I64 (n : Int) : Prop := (Lit.int .i64 n).wf = true
theorem i64_of {n : Int} (h1 : -9223372036854775808 ≤ n) (h2 : n ≤ 9223372036854775807) : I64 n := by
  have e1 : IntKind.i64.min = -9223372036854775808 := by decide
  have e2 : IntKind.i64.max = 9223372036854775807 := by decide
  simp [I64, Lit.wf, e1, e2]
  omega
def ItWf (x : Qm.It) : Prop := I64 x.1.1 ∧ I64 x.1.2 ∧ I64 x.2
/-- an item as a value -/
abbrev itA (x : Qm.It) : Value := .agg #[.int .i64 x.1.1, .int .i64 x.1.2, .int .i64 x.2]

theorem key_it (x : Qm.It) (h : ItWf x) : ∃ l, keyOf Try.prog 40 (itA x) = some l := by
  obtain ⟨h0, h1, h2⟩ := h
  unfold I64 at h0 h1 h2
  have hkt : Try.prog.keyType 40 = true := by kernel_rfl
  have hsz : 3 ≤ Try.prog.types.size := of_decide_eq_true (by kernel_rfl)
  obtain ⟨m, hm⟩ : ∃ m, Try.prog.types.size = m + 2 := ⟨Try.prog.types.size - 2, by omega⟩
  have c1 : Try.prog.cellsOf 40 = 3 := by kernel_rfl
  have c2 : Try.prog.cellsOf 34 = 2 := by kernel_rfl
  have c3 : Try.prog.cellsOf 3 = 1 := by kernel_rfl
  have hu := Try.underlying40
  have hs := Try.underlying34
  have hi := Try.underlying3
  have k1 : ∀ (n : Nat) (a : Int), (Lit.int .i64 a).wf = true → Try.prog.keyLits (n + 1) 3 [.int .i64 a] = some [.int .i64 a] := fun n a ha => by
    simp [Program.keyLits, hi, ha]
  have k2 : ∀ (n : Nat) (a b : Int), (Lit.int .i64 a).wf = true → (Lit.int .i64 b).wf = true → Try.prog.keyLits (n + 1 + 1) 34 [.int .i64 a, .int .i64 b] = some [.int .i64 a, .int .i64 b] := fun n a b ha hb => by
    unfold Program.keyLits
    simp only [hs]
    rw [if_pos ⟨by rw [c2]; rfl, by kernel_rfl⟩]
    simp [c3, k1 n a ha, k1 n b hb]
  have k3 : ∃ ls, Try.prog.keyLits (Try.prog.types.size + 1) 40 (itA x).cells.toList = some ls := by
    rw [hm]
    unfold Program.keyLits
    simp only [hu]
    rw [if_pos ⟨by rw [c1]; rfl, by kernel_rfl⟩]
    simp [Value.cells, c2, c3, k1 _ _ h2, k2 m _ _ h0 h1]
  obtain ⟨ls, hls⟩ := k3
  refine ⟨.string (keyBytes ls), ?_⟩
  unfold keyOf
  simp only [hu]
  rw [if_pos (by simp [hkt, Value.formed, hu, c1]), hls]
  rfl

/-- block b is a map that tells f -/
def Cnt (w : World) (b n : Nat) (f : Qm.It → Int) : Prop :=
  ∃ D : DataW Unit, w.ownsMap Try.prog 40 (plainElem Try.prog 3) b n D ∧ Maps.IsMap D ∧ ∀ x l, keyOf Try.prog 40 (itA x) = some l → D.atKey l (.lit (.int .i64 0)) = .lit (.int .i64 (f x))
theorem Cnt.start (w : World) : Cnt (w.alloc (.map #[] 0)) w.heap.size 0 (fun _ => 0) :=
  ⟨.map [], World.ownsMap_made _ _ _ _, Maps.isMap_empty, fun _ _ _ => rfl⟩
theorem Cnt.turns {w w' : World} {F : Nat → Prop} {b n : Nat} {f : Qm.It → Int} (h : Cnt w b n f) (ht : Turns F w w') (hb : ¬ F b) : Cnt w' b n f := by
  obtain ⟨D, ⟨es, clock, h1, h2⟩, h3⟩ := h
  exact ⟨D, ⟨es, clock, by rw [ht.block b (Array.getElem?_eq_some_iff.1 h1).1 hb]; exact h1, h2⟩, h3⟩
theorem Cnt.below {w w' : World} {b n : Nat} {f : Qm.It → Int} (h : Cnt w b n f) (hb : Below w.heap.size w w') : Cnt w' b n f := h.turns (F := fun _ => False) (Turns.of_below hb) fun h => h
theorem Cnt.lt {w : World} {b n : Nat} {f : Qm.It → Int} (h : Cnt w b n f) : b < w.heap.size := by
  obtain ⟨D, h1, -⟩ := h
  exact h1.lt
theorem Cnt.congr {w : World} {b n : Nat} {f g : Qm.It → Int} (h : Cnt w b n f) (hfg : ∀ x, f x = g x) : Cnt w b n g := by
  obtain rfl : f = g := funext hfg
  exact h
theorem Cnt.look {w : World} {b n : Nat} {f : Qm.It → Int} (h : Cnt w b n f) (x : Qm.It) (hx : ItWf x) :
    (Instr.lookup 63 (.map (some b)) (itA x) false).run Try.prog w = .ok (.int .i64 (f x)) w := by
  obtain ⟨D, h1, -, h3⟩ := h
  obtain ⟨l, hl⟩ := key_it x hx
  obtain ⟨c, hrun, hat, -⟩ := h1.lookup_int lawIt Try.underlying63 Try.underlying3 (by kernel_rfl) hl
  rw [h3 x l hl] at hat
  simp only [DataW.lit.injEq, Lit.int.injEq, true_and] at hat
  rw [hrun, hat]
theorem Cnt.upd {w' : World} {b n : Nat} {f : Qm.It → Int} {x : Qm.It} {v : Int} {l : Lit} {D : DataW Unit} (hD : Maps.IsMap D) (h3 : ∀ x l, keyOf Try.prog 40 (itA x) = some l → D.atKey l (.lit (.int .i64 0)) = .lit (.int .i64 (f x)))
    (hl : keyOf Try.prog 40 (itA x) = some l) (ho : w'.ownsMap Try.prog 40 (plainElem Try.prog 3) b (n + 1) (D.put l (.lit (.int .i64 v)))) : Cnt w' b (n + 1) (fun y => if y = x then v else f y) := by
  refine ⟨_, ho, hD.put _ _, fun y k hk => ?_⟩
  by_cases e : y = x
  · subst e
    obtain rfl : k = l := by rw [hl] at hk; cases hk; rfl
    rw [Maps.atKey_put_same hD (lawIt.key hl)]
    simp
  · have hne : k ≠ l := fun ek => by
      subst ek
      have := lawIt.inj hk hl
      simp only [itA, Value.agg.injEq] at this
      have h4 := congrArg Array.toList this
      simp at h4
      obtain ⟨⟨y1, y2⟩, y3⟩ := y
      obtain ⟨⟨x1, x2⟩, x3⟩ := x
      simp only at h4
      exact e (by rw [h4.1, h4.2.1, h4.2.2])
    rw [Maps.atKey_put_other hne]
    simp only [if_neg e]
    exact h3 y k hk

end Go.Proofs.Ytmenlfgfhnnmgaa
