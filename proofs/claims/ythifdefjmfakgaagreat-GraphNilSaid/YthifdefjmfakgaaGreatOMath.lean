/-
  OPS, PLAINLY: what a kind names, which ops may be, when two are the same, their bytes, and how they are read.
  No conditions.
-/
import Derived.Test.YthifdefjmfakgaaGreatGE
import Derived.Test.YthifdefjmfakgaaGreatGB
import Derived.Test.YthifdefjmfakgaaGreatGF
import Derived.Test.YthifdefjmfakgaaGreatGG
import Derived.Test.YthifdefjmfakgaaGreatGQ
namespace Go.Proofs.YthifdefjmfakgaaGreat
open Go.RowKit

/-- an op, without where its Path lies -/
structure Opp where
  k : Int
  nt : Int
  nr : Int
  rt : Int
  rr : Int
  key : ByteArray
  path : List Qm.St
  p : Int
  vk : Int
  vn : Int
  vt : ByteArray
  on : Bool
def Opp.zero : Opp := ⟨0, 0, 0, 0, 0, ⟨#[]⟩, [], 0, 0, 0, ⟨#[]⟩, false⟩

/-- what a kind names: node, spot, master, path, value, on -/
structure Prt where
  node : Bool
  spot : Bool
  master : Bool
  path : Bool
  value : Bool
  on : Bool
def prt (k : Int) : Prt :=
  if k = 1 then ⟨false, true, false, false, false, false⟩ else if k = 2 then ⟨true, true, false, false, false, false⟩
  else if k = 3 then ⟨true, false, false, false, true, false⟩ else if k = 4 then ⟨true, false, false, false, false, true⟩
  else if k = 5 then ⟨true, false, true, false, false, false⟩ else if k = 6 then ⟨true, false, false, true, true, false⟩
  else ⟨false, false, false, false, false, false⟩
theorem prt_none {k : Int} (h1 : k ≠ 1) (h2 : k ≠ 2) (h3 : k ≠ 3) (h4 : k ≠ 4) (h5 : k ≠ 5) (h6 : k ≠ 6) : prt k = ⟨false, false, false, false, false, false⟩ := by
  unfold prt; rw [if_neg h1, if_neg h2, if_neg h3, if_neg h4, if_neg h5, if_neg h6]

def okNode (t r : Int) : Bool := rightB t r && decide (1 ≤ t)
def isZ (t r : Int) : Bool := t == 0 && r == 0
def isT (t r : Int) : Bool := t == 0 && r == 1
def okPlace (t r : Int) : Bool := okNode t r || isZ t r || isT t r
def okPath (l : List Qm.St) : Bool := decide (1 ≤ l.length) && decide (l.length ≤ 8) && l.all fun s => okNode s.1 s.2
def isV (k n : Int) (t : ByteArray) : Bool := k == 0 && n == 0 && decide (t = ⟨#[]⟩)

/-- may each part that is named be? -/
def fitO (p : Prt) (x : Opp) : Bool :=
  (!p.node || okNode x.nt x.nr) && (!p.spot || (okPlace x.rt x.rr && Km.rightB x.key.data.toList)) && (!p.master || okNode x.rt x.rr || isZ x.rt x.rr) &&
  (!p.path || okPath x.path) && (!p.value || right8V x.p x.vk x.vn x.vt.data.toList)
/-- is each part that is not named zero? -/
def aloneO (p : Prt) (x : Opp) : Bool :=
  (p.node || isZ x.nt x.nr) && (p.spot || p.master || isZ x.rt x.rr) && (p.spot || decide (x.key = ⟨#[]⟩)) && (p.path || x.path.length == 0) &&
  (p.value || (x.p == 0 && isV x.vk x.vn x.vt)) && (p.on || !x.on)
def rightO (x : Opp) : Bool := decide (1 ≤ x.k ∧ x.k ≤ 6) && fitO (prt x.k) x && aloneO (prt x.k) x

def sameO (x y : Opp) : Bool :=
  x.k == y.k && (x.nt == y.nt && x.nr == y.nr) && (x.rt == y.rt && x.rr == y.rr) && decide (x.key = y.key) && x.path == y.path && x.p == y.p && (x.vk == y.vk && x.vn == y.vn && decide (x.vt = y.vt)) && x.on == y.on
theorem sameO_iff {x y : Opp} : sameO x y = true ↔ x = y := by
  obtain ⟨a, b, c, d, e, f, g, h, i, j, k, l⟩ := x
  obtain ⟨a', b', c', d', e', f', g', h', i', j', k', l'⟩ := y
  simp only [sameO, Bool.and_eq_true, beq_iff_eq, decide_eq_true_eq, Opp.mk.injEq]
  constructor
  · rintro ⟨⟨⟨⟨⟨⟨⟨h1, h2, h3⟩, h4, h5⟩, h6⟩, h7⟩, h8⟩, ⟨h9, h10⟩, h11⟩, h12⟩
    exact ⟨h1, h2, h3, h4, h5, h6, h7, h8, h9, h10, h11, h12⟩
  · rintro ⟨h1, h2, h3, h4, h5, h6, h7, h8, h9, h10, h11, h12⟩
    exact ⟨⟨⟨⟨⟨⟨⟨h1, h2, h3⟩, h4, h5⟩, h6⟩, h7⟩, h8⟩, ⟨h9, h10⟩, h11⟩, h12⟩
theorem sameO_refl (x : Opp) : sameO x x = true := sameO_iff.2 rfl

/-- bytes: of a stamp, of stamps, of a text, of a value -/
def stB (t r : Int) : List UInt8 := Wm.numB t.toNat ++ Wm.numB r.toNat
def paB (l : List Qm.St) : List UInt8 := l.flatMap fun s => stB s.1 s.2
def txB (s : ByteArray) : List UInt8 := Wm.numB s.size ++ s.data.toList
def vlB (k n : Int) (t : ByteArray) : List UInt8 := Wm.numB k.toNat ++ restV k n t.data.toList
def digO (b : Bool) : Nat := if b then 1 else 0
/-- an op's bytes behind its kind -/
def tailB (x : Opp) : List UInt8 :=
  if x.k = 1 then stB x.rt x.rr ++ txB x.key else if x.k = 2 then stB x.nt x.nr ++ stB x.rt x.rr ++ txB x.key
  else if x.k = 3 then stB x.nt x.nr ++ Wm.numB x.p.toNat ++ vlB x.vk x.vn x.vt else if x.k = 4 then stB x.nt x.nr ++ Wm.numB (digO x.on)
  else if x.k = 5 then stB x.nt x.nr ++ stB x.rt x.rr else stB x.nt x.nr ++ Wm.numB x.path.length ++ paB x.path ++ Wm.numB x.p.toNat ++ vlB x.vk x.vn x.vt
def opB (x : Opp) : List UInt8 := Wm.numB x.k.toNat ++ tailB x
def putO (x : Opp) : List UInt8 × Nat := if rightO x = true then (opB x, 0) else ([], 1)

/-- what a reader has left, its error -/
abbrev RS := List UInt8 × Nat
def numS (s : RS) : Nat × RS := if s.2 ≠ 0 then (0, s) else uptoR s.1 281474976710655
def stS (s : RS) : Qm.St × RS := if s.2 ≠ 0 then ((0, 0), s) else (((takeR s.1).1, (takeR s.1).2.1), (takeR s.1).2.2)
def txS (s : RS) : ByteArray × RS := if s.2 ≠ 0 then (⟨#[]⟩, s) else (strB (textR s.1).1, (textR s.1).2)
def vlS (s : RS) : (Int × Int × ByteArray) × RS := if s.2 ≠ 0 then ((0, 0, ⟨#[]⟩), s) else (((takeV s.1).1, (takeV s.1).2.1, strB (takeV s.1).2.2.1), (takeV s.1).2.2.2)
def failS (e : Nat) (s : RS) : RS := (s.1, if s.2 = 0 then e else s.2)
def onS (s : RS) : Bool × RS := if 1 < (numS s).1 then (false, failS 21 (numS s).2) else ((numS s).1 == 1, (numS s).2)
/-- n stamps more, where a are read -/
def lpS : Nat → RS → List Qm.St → List Qm.St × RS
  | 0, s, a => (a, s)
  | n + 1, s, a => if (stS s).2.2 ≠ 0 then ([], (stS s).2) else lpS n (stS s).2 (a ++ [(stS s).1])
def paS (s : RS) : List Qm.St × RS := lpS (numS s).1 (numS s).2 []

/-- what Take reads behind a kind -/
def rawO (k : Nat) (s : RS) : Opp × RS :=
  if k = 1 then let a := stS s; let b := txS a.2; ({ Opp.zero with k := 1, rt := a.1.1, rr := a.1.2, key := b.1 }, b.2)
  else if k = 2 then let c := stS s; let a := stS c.2; let b := txS a.2; ({ Opp.zero with k := 2, nt := c.1.1, nr := c.1.2, rt := a.1.1, rr := a.1.2, key := b.1 }, b.2)
  else if k = 3 then let c := stS s; let a := numS c.2; let b := vlS a.2; ({ Opp.zero with k := 3, nt := c.1.1, nr := c.1.2, p := a.1, vk := b.1.1, vn := b.1.2.1, vt := b.1.2.2 }, b.2)
  else if k = 4 then let c := stS s; let a := onS c.2; ({ Opp.zero with k := 4, nt := c.1.1, nr := c.1.2, on := a.1 }, a.2)
  else if k = 5 then let c := stS s; let a := stS c.2; ({ Opp.zero with k := 5, nt := c.1.1, nr := c.1.2, rt := a.1.1, rr := a.1.2 }, a.2)
  else if k = 6 then let c := stS s; let d := paS c.2; let a := numS d.2; let b := vlS a.2; ({ Opp.zero with k := 6, nt := c.1.1, nr := c.1.2, path := d.1, p := a.1, vk := b.1.1, vn := b.1.2.1, vt := b.1.2.2 }, b.2)
  else ({ Opp.zero with k := k }, s)
/-- how Take ends -/
def endO (q : Opp × RS) : Opp × RS :=
  if rightO q.1 = true then (if q.2.2 = 0 then q else (Opp.zero, q.2)) else (Opp.zero, failS 21 q.2)
def takeO (s : RS) : Opp × RS := endO (rawO (numS s).1 (numS s).2)

theorem rightO_zero : rightO Opp.zero = false := rfl
theorem rightO_kind {x : Opp} (h : rightO x = true) : 1 ≤ x.k ∧ x.k ≤ 6 := by
  simp only [rightO, Bool.and_eq_true, decide_eq_true_eq] at h
  exact h.1.1
theorem takeO_err {s : RS} (h : (takeO s).2.2 ≠ 0) : (takeO s).1 = Opp.zero := by
  unfold takeO endO at *
  split
  · next h1 =>
    rw [if_pos h1] at h
    split
    · next h2 => rw [if_pos h2] at h; exact absurd h2 h
    · rfl
  · rfl
theorem takeO_ok {s : RS} (h : (takeO s).2.2 = 0) : rightO (takeO s).1 = true ∧ takeO s = rawO (numS s).1 (numS s).2 := by
  unfold takeO endO at *
  split
  · next h1 =>
    rw [if_pos h1] at h
    split
    · exact ⟨h1, rfl⟩
    · next h2 => rw [if_neg h2] at h; exact absurd h h2
  · next h1 =>
    rw [if_neg h1] at h
    simp only [failS] at h
    split at h <;> simp_all
end Go.Proofs.YthifdefjmfakgaaGreat
