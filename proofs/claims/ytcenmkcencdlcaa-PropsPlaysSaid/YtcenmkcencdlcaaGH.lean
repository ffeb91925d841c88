/-
  OPS, PLAINLY: what a kind names, which ops may be, when two are the same, their bytes, and how they are read.
  No conditions.
  WHAT AN OP THAT MAY BE IS, kind by kind; it is read as it was written, and what is read was written so.
  No conditions.
  AN OP IS READ AS IT WAS WRITTEN; what is read was written so.
  No conditions.
  BATCHES, PLAINLY: which may be, when two are the same, their stamps, their bytes, how they are read, framed or not.
  No conditions.
-/
import Derived.Test.YtcenmkcencdlcaaGE
import Derived.Test.YtcenmkcencdlcaaVRight8
import Derived.Test.YtcenmkcencdlcaaGF
import Derived.Test.YtcenmkcencdlcaaGG
import Derived.Test.YtcenmkcencdlcaaQMath
import Derived.Test.YtcenmkcencdlcaaGC
import Derived.Test.YtcenmkcencdlcaaGD
namespace Go.Proofs.Ytcenmkcencdlcaa
open Go.RowKit

/-- an op, without where its Path lies -/
structure Opp where
  k : Int
  nt : Int
  nr : Int
  rt : Int
  rr : Int
  key : ByteArray
  path : List Qm.St
  p : Int
  vk : Int
  vn : Int
  vt : ByteArray
  on : Bool
def Opp.zero : Opp := ⟨0, 0, 0, 0, 0, ⟨#[]⟩, [], 0, 0, 0, ⟨#[]⟩, false⟩

/-- what a kind names: node, spot, master, path, value, on -/
structure Prt where
  node : Bool
  spot : Bool
  master : Bool
  path : Bool
  value : Bool
  on : Bool
def prt (k : Int) : Prt :=
  if k = 1 then ⟨false, true, false, false, false, false⟩ else if k = 2 then ⟨true, true, false, false, false, false⟩
  else if k = 3 then ⟨true, false, false, false, true, false⟩ else if k = 4 then ⟨true, false, false, false, false, true⟩
  else if k = 5 then ⟨true, false, true, false, false, false⟩ else if k = 6 then ⟨true, false, false, true, true, false⟩
  else ⟨false, false, false, false, false, false⟩
theorem prt_none {k : Int} (h1 : k ≠ 1) (h2 : k ≠ 2) (h3 : k ≠ 3) (h4 : k ≠ 4) (h5 : k ≠ 5) (h6 : k ≠ 6) : prt k = ⟨false, false, false, false, false, false⟩ := by
  unfold prt; rw [if_neg h1, if_neg h2, if_neg h3, if_neg h4, if_neg h5, if_neg h6]

def okNode (t r : Int) : Bool := rightB t r && decide (1 ≤ t)
def isZ (t r : Int) : Bool := t == 0 && r == 0
def isT (t r : Int) : Bool := t == 0 && r == 1
def okPlace (t r : Int) : Bool := okNode t r || isZ t r || isT t r
def okPath (l : List Qm.St) : Bool := decide (1 ≤ l.length) && decide (l.length ≤ 8) && l.all fun s => okNode s.1 s.2
def isV (k n : Int) (t : ByteArray) : Bool := k == 0 && n == 0 && decide (t = ⟨#[]⟩)

/-- may each part that is named be? -/
def fitO (p : Prt) (x : Opp) : Bool :=
  (!p.node || okNode x.nt x.nr) && (!p.spot || (okPlace x.rt x.rr && Km.rightB x.key.data.toList)) && (!p.master || okNode x.rt x.rr || isZ x.rt x.rr) &&
  (!p.path || okPath x.path) && (!p.value || right8V x.p x.vk x.vn x.vt.data.toList)
/-- is each part that is not named zero? -/
def aloneO (p : Prt) (x : Opp) : Bool :=
  (p.node || isZ x.nt x.nr) && (p.spot || p.master || isZ x.rt x.rr) && (p.spot || decide (x.key = ⟨#[]⟩)) && (p.path || x.path.length == 0) &&
  (p.value || (x.p == 0 && isV x.vk x.vn x.vt)) && (p.on || !x.on)
def rightO (x : Opp) : Bool := decide (1 ≤ x.k ∧ x.k ≤ 6) && fitO (prt x.k) x && aloneO (prt x.k) x

def sameO (x y : Opp) : Bool :=
  x.k == y.k && (x.nt == y.nt && x.nr == y.nr) && (x.rt == y.rt && x.rr == y.rr) && decide (x.key = y.key) && x.path == y.path && x.p == y.p && (x.vk == y.vk && x.vn == y.vn && decide (x.vt = y.vt)) && x.on == y.on
theorem sameO_iff {x y : Opp} : sameO x y = true ↔ x = y := by
  obtain ⟨a, b, c, d, e, f, g, h, i, j, k, l⟩ := x
  obtain ⟨a', b', c', d', e', f', g', h', i', j', k', l'⟩ := y
  simp only [sameO, Bool.and_eq_true, beq_iff_eq, decide_eq_true_eq, Opp.mk.injEq]
  constructor
  · rintro ⟨⟨⟨⟨⟨⟨⟨h1, h2, h3⟩, h4, h5⟩, h6⟩, h7⟩, h8⟩, ⟨h9, h10⟩, h11⟩, h12⟩
    exact ⟨h1, h2, h3, h4, h5, h6, h7, h8, h9, h10, h11, h12⟩
  · rintro ⟨h1, h2, h3, h4, h5, h6, h7, h8, h9, h10, h11, h12⟩
    exact ⟨⟨⟨⟨⟨⟨⟨h1, h2, h3⟩, h4, h5⟩, h6⟩, h7⟩, h8⟩, ⟨h9, h10⟩, h11⟩, h12⟩
theorem sameO_refl (x : Opp) : sameO x x = true := sameO_iff.2 rfl

/-- bytes: of a stamp, of stamps, of a text, of a value -/
def stB (t r : Int) : List UInt8 := Wm.numB t.toNat ++ Wm.numB r.toNat
def paB (l : List Qm.St) : List UInt8 := l.flatMap fun s => stB s.1 s.2
def txB (s : ByteArray) : List UInt8 := Wm.numB s.size ++ s.data.toList
def vlB (k n : Int) (t : ByteArray) : List UInt8 := Wm.numB k.toNat ++ restV k n t.data.toList
def digO (b : Bool) : Nat := if b then 1 else 0
/-- an op's bytes behind its kind -/
def tailB (x : Opp) : List UInt8 :=
  if x.k = 1 then stB x.rt x.rr ++ txB x.key else if x.k = 2 then stB x.nt x.nr ++ stB x.rt x.rr ++ txB x.key
  else if x.k = 3 then stB x.nt x.nr ++ Wm.numB x.p.toNat ++ vlB x.vk x.vn x.vt else if x.k = 4 then stB x.nt x.nr ++ Wm.numB (digO x.on)
  else if x.k = 5 then stB x.nt x.nr ++ stB x.rt x.rr else stB x.nt x.nr ++ Wm.numB x.path.length ++ paB x.path ++ Wm.numB x.p.toNat ++ vlB x.vk x.vn x.vt
def opB (x : Opp) : List UInt8 := Wm.numB x.k.toNat ++ tailB x
def putO (x : Opp) : List UInt8 × Nat := if rightO x = true then (opB x, 0) else ([], 1)

/-- what a reader has left, its error -/
abbrev RS := List UInt8 × Nat
def numS (s : RS) : Nat × RS := if s.2 ≠ 0 then (0, s) else uptoR s.1 281474976710655
def stS (s : RS) : Qm.St × RS := if s.2 ≠ 0 then ((0, 0), s) else (((takeR s.1).1, (takeR s.1).2.1), (takeR s.1).2.2)
def txS (s : RS) : ByteArray × RS := if s.2 ≠ 0 then (⟨#[]⟩, s) else (strB (textR s.1).1, (textR s.1).2)
def vlS (s : RS) : (Int × Int × ByteArray) × RS := if s.2 ≠ 0 then ((0, 0, ⟨#[]⟩), s) else (((takeV s.1).1, (takeV s.1).2.1, strB (takeV s.1).2.2.1), (takeV s.1).2.2.2)
def failS (e : Nat) (s : RS) : RS := (s.1, if s.2 = 0 then e else s.2)
def onS (s : RS) : Bool × RS := if 1 < (numS s).1 then (false, failS 21 (numS s).2) else ((numS s).1 == 1, (numS s).2)
/-- n stamps more, where a are read -/
def lpS : Nat → RS → List Qm.St → List Qm.St × RS
  | 0, s, a => (a, s)
  | n + 1, s, a => if (stS s).2.2 ≠ 0 then ([], (stS s).2) else lpS n (stS s).2 (a ++ [(stS s).1])
def paS (s : RS) : List Qm.St × RS := lpS (numS s).1 (numS s).2 []

/-- what Take reads behind a kind -/
def rawO (k : Nat) (s : RS) : Opp × RS :=
  if k = 1 then let a := stS s; let b := txS a.2; ({ Opp.zero with k := 1, rt := a.1.1, rr := a.1.2, key := b.1 }, b.2)
  else if k = 2 then let c := stS s; let a := stS c.2; let b := txS a.2; ({ Opp.zero with k := 2, nt := c.1.1, nr := c.1.2, rt := a.1.1, rr := a.1.2, key := b.1 }, b.2)
  else if k = 3 then let c := stS s; let a := numS c.2; let b := vlS a.2; ({ Opp.zero with k := 3, nt := c.1.1, nr := c.1.2, p := a.1, vk := b.1.1, vn := b.1.2.1, vt := b.1.2.2 }, b.2)
  else if k = 4 then let c := stS s; let a := onS c.2; ({ Opp.zero with k := 4, nt := c.1.1, nr := c.1.2, on := a.1 }, a.2)
  else if k = 5 then let c := stS s; let a := stS c.2; ({ Opp.zero with k := 5, nt := c.1.1, nr := c.1.2, rt := a.1.1, rr := a.1.2 }, a.2)
  else if k = 6 then let c := stS s; let d := paS c.2; let a := numS d.2; let b := vlS a.2; ({ Opp.zero with k := 6, nt := c.1.1, nr := c.1.2, path := d.1, p := a.1, vk := b.1.1, vn := b.1.2.1, vt := b.1.2.2 }, b.2)
  else ({ Opp.zero with k := k }, s)
/-- how Take ends -/
def endO (q : Opp × RS) : Opp × RS :=
  if rightO q.1 = true then (if q.2.2 = 0 then q else (Opp.zero, q.2)) else (Opp.zero, failS 21 q.2)
def takeO (s : RS) : Opp × RS := endO (rawO (numS s).1 (numS s).2)

theorem rightO_zero : rightO Opp.zero = false := rfl
theorem rightO_kind {x : Opp} (h : rightO x = true) : 1 ≤ x.k ∧ x.k ≤ 6 := by
  simp only [rightO, Bool.and_eq_true, decide_eq_true_eq] at h
  exact h.1.1
theorem takeO_err {s : RS} (h : (takeO s).2.2 ≠ 0) : (takeO s).1 = Opp.zero := by
  unfold takeO endO at *
  split
  · next h1 =>
    rw [if_pos h1] at h
    split
    · next h2 => rw [if_pos h2] at h; exact absurd h2 h
    · rfl
  · rfl
theorem takeO_ok {s : RS} (h : (takeO s).2.2 = 0) : rightO (takeO s).1 = true ∧ takeO s = rawO (numS s).1 (numS s).2 := by
  unfold takeO endO at *
  split
  · next h1 =>
    rw [if_pos h1] at h
    split
    · exact ⟨h1, rfl⟩
    · next h2 => rw [if_neg h2] at h; exact absurd h h2
  · next h1 =>
    rw [if_neg h1] at h
    simp only [failS] at h
    split at h <;> simp_all
end Go.Proofs.Ytcenmkcencdlcaa

namespace Go.Proofs.Ytcenmkcencdlcaa
open Go.RowKit

theorem okNode_right {t r : Int} (h : okNode t r = true) : rightB t r = true := by
  unfold okNode at h
  simp only [Bool.and_eq_true] at h
  exact h.1
theorem isZ_iff {t r : Int} : isZ t r = true ↔ t = 0 ∧ r = 0 := by simp [isZ]
theorem isT_iff {t r : Int} : isT t r = true ↔ t = 0 ∧ r = 1 := by simp [isT]
theorem isV_iff {k n : Int} {t : ByteArray} : isV k n t = true ↔ k = 0 ∧ n = 0 ∧ t = ⟨#[]⟩ := by simp [isV, and_assoc]
theorem isZ_right {t r : Int} (h : isZ t r = true) : rightB t r = true := by
  obtain ⟨rfl, rfl⟩ := isZ_iff.1 h
  rfl
theorem okPlace_right {t r : Int} (h : okPlace t r = true) : rightB t r = true := by
  unfold okPlace at h
  simp only [Bool.or_eq_true] at h
  rcases h with (h | h) | h
  · exact okNode_right h
  · exact isZ_right h
  · obtain ⟨rfl, rfl⟩ := isT_iff.1 h
    rfl
theorem key_small {k : ByteArray} (h : Km.rightB k.data.toList = true) : k.size ≤ 24 := (right_size.1 h).2.1
theorem okPath_small {l : List Qm.St} (h : okPath l = true) : 1 ≤ l.length ∧ l.length ≤ 8 ∧ ∀ s, s ∈ l → rightB s.1 s.2 = true := by
  unfold okPath at h
  simp only [Bool.and_eq_true, decide_eq_true_eq, List.all_eq_true] at h
  exact ⟨h.1.1, h.1.2, fun s hs => okNode_right (h.2 s hs)⟩
theorem right8_facts {p k n : Int} {t : List UInt8} (h : right8V p k n t = true) : 1 ≤ p ∧ p ≤ 8 ∧ Vm.rightV k n t = true := by
  unfold right8V at h
  simp only [Bool.and_eq_true, decide_eq_true_eq] at h
  exact ⟨h.1.1, h.1.2, h.2.1⟩

theorem rightO_parts {x : Opp} (h : rightO x = true) : fitO (prt x.k) x = true ∧ aloneO (prt x.k) x = true := by
  unfold rightO at h
  simp only [Bool.and_eq_true] at h
  exact ⟨h.1.2, h.2⟩
/-- kind by kind: what is named may be, and the op is no more than that -/
theorem right1 {x : Opp} (h : rightO x = true) (hk : x.k = 1) : rightB x.rt x.rr = true ∧ Km.rightB x.key.data.toList = true ∧ x = { Opp.zero with k := 1, rt := x.rt, rr := x.rr, key := x.key } := by
  obtain ⟨hf, ha⟩ := rightO_parts h
  rw [hk] at hf ha
  simp [prt, fitO] at hf
  simp [prt, aloneO, isZ_iff, isV_iff] at ha
  refine ⟨okPlace_right hf.1, hf.2, ?_⟩
  obtain ⟨k, nt, nr, rt, rr, key, path, p, vk, vn, vt, on⟩ := x
  simp_all [Opp.zero]
theorem right2 {x : Opp} (h : rightO x = true) (hk : x.k = 2) : rightB x.nt x.nr = true ∧ rightB x.rt x.rr = true ∧ Km.rightB x.key.data.toList = true ∧ x = { Opp.zero with k := 2, nt := x.nt, nr := x.nr, rt := x.rt, rr := x.rr, key := x.key } := by
  obtain ⟨hf, ha⟩ := rightO_parts h
  rw [hk] at hf ha
  simp [prt, fitO] at hf
  simp [prt, aloneO, isV_iff] at ha
  refine ⟨okNode_right hf.1, okPlace_right hf.2.1, hf.2.2, ?_⟩
  obtain ⟨k, nt, nr, rt, rr, key, path, p, vk, vn, vt, on⟩ := x
  simp_all [Opp.zero]
theorem right3 {x : Opp} (h : rightO x = true) (hk : x.k = 3) : rightB x.nt x.nr = true ∧ right8V x.p x.vk x.vn x.vt.data.toList = true ∧ x = { Opp.zero with k := 3, nt := x.nt, nr := x.nr, p := x.p, vk := x.vk, vn := x.vn, vt := x.vt } := by
  obtain ⟨hf, ha⟩ := rightO_parts h
  rw [hk] at hf ha
  simp [prt, fitO] at hf
  simp [prt, aloneO, isZ_iff] at ha
  refine ⟨okNode_right hf.1, hf.2, ?_⟩
  obtain ⟨k, nt, nr, rt, rr, key, path, p, vk, vn, vt, on⟩ := x
  simp_all [Opp.zero]
theorem right4 {x : Opp} (h : rightO x = true) (hk : x.k = 4) : rightB x.nt x.nr = true ∧ x = { Opp.zero with k := 4, nt := x.nt, nr := x.nr, on := x.on } := by
  obtain ⟨hf, ha⟩ := rightO_parts h
  rw [hk] at hf ha
  simp [prt, fitO] at hf
  simp [prt, aloneO, isZ_iff, isV_iff] at ha
  refine ⟨okNode_right hf, ?_⟩
  obtain ⟨k, nt, nr, rt, rr, key, path, p, vk, vn, vt, on⟩ := x
  simp_all [Opp.zero]
theorem right5 {x : Opp} (h : rightO x = true) (hk : x.k = 5) : rightB x.nt x.nr = true ∧ rightB x.rt x.rr = true ∧ x = { Opp.zero with k := 5, nt := x.nt, nr := x.nr, rt := x.rt, rr := x.rr } := by
  obtain ⟨hf, ha⟩ := rightO_parts h
  rw [hk] at hf ha
  simp [prt, fitO] at hf
  simp [prt, aloneO, isV_iff] at ha
  refine ⟨okNode_right hf.1, hf.2.elim okNode_right isZ_right, ?_⟩
  obtain ⟨k, nt, nr, rt, rr, key, path, p, vk, vn, vt, on⟩ := x
  simp_all [Opp.zero]
theorem right6 {x : Opp} (h : rightO x = true) (hk : x.k = 6) : rightB x.nt x.nr = true ∧ okPath x.path = true ∧ right8V x.p x.vk x.vn x.vt.data.toList = true ∧ x = { Opp.zero with k := 6, nt := x.nt, nr := x.nr, path := x.path, p := x.p, vk := x.vk, vn := x.vn, vt := x.vt } := by
  obtain ⟨hf, ha⟩ := rightO_parts h
  rw [hk] at hf ha
  simp [prt, fitO] at hf
  simp [prt, aloneO, isZ_iff] at ha
  refine ⟨okNode_right hf.1.1, hf.1.2, hf.2, ?_⟩
  obtain ⟨k, nt, nr, rt, rr, key, path, p, vk, vn, vt, on⟩ := x
  simp_all [Opp.zero]
end Go.Proofs.Ytcenmkcencdlcaa

namespace Go.Proofs.Ytcenmkcencdlcaa
open Go.RowKit

theorem uptoR_backM {n : Nat} {m : Int} (h : n < 281474976710656) (hm : (n : Int) ≤ m) (more : List UInt8) : uptoR (Wm.numB n ++ more) m = (n, more, 0) := by
  unfold uptoR
  rw [numR_back n 281474976710655 more h (by omega)]
  dsimp only
  rw [if_neg (by simp), if_neg (by omega), List.drop_left' (by rw [Wm.numB_length]; omega)]
theorem uptoR_form {l : List UInt8} {m : Int} (h : (uptoR l m).2.2 = 0) : l = Wm.numB (uptoR l m).1 ++ (uptoR l m).2.1 ∧ ((uptoR l m).1 : Int) ≤ m ∧ (uptoR l m).1 < 281474976710656 := by
  unfold uptoR at h ⊢
  rcases hr : numR l 281474976710655 with ⟨n, s, e⟩
  rw [hr] at h
  dsimp only at h ⊢
  split at h
  · next h1 => exact absurd h h1
  · next h1 =>
    rw [if_neg h1]
    obtain rfl : e = 0 := by simpa using h1
    split at h
    · next h2 => simp at h
    · next h2 =>
      rw [if_neg h2]
      obtain ⟨e1, e2, e3, e4, e5⟩ := numR_form l 281474976710655 n s hr
      refine ⟨?_, by dsimp only; omega, e5⟩
      dsimp only
      rw [← e1, List.take_append_drop]

theorem numS_back {n : Nat} (h : n < 281474976710656) (more : List UInt8) : numS (Wm.numB n ++ more, 0) = (n, (more, 0)) := by
  unfold numS
  rw [if_neg (by simp)]
  exact uptoR_backM h (by omega) more
theorem numS_form {s : RS} (h : (numS s).2.2 = 0) : s.2 = 0 ∧ s.1 = Wm.numB (numS s).1 ++ (numS s).2.1 := by
  unfold numS at h ⊢
  split at h
  · next h1 => exact absurd h h1
  · next h1 =>
    rw [if_neg h1]
    exact ⟨by simpa using h1, (uptoR_form h).1⟩
theorem stS_back {t r : Int} (h : rightB t r = true) (more : List UInt8) : stS (stB t r ++ more, 0) = ((t, r), (more, 0)) := by
  obtain ⟨h0, h1, h2, h3⟩ := rightB_yes h
  unfold stS stB takeR
  rw [if_neg (by simp), List.append_assoc, uptoR_backM (by omega) (by omega)]
  dsimp only
  rw [uptoR_backM (by omega) (by omega)]
  dsimp only
  rw [if_neg (by simp), if_neg (by simp)]
  dsimp only
  rw [Int.toNat_of_nonneg h0, Int.toNat_of_nonneg h2]
theorem stS_form {s : RS} (h : (stS s).2.2 = 0) : s.2 = 0 ∧ s.1 = stB (stS s).1.1 (stS s).1.2 ++ (stS s).2.1 := by
  unfold stS at h ⊢
  split at h
  · next h1 => exact absurd h h1
  · next h1 =>
    rw [if_neg h1]
    refine ⟨by simpa using h1, ?_⟩
    dsimp only at h ⊢
    unfold takeR at h ⊢
    split at h
    · next h2 => exact absurd h h2
    · next h2 =>
      rw [if_neg h2]
      split at h
      · next h3 => exact absurd h h3
      · next h3 =>
        rw [if_neg h3]
        dsimp only
        obtain ⟨e1, -⟩ := uptoR_form (by simpa using h2 : (uptoR s.1 1099511627776).2.2 = 0)
        obtain ⟨e2, -⟩ := uptoR_form (by simpa using h3 : (uptoR (uptoR s.1 1099511627776).2.1 15).2.2 = 0)
        unfold stB
        rw [Int.toNat_natCast, Int.toNat_natCast, List.append_assoc, ← e2, ← e1]
theorem txS_back {k : ByteArray} (h : k.size ≤ 1048576) (more : List UInt8) : txS (txB k ++ more, 0) = (k, (more, 0)) := by
  unfold txS txB
  have hl : k.data.toList.length = k.size := str_len k
  rw [if_neg (by simp)]
  dsimp only
  rw [← hl, textR_back _ _ (by omega)]
  rfl
theorem txS_form {s : RS} (h : (txS s).2.2 = 0) : s.2 = 0 ∧ s.1 = txB (txS s).1 ++ (txS s).2.1 := by
  unfold txS at h ⊢
  split at h
  · next h1 => exact absurd h h1
  · next h1 =>
    rw [if_neg h1]
    refine ⟨by simpa using h1, ?_⟩
    dsimp only at h ⊢
    unfold txB
    rw [← str_len, strB_toList]
    unfold textR at h ⊢
    rcases hr : numR s.1 1048576 with ⟨n, z, e⟩
    rw [hr] at h
    dsimp only at h ⊢
    split at h
    · next h2 => exact absurd h h2
    · next h2 =>
      rw [if_neg h2]
      obtain rfl : e = 0 := by simpa using h2
      split at h
      · simp at h
      · next h3 =>
        rw [if_neg h3]
        obtain ⟨e1, e2, e3, e4, e5⟩ := numR_form s.1 1048576 n z hr
        dsimp only
        have hl : ((s.1.drop z).take n).length = n := by simp; omega
        rw [hl, ← e1, List.append_assoc, ← List.drop_drop, List.take_append_drop, List.take_append_drop]
theorem fold_unfold (m : Nat) : foldV (unfoldV m) = m := by
  unfold foldV unfoldV
  split <;> split <;> omega
theorem vlS_back {k n : Int} {t : ByteArray} (h : Vm.rightV k n t.data.toList = true) (more : List UInt8) : vlS (vlB k n t ++ more, 0) = ((k, n, t), (more, 0)) := by
  have hraw : rawV (Wm.numB k.toNat ++ restV k n t.data.toList ++ more) = (k, n, t.data.toList, more, 0) := by
    have hk := right_kind h
    unfold rawV
    rw [List.append_assoc, uptoR_back k.toNat _ (by omega)]
    dsimp only
    generalize ht : t.data.toList = u at *
    rcases hk with rfl | rfl | rfl | rfl | rfl
    · obtain rfl := right_empty h (by decide)
      have hn : n = 0 := by rw [Vm.rightV_none] at h; simp at h; exact h
      subst hn
      rfl
    · obtain rfl := right_empty h (by decide)
      obtain ⟨a, b⟩ := right_num h (Or.inl rfl)
      have hf := foldV_le n a b
      have e : restV 1 n [] = Wm.numB (foldV n) := rfl
      rw [e, uptoR_back _ _ (by omega)]
      dsimp only
      rw [if_pos (by decide), unfold_fold]
      rfl
    · obtain rfl := right_empty h (by decide)
      obtain ⟨a, b⟩ := right_num h (Or.inr rfl)
      have hf := foldV_le n a b
      have e : restV 2 n [] = Wm.numB (foldV n) := rfl
      rw [e, uptoR_back _ _ (by omega)]
      dsimp only
      rw [if_pos (by decide), unfold_fold]
      rfl
    · obtain ⟨rfl, hl⟩ := right_text h
      have e : restV 3 0 u = Wm.numB u.length ++ u := rfl
      rw [e, textR_back _ _ (by omega)]
      rfl
    · obtain rfl := right_empty h (by decide)
      have hn := right_flag h
      have e : restV 4 n [] = Wm.numB n.toNat := rfl
      rw [e, uptoR_back _ _ (by omega)]
      dsimp only
      rw [if_neg (by decide), if_neg (by decide), if_pos (by decide)]
      rw [show ((n.toNat : Nat) : Int) = n by omega]
  unfold vlS vlB takeV
  rw [if_neg (by simp)]
  dsimp only
  rw [hraw]
  dsimp only
  rw [if_neg (by simp), if_pos h]
  rfl
theorem vlS_form {s : RS} (h : (vlS s).2.2 = 0) : s.2 = 0 ∧ s.1 = vlB (vlS s).1.1 (vlS s).1.2.1 (vlS s).1.2.2 ++ (vlS s).2.1 := by
  unfold vlS at h ⊢
  split at h
  · next h1 => exact absurd h h1
  · next h1 =>
    rw [if_neg h1]
    refine ⟨by simpa using h1, ?_⟩
    dsimp only at h ⊢
    unfold vlB
    rw [strB_toList]
    unfold takeV at h ⊢
    split at h
    · next h2 => exact absurd h h2
    · next h2 =>
      rw [if_neg h2]
      split at h
      · next h3 =>
        rw [if_pos h3]
        have h2' : (rawV s.1).2.2.2.2 = 0 := by simpa using h2
        dsimp only
        clear h h2 h1
        unfold rawV at h2' h3 ⊢
        have hE := uptoR_err s.1 281474976710655
        have hF := @uptoR_form s.1 281474976710655
        generalize uptoR s.1 281474976710655 = q at *
        obtain ⟨k, l1, e1⟩ := q
        dsimp only at *
        have hk0 : k ≠ 0 → e1 = 0 := fun hk => Classical.byContradiction fun he => hk (hE he)
        have hU := @uptoR_form l1 281474976710655
        generalize uptoR l1 281474976710655 = q at *
        obtain ⟨m, l2, e2⟩ := q
        dsimp only at *
        have hX := @txS_form (l1, 0)
        have hX2 : txS (l1, 0) = (strB (textR l1).1, (textR l1).2) := by unfold txS; rw [if_neg (by simp)]
        rw [hX2] at hX
        generalize textR l1 = q at *
        obtain ⟨tt, l3, e3⟩ := q
        dsimp only at *
        by_cases k12 : k = 1 ∨ k = 2
        · rw [if_pos k12] at h2' h3 ⊢
          dsimp only at *
          obtain ⟨f1, -⟩ := hF (hk0 (by omega))
          obtain ⟨f2, -⟩ := hU h2'
          rw [Int.toNat_natCast, f1]
          have : restV (k : Int) (unfoldV m) [] = Wm.numB m := by
            unfold restV
            rw [if_neg (by omega), if_neg (by omega), if_neg (by omega), fold_unfold]
          rw [this, List.append_assoc, ← f2]
        · rw [if_neg k12] at h2' h3 ⊢
          by_cases k3 : k = 3
          · rw [if_pos k3] at h2' h3 ⊢
            dsimp only at *
            subst k3
            obtain ⟨f1, -⟩ := hF (hk0 (by omega))
            obtain ⟨-, f2⟩ := hX h2'
            have : restV 3 0 tt = txB (strB tt) := by
              unfold restV txB
              rw [if_pos rfl, ← str_len, strB_toList]
            rw [this, f1, List.append_assoc, ← f2]
            rfl
          · rw [if_neg k3] at h2' h3 ⊢
            by_cases k4 : k = 4
            · rw [if_pos k4] at h2' h3 ⊢
              dsimp only at *
              subst k4
              obtain ⟨f1, -⟩ := hF (hk0 (by omega))
              obtain ⟨f2, -⟩ := hU h2'
              have : restV 4 (m : Int) [] = Wm.numB m := by
                unfold restV
                rw [if_neg (by decide), if_pos rfl, Int.toNat_natCast]
              rw [this, f1, List.append_assoc, ← f2]
              rfl
            · rw [if_neg k4] at h2' h3 ⊢
              dsimp only at *
              obtain ⟨f1, -⟩ := hF h2'
              have hk := right_kind h3
              obtain rfl : k = 0 := by omega
              have : restV ((0 : Nat) : Int) 0 [] = [] := rfl
              rw [this, List.append_nil, f1]
              rfl
      · simp at h
theorem onS_back (b : Bool) (more : List UInt8) : onS (Wm.numB (digO b) ++ more, 0) = (b, (more, 0)) := by
  unfold onS
  rw [numS_back (by cases b <;> decide)]
  cases b <;> rfl
theorem onS_form {s : RS} (h : (onS s).2.2 = 0) : s.2 = 0 ∧ s.1 = Wm.numB (digO (onS s).1) ++ (onS s).2.1 := by
  unfold onS at h ⊢
  split at h
  · next h1 =>
    exfalso
    revert h
    unfold failS
    dsimp only
    split <;> omega
  · next h1 =>
    rw [if_neg h1]
    obtain ⟨e1, e2⟩ := numS_form h
    refine ⟨e1, ?_⟩
    dsimp only
    have : digO ((numS s).1 == 1) = (numS s).1 := by
      have h01 : (numS s).1 = 0 ∨ (numS s).1 = 1 := by omega
      rcases h01 with e | e <;> rw [e] <;> rfl
    rw [this]
    exact e2
theorem lpS_back : ∀ (l a : List Qm.St) (more : List UInt8), (∀ s, s ∈ l → rightB s.1 s.2 = true) → lpS l.length (paB l ++ more, 0) a = (a ++ l, (more, 0))
  | [], a, more, _ => by simp [lpS, paB]
  | (t, r) :: l, a, more, h => by
    have e : paB ((t, r) :: l) ++ more = stB t r ++ (paB l ++ more) := by simp [paB]
    rw [e, List.length_cons, lpS, stS_back (h (t, r) (by simp)), if_neg (by simp), lpS_back l _ more (fun s hs => h s (by simp [hs]))]
    simp
theorem lpS_form : ∀ (n : Nat) (s : RS) (a : List Qm.St), s.2 = 0 → (lpS n s a).2.2 = 0 → ∃ l, (lpS n s a).1 = a ++ l ∧ l.length = n ∧ s.1 = paB l ++ (lpS n s a).2.1
  | 0, s, a, _, _ => ⟨[], by simp [lpS], rfl, by simp [lpS, paB]⟩
  | n + 1, s, a, h0, h => by
    rw [lpS] at h ⊢
    split at h
    · next h1 => exact absurd h h1
    · next h1 =>
      rw [if_neg h1]
      obtain ⟨e1, e2⟩ := stS_form (s := s) (by simpa using h1)
      obtain ⟨l, f1, f2, f3⟩ := lpS_form n (stS s).2 (a ++ [(stS s).1]) (by simpa using h1) h
      refine ⟨(stS s).1 :: l, by rw [f1]; simp, by simp [f2], ?_⟩
      have e : paB ((stS s).1 :: l) = stB (stS s).1.1 (stS s).1.2 ++ paB l := by simp [paB]
      rw [e, List.append_assoc, ← f3, ← e2]
theorem paS_back {l : List Qm.St} (hl : l.length < 281474976710656) (h : ∀ s, s ∈ l → rightB s.1 s.2 = true) (more : List UInt8) : paS (Wm.numB l.length ++ (paB l ++ more), 0) = (l, (more, 0)) := by
  unfold paS
  rw [numS_back hl]
  dsimp only
  rw [lpS_back l [] more h]
  simp
theorem paS_form {s : RS} (h : (paS s).2.2 = 0) : s.2 = 0 ∧ s.1 = Wm.numB (paS s).1.length ++ (paB (paS s).1 ++ (paS s).2.1) := by
  unfold paS at h ⊢
  have hn : (numS s).2.2 = 0 := by
    refine Classical.byContradiction fun hn => ?_
    have h1 : (numS s).1 = 0 := by
      unfold numS at hn ⊢
      split
      · rfl
      · next h2 => rw [if_neg h2] at hn; exact uptoR_err _ _ hn
    rw [h1, lpS] at h
    exact hn h
  obtain ⟨e1, e2⟩ := numS_form hn
  obtain ⟨l, f1, f2, f3⟩ := lpS_form _ _ _ hn h
  refine ⟨e1, ?_⟩
  rw [f1, List.nil_append, f2, ← f3]
  exact e2

theorem rawO_k (k : Nat) (s : RS) : (rawO k s).1.k = (k : Int) := by
  unfold rawO
  by_cases h1 : k = 1
  · rw [if_pos h1, h1]; rfl
  rw [if_neg h1]
  by_cases h2 : k = 2
  · rw [if_pos h2, h2]; rfl
  rw [if_neg h2]
  by_cases h3 : k = 3
  · rw [if_pos h3, h3]; rfl
  rw [if_neg h3]
  by_cases h4 : k = 4
  · rw [if_pos h4, h4]; rfl
  rw [if_neg h4]
  by_cases h5 : k = 5
  · rw [if_pos h5, h5]; rfl
  rw [if_neg h5]
  by_cases h6 : k = 6
  · rw [if_pos h6, h6]; rfl
  rw [if_neg h6]
/-- what was read was written so, behind the kind -/
theorem rawO_form {k : Nat} {s : RS} (h1 : 1 ≤ k) (h6 : k ≤ 6) (h : (rawO k s).2.2 = 0) : s.2 = 0 ∧ s.1 = tailB (rawO k s).1 ++ (rawO k s).2.1 := by
  have hc : k = 1 ∨ k = 2 ∨ k = 3 ∨ k = 4 ∨ k = 5 ∨ k = 6 := by omega
  clear h1 h6
  rcases hc with rfl | rfl | rfl | rfl | rfl | rfl
  · change (txS (stS s).2).2.2 = 0 at h
    obtain ⟨a1, a2⟩ := txS_form h
    obtain ⟨b1, b2⟩ := stS_form a1
    refine ⟨b1, ?_⟩
    show s.1 = stB (stS s).1.1 (stS s).1.2 ++ txB (txS (stS s).2).1 ++ (txS (stS s).2).2.1
    rw [List.append_assoc, ← a2, ← b2]
  · change (txS (stS (stS s).2).2).2.2 = 0 at h
    obtain ⟨a1, a2⟩ := txS_form h
    obtain ⟨b1, b2⟩ := stS_form a1
    obtain ⟨c1, c2⟩ := stS_form b1
    refine ⟨c1, ?_⟩
    show s.1 = stB (stS s).1.1 (stS s).1.2 ++ stB (stS (stS s).2).1.1 (stS (stS s).2).1.2 ++ txB (txS (stS (stS s).2).2).1 ++ (txS (stS (stS s).2).2).2.1
    rw [List.append_assoc, List.append_assoc, ← a2, ← b2, ← c2]
  · change (vlS (numS (stS s).2).2).2.2 = 0 at h
    obtain ⟨a1, a2⟩ := vlS_form h
    obtain ⟨b1, b2⟩ := numS_form a1
    obtain ⟨c1, c2⟩ := stS_form b1
    refine ⟨c1, ?_⟩
    show s.1 = stB (stS s).1.1 (stS s).1.2 ++ Wm.numB (((numS (stS s).2).1 : Nat) : Int).toNat ++ vlB (vlS (numS (stS s).2).2).1.1 (vlS (numS (stS s).2).2).1.2.1 (vlS (numS (stS s).2).2).1.2.2 ++ (vlS (numS (stS s).2).2).2.1
    rw [Int.toNat_natCast, List.append_assoc, List.append_assoc, ← a2, ← b2, ← c2]
  · change (onS (stS s).2).2.2 = 0 at h
    obtain ⟨a1, a2⟩ := onS_form h
    obtain ⟨b1, b2⟩ := stS_form a1
    refine ⟨b1, ?_⟩
    show s.1 = stB (stS s).1.1 (stS s).1.2 ++ Wm.numB (digO (onS (stS s).2).1) ++ (onS (stS s).2).2.1
    rw [List.append_assoc, ← a2, ← b2]
  · change (stS (stS s).2).2.2 = 0 at h
    obtain ⟨a1, a2⟩ := stS_form h
    obtain ⟨b1, b2⟩ := stS_form a1
    refine ⟨b1, ?_⟩
    show s.1 = stB (stS s).1.1 (stS s).1.2 ++ stB (stS (stS s).2).1.1 (stS (stS s).2).1.2 ++ (stS (stS s).2).2.1
    rw [List.append_assoc, ← a2, ← b2]
  · change (vlS (numS (paS (stS s).2).2).2).2.2 = 0 at h
    obtain ⟨a1, a2⟩ := vlS_form h
    obtain ⟨b1, b2⟩ := numS_form a1
    obtain ⟨c1, c2⟩ := paS_form b1
    obtain ⟨d1, d2⟩ := stS_form c1
    refine ⟨d1, ?_⟩
    show s.1 = stB (stS s).1.1 (stS s).1.2 ++ Wm.numB (paS (stS s).2).1.length ++ paB (paS (stS s).2).1 ++ Wm.numB (((numS (paS (stS s).2).2).1 : Nat) : Int).toNat ++ vlB (vlS (numS (paS (stS s).2).2).2).1.1 (vlS (numS (paS (stS s).2).2).2).1.2.1 (vlS (numS (paS (stS s).2).2).2).1.2.2 ++ (vlS (numS (paS (stS s).2).2).2).2.1
    rw [Int.toNat_natCast, List.append_assoc, List.append_assoc, List.append_assoc, List.append_assoc, ← a2, ← b2, ← c2, ← d2]
/-- bytes that are read as an op are the beginning of what it is written as -/
theorem takeO_form {l : List UInt8} (h : (takeO (l, 0)).2.2 = 0) : rightO (takeO (l, 0)).1 = true ∧ l = opB (takeO (l, 0)).1 ++ (takeO (l, 0)).2.1 := by
  obtain ⟨h1, h2⟩ := takeO_ok h
  refine ⟨h1, ?_⟩
  rw [h2] at h h1 ⊢
  obtain ⟨k1, k2⟩ := rightO_kind h1
  have hk := rawO_k (numS (l, 0)).1 (numS (l, 0)).2
  rw [hk] at k1 k2
  obtain ⟨a1, a2⟩ := rawO_form (by omega) (by omega) h
  obtain ⟨b1, b2⟩ := numS_form a1
  unfold opB
  rw [hk, Int.toNat_natCast, List.append_assoc, ← a2]
  exact b2
/-- an op that may be is read as it was written -/
theorem takeO_back {x : Opp} (h : rightO x = true) (more : List UInt8) : takeO (opB x ++ more, 0) = (x, (more, 0)) := by
  obtain ⟨k1, k6⟩ := rightO_kind h
  have hn : numS (opB x ++ more, 0) = (x.k.toNat, (tailB x ++ more, 0)) := by
    unfold opB
    rw [List.append_assoc, numS_back (by omega)]
  unfold takeO
  rw [hn]
  dsimp only
  suffices hr : rawO x.k.toNat (tailB x ++ more, 0) = (x, (more, 0)) by
    rw [hr]
    unfold endO
    rw [if_pos h, if_pos rfl]
  have hc : x.k = 1 ∨ x.k = 2 ∨ x.k = 3 ∨ x.k = 4 ∨ x.k = 5 ∨ x.k = 6 := by omega
  rcases hc with hk | hk | hk | hk | hk | hk
  · obtain ⟨e1, e2, e3⟩ := right1 h hk
    have ht : tailB x = stB x.rt x.rr ++ txB x.key := by unfold tailB; rw [if_pos hk]
    rw [hk, ht]
    show (({ Opp.zero with k := 1, rt := (stS _).1.1, rr := (stS _).1.2, key := (txS (stS _).2).1 } : Opp), (txS (stS _).2).2) = _
    rw [List.append_assoc, stS_back e1]
    dsimp only
    rw [txS_back (by have := key_small e2; omega)]
    dsimp only
    rw [← e3]
  · obtain ⟨e0, e1, e2, e3⟩ := right2 h hk
    have ht : tailB x = stB x.nt x.nr ++ stB x.rt x.rr ++ txB x.key := by unfold tailB; rw [if_neg (by omega), if_pos hk]
    rw [hk, ht]
    show (({ Opp.zero with k := 2, nt := (stS _).1.1, nr := (stS _).1.2, rt := (stS (stS _).2).1.1, rr := (stS (stS _).2).1.2, key := (txS (stS (stS _).2).2).1 } : Opp), (txS (stS (stS _).2).2).2) = _
    rw [List.append_assoc, List.append_assoc, stS_back e0]
    dsimp only
    rw [stS_back e1]
    dsimp only
    rw [txS_back (by have := key_small e2; omega)]
    dsimp only
    rw [← e3]
  · obtain ⟨e0, e1, e3⟩ := right3 h hk
    obtain ⟨p1, p8, e2⟩ := right8_facts e1
    have ht : tailB x = stB x.nt x.nr ++ Wm.numB x.p.toNat ++ vlB x.vk x.vn x.vt := by unfold tailB; rw [if_neg (by omega), if_neg (by omega), if_pos hk]
    rw [hk, ht]
    show (({ Opp.zero with k := 3, nt := (stS _).1.1, nr := (stS _).1.2, p := (numS (stS _).2).1, vk := (vlS (numS (stS _).2).2).1.1, vn := (vlS (numS (stS _).2).2).1.2.1, vt := (vlS (numS (stS _).2).2).1.2.2 } : Opp), (vlS (numS (stS _).2).2).2) = _
    rw [List.append_assoc, List.append_assoc, stS_back e0]
    dsimp only
    rw [numS_back (by omega)]
    dsimp only
    rw [vlS_back e2]
    dsimp only
    rw [Int.toNat_of_nonneg (by omega), ← e3]
  · obtain ⟨e0, e3⟩ := right4 h hk
    have ht : tailB x = stB x.nt x.nr ++ Wm.numB (digO x.on) := by unfold tailB; rw [if_neg (by omega), if_neg (by omega), if_neg (by omega), if_pos hk]
    rw [hk, ht]
    show (({ Opp.zero with k := 4, nt := (stS _).1.1, nr := (stS _).1.2, on := (onS (stS _).2).1 } : Opp), (onS (stS _).2).2) = _
    rw [List.append_assoc, stS_back e0]
    dsimp only
    rw [onS_back]
    dsimp only
    rw [← e3]
  · obtain ⟨e0, e1, e3⟩ := right5 h hk
    have ht : tailB x = stB x.nt x.nr ++ stB x.rt x.rr := by unfold tailB; rw [if_neg (by omega), if_neg (by omega), if_neg (by omega), if_neg (by omega), if_pos hk]
    rw [hk, ht]
    show (({ Opp.zero with k := 5, nt := (stS _).1.1, nr := (stS _).1.2, rt := (stS (stS _).2).1.1, rr := (stS (stS _).2).1.2 } : Opp), (stS (stS _).2).2) = _
    rw [List.append_assoc, stS_back e0]
    dsimp only
    rw [stS_back e1]
    dsimp only
    rw [← e3]
  · obtain ⟨e0, e1, e2, e3⟩ := right6 h hk
    obtain ⟨l1, l8, ls⟩ := okPath_small e1
    obtain ⟨p1, p8, e4⟩ := right8_facts e2
    have ht : tailB x = stB x.nt x.nr ++ Wm.numB x.path.length ++ paB x.path ++ Wm.numB x.p.toNat ++ vlB x.vk x.vn x.vt := by unfold tailB; rw [if_neg (by omega), if_neg (by omega), if_neg (by omega), if_neg (by omega), if_neg (by omega)]
    rw [hk, ht]
    show (({ Opp.zero with k := 6, nt := (stS _).1.1, nr := (stS _).1.2, path := (paS (stS _).2).1, p := (numS (paS (stS _).2).2).1, vk := (vlS (numS (paS (stS _).2).2).2).1.1, vn := (vlS (numS (paS (stS _).2).2).2).1.2.1, vt := (vlS (numS (paS (stS _).2).2).2).1.2.2 } : Opp), (vlS (numS (paS (stS _).2).2).2).2) = _
    rw [List.append_assoc, List.append_assoc, List.append_assoc, List.append_assoc, stS_back e0]
    dsimp only
    rw [paS_back (by omega) ls]
    dsimp only
    rw [numS_back (by omega)]
    dsimp only
    rw [vlS_back e4]
    dsimp only
    rw [Int.toNat_of_nonneg (by omega), ← e3]
/-- two ops that may be, with the same bytes, are the same -/
theorem opB_inj {x y : Opp} (hx : rightO x = true) (hy : rightO y = true) (h : opB x = opB y) : x = y := by
  have h1 := takeO_back hx []
  have h2 := takeO_back hy []
  rw [h] at h1
  rw [h1] at h2
  exact (congrArg Prod.fst h2)
end Go.Proofs.Ytcenmkcencdlcaa

namespace Go.Proofs.Ytcenmkcencdlcaa
open Go.RowKit

/-- a batch, without where its ops lie -/
structure Bat where
  r : Int
  s : Int
  t : Int
  ops : List Opp
def Bat.zero : Bat := ⟨0, 0, 0, []⟩
def rightT (x : Bat) : Bool :=
  decide (0 ≤ x.r ∧ x.r ≤ 15) && decide (1 ≤ x.s ∧ x.s ≤ 512) && decide (1 ≤ x.ops.length ∧ x.ops.length ≤ 64) && decide (1 ≤ x.t ∧ x.t ≤ 1099511627776 - ((x.ops.length : Int) - 1)) && x.ops.all rightO
/-- may a batch be but for its ops? -/
def headT (x : Bat) : Bool := decide (0 ≤ x.r ∧ x.r ≤ 15) && decide (1 ≤ x.s ∧ x.s ≤ 512) && decide (1 ≤ x.ops.length ∧ x.ops.length ≤ 64) && decide (1 ≤ x.t ∧ x.t ≤ 1099511627776 - ((x.ops.length : Int) - 1))
theorem rightT_iff {x : Bat} : rightT x = true ↔ (0 ≤ x.r ∧ x.r ≤ 15) ∧ (1 ≤ x.s ∧ x.s ≤ 512) ∧ (1 ≤ x.ops.length ∧ x.ops.length ≤ 64) ∧ (1 ≤ x.t ∧ x.t ≤ 1099511627776 - ((x.ops.length : Int) - 1)) ∧ ∀ y ∈ x.ops, rightO y = true := by
  simp only [rightT, Bool.and_eq_true, decide_eq_true_eq, List.all_eq_true, and_assoc]
theorem rightT_head {x : Bat} (h : headT x = true) : rightT x = x.ops.all rightO := by
  unfold rightT; unfold headT at h; rw [h, Bool.true_and]
theorem rightT_nohead {x : Bat} (h : headT x = false) : rightT x = false := by
  unfold rightT; unfold headT at h; rw [h, Bool.false_and]
theorem headT_no {x : Bat} (h : ¬ ((0 ≤ x.r ∧ x.r ≤ 15) ∧ (1 ≤ x.s ∧ x.s ≤ 512) ∧ (1 ≤ x.ops.length ∧ x.ops.length ≤ 64) ∧ (1 ≤ x.t ∧ x.t ≤ 1099511627776 - ((x.ops.length : Int) - 1)))) : headT x = false := by
  cases hh : headT x
  · rfl
  · simp only [headT, Bool.and_eq_true, decide_eq_true_eq, and_assoc] at hh h
    exact absurd hh h
theorem headT_yes {x : Bat} (h : (0 ≤ x.r ∧ x.r ≤ 15) ∧ (1 ≤ x.s ∧ x.s ≤ 512) ∧ (1 ≤ x.ops.length ∧ x.ops.length ≤ 64) ∧ (1 ≤ x.t ∧ x.t ≤ 1099511627776 - ((x.ops.length : Int) - 1))) : headT x = true := by
  simp only [headT, Bool.and_eq_true, decide_eq_true_eq, and_assoc] at h ⊢
  exact h
theorem rightT_zero : rightT Bat.zero = false := rfl

def opOf (l : List Opp) (i : Nat) : Opp := l.getD i Opp.zero
theorem opOf_mem {l : List Opp} {i : Nat} (h : i < l.length) : opOf l i ∈ l := by
  have : opOf l i = l[i] := by simp [opOf, h]
  rw [this]; exact List.getElem_mem h
theorem all_no {l : List Opp} {f : Opp → Bool} {k : Nat} (hk : k < l.length) (h : f (opOf l k) = false) : l.all f = false := by
  rw [List.all_eq_false]
  exact ⟨_, opOf_mem hk, by rw [h]; simp⟩
theorem all_yes {l : List Opp} {f : Opp → Bool} (h : ∀ i, i < l.length → f (opOf l i) = true) : l.all f = true := by
  rw [List.all_eq_true]
  intro s hs
  obtain ⟨i, hi, rfl⟩ := List.mem_iff_getElem.1 hs
  have := h i hi
  simpa [opOf, hi] using this

/-- two rows of ops, held against each other -/
def sameL : List Opp → List Opp → Bool
  | [], [] => true
  | x :: l, y :: m => sameO x y && sameL l m
  | _, _ => false
theorem sameL_iff : ∀ {l m : List Opp}, sameL l m = true ↔ l = m
  | [], [] => by simp [sameL]
  | [], _ :: _ => by simp [sameL]
  | _ :: _, [] => by simp [sameL]
  | x :: l, y :: m => by
    simp only [sameL, Bool.and_eq_true, sameO_iff, List.cons.injEq]
    exact and_congr Iff.rfl (sameL_iff (l := l) (m := m))
theorem sameL_refl (l : List Opp) : sameL l l = true := sameL_iff.2 rfl
theorem sameL_len {l m : List Opp} (h : l.length ≠ m.length) : sameL l m = false := by
  cases hh : sameL l m
  · rfl
  · exact absurd (by rw [sameL_iff.1 hh]) h
theorem sameL_no {l m : List Opp} {k : Nat} (h : sameO (opOf l k) (opOf m k) = false) : sameL l m = false := by
  cases hh : sameL l m
  · rfl
  · have e := sameL_iff.1 hh
    subst e
    rw [sameO_refl] at h
    cases h
theorem sameL_yes {l m : List Opp} (hn : l.length = m.length) (h : ∀ i, i < m.length → sameO (opOf l i) (opOf m i) = true) : sameL l m = true := by
  rw [sameL_iff]
  apply List.ext_getElem hn
  intro i h1 h2
  have := sameO_iff.1 (h i h2)
  simpa [opOf, h1, h2] using this
def sameT (x y : Bat) : Bool := x.r == y.r && x.s == y.s && x.t == y.t && sameL x.ops y.ops
theorem sameT_refl (x : Bat) : sameT x x = true := by simp [sameT, sameL_refl]

/-- the stamp of place i -/
def stampT (x : Bat) (i : Int) : Qm.St := if 0 ≤ i ∧ i < (x.ops.length : Int) ∧ rightT x = true then (x.t + i, x.r) else (0, 0)
def endT (x : Bat) : Qm.St := stampT x ((x.ops.length : Int) - 1)

/-- a batch's bytes -/
def opsB (l : List Opp) : List UInt8 := l.flatMap opB
def batB (x : Bat) : List UInt8 := Wm.numB x.r.toNat ++ (Wm.numB x.s.toNat ++ (Wm.numB x.t.toNat ++ (Wm.numB x.ops.length ++ opsB x.ops)))
def putT (x : Bat) : List UInt8 × Nat := if rightT x = true then (batB x, 0) else ([], 1)
theorem putT_ok {x : Bat} (h : rightT x = true) : putT x = (batB x, 0) := by unfold putT; rw [if_pos h]
theorem putT_err {x : Bat} (h : rightT x = false) : putT x = ([], 1) := by unfold putT; rw [if_neg (by simp [h])]
def frameT (x : Bat) : List UInt8 × Nat := if rightT x = true then (Wm.frameB (batB x), 0) else ([], 1)

/-- what reading leaves -/
def uptoS (m : Int) (s : RS) : Nat × RS := if s.2 ≠ 0 then (0, s) else uptoR s.1 m
/-- n ops more, where a are read -/
def opsS : Nat → RS → List Opp → List Opp × RS
  | 0, s, a => (a, s)
  | n + 1, s, a => if (takeO s).2.2 ≠ 0 then ([], (takeO s).2) else opsS n (takeO s).2 (a ++ [(takeO s).1])
/-- what Take reads -/
def rawT (s : RS) : Bat × RS :=
  let a := uptoS 15 s; let b := uptoS 512 a.2; let c := numS b.2; let d := uptoS 64 c.2; let o := opsS d.1 d.2 []
  (⟨a.1, b.1, c.1, o.1⟩, o.2)
/-- how it ends -/
def endB (q : Bat × RS) : Bat × RS := if q.2.2 ≠ 0 then (Bat.zero, q.2) else if rightT q.1 = true then q else (Bat.zero, failS 21 q.2)
def takeT (s : RS) : Bat × RS := endB (rawT s)
def unframeT (l : List UInt8) : Bat × Nat × Nat :=
  if (unfR l).2.2 ≠ 0 then (Bat.zero, 0, (unfR l).2.2)
  else if doneR (takeT ((unfR l).1, 0)).2.1 (takeT ((unfR l).1, 0)).2.2 ≠ 0 then (Bat.zero, 0, 21)
  else ((takeT ((unfR l).1, 0)).1, (unfR l).2.1, 0)

theorem uptoS_back {n : Nat} {m : Int} (h : n < 281474976710656) (hm : (n : Int) ≤ m) (more : List UInt8) : uptoS m (Wm.numB n ++ more, 0) = (n, (more, 0)) := by
  unfold uptoS
  rw [if_neg (by simp)]
  exact uptoR_backM h hm more
theorem opsS_back : ∀ (l a : List Opp) (more : List UInt8), (∀ x, x ∈ l → rightO x = true) → opsS l.length (opsB l ++ more, 0) a = (a ++ l, (more, 0))
  | [], a, more, _ => by simp [opsS, opsB]
  | x :: l, a, more, h => by
    have e : opsB (x :: l) ++ more = opB x ++ (opsB l ++ more) := by simp [opsB]
    rw [e, List.length_cons, opsS, takeO_back (h x List.mem_cons_self)]
    rw [if_neg (by simp), opsS_back l (a ++ [x]) more fun y hy => h y (List.mem_cons_of_mem _ hy), List.append_assoc]
    rfl
theorem rawT_back {x : Bat} (h : rightT x = true) (more : List UInt8) : rawT (batB x ++ more, 0) = (x, (more, 0)) := by
  obtain ⟨h1, h2, h3, h4, h5⟩ := rightT_iff.1 h
  unfold rawT batB
  rw [List.append_assoc, uptoS_back (by omega) (by omega)]
  dsimp only
  rw [List.append_assoc, uptoS_back (by omega) (by omega)]
  dsimp only
  rw [List.append_assoc, numS_back (by omega)]
  dsimp only
  rw [List.append_assoc, uptoS_back (by omega) (by omega)]
  dsimp only
  rw [opsS_back x.ops [] more h5]
  obtain ⟨r, s, t, l⟩ := x
  dsimp only at h1 h2 h4 ⊢
  rw [Int.toNat_of_nonneg (by omega), Int.toNat_of_nonneg (by omega), Int.toNat_of_nonneg (by omega)]
  rfl
theorem takeT_back {x : Bat} (h : rightT x = true) (more : List UInt8) : takeT (batB x ++ more, 0) = (x, (more, 0)) := by
  unfold takeT
  rw [rawT_back h]
  unfold endB
  rw [if_neg (by simp), if_pos h]

theorem opsB_append (l m : List Opp) : opsB (l ++ m) = opsB l ++ opsB m := by simp [opsB]
theorem opsB_one (x : Opp) : opsB [x] = opB x := by simp [opsB]
theorem frameT_ok {x : Bat} (h : rightT x = true) : frameT x = (Wm.frameB (batB x), 0) := by unfold frameT; rw [if_pos h]
theorem frameT_err {x : Bat} (h : rightT x = false) : frameT x = ([], 1) := by unfold frameT; rw [if_neg (by simp [h])]
theorem take_succ_op (l : List Opp) (k : Nat) (h : k < l.length) : l.take (k + 1) = l.take k ++ [opOf l k] := by
  rw [List.take_succ_eq_append_getElem h]
  simp [opOf, h]
end Go.Proofs.Ytcenmkcencdlcaa
