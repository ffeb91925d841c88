/-
  OPS, PLAINLY: what a kind names, which ops may be, when two are the same, their bytes, and how they are read.
  No conditions.
-/
import Derived.Test.YthifdefjmfakgaaGreatGE
import Derived.Test.YthifdefjmfakgaaGreatGB
import Derived.Test.YthifdefjmfakgaaGreatGF
import Derived.Test.YthifdefjmfakgaaGreatGG
import Derived.Test.YthifdefjmfakgaaGreatGQ
namespace Go.Proofs.YthifdefjmfakgaaGreat
open Go.RowKit

/-- an op, without where its Path lies -/
structure Opp where
  k : Int
  nt : Int
  nr : Int
  rt : Int
  rr : Int
  key : ByteArray
  path : List Qm.St
  p : Int
  vk : Int
  vn : Int
  vt : ByteArray
  on : Bool
def Opp.zero : Opp := ⟨0, 0, 0, 0, 0, ⟨#[]⟩, [], 0, 0, 0, ⟨#[]⟩, false⟩

/-- what a kind names: node, spot, master, path, value, on -/
structure Prt where
  node : Bool
  spot : Bool
  master : Bool
  path : Bool
  value : Bool
  on : Bool
def prt (k : Int) : Prt :=
  if k = 1 then ⟨false, true, false, false, false, false⟩ else if k = 2 then ⟨true, true, false, false, false, false⟩
  else if k = 3 then ⟨true, false, false, false, true, false⟩ else if k = 4 then ⟨true, false, false, false, false, true⟩
  else if k = 5 then ⟨true, false, true, false, false, false⟩ else if k = 6 then ⟨true, false, false, true, true, false⟩
  else ⟨false, false, false, false, false, false⟩
theorem prt_none {k : Int} (h1 : k ≠ 1) (h2 : k ≠ 2) (h3 : k ≠ 3) (h4 : k ≠ 4) (h5 : k ≠ 5) (h6 : k ≠ 6) : prt k = ⟨false, false, false, false, false, false⟩ := by
  unfold prt; rw [if_neg h1, if_neg h2, if_neg h3, if_neg h4, if_neg h5, if_neg h6]

def okNode (t r : Int) : Bool := rightB t r && decide (1 ≤ t)
def isZ (t r : Int) : Bool := t == 0 && r == 0
def isT (t r : Int) : Bool := t == 0 && r == 1
def okPlace (t r : Int) : Bool := okNode t r || isZ t r || isT t r
def okPath (l : List Qm.St) : Bool := decide (1 ≤ l.length) && decide (l.length ≤ 8) && l.all fun s => okNode s.1 s.2
def isV (k n : Int) (t : ByteArray) : Bool := k == 0 && n == 0 && decide (t = ⟨#[]⟩)

/-- may each part that is named be? -/
def fitO (p : Prt) (x : Opp) : Bool :=
  (!p.node || okNode x.nt x.nr) && (!p.spot || (okPlace x.rt x.rr && Km.rightB x.key.data.toList)) && (!p.master || okNode x.rt x.rr || isZ x.rt x.rr) &&
  (!p.path || okPath x.path) && (!p.value || right8V x.p x.vk x.vn x.vt.data.toList)
/-- is each part that is not named zero? -/
def aloneO (p : Prt) (x : Opp) : Bool :=
  (p.node || isZ x.nt x.nr) && (p.spot || p.master || isZ x.rt x.rr) && (p.spot || decide (x.key = ⟨#[]⟩)) && (p.path || x.path.length == 0) &&
  (p.value || (x.p == 0 && isV x.vk x.vn x.vt)) && (p.on || !x.on)
def rightO (x : Opp) : Bool := decide (1 ≤ x.k ∧ x.k ≤ 6) && fitO (prt x.k) x && aloneO (prt x.k) x

/-- what a reader has left, its error -/
abbrev RS := List UInt8 × Nat
end Go.Proofs.YthifdefjmfakgaaGreat
