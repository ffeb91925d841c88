/-
  No cell of these rows narrows 'for every input' (looked for: loops, veiled, ifaces, maps, wideKeys, modest, calm, conditions, laid).
  DERIVED. THE GIVEN ROWS OF THIS SEAT. 2 by the template 'for every input the law returns true; each argument reads behind the call as it read before'; 0 by the template 'total and deterministic' (their statements: YtaplemkmkbjodaaTotals.lean).
  GIVEN WITH THE SEED: the statements are not yours to turn. If you find one false, say at which input.
  Laid BY PROGRAM, IN A SANDBOX (cutbox-rows.mjs): the forced cells as the released guide's own fill.sh prints them over the translation 77ad1b4c8a01bfb8… (all of the seat's roots in one cut). By AI agents, Wed Nov 11 2026. No macro, syntax, notation, axiom, sorry.
-/
import Derived.Test.YtaplemkmkbjodaaChecked
import GoSem.Claim
import GoSem.ClaimJoined
import GoSem.ClaimMapViews
import Derived.JoinedTies
import Derived.KernelRfl
namespace Go.Proofs.Ytaplemkmkbjodaa
/- THE CELL 'sum', in the pinned program and in every row, IS THE sha256 OF THE DUMP (.gsa) THAT YtaplemkmkbjodaaProg.lean LOADS. Nothing in Lean hashes anything: it is a label: what it is worth is what the hold of that sum in a sandbox is worth. -/
noncomputable def Try.pinned : Pinned := { name := "ytaplemkmkbjodaa", sum := "77ad1b4c8a01bfb8cfab61a1b2254817bd3feb8347c77600408c2d149961f5c7", checked := Try.checked }
namespace Rows
def none {H : Type} : Left H := { results := [], args := [] }

/-- 'dioramalaw09.OplogNil': WHATEVER THE INPUT: true; the input reads as it did. -/
def oplogNilSpec : ChangeSpec := { name := "oplogNil", fn := fun _ => fun
  | [d1, d2] => { results := [.lit (.bool true)], args := [d1, d2] }
  | _ => none }
def oplogNilRow : OpenClaim := { program := "ytaplemkmkbjodaa", sum := "77ad1b4c8a01bfb8cfab61a1b2254817bd3feb8347c77600408c2d149961f5c7", func := "diorama/dioramalaw09.OplogNil", spec := "oplogNil", unfollowed := true, recurses := true, plainKeys := false, apart := false }
def OplogNilSaid : Prop := oplogNilRow.holds Try.pinned (OpenSpec.ofChange oplogNilSpec)

/-- ITS FALSE NEIGHBOUR: 'it returns false'. Refute it at one input. -/
def oplogNilWrong : ChangeSpec := { name := "oplogNil", fn := fun _ => fun
  | [d1, d2] => { results := [.lit (.bool false)], args := [d1, d2] }
  | _ => none }
def OplogNilWrongFalsely : Prop := oplogNilRow.holds Try.pinned (OpenSpec.ofChange oplogNilWrong)

/-- 'dioramalaw09.OplogBeginning': WHATEVER THE INPUT: true; the input reads as it did. -/
def oplogBeginningSpec : ChangeSpec := { name := "oplogBeginning", fn := fun _ => fun
  | [d] => { results := [.lit (.bool true)], args := [d] }
  | _ => none }
def oplogBeginningRow : OpenClaim := { program := "ytaplemkmkbjodaa", sum := "77ad1b4c8a01bfb8cfab61a1b2254817bd3feb8347c77600408c2d149961f5c7", func := "diorama/dioramalaw09.OplogBeginning", spec := "oplogBeginning", unfollowed := true, recurses := true, plainKeys := false, apart := false }
def OplogBeginningSaid : Prop := oplogBeginningRow.holds Try.pinned (OpenSpec.ofChange oplogBeginningSpec)

/-- ITS FALSE NEIGHBOUR: 'it returns false'. Refute it at one input. -/
def oplogBeginningWrong : ChangeSpec := { name := "oplogBeginning", fn := fun _ => fun
  | [d] => { results := [.lit (.bool false)], args := [d] }
  | _ => none }
def OplogBeginningWrongFalsely : Prop := oplogBeginningRow.holds Try.pinned (OpenSpec.ofChange oplogBeginningWrong)

/- THE SECOND FORM. 'bulk': how many values and letters a reading holds, each counted each time it is reached (what is shared counts as often as it is met; a slice's spare places count too). A statement '..UptoSaid' is the law's where the arguments, and the package variables that the reading takes, are together of bulk at most 1048576: NARROWER than '..Said'. Prove '..Said' where nothing that the law and all that it calls make is longer than what came in: it says more and counts as full. Else prove '..UptoSaid'. A law counts once. -/
mutual
def uptoBulk {H : Type} : DataW H → Nat
  | .lit (.string bytes) => bytes.length + 1
  | .lit _ => 1
  | .nil => 1
  | .ptr d => uptoBulk d + 1
  | .slice elems spare => uptoBulkAll elems + uptoBulkAll spare + 1
  | .agg parts => uptoBulkAll parts + 1
  | .iface _ d => uptoBulk d + 1
  | .map entries => uptoBulkEntries entries + 1
  | .held _ => 1
def uptoBulkAll {H : Type} : List (DataW H) → Nat
  | [] => 0
  | d :: r => uptoBulk d + uptoBulkAll r
def uptoBulkEntries {H : Type} : List (Lit × DataW H) → Nat
  | [] => 0
  | x :: r => uptoBulkEntry x + uptoBulkEntries r
def uptoBulkEntry {H : Type} : Lit × DataW H → Nat
  | (.string bytes, d) => bytes.length + uptoBulk d + 1
  | (_, d) => uptoBulk d + 1
 end
def uptoSmall : (H : Type) → List (DataW H) → Bool := fun _ ds => decide (uptoBulkAll ds ≤ 1048576)
def OpenSpec.upto (s : _root_.Go.ChangeSpec) : _root_.Go.OpenSpec := { _root_.Go.OpenSpec.ofChange s with cond := some uptoSmall }

/-- 'dioramalaw09.OplogNil', WHERE WHAT IT READS IS OF BULK AT MOST 1048576: true; the input reads as it did. -/
def oplogNilUptoRow : OpenClaim := { program := "ytaplemkmkbjodaa", sum := "77ad1b4c8a01bfb8cfab61a1b2254817bd3feb8347c77600408c2d149961f5c7", func := "diorama/dioramalaw09.OplogNil", spec := "oplogNil", unfollowed := true, recurses := true, plainKeys := false, apart := false, narrowed := true }
def OplogNilUptoSaid : Prop := oplogNilUptoRow.holds Try.pinned (OpenSpec.upto oplogNilSpec)

/-- 'dioramalaw09.OplogBeginning', WHERE WHAT IT READS IS OF BULK AT MOST 1048576: true; the input reads as it did. -/
def oplogBeginningUptoRow : OpenClaim := { program := "ytaplemkmkbjodaa", sum := "77ad1b4c8a01bfb8cfab61a1b2254817bd3feb8347c77600408c2d149961f5c7", func := "diorama/dioramalaw09.OplogBeginning", spec := "oplogBeginning", unfollowed := true, recurses := true, plainKeys := false, apart := false, narrowed := true }
def OplogBeginningUptoSaid : Prop := oplogBeginningUptoRow.holds Try.pinned (OpenSpec.upto oplogBeginningSpec)

end Rows
end Go.Proofs.Ytaplemkmkbjodaa
