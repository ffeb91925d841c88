/-
  No cell of these rows narrows 'for every input' (looked for: loops, veiled, ifaces, maps, wideKeys, modest, calm, conditions, laid).
  DERIVED. THE GIVEN ROWS OF THIS SEAT. 4 by the template 'for every input the law returns true; each argument reads behind the call as it read before'; 0 by the template 'total and deterministic' (their statements: YtcenmkcencdlcaaTotals.lean).
  GIVEN WITH THE SEED: the statements are not yours to turn. If you find one false, say at which input.
  Laid BY PROGRAM, IN A SANDBOX (cutbox-rows.mjs): the forced cells as the released guide's own fill.sh prints them over the translation b216697f694b4b46… (all of the seat's roots in one cut). By AI agents, Wed Nov 11 2026. No macro, syntax, notation, axiom, sorry.
-/
import Derived.Test.YtcenmkcencdlcaaChecked
import GoSem.Claim
import GoSem.ClaimJoined
import GoSem.ClaimMapViews
import Derived.JoinedTies
import Derived.KernelRfl
namespace Go.Proofs.Ytcenmkcencdlcaa
/- THE CELL 'sum', in the pinned program and in every row, IS THE sha256 OF THE DUMP (.gsa) THAT YtcenmkcencdlcaaProg.lean LOADS. Nothing in Lean hashes anything: it is a label: what it is worth is what the hold of that sum in a sandbox is worth. -/
noncomputable def Try.pinned : Pinned := { name := "ytcenmkcencdlcaa", sum := "b216697f694b4b462f35972e50e396c52031fbd9f7bab0d8803e5f393a5a81de", checked := Try.checked }
namespace Rows
def none {H : Type} : Left H := { results := [], args := [] }

/-- 'dioramalaw12.PropsPlays': WHATEVER THE INPUT: true; the input reads as it did. -/
def propsPlaysSpec : ChangeSpec := { name := "propsPlays", fn := fun _ => fun
  | [d1, d2, d3] => { results := [.lit (.bool true)], args := [d1, d2, d3] }
  | _ => none }
def propsPlaysRow : OpenClaim := { program := "ytcenmkcencdlcaa", sum := "b216697f694b4b462f35972e50e396c52031fbd9f7bab0d8803e5f393a5a81de", func := "diorama/dioramalaw12.PropsPlays", spec := "propsPlays", inPlace := ["maps.clone"], plainKeys := false, apart := false }
def PropsPlaysSaid : Prop := propsPlaysRow.holds Try.pinned (OpenSpec.ofChange propsPlaysSpec)

/-- ITS FALSE NEIGHBOUR: 'it returns false'. Refute it at one input. -/
def propsPlaysWrong : ChangeSpec := { name := "propsPlays", fn := fun _ => fun
  | [d1, d2, d3] => { results := [.lit (.bool false)], args := [d1, d2, d3] }
  | _ => none }
def PropsPlaysWrongFalsely : Prop := propsPlaysRow.holds Try.pinned (OpenSpec.ofChange propsPlaysWrong)

/-- 'dioramalaw12.PropsNil': WHATEVER THE INPUT: true; the input reads as it did. -/
def propsNilSpec : ChangeSpec := { name := "propsNil", fn := fun _ => fun
  | [d1, d2] => { results := [.lit (.bool true)], args := [d1, d2] }
  | _ => none }
def propsNilRow : OpenClaim := { program := "ytcenmkcencdlcaa", sum := "b216697f694b4b462f35972e50e396c52031fbd9f7bab0d8803e5f393a5a81de", func := "diorama/dioramalaw12.PropsNil", spec := "propsNil", inPlace := ["maps.clone"], plainKeys := false, apart := false }
def PropsNilSaid : Prop := propsNilRow.holds Try.pinned (OpenSpec.ofChange propsNilSpec)

/-- ITS FALSE NEIGHBOUR: 'it returns false'. Refute it at one input. -/
def propsNilWrong : ChangeSpec := { name := "propsNil", fn := fun _ => fun
  | [d1, d2] => { results := [.lit (.bool false)], args := [d1, d2] }
  | _ => none }
def PropsNilWrongFalsely : Prop := propsNilRow.holds Try.pinned (OpenSpec.ofChange propsNilWrong)

/-- 'dioramalaw12.PropsAnyOrder': WHATEVER THE INPUT: true; the input reads as it did. -/
def propsAnyOrderSpec : ChangeSpec := { name := "propsAnyOrder", fn := fun _ => fun
  | [d1, d2] => { results := [.lit (.bool true)], args := [d1, d2] }
  | _ => none }
def propsAnyOrderRow : OpenClaim := { program := "ytcenmkcencdlcaa", sum := "b216697f694b4b462f35972e50e396c52031fbd9f7bab0d8803e5f393a5a81de", func := "diorama/dioramalaw12.PropsAnyOrder", spec := "propsAnyOrder", plainKeys := false, apart := false }
def PropsAnyOrderSaid : Prop := propsAnyOrderRow.holds Try.pinned (OpenSpec.ofChange propsAnyOrderSpec)

/-- ITS FALSE NEIGHBOUR: 'it returns false'. Refute it at one input. -/
def propsAnyOrderWrong : ChangeSpec := { name := "propsAnyOrder", fn := fun _ => fun
  | [d1, d2] => { results := [.lit (.bool false)], args := [d1, d2] }
  | _ => none }
def PropsAnyOrderWrongFalsely : Prop := propsAnyOrderRow.holds Try.pinned (OpenSpec.ofChange propsAnyOrderWrong)

/-- 'dioramalaw12.PropsLast': WHATEVER THE INPUT: true; the input reads as it did. -/
def propsLastSpec : ChangeSpec := { name := "propsLast", fn := fun _ => fun
  | [d1, d2, d3] => { results := [.lit (.bool true)], args := [d1, d2, d3] }
  | _ => none }
def propsLastRow : OpenClaim := { program := "ytcenmkcencdlcaa", sum := "b216697f694b4b462f35972e50e396c52031fbd9f7bab0d8803e5f393a5a81de", func := "diorama/dioramalaw12.PropsLast", spec := "propsLast", inPlace := ["maps.clone"], plainKeys := false, apart := false }
def PropsLastSaid : Prop := propsLastRow.holds Try.pinned (OpenSpec.ofChange propsLastSpec)

/-- ITS FALSE NEIGHBOUR: 'it returns false'. Refute it at one input. -/
def propsLastWrong : ChangeSpec := { name := "propsLast", fn := fun _ => fun
  | [d1, d2, d3] => { results := [.lit (.bool false)], args := [d1, d2, d3] }
  | _ => none }
def PropsLastWrongFalsely : Prop := propsLastRow.holds Try.pinned (OpenSpec.ofChange propsLastWrong)

/- THE SECOND FORM. 'bulk': how many values and letters a reading holds, each counted each time it is reached (what is shared counts as often as it is met; a slice's spare places count too). A statement '..UptoSaid' is the law's where the arguments, and the package variables that the reading takes, are together of bulk at most 1048576: NARROWER than '..Said'. Prove '..Said' where nothing that the law and all that it calls make is longer than what came in: it says more and counts as full. Else prove '..UptoSaid'. A law counts once. -/
mutual
def uptoBulk {H : Type} : DataW H → Nat
  | .lit (.string bytes) => bytes.length + 1
  | .lit _ => 1
  | .nil => 1
  | .ptr d => uptoBulk d + 1
  | .slice elems spare => uptoBulkAll elems + uptoBulkAll spare + 1
  | .agg parts => uptoBulkAll parts + 1
  | .iface _ d => uptoBulk d + 1
  | .map entries => uptoBulkEntries entries + 1
  | .held _ => 1
def uptoBulkAll {H : Type} : List (DataW H) → Nat
  | [] => 0
  | d :: r => uptoBulk d + uptoBulkAll r
def uptoBulkEntries {H : Type} : List (Lit × DataW H) → Nat
  | [] => 0
  | x :: r => uptoBulkEntry x + uptoBulkEntries r
def uptoBulkEntry {H : Type} : Lit × DataW H → Nat
  | (.string bytes, d) => bytes.length + uptoBulk d + 1
  | (_, d) => uptoBulk d + 1
 end
def uptoSmall : (H : Type) → List (DataW H) → Bool := fun _ ds => decide (uptoBulkAll ds ≤ 1048576)
def OpenSpec.upto (s : _root_.Go.ChangeSpec) : _root_.Go.OpenSpec := { _root_.Go.OpenSpec.ofChange s with cond := some uptoSmall }

/-- 'dioramalaw12.PropsPlays', WHERE WHAT IT READS IS OF BULK AT MOST 1048576: true; the input reads as it did. -/
def propsPlaysUptoRow : OpenClaim := { program := "ytcenmkcencdlcaa", sum := "b216697f694b4b462f35972e50e396c52031fbd9f7bab0d8803e5f393a5a81de", func := "diorama/dioramalaw12.PropsPlays", spec := "propsPlays", inPlace := ["maps.clone"], plainKeys := false, apart := false, narrowed := true }
def PropsPlaysUptoSaid : Prop := propsPlaysUptoRow.holds Try.pinned (OpenSpec.upto propsPlaysSpec)

/-- 'dioramalaw12.PropsNil', WHERE WHAT IT READS IS OF BULK AT MOST 1048576: true; the input reads as it did. -/
def propsNilUptoRow : OpenClaim := { program := "ytcenmkcencdlcaa", sum := "b216697f694b4b462f35972e50e396c52031fbd9f7bab0d8803e5f393a5a81de", func := "diorama/dioramalaw12.PropsNil", spec := "propsNil", inPlace := ["maps.clone"], plainKeys := false, apart := false, narrowed := true }
def PropsNilUptoSaid : Prop := propsNilUptoRow.holds Try.pinned (OpenSpec.upto propsNilSpec)

/-- 'dioramalaw12.PropsAnyOrder', WHERE WHAT IT READS IS OF BULK AT MOST 1048576: true; the input reads as it did. -/
def propsAnyOrderUptoRow : OpenClaim := { program := "ytcenmkcencdlcaa", sum := "b216697f694b4b462f35972e50e396c52031fbd9f7bab0d8803e5f393a5a81de", func := "diorama/dioramalaw12.PropsAnyOrder", spec := "propsAnyOrder", plainKeys := false, apart := false, narrowed := true }
def PropsAnyOrderUptoSaid : Prop := propsAnyOrderUptoRow.holds Try.pinned (OpenSpec.upto propsAnyOrderSpec)

/-- 'dioramalaw12.PropsLast', WHERE WHAT IT READS IS OF BULK AT MOST 1048576: true; the input reads as it did. -/
def propsLastUptoRow : OpenClaim := { program := "ytcenmkcencdlcaa", sum := "b216697f694b4b462f35972e50e396c52031fbd9f7bab0d8803e5f393a5a81de", func := "diorama/dioramalaw12.PropsLast", spec := "propsLast", inPlace := ["maps.clone"], plainKeys := false, apart := false, narrowed := true }
def PropsLastUptoSaid : Prop := propsLastUptoRow.holds Try.pinned (OpenSpec.upto propsLastSpec)

end Rows
end Go.Proofs.Ytcenmkcencdlcaa
