/-
  No cell of these rows narrows 'for every input' (looked for: loops, veiled, ifaces, maps, wideKeys, modest, calm, conditions, laid).
  DERIVED. THE GIVEN ROWS OF THIS SEAT. 2 by the template 'for every input the law returns true; each argument reads behind the call as it read before'; 0 by the template 'total and deterministic' (their statements: YtfgnmnkihbgjnaaGreatTotals.lean).
  GIVEN WITH THE SEED: the statements are not yours to turn. If you find one false, say at which input.
  Laid BY PROGRAM, IN A SANDBOX (cutbox-rows.mjs): the forced cells as the released guide's own fill.sh prints them over the translation 00d5186b23819b8e… (all of the seat's roots in one cut). By AI agents, Wed Nov 11 2026. No macro, syntax, notation, axiom, sorry.
-/
import Derived.Test.YtfgnmnkihbgjnaaGreatChecked
import GoSem.Claim
import GoSem.ClaimJoined
import GoSem.ClaimMapViews
import Derived.JoinedTies
import Derived.KernelRfl
namespace Go.Proofs.YtfgnmnkihbgjnaaGreat
/- THE CELL 'sum', in the pinned program and in every row, IS THE sha256 OF THE DUMP (.gsa) THAT YtfgnmnkihbgjnaaGreatProg.lean LOADS. Nothing in Lean hashes anything: it is a label: what it is worth is what the hold of that sum in a sandbox is worth. -/
noncomputable def Tryz.pinned : Pinned := { name := "ytfgnmnkihbgjnaagreat", sum := "00d5186b23819b8ee894d4e834e39b64d8caa14b4d753eacd255d348fd242633", checked := Tryz.checked }
namespace Rows
def none {H : Type} : Left H := { results := [], args := [] }

/-- 'dioramalaw09.OplogPlays': WHATEVER THE INPUT: true; the input reads as it did. -/
def oplogPlaysSpec : ChangeSpec := { name := "oplogPlays", fn := fun _ => fun
  | [d1, d2, d3, d4] => { results := [.lit (.bool true)], args := [d1, d2, d3, d4] }
  | _ => none }
def oplogPlaysRow : OpenClaim := { program := "ytfgnmnkihbgjnaagreat", sum := "00d5186b23819b8ee894d4e834e39b64d8caa14b4d753eacd255d348fd242633", func := "diorama/dioramalaw09.OplogPlays", spec := "oplogPlays", unfollowed := true, recurses := true, plainKeys := false, apart := false }
def OplogPlaysSaid : Prop := oplogPlaysRow.holds Tryz.pinned (OpenSpec.ofChange oplogPlaysSpec)

/-- ITS FALSE NEIGHBOUR: 'it returns false'. Refute it at one input. -/
def oplogPlaysWrong : ChangeSpec := { name := "oplogPlays", fn := fun _ => fun
  | [d1, d2, d3, d4] => { results := [.lit (.bool false)], args := [d1, d2, d3, d4] }
  | _ => none }
def OplogPlaysWrongFalsely : Prop := oplogPlaysRow.holds Tryz.pinned (OpenSpec.ofChange oplogPlaysWrong)

/-- 'dioramalaw09.OplogAnyOrder': WHATEVER THE INPUT: true; the input reads as it did. -/
def oplogAnyOrderSpec : ChangeSpec := { name := "oplogAnyOrder", fn := fun _ => fun
  | [d1, d2] => { results := [.lit (.bool true)], args := [d1, d2] }
  | _ => none }
def oplogAnyOrderRow : OpenClaim := { program := "ytfgnmnkihbgjnaagreat", sum := "00d5186b23819b8ee894d4e834e39b64d8caa14b4d753eacd255d348fd242633", func := "diorama/dioramalaw09.OplogAnyOrder", spec := "oplogAnyOrder", unfollowed := true, recurses := true, plainKeys := false, apart := false }
def OplogAnyOrderSaid : Prop := oplogAnyOrderRow.holds Tryz.pinned (OpenSpec.ofChange oplogAnyOrderSpec)

/-- ITS FALSE NEIGHBOUR: 'it returns false'. Refute it at one input. -/
def oplogAnyOrderWrong : ChangeSpec := { name := "oplogAnyOrder", fn := fun _ => fun
  | [d1, d2] => { results := [.lit (.bool false)], args := [d1, d2] }
  | _ => none }
def OplogAnyOrderWrongFalsely : Prop := oplogAnyOrderRow.holds Tryz.pinned (OpenSpec.ofChange oplogAnyOrderWrong)

/- THE SECOND FORM. 'bulk': how many values and letters a reading holds, each counted each time it is reached (what is shared counts as often as it is met; a slice's spare places count too). A statement '..UptoSaid' is the law's where the arguments, and the package variables that the reading takes, are together of bulk at most 1048576: NARROWER than '..Said'. Prove '..Said' where nothing that the law and all that it calls make is longer than what came in: it says more and counts as full. Else prove '..UptoSaid'. A law counts once. -/
mutual
def uptoBulk {H : Type} : DataW H → Nat
  | .lit (.string bytes) => bytes.length + 1
  | .lit _ => 1
  | .nil => 1
  | .ptr d => uptoBulk d + 1
  | .slice elems spare => uptoBulkAll elems + uptoBulkAll spare + 1
  | .agg parts => uptoBulkAll parts + 1
  | .iface _ d => uptoBulk d + 1
  | .map entries => uptoBulkEntries entries + 1
  | .held _ => 1
def uptoBulkAll {H : Type} : List (DataW H) → Nat
  | [] => 0
  | d :: r => uptoBulk d + uptoBulkAll r
def uptoBulkEntries {H : Type} : List (Lit × DataW H) → Nat
  | [] => 0
  | x :: r => uptoBulkEntry x + uptoBulkEntries r
def uptoBulkEntry {H : Type} : Lit × DataW H → Nat
  | (.string bytes, d) => bytes.length + uptoBulk d + 1
  | (_, d) => uptoBulk d + 1
 end
def uptoSmall : (H : Type) → List (DataW H) → Bool := fun _ ds => decide (uptoBulkAll ds ≤ 1048576)
def OpenSpec.upto (s : _root_.Go.ChangeSpec) : _root_.Go.OpenSpec := { _root_.Go.OpenSpec.ofChange s with cond := some uptoSmall }

/-- 'dioramalaw09.OplogPlays', WHERE WHAT IT READS IS OF BULK AT MOST 1048576: true; the input reads as it did. -/
def oplogPlaysUptoRow : OpenClaim := { program := "ytfgnmnkihbgjnaagreat", sum := "00d5186b23819b8ee894d4e834e39b64d8caa14b4d753eacd255d348fd242633", func := "diorama/dioramalaw09.OplogPlays", spec := "oplogPlays", unfollowed := true, recurses := true, plainKeys := false, apart := false, narrowed := true }
def OplogPlaysUptoSaid : Prop := oplogPlaysUptoRow.holds Tryz.pinned (OpenSpec.upto oplogPlaysSpec)

/-- 'dioramalaw09.OplogAnyOrder', WHERE WHAT IT READS IS OF BULK AT MOST 1048576: true; the input reads as it did. -/
def oplogAnyOrderUptoRow : OpenClaim := { program := "ytfgnmnkihbgjnaagreat", sum := "00d5186b23819b8ee894d4e834e39b64d8caa14b4d753eacd255d348fd242633", func := "diorama/dioramalaw09.OplogAnyOrder", spec := "oplogAnyOrder", unfollowed := true, recurses := true, plainKeys := false, apart := false, narrowed := true }
def OplogAnyOrderUptoSaid : Prop := oplogAnyOrderUptoRow.holds Tryz.pinned (OpenSpec.upto oplogAnyOrderSpec)

end Rows
end Go.Proofs.YtfgnmnkihbgjnaaGreat
