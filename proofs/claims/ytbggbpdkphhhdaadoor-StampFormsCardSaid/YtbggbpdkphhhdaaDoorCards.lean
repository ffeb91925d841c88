/-
  DERIVED. GIVEN WITH THE SEED: THE CARDS: each row of YtbggbpdkphhhdaaDoorRows.lean that lists a variable, with what it lists TIED to the program's text (the seventh form; the later family's looks); each row that meets fmt, with fmt's text TOLD by the authors' own Lean function (tested against real Go, not proved from fmt's source: count such statements apart). THE CARD IS WHAT COUNTS. Prove the row's statement (the work); the ties are given (YtbggbpdkphhhdaaDoorTie.lean); close each card by the builder's one call (the guide's Derived/Test/ToyasCard.lean, 'card_holds'). Laid BY PROGRAM, IN A SANDBOX (cutbox-door.mjs). By AI agents, Wed Nov 11 2026. No macro, syntax, notation, axiom, sorry.
-/
import Derived.Test.YtbggbpdkphhhdaaDoorRows
import GoSem.ClaimSeven
namespace Go.Proofs.YtbggbpdkphhhdaaDoor
namespace Rows

/-- THE TIED CARD OF 'dioramalaw02.StampForms'. -/
def stampFormsCard : Claim7 := { stood := { row := stampFormsRow, standIns := [], harness := (true, "7ce9b61d081b44ba369766050f758f5bd70ec200ed611830089065ed92ec6005"), looks := true }, kinds := [], alts := [], laidByText := true, laidKinds := [.data, .data, .data, .sentinel, .sentinel], laidTests := true, laidLooks := .later }
def StampFormsCardSaid : Prop := Claim7.holds Tryd.pinned (.plain (OpenSpec.ofChange stampFormsSpec)) stampFormsCard

/-- THE TIED CARD OF 'dioramalaw02.StampClocks'. -/
def stampClocksCard : Claim7 := { stood := { row := stampClocksRow, standIns := [], harness := (true, "7ce9b61d081b44ba369766050f758f5bd70ec200ed611830089065ed92ec6005"), looks := true }, kinds := [], alts := [], laidByText := true, laidKinds := [.data, .data, .data], laidTests := true, laidLooks := .later }
def StampClocksCardSaid : Prop := Claim7.holds Tryd.pinned (.plain (OpenSpec.ofChange stampClocksSpec)) stampClocksCard

/-- THE TIED CARD OF 'dioramalaw02.StampNil'. -/
def stampNilCard : Claim7 := { stood := { row := stampNilRow, standIns := [], harness := (true, "7ce9b61d081b44ba369766050f758f5bd70ec200ed611830089065ed92ec6005"), looks := true }, kinds := [], alts := [], laidByText := true, laidKinds := [.data, .data, .data], laidTests := true, laidLooks := .later }
def StampNilCardSaid : Prop := Claim7.holds Tryd.pinned (.plain (OpenSpec.ofChange stampNilSpec)) stampNilCard

/-- THE TIED CARD OF 'dioramalaw02.StampOrder'. -/
def stampOrderCard : Claim7 := { stood := { row := stampOrderRow, standIns := [], harness := (true, "7ce9b61d081b44ba369766050f758f5bd70ec200ed611830089065ed92ec6005"), looks := true }, kinds := [], alts := [], laidByText := true, laidKinds := [.data, .data, .data], laidTests := true, laidLooks := .later }
def StampOrderCardSaid : Prop := Claim7.holds Tryd.pinned (.plain (OpenSpec.ofChange stampOrderSpec)) stampOrderCard

/-- THE TIED CARD OF 'dioramalaw02.StampAhead'. -/
def stampAheadCard : Claim7 := { stood := { row := stampAheadRow, standIns := [], harness := (true, "7ce9b61d081b44ba369766050f758f5bd70ec200ed611830089065ed92ec6005"), looks := true }, kinds := [], alts := [], laidByText := true, laidKinds := [.data, .data, .data], laidTests := true, laidLooks := .later }
def StampAheadCardSaid : Prop := Claim7.holds Tryd.pinned (.plain (OpenSpec.ofChange stampAheadSpec)) stampAheadCard

/-- THE TIED CARD OF 'dioramalaw02.StampBack'. -/
def stampBackCard : Claim7 := { stood := { row := stampBackRow, standIns := [], harness := (true, "7ce9b61d081b44ba369766050f758f5bd70ec200ed611830089065ed92ec6005"), looks := true }, kinds := [], alts := [], laidByText := true, laidKinds := [.data, .data, .data, .sentinel, .sentinel], laidTests := true, laidLooks := .later }
def StampBackCardSaid : Prop := Claim7.holds Tryd.pinned (.plain (OpenSpec.ofChange stampBackSpec)) stampBackCard

/-- THE SECOND FORM's CARD OF 'dioramalaw02.StampForms'. -/
def stampFormsUptoCard : Claim7 := { stood := { row := stampFormsUptoRow, standIns := [], harness := (true, "7ce9b61d081b44ba369766050f758f5bd70ec200ed611830089065ed92ec6005"), looks := true }, kinds := [], alts := [], laidByText := true, laidKinds := [.data, .data, .data, .sentinel, .sentinel], laidTests := true, laidLooks := .later }
def StampFormsUptoCardSaid : Prop := Claim7.holds Tryd.pinned (.plain (OpenSpec.upto stampFormsSpec)) stampFormsUptoCard

/-- THE SECOND FORM's CARD OF 'dioramalaw02.StampClocks'. -/
def stampClocksUptoCard : Claim7 := { stood := { row := stampClocksUptoRow, standIns := [], harness := (true, "7ce9b61d081b44ba369766050f758f5bd70ec200ed611830089065ed92ec6005"), looks := true }, kinds := [], alts := [], laidByText := true, laidKinds := [.data, .data, .data], laidTests := true, laidLooks := .later }
def StampClocksUptoCardSaid : Prop := Claim7.holds Tryd.pinned (.plain (OpenSpec.upto stampClocksSpec)) stampClocksUptoCard

/-- THE SECOND FORM's CARD OF 'dioramalaw02.StampNil'. -/
def stampNilUptoCard : Claim7 := { stood := { row := stampNilUptoRow, standIns := [], harness := (true, "7ce9b61d081b44ba369766050f758f5bd70ec200ed611830089065ed92ec6005"), looks := true }, kinds := [], alts := [], laidByText := true, laidKinds := [.data, .data, .data], laidTests := true, laidLooks := .later }
def StampNilUptoCardSaid : Prop := Claim7.holds Tryd.pinned (.plain (OpenSpec.upto stampNilSpec)) stampNilUptoCard

/-- THE SECOND FORM's CARD OF 'dioramalaw02.StampOrder'. -/
def stampOrderUptoCard : Claim7 := { stood := { row := stampOrderUptoRow, standIns := [], harness := (true, "7ce9b61d081b44ba369766050f758f5bd70ec200ed611830089065ed92ec6005"), looks := true }, kinds := [], alts := [], laidByText := true, laidKinds := [.data, .data, .data], laidTests := true, laidLooks := .later }
def StampOrderUptoCardSaid : Prop := Claim7.holds Tryd.pinned (.plain (OpenSpec.upto stampOrderSpec)) stampOrderUptoCard

/-- THE SECOND FORM's CARD OF 'dioramalaw02.StampAhead'. -/
def stampAheadUptoCard : Claim7 := { stood := { row := stampAheadUptoRow, standIns := [], harness := (true, "7ce9b61d081b44ba369766050f758f5bd70ec200ed611830089065ed92ec6005"), looks := true }, kinds := [], alts := [], laidByText := true, laidKinds := [.data, .data, .data], laidTests := true, laidLooks := .later }
def StampAheadUptoCardSaid : Prop := Claim7.holds Tryd.pinned (.plain (OpenSpec.upto stampAheadSpec)) stampAheadUptoCard

/-- THE SECOND FORM's CARD OF 'dioramalaw02.StampBack'. -/
def stampBackUptoCard : Claim7 := { stood := { row := stampBackUptoRow, standIns := [], harness := (true, "7ce9b61d081b44ba369766050f758f5bd70ec200ed611830089065ed92ec6005"), looks := true }, kinds := [], alts := [], laidByText := true, laidKinds := [.data, .data, .data, .sentinel, .sentinel], laidTests := true, laidLooks := .later }
def StampBackUptoCardSaid : Prop := Claim7.holds Tryd.pinned (.plain (OpenSpec.upto stampBackSpec)) stampBackUptoCard
end Rows
end Go.Proofs.YtbggbpdkphhhdaaDoor
