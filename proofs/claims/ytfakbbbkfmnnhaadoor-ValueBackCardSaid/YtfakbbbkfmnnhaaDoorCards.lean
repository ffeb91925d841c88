/-
  DERIVED. GIVEN WITH THE SEED: THE CARDS: each row of YtfakbbbkfmnnhaaDoorRows.lean that lists a variable, with what it lists TIED to the program's text (the seventh form; the later family's looks); each row that meets fmt, with fmt's text TOLD by the authors' own Lean function (tested against real Go, not proved from fmt's source: count such statements apart). THE CARD IS WHAT COUNTS. Prove the row's statement (the work); the ties are given (YtfakbbbkfmnnhaaDoorTie.lean); close each card by the builder's one call (the guide's Derived/Test/ToyasCard.lean, 'card_holds'). Laid BY PROGRAM, IN A SANDBOX (cutbox-door.mjs). By AI agents, Wed Nov 11 2026. No macro, syntax, notation, axiom, sorry.
-/
import Derived.Test.YtfakbbbkfmnnhaaDoorRows
import GoSem.ClaimSeven
namespace Go.Proofs.YtfakbbbkfmnnhaaDoor
namespace Rows

/-- THE TIED CARD OF 'dioramalaw03.ValueSums'. -/
def valueSumsCard : Claim7 := { stood := { row := valueSumsRow, standIns := [], harness := (true, "bea79011c6bf081bc7f0b7656a592b7e2ee682c4014dbddf89a7c750aca67d4d"), looks := true }, kinds := [], alts := [], laidByText := true, laidKinds := [.data, .data, .data], laidTests := true, laidLooks := .later }
def ValueSumsCardSaid : Prop := Claim7.holds Tryd.pinned (.plain (OpenSpec.ofChange valueSumsSpec)) valueSumsCard

/-- THE TIED CARD OF 'dioramalaw03.ValueTimes'. -/
def valueTimesCard : Claim7 := { stood := { row := valueTimesRow, standIns := [], harness := (true, "bea79011c6bf081bc7f0b7656a592b7e2ee682c4014dbddf89a7c750aca67d4d"), looks := true }, kinds := [], alts := [], laidByText := true, laidKinds := [.data, .data, .data], laidTests := true, laidLooks := .later }
def ValueTimesCardSaid : Prop := Claim7.holds Tryd.pinned (.plain (OpenSpec.ofChange valueTimesSpec)) valueTimesCard

/-- THE TIED CARD OF 'dioramalaw03.ValueOvers'. -/
def valueOversCard : Claim7 := { stood := { row := valueOversRow, standIns := [], harness := (true, "bea79011c6bf081bc7f0b7656a592b7e2ee682c4014dbddf89a7c750aca67d4d"), looks := true }, kinds := [], alts := [], laidByText := true, laidKinds := [.data, .data, .data], laidTests := true, laidLooks := .later }
def ValueOversCardSaid : Prop := Claim7.holds Tryd.pinned (.plain (OpenSpec.ofChange valueOversSpec)) valueOversCard

/-- THE TIED CARD OF 'dioramalaw03.ValueBack'. -/
def valueBackCard : Claim7 := { stood := { row := valueBackRow, standIns := [], harness := (true, "bea79011c6bf081bc7f0b7656a592b7e2ee682c4014dbddf89a7c750aca67d4d"), looks := true }, kinds := [], alts := [], laidByText := true, laidKinds := [.data, .data, .data, .sentinel, .sentinel], laidTests := true, laidLooks := .later }
def ValueBackCardSaid : Prop := Claim7.holds Tryd.pinned (.plain (OpenSpec.ofChange valueBackSpec)) valueBackCard

/-- THE TIED CARD OF 'dioramalaw03.ValueLaws'. -/
def valueLawsCard : Claim7 := { stood := { row := valueLawsRow, standIns := [], harness := (true, "bea79011c6bf081bc7f0b7656a592b7e2ee682c4014dbddf89a7c750aca67d4d"), looks := true }, kinds := [], alts := [], laidByText := true, laidKinds := [.data, .data, .data], laidTests := true, laidLooks := .later }
def ValueLawsCardSaid : Prop := Claim7.holds Tryd.pinned (.plain (OpenSpec.ofChange valueLawsSpec)) valueLawsCard

/-- THE SECOND FORM's CARD OF 'dioramalaw03.ValueSums'. -/
def valueSumsUptoCard : Claim7 := { stood := { row := valueSumsUptoRow, standIns := [], harness := (true, "bea79011c6bf081bc7f0b7656a592b7e2ee682c4014dbddf89a7c750aca67d4d"), looks := true }, kinds := [], alts := [], laidByText := true, laidKinds := [.data, .data, .data], laidTests := true, laidLooks := .later }
def ValueSumsUptoCardSaid : Prop := Claim7.holds Tryd.pinned (.plain (OpenSpec.upto valueSumsSpec)) valueSumsUptoCard

/-- THE SECOND FORM's CARD OF 'dioramalaw03.ValueTimes'. -/
def valueTimesUptoCard : Claim7 := { stood := { row := valueTimesUptoRow, standIns := [], harness := (true, "bea79011c6bf081bc7f0b7656a592b7e2ee682c4014dbddf89a7c750aca67d4d"), looks := true }, kinds := [], alts := [], laidByText := true, laidKinds := [.data, .data, .data], laidTests := true, laidLooks := .later }
def ValueTimesUptoCardSaid : Prop := Claim7.holds Tryd.pinned (.plain (OpenSpec.upto valueTimesSpec)) valueTimesUptoCard

/-- THE SECOND FORM's CARD OF 'dioramalaw03.ValueOvers'. -/
def valueOversUptoCard : Claim7 := { stood := { row := valueOversUptoRow, standIns := [], harness := (true, "bea79011c6bf081bc7f0b7656a592b7e2ee682c4014dbddf89a7c750aca67d4d"), looks := true }, kinds := [], alts := [], laidByText := true, laidKinds := [.data, .data, .data], laidTests := true, laidLooks := .later }
def ValueOversUptoCardSaid : Prop := Claim7.holds Tryd.pinned (.plain (OpenSpec.upto valueOversSpec)) valueOversUptoCard

/-- THE SECOND FORM's CARD OF 'dioramalaw03.ValueBack'. -/
def valueBackUptoCard : Claim7 := { stood := { row := valueBackUptoRow, standIns := [], harness := (true, "bea79011c6bf081bc7f0b7656a592b7e2ee682c4014dbddf89a7c750aca67d4d"), looks := true }, kinds := [], alts := [], laidByText := true, laidKinds := [.data, .data, .data, .sentinel, .sentinel], laidTests := true, laidLooks := .later }
def ValueBackUptoCardSaid : Prop := Claim7.holds Tryd.pinned (.plain (OpenSpec.upto valueBackSpec)) valueBackUptoCard

/-- THE SECOND FORM's CARD OF 'dioramalaw03.ValueLaws'. -/
def valueLawsUptoCard : Claim7 := { stood := { row := valueLawsUptoRow, standIns := [], harness := (true, "bea79011c6bf081bc7f0b7656a592b7e2ee682c4014dbddf89a7c750aca67d4d"), looks := true }, kinds := [], alts := [], laidByText := true, laidKinds := [.data, .data, .data], laidTests := true, laidLooks := .later }
def ValueLawsUptoCardSaid : Prop := Claim7.holds Tryd.pinned (.plain (OpenSpec.upto valueLawsSpec)) valueLawsUptoCard
end Rows
end Go.Proofs.YtfakbbbkfmnnhaaDoor
