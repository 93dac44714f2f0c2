/-
  DERIVED. GIVEN WITH THE SEED: THE CARDS: each row of YtgoggogcbjfofaaDoorRows.lean that lists a variable, with what it lists TIED to the program's text (the seventh form; the later family's looks); each row that meets fmt, with fmt's text TOLD by the authors' own Lean function (tested against real Go, not proved from fmt's source: count such statements apart). THE CARD IS WHAT COUNTS. Prove the row's statement (the work); the ties are given (YtgoggogcbjfofaaDoorTie.lean); close each card by the builder's one call (the guide's Derived/Test/ToyasCard.lean, 'card_holds'). Laid BY PROGRAM, IN A SANDBOX (cutbox-door.mjs). By AI agents, Wed Nov 11 2026. No macro, syntax, notation, axiom, sorry.
-/
import Derived.Test.YtgoggogcbjfofaaDoorRows
import GoSem.ClaimSeven
namespace Go.Proofs.YtgoggogcbjfofaaDoor
namespace Rows

/-- THE TIED CARD OF 'footpathlaw14.FieldBuilds'. -/
def fieldBuildsCard : Claim7 := { stood := { row := fieldBuildsRow, standIns := [], harness := (true, "53dd403d4ffb1adcb78cf7c4f910586b9424f30bed707e56b603862020ac4ba1"), looks := false }, kinds := [], alts := [], laidByText := true, laidKinds := [.data], laidTests := true, laidLooks := .later }
def FieldBuildsCardSaid : Prop := Claim7.holds Tryd.pinned (.plain (OpenSpec.ofChange fieldBuildsSpec)) fieldBuildsCard

/-- THE TIED CARD OF 'footpathlaw14.FieldRows'. -/
def fieldRowsCard : Claim7 := { stood := { row := fieldRowsRow, standIns := [], harness := (true, "53dd403d4ffb1adcb78cf7c4f910586b9424f30bed707e56b603862020ac4ba1"), looks := false }, kinds := [], alts := [], laidByText := true, laidKinds := [.data], laidTests := true, laidLooks := .later }
def FieldRowsCardSaid : Prop := Claim7.holds Tryd.pinned (.plain (OpenSpec.ofChange fieldRowsSpec)) fieldRowsCard

/-- THE TIED CARD OF 'footpathlaw14.FieldSteps'. -/
def fieldStepsCard : Claim7 := { stood := { row := fieldStepsRow, standIns := [], harness := (true, "53dd403d4ffb1adcb78cf7c4f910586b9424f30bed707e56b603862020ac4ba1"), looks := false }, kinds := [], alts := [], laidByText := true, laidKinds := [.data], laidTests := true, laidLooks := .later }
def FieldStepsCardSaid : Prop := Claim7.holds Tryd.pinned (.plain (OpenSpec.ofChange fieldStepsSpec)) fieldStepsCard

/-- THE TIED CARD OF 'footpathlaw14.FieldParts'. -/
def fieldPartsCard : Claim7 := { stood := { row := fieldPartsRow, standIns := [], harness := (true, "53dd403d4ffb1adcb78cf7c4f910586b9424f30bed707e56b603862020ac4ba1"), looks := false }, kinds := [], alts := [], laidByText := true, laidKinds := [.data], laidTests := true, laidLooks := .later }
def FieldPartsCardSaid : Prop := Claim7.holds Tryd.pinned (.plain (OpenSpec.ofChange fieldPartsSpec)) fieldPartsCard

/-- THE TIED CARD OF 'footpathlaw14.FieldCap'. -/
def fieldCapCard : Claim7 := { stood := { row := fieldCapRow, standIns := [], harness := (true, "53dd403d4ffb1adcb78cf7c4f910586b9424f30bed707e56b603862020ac4ba1"), looks := false }, kinds := [], alts := [], laidByText := true, laidKinds := [.data], laidTests := true, laidLooks := .later }
def FieldCapCardSaid : Prop := Claim7.holds Tryd.pinned (.plain (OpenSpec.ofChange fieldCapSpec)) fieldCapCard

/-- THE TIED CARD OF 'footpathlaw14.FieldMirrors'. -/
def fieldMirrorsCard : Claim7 := { stood := { row := fieldMirrorsRow, standIns := [], harness := (true, "53dd403d4ffb1adcb78cf7c4f910586b9424f30bed707e56b603862020ac4ba1"), looks := false }, kinds := [], alts := [], laidByText := true, laidKinds := [.data], laidTests := true, laidLooks := .later }
def FieldMirrorsCardSaid : Prop := Claim7.holds Tryd.pinned (.plain (OpenSpec.ofChange fieldMirrorsSpec)) fieldMirrorsCard

/-- THE SECOND FORM's CARD OF 'footpathlaw14.FieldBuilds'. -/
def fieldBuildsUptoCard : Claim7 := { stood := { row := fieldBuildsUptoRow, standIns := [], harness := (true, "53dd403d4ffb1adcb78cf7c4f910586b9424f30bed707e56b603862020ac4ba1"), looks := false }, kinds := [], alts := [], laidByText := true, laidKinds := [.data], laidTests := true, laidLooks := .later }
def FieldBuildsUptoCardSaid : Prop := Claim7.holds Tryd.pinned (.plain (OpenSpec.upto fieldBuildsSpec)) fieldBuildsUptoCard

/-- THE SECOND FORM's CARD OF 'footpathlaw14.FieldRows'. -/
def fieldRowsUptoCard : Claim7 := { stood := { row := fieldRowsUptoRow, standIns := [], harness := (true, "53dd403d4ffb1adcb78cf7c4f910586b9424f30bed707e56b603862020ac4ba1"), looks := false }, kinds := [], alts := [], laidByText := true, laidKinds := [.data], laidTests := true, laidLooks := .later }
def FieldRowsUptoCardSaid : Prop := Claim7.holds Tryd.pinned (.plain (OpenSpec.upto fieldRowsSpec)) fieldRowsUptoCard

/-- THE SECOND FORM's CARD OF 'footpathlaw14.FieldSteps'. -/
def fieldStepsUptoCard : Claim7 := { stood := { row := fieldStepsUptoRow, standIns := [], harness := (true, "53dd403d4ffb1adcb78cf7c4f910586b9424f30bed707e56b603862020ac4ba1"), looks := false }, kinds := [], alts := [], laidByText := true, laidKinds := [.data], laidTests := true, laidLooks := .later }
def FieldStepsUptoCardSaid : Prop := Claim7.holds Tryd.pinned (.plain (OpenSpec.upto fieldStepsSpec)) fieldStepsUptoCard

/-- THE SECOND FORM's CARD OF 'footpathlaw14.FieldParts'. -/
def fieldPartsUptoCard : Claim7 := { stood := { row := fieldPartsUptoRow, standIns := [], harness := (true, "53dd403d4ffb1adcb78cf7c4f910586b9424f30bed707e56b603862020ac4ba1"), looks := false }, kinds := [], alts := [], laidByText := true, laidKinds := [.data], laidTests := true, laidLooks := .later }
def FieldPartsUptoCardSaid : Prop := Claim7.holds Tryd.pinned (.plain (OpenSpec.upto fieldPartsSpec)) fieldPartsUptoCard

/-- THE SECOND FORM's CARD OF 'footpathlaw14.FieldCap'. -/
def fieldCapUptoCard : Claim7 := { stood := { row := fieldCapUptoRow, standIns := [], harness := (true, "53dd403d4ffb1adcb78cf7c4f910586b9424f30bed707e56b603862020ac4ba1"), looks := false }, kinds := [], alts := [], laidByText := true, laidKinds := [.data], laidTests := true, laidLooks := .later }
def FieldCapUptoCardSaid : Prop := Claim7.holds Tryd.pinned (.plain (OpenSpec.upto fieldCapSpec)) fieldCapUptoCard

/-- THE SECOND FORM's CARD OF 'footpathlaw14.FieldMirrors'. -/
def fieldMirrorsUptoCard : Claim7 := { stood := { row := fieldMirrorsUptoRow, standIns := [], harness := (true, "53dd403d4ffb1adcb78cf7c4f910586b9424f30bed707e56b603862020ac4ba1"), looks := false }, kinds := [], alts := [], laidByText := true, laidKinds := [.data], laidTests := true, laidLooks := .later }
def FieldMirrorsUptoCardSaid : Prop := Claim7.holds Tryd.pinned (.plain (OpenSpec.upto fieldMirrorsSpec)) fieldMirrorsUptoCard
end Rows
end Go.Proofs.YtgoggogcbjfofaaDoor
