/-
  DERIVED. GIVEN WITH THE SEED: THE CARDS: each row of YtmhghnbgllaihaaGreatDoorRows.lean that lists a variable, with what it lists TIED to the program's text (the seventh form; the later family's looks); each row that meets fmt, with fmt's text TOLD by the authors' own Lean function (tested against real Go, not proved from fmt's source: count such statements apart). THE CARD IS WHAT COUNTS. Prove the row's statement (the work); the ties are given (YtmhghnbgllaihaaGreatDoorTie.lean); close each card by the builder's one call (the guide's Derived/Test/ToyasCard.lean, 'card_holds'). Laid BY PROGRAM, IN A SANDBOX (cutbox-door.mjs). By AI agents, Wed Nov 11 2026. No macro, syntax, notation, axiom, sorry.
-/
import Derived.Test.YtmhghnbgllaihaaGreatDoorRows
import GoSem.ClaimSeven
namespace Go.Proofs.YtmhghnbgllaihaaGreatDoor
namespace Rows

/-- THE TIED CARD OF 'footpathlaw15.CoreTells'. -/
def coreTellsCard : Claim7 := { stood := { row := coreTellsRow, standIns := [], harness := (true, "4a4a04f889cad57470241051b8acffb7e5b021bad41eda94b0cf32f6a31084da"), looks := false }, kinds := [], alts := [], laidByText := true, laidKinds := [.data, .data], laidTests := true, laidLooks := .later }
def CoreTellsCardSaid : Prop := Claim7.holds Tryz.pinned (.plain (OpenSpec.ofChange coreTellsSpec)) coreTellsCard

/-- THE TIED CARD OF 'footpathlaw15.CoreWorld'. -/
def coreWorldCard : Claim7 := { stood := { row := coreWorldRow, standIns := [], harness := (true, "4a4a04f889cad57470241051b8acffb7e5b021bad41eda94b0cf32f6a31084da"), looks := false }, kinds := [], alts := [], laidByText := true, laidKinds := [.data, .data], laidTests := true, laidLooks := .later }
def CoreWorldCardSaid : Prop := Claim7.holds Tryz.pinned (.plain (OpenSpec.ofChange coreWorldSpec)) coreWorldCard

/-- THE TIED CARD OF 'footpathlaw15.CorePad'. -/
def corePadCard : Claim7 := { stood := { row := corePadRow, standIns := [], harness := (true, "4a4a04f889cad57470241051b8acffb7e5b021bad41eda94b0cf32f6a31084da"), looks := false }, kinds := [], alts := [], laidByText := true, laidKinds := [.data, .data], laidTests := true, laidLooks := .later }
def CorePadCardSaid : Prop := Claim7.holds Tryz.pinned (.plain (OpenSpec.ofChange corePadSpec)) corePadCard

/-- THE TIED CARD OF 'footpathlaw15.CoreFar'. -/
def coreFarCard : Claim7 := { stood := { row := coreFarRow, standIns := [], harness := (true, "4a4a04f889cad57470241051b8acffb7e5b021bad41eda94b0cf32f6a31084da"), looks := false }, kinds := [], alts := [], laidByText := true, laidKinds := [.data, .data], laidTests := true, laidLooks := .later }
def CoreFarCardSaid : Prop := Claim7.holds Tryz.pinned (.plain (OpenSpec.ofChange coreFarSpec)) coreFarCard

/-- THE TIED CARD OF 'footpathlaw15.CoreLess'. -/
def coreLessCard : Claim7 := { stood := { row := coreLessRow, standIns := [], harness := (true, "4a4a04f889cad57470241051b8acffb7e5b021bad41eda94b0cf32f6a31084da"), looks := false }, kinds := [], alts := [], laidByText := true, laidKinds := [.data, .data], laidTests := true, laidLooks := .later }
def CoreLessCardSaid : Prop := Claim7.holds Tryz.pinned (.plain (OpenSpec.ofChange coreLessSpec)) coreLessCard

/-- THE SECOND FORM's CARD OF 'footpathlaw15.CoreTells'. -/
def coreTellsUptoCard : Claim7 := { stood := { row := coreTellsUptoRow, standIns := [], harness := (true, "4a4a04f889cad57470241051b8acffb7e5b021bad41eda94b0cf32f6a31084da"), looks := false }, kinds := [], alts := [], laidByText := true, laidKinds := [.data, .data], laidTests := true, laidLooks := .later }
def CoreTellsUptoCardSaid : Prop := Claim7.holds Tryz.pinned (.plain (OpenSpec.upto coreTellsSpec)) coreTellsUptoCard

/-- THE SECOND FORM's CARD OF 'footpathlaw15.CoreWorld'. -/
def coreWorldUptoCard : Claim7 := { stood := { row := coreWorldUptoRow, standIns := [], harness := (true, "4a4a04f889cad57470241051b8acffb7e5b021bad41eda94b0cf32f6a31084da"), looks := false }, kinds := [], alts := [], laidByText := true, laidKinds := [.data, .data], laidTests := true, laidLooks := .later }
def CoreWorldUptoCardSaid : Prop := Claim7.holds Tryz.pinned (.plain (OpenSpec.upto coreWorldSpec)) coreWorldUptoCard

/-- THE SECOND FORM's CARD OF 'footpathlaw15.CorePad'. -/
def corePadUptoCard : Claim7 := { stood := { row := corePadUptoRow, standIns := [], harness := (true, "4a4a04f889cad57470241051b8acffb7e5b021bad41eda94b0cf32f6a31084da"), looks := false }, kinds := [], alts := [], laidByText := true, laidKinds := [.data, .data], laidTests := true, laidLooks := .later }
def CorePadUptoCardSaid : Prop := Claim7.holds Tryz.pinned (.plain (OpenSpec.upto corePadSpec)) corePadUptoCard

/-- THE SECOND FORM's CARD OF 'footpathlaw15.CoreFar'. -/
def coreFarUptoCard : Claim7 := { stood := { row := coreFarUptoRow, standIns := [], harness := (true, "4a4a04f889cad57470241051b8acffb7e5b021bad41eda94b0cf32f6a31084da"), looks := false }, kinds := [], alts := [], laidByText := true, laidKinds := [.data, .data], laidTests := true, laidLooks := .later }
def CoreFarUptoCardSaid : Prop := Claim7.holds Tryz.pinned (.plain (OpenSpec.upto coreFarSpec)) coreFarUptoCard

/-- THE SECOND FORM's CARD OF 'footpathlaw15.CoreLess'. -/
def coreLessUptoCard : Claim7 := { stood := { row := coreLessUptoRow, standIns := [], harness := (true, "4a4a04f889cad57470241051b8acffb7e5b021bad41eda94b0cf32f6a31084da"), looks := false }, kinds := [], alts := [], laidByText := true, laidKinds := [.data, .data], laidTests := true, laidLooks := .later }
def CoreLessUptoCardSaid : Prop := Claim7.holds Tryz.pinned (.plain (OpenSpec.upto coreLessSpec)) coreLessUptoCard
end Rows
end Go.Proofs.YtmhghnbgllaihaaGreatDoor
