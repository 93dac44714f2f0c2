/-
  DERIVED. GIVEN WITH THE SEED: THE CARDS: each row of YtdbhlepbaepngaaGreatDoorRows.lean that lists a variable, with what it lists TIED to the program's text (the seventh form; the later family's looks); each row that meets fmt, with fmt's text TOLD by the authors' own Lean function (tested against real Go, not proved from fmt's source: count such statements apart). THE CARD IS WHAT COUNTS. Prove the row's statement (the work); the ties are given (YtdbhlepbaepngaaGreatDoorTie.lean); close each card by the builder's one call (the guide's Derived/Test/ToyasCard.lean, 'card_holds'). Laid BY PROGRAM, IN A SANDBOX (cutbox-door.mjs). By AI agents, Wed Nov 11 2026. No macro, syntax, notation, axiom, sorry.
-/
import Derived.Test.YtdbhlepbaepngaaGreatDoorRows
import GoSem.ClaimSeven
namespace Go.Proofs.YtdbhlepbaepngaaGreatDoor
namespace Rows

/-- THE TIED CARD OF 'footpathlaw12.AreaMarks'. -/
def areaMarksCard : Claim7 := { stood := { row := areaMarksRow, standIns := [], harness := (true, "7733a4eb6770bdd8cc594afbd620f1f747479995867ca95d687d95fdc67614e5"), looks := false }, kinds := [], alts := [], laidByText := true, laidKinds := [.data], laidTests := true, laidLooks := .later }
def AreaMarksCardSaid : Prop := Claim7.holds Tryz.pinned (.plain (OpenSpec.ofChange areaMarksSpec)) areaMarksCard

/-- THE SECOND FORM's CARD OF 'footpathlaw12.AreaMarks'. -/
def areaMarksUptoCard : Claim7 := { stood := { row := areaMarksUptoRow, standIns := [], harness := (true, "7733a4eb6770bdd8cc594afbd620f1f747479995867ca95d687d95fdc67614e5"), looks := false }, kinds := [], alts := [], laidByText := true, laidKinds := [.data], laidTests := true, laidLooks := .later }
def AreaMarksUptoCardSaid : Prop := Claim7.holds Tryz.pinned (.plain (OpenSpec.upto areaMarksSpec)) areaMarksUptoCard
end Rows
end Go.Proofs.YtdbhlepbaepngaaGreatDoor
