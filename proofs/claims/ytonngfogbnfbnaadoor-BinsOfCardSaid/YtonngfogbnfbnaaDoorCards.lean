/-
  DERIVED. GIVEN WITH THE SEED: THE CARDS: each row of YtonngfogbnfbnaaDoorRows.lean that lists a variable, with what it lists TIED to the program's text (the seventh form; the later family's looks); each row that meets fmt, with fmt's text TOLD by the authors' own Lean function (tested against real Go, not proved from fmt's source: count such statements apart). THE CARD IS WHAT COUNTS. Prove the row's statement (the work); the ties are given (YtonngfogbnfbnaaDoorTie.lean); close each card by the builder's one call (the guide's Derived/Test/ToyasCard.lean, 'card_holds'). Laid BY PROGRAM, IN A SANDBOX (cutbox-door.mjs). By AI agents, Wed Nov 11 2026. No macro, syntax, notation, axiom, sorry.
-/
import Derived.Test.YtonngfogbnfbnaaDoorRows
import GoSem.ClaimSeven
namespace Go.Proofs.YtonngfogbnfbnaaDoor
namespace Rows

/-- THE TIED CARD OF 'footpathlaw06.BinsTouch'. -/
def binsTouchCard : Claim7 := { stood := { row := binsTouchRow, standIns := [], harness := (true, "a65142d876d4a13f6dc93f6d04573262606af42c219664a7e08a04c04bddd46a"), looks := false }, kinds := [], alts := [], laidByText := true, laidKinds := [.data], laidTests := true, laidLooks := .later }
def BinsTouchCardSaid : Prop := Claim7.holds Tryd.pinned (.plain (OpenSpec.ofChange binsTouchSpec)) binsTouchCard

/-- THE TIED CARD OF 'footpathlaw06.BinsOf'. -/
def binsOfCard : Claim7 := { stood := { row := binsOfRow, standIns := [], harness := (true, "a65142d876d4a13f6dc93f6d04573262606af42c219664a7e08a04c04bddd46a"), looks := false }, kinds := [], alts := [], laidByText := true, laidKinds := [.data], laidTests := true, laidLooks := .later }
def BinsOfCardSaid : Prop := Claim7.holds Tryd.pinned (.plain (OpenSpec.ofChange binsOfSpec)) binsOfCard

/-- THE TIED CARD OF 'footpathlaw06.BinsOne'. -/
def binsOneCard : Claim7 := { stood := { row := binsOneRow, standIns := [], harness := (true, "a65142d876d4a13f6dc93f6d04573262606af42c219664a7e08a04c04bddd46a"), looks := false }, kinds := [], alts := [], laidByText := true, laidKinds := [.data], laidTests := true, laidLooks := .later }
def BinsOneCardSaid : Prop := Claim7.holds Tryd.pinned (.plain (OpenSpec.ofChange binsOneSpec)) binsOneCard

/-- THE TIED CARD OF 'footpathlaw06.BinsHalves'. -/
def binsHalvesCard : Claim7 := { stood := { row := binsHalvesRow, standIns := [], harness := (true, "a65142d876d4a13f6dc93f6d04573262606af42c219664a7e08a04c04bddd46a"), looks := false }, kinds := [], alts := [], laidByText := true, laidKinds := [.data], laidTests := true, laidLooks := .later }
def BinsHalvesCardSaid : Prop := Claim7.holds Tryd.pinned (.plain (OpenSpec.ofChange binsHalvesSpec)) binsHalvesCard

/-- THE SECOND FORM's CARD OF 'footpathlaw06.BinsTouch'. -/
def binsTouchUptoCard : Claim7 := { stood := { row := binsTouchUptoRow, standIns := [], harness := (true, "a65142d876d4a13f6dc93f6d04573262606af42c219664a7e08a04c04bddd46a"), looks := false }, kinds := [], alts := [], laidByText := true, laidKinds := [.data], laidTests := true, laidLooks := .later }
def BinsTouchUptoCardSaid : Prop := Claim7.holds Tryd.pinned (.plain (OpenSpec.upto binsTouchSpec)) binsTouchUptoCard

/-- THE SECOND FORM's CARD OF 'footpathlaw06.BinsOf'. -/
def binsOfUptoCard : Claim7 := { stood := { row := binsOfUptoRow, standIns := [], harness := (true, "a65142d876d4a13f6dc93f6d04573262606af42c219664a7e08a04c04bddd46a"), looks := false }, kinds := [], alts := [], laidByText := true, laidKinds := [.data], laidTests := true, laidLooks := .later }
def BinsOfUptoCardSaid : Prop := Claim7.holds Tryd.pinned (.plain (OpenSpec.upto binsOfSpec)) binsOfUptoCard

/-- THE SECOND FORM's CARD OF 'footpathlaw06.BinsOne'. -/
def binsOneUptoCard : Claim7 := { stood := { row := binsOneUptoRow, standIns := [], harness := (true, "a65142d876d4a13f6dc93f6d04573262606af42c219664a7e08a04c04bddd46a"), looks := false }, kinds := [], alts := [], laidByText := true, laidKinds := [.data], laidTests := true, laidLooks := .later }
def BinsOneUptoCardSaid : Prop := Claim7.holds Tryd.pinned (.plain (OpenSpec.upto binsOneSpec)) binsOneUptoCard

/-- THE SECOND FORM's CARD OF 'footpathlaw06.BinsHalves'. -/
def binsHalvesUptoCard : Claim7 := { stood := { row := binsHalvesUptoRow, standIns := [], harness := (true, "a65142d876d4a13f6dc93f6d04573262606af42c219664a7e08a04c04bddd46a"), looks := false }, kinds := [], alts := [], laidByText := true, laidKinds := [.data], laidTests := true, laidLooks := .later }
def BinsHalvesUptoCardSaid : Prop := Claim7.holds Tryd.pinned (.plain (OpenSpec.upto binsHalvesSpec)) binsHalvesUptoCard
end Rows
end Go.Proofs.YtonngfogbnfbnaaDoor
