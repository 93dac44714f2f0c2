/-
  DERIVED. GIVEN WITH THE SEED: THE CARDS: each row of YtdbhlepbaepngaaDoorRows.lean that lists a variable, with what it lists TIED to the program's text (the seventh form; the later family's looks); each row that meets fmt, with fmt's text TOLD by the authors' own Lean function (tested against real Go, not proved from fmt's source: count such statements apart). THE CARD IS WHAT COUNTS. Prove the row's statement (the work); the ties are given (YtdbhlepbaepngaaDoorTie.lean); close each card by the builder's one call (the guide's Derived/Test/ToyasCard.lean, 'card_holds'). Laid BY PROGRAM, IN A SANDBOX (cutbox-door.mjs). By AI agents, Wed Nov 11 2026. No macro, syntax, notation, axiom, sorry.
-/
import Derived.Test.YtdbhlepbaepngaaDoorRows
import GoSem.ClaimSeven
namespace Go.Proofs.YtdbhlepbaepngaaDoor
namespace Rows

/-- THE TIED CARD OF 'footpathlaw12.AreaOf'. -/
def areaOfCard : Claim7 := { stood := { row := areaOfRow, standIns := [], harness := (true, "2e31a34da484f6cfc8912f513125aeb1b69e43e292db5850fbbbcbcf44fa0774"), looks := false }, kinds := [], alts := [], laidByText := true, laidKinds := [.data], laidTests := true, laidLooks := .later }
def AreaOfCardSaid : Prop := Claim7.holds Tryd.pinned (.plain (OpenSpec.ofChange areaOfSpec)) areaOfCard

/-- THE TIED CARD OF 'footpathlaw12.AreaAny'. -/
def areaAnyCard : Claim7 := { stood := { row := areaAnyRow, standIns := [], harness := (true, "2e31a34da484f6cfc8912f513125aeb1b69e43e292db5850fbbbcbcf44fa0774"), looks := false }, kinds := [], alts := [], laidByText := true, laidKinds := [.data], laidTests := true, laidLooks := .later }
def AreaAnyCardSaid : Prop := Claim7.holds Tryd.pinned (.plain (OpenSpec.ofChange areaAnySpec)) areaAnyCard

/-- THE TIED CARD OF 'footpathlaw12.AreaDrops'. -/
def areaDropsCard : Claim7 := { stood := { row := areaDropsRow, standIns := [], harness := (true, "2e31a34da484f6cfc8912f513125aeb1b69e43e292db5850fbbbcbcf44fa0774"), looks := false }, kinds := [], alts := [], laidByText := true, laidKinds := [.data], laidTests := true, laidLooks := .later }
def AreaDropsCardSaid : Prop := Claim7.holds Tryd.pinned (.plain (OpenSpec.ofChange areaDropsSpec)) areaDropsCard

/-- THE SECOND FORM's CARD OF 'footpathlaw12.AreaOf'. -/
def areaOfUptoCard : Claim7 := { stood := { row := areaOfUptoRow, standIns := [], harness := (true, "2e31a34da484f6cfc8912f513125aeb1b69e43e292db5850fbbbcbcf44fa0774"), looks := false }, kinds := [], alts := [], laidByText := true, laidKinds := [.data], laidTests := true, laidLooks := .later }
def AreaOfUptoCardSaid : Prop := Claim7.holds Tryd.pinned (.plain (OpenSpec.upto areaOfSpec)) areaOfUptoCard

/-- THE SECOND FORM's CARD OF 'footpathlaw12.AreaAny'. -/
def areaAnyUptoCard : Claim7 := { stood := { row := areaAnyUptoRow, standIns := [], harness := (true, "2e31a34da484f6cfc8912f513125aeb1b69e43e292db5850fbbbcbcf44fa0774"), looks := false }, kinds := [], alts := [], laidByText := true, laidKinds := [.data], laidTests := true, laidLooks := .later }
def AreaAnyUptoCardSaid : Prop := Claim7.holds Tryd.pinned (.plain (OpenSpec.upto areaAnySpec)) areaAnyUptoCard

/-- THE SECOND FORM's CARD OF 'footpathlaw12.AreaDrops'. -/
def areaDropsUptoCard : Claim7 := { stood := { row := areaDropsUptoRow, standIns := [], harness := (true, "2e31a34da484f6cfc8912f513125aeb1b69e43e292db5850fbbbcbcf44fa0774"), looks := false }, kinds := [], alts := [], laidByText := true, laidKinds := [.data], laidTests := true, laidLooks := .later }
def AreaDropsUptoCardSaid : Prop := Claim7.holds Tryd.pinned (.plain (OpenSpec.upto areaDropsSpec)) areaDropsUptoCard
end Rows
end Go.Proofs.YtdbhlepbaepngaaDoor
