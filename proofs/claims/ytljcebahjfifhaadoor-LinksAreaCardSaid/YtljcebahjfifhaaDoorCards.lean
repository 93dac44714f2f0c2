/-
  DERIVED. GIVEN WITH THE SEED: THE CARDS: each row of YtljcebahjfifhaaDoorRows.lean that lists a variable, with what it lists TIED to the program's text (the seventh form; the later family's looks); each row that meets fmt, with fmt's text TOLD by the authors' own Lean function (tested against real Go, not proved from fmt's source: count such statements apart). THE CARD IS WHAT COUNTS. Prove the row's statement (the work); the ties are given (YtljcebahjfifhaaDoorTie.lean); close each card by the builder's one call (the guide's Derived/Test/ToyasCard.lean, 'card_holds'). Laid BY PROGRAM, IN A SANDBOX (cutbox-door.mjs). By AI agents, Wed Nov 11 2026. No macro, syntax, notation, axiom, sorry.
-/
import Derived.Test.YtljcebahjfifhaaDoorRows
import GoSem.ClaimSeven
namespace Go.Proofs.YtljcebahjfifhaaDoor
namespace Rows

/-- THE TIED CARD OF 'footpathlaw13.LinksTell'. -/
def linksTellCard : Claim7 := { stood := { row := linksTellRow, standIns := [], harness := (true, "a823db0ee0497e8be50eebd782b5f530cc14142d195c2914c15d15b02d2484fb"), looks := false }, kinds := [], alts := [], laidByText := true, laidKinds := [.data], laidTests := true, laidLooks := .later }
def LinksTellCardSaid : Prop := Claim7.holds Tryd.pinned (.plain (OpenSpec.ofChange linksTellSpec)) linksTellCard

/-- THE TIED CARD OF 'footpathlaw13.LinksBack'. -/
def linksBackCard : Claim7 := { stood := { row := linksBackRow, standIns := [], harness := (true, "a823db0ee0497e8be50eebd782b5f530cc14142d195c2914c15d15b02d2484fb"), looks := false }, kinds := [], alts := [], laidByText := true, laidKinds := [.data], laidTests := true, laidLooks := .later }
def LinksBackCardSaid : Prop := Claim7.holds Tryd.pinned (.plain (OpenSpec.ofChange linksBackSpec)) linksBackCard

/-- THE TIED CARD OF 'footpathlaw13.LinksEight'. -/
def linksEightCard : Claim7 := { stood := { row := linksEightRow, standIns := [], harness := (true, "a823db0ee0497e8be50eebd782b5f530cc14142d195c2914c15d15b02d2484fb"), looks := false }, kinds := [], alts := [], laidByText := true, laidKinds := [.data], laidTests := true, laidLooks := .later }
def LinksEightCardSaid : Prop := Claim7.holds Tryd.pinned (.plain (OpenSpec.ofChange linksEightSpec)) linksEightCard

/-- THE TIED CARD OF 'footpathlaw13.LinksArea'. -/
def linksAreaCard : Claim7 := { stood := { row := linksAreaRow, standIns := [], harness := (true, "a823db0ee0497e8be50eebd782b5f530cc14142d195c2914c15d15b02d2484fb"), looks := false }, kinds := [], alts := [], laidByText := true, laidKinds := [.data], laidTests := true, laidLooks := .later }
def LinksAreaCardSaid : Prop := Claim7.holds Tryd.pinned (.plain (OpenSpec.ofChange linksAreaSpec)) linksAreaCard

/-- THE SECOND FORM's CARD OF 'footpathlaw13.LinksTell'. -/
def linksTellUptoCard : Claim7 := { stood := { row := linksTellUptoRow, standIns := [], harness := (true, "a823db0ee0497e8be50eebd782b5f530cc14142d195c2914c15d15b02d2484fb"), looks := false }, kinds := [], alts := [], laidByText := true, laidKinds := [.data], laidTests := true, laidLooks := .later }
def LinksTellUptoCardSaid : Prop := Claim7.holds Tryd.pinned (.plain (OpenSpec.upto linksTellSpec)) linksTellUptoCard

/-- THE SECOND FORM's CARD OF 'footpathlaw13.LinksBack'. -/
def linksBackUptoCard : Claim7 := { stood := { row := linksBackUptoRow, standIns := [], harness := (true, "a823db0ee0497e8be50eebd782b5f530cc14142d195c2914c15d15b02d2484fb"), looks := false }, kinds := [], alts := [], laidByText := true, laidKinds := [.data], laidTests := true, laidLooks := .later }
def LinksBackUptoCardSaid : Prop := Claim7.holds Tryd.pinned (.plain (OpenSpec.upto linksBackSpec)) linksBackUptoCard

/-- THE SECOND FORM's CARD OF 'footpathlaw13.LinksEight'. -/
def linksEightUptoCard : Claim7 := { stood := { row := linksEightUptoRow, standIns := [], harness := (true, "a823db0ee0497e8be50eebd782b5f530cc14142d195c2914c15d15b02d2484fb"), looks := false }, kinds := [], alts := [], laidByText := true, laidKinds := [.data], laidTests := true, laidLooks := .later }
def LinksEightUptoCardSaid : Prop := Claim7.holds Tryd.pinned (.plain (OpenSpec.upto linksEightSpec)) linksEightUptoCard

/-- THE SECOND FORM's CARD OF 'footpathlaw13.LinksArea'. -/
def linksAreaUptoCard : Claim7 := { stood := { row := linksAreaUptoRow, standIns := [], harness := (true, "a823db0ee0497e8be50eebd782b5f530cc14142d195c2914c15d15b02d2484fb"), looks := false }, kinds := [], alts := [], laidByText := true, laidKinds := [.data], laidTests := true, laidLooks := .later }
def LinksAreaUptoCardSaid : Prop := Claim7.holds Tryd.pinned (.plain (OpenSpec.upto linksAreaSpec)) linksAreaUptoCard
end Rows
end Go.Proofs.YtljcebahjfifhaaDoor
