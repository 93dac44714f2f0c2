/-
  NARROWER THAN 'FOR EVERY INPUT', by the rows' own cells (each row's printed sentence says how): LinksTell: laid · LinksBack: laid · LinksEight: laid · LinksArea: laid.
  DERIVED. THE GIVEN ROWS OF THIS SEAT. 4 by the template 'for every input the law returns true; each argument reads behind the call as it read before'; 0 by the template 'total and deterministic' (their statements: YtljcebahjfifhaaDoorTotals.lean).
  GIVEN WITH THE SEED: the statements are not yours to turn. If you find one false, say at which input.
  Laid BY PROGRAM, IN A SANDBOX (cutbox-rows.mjs): the forced cells as the released guide's own fill.sh prints them over the translation eab47e1e02edb51a… (all of the seat's roots in one cut). By AI agents, Wed Nov 11 2026. No macro, syntax, notation, axiom, sorry.
-/
import Derived.Test.YtljcebahjfifhaaDoorChecked
import GoSem.Claim
import GoSem.ClaimJoined
import GoSem.ClaimMapViews
import Derived.JoinedTies
import Derived.KernelRfl
namespace Go.Proofs.YtljcebahjfifhaaDoor
/- THE CELL 'sum', in the pinned program and in every row, IS THE sha256 OF THE DUMP (.gsa) THAT YtljcebahjfifhaaDoorProg.lean LOADS. Nothing in Lean hashes anything: it is a label: what it is worth is what the hold of that sum in a sandbox is worth. -/
noncomputable def Tryd.pinned : Pinned := { name := "ytljcebahjfifhaadoor", sum := "eab47e1e02edb51a6b265e4241e12beb5494d2e4e7db1f670ac2da2ec85dc4d7", checked := Tryd.checked }
namespace Rows
def none {H : Type} : Left H := { results := [], args := [] }

/- WHAT THE LISTED PACKAGE-LEVEL VARIABLES READ AS WHEN THE CALL BEGINS. Each datum BY PROGRAM (the guide's laid-datum.mjs) off the statement by which the dump's own 'gosem.cut.vars' lays the variable. In a bare row this is a premise. The card (YtljcebahjfifhaaDoorCards.lean) ties it to the program's text. -/
def laid_footpath_links_directions {H : Type} : DataW H := .agg [.agg [.lit (.int .i64 1), .lit (.int .i64 0)], .agg [.lit (.int .i64 0), .lit (.int .i64 1)], .agg [.lit (.int .i64 (-1)), .lit (.int .i64 0)], .agg [.lit (.int .i64 0), .lit (.int .i64 (-1))]]

/-- 'footpathlaw13.LinksTell': WHATEVER THE INPUT: true; the input reads as it did. -/
def linksTellSpec : ChangeSpec := { name := "linksTell", fn := fun _ => fun
  | [d1, d2, d3, d4, d5, d6, d7, d8, d9] => { results := [.lit (.bool true)], args := [d1, d2, d3, d4, d5, d6, d7, d8, d9] }
  | _ => none }
def linksTellRow : OpenClaim := { program := "ytljcebahjfifhaadoor", sum := "eab47e1e02edb51a6b265e4241e12beb5494d2e4e7db1f670ac2da2ec85dc4d7", func := "footpath/footpathlaw13.LinksTell", spec := "linksTell", unfollowed := true, recurses := true, named := ["footpath/links.directions"], apart := false, laid := [("footpath/links.directions", laid_footpath_links_directions)] }
def LinksTellSaid : Prop := linksTellRow.holds Tryd.pinned (OpenSpec.ofChange linksTellSpec)

/-- ITS FALSE NEIGHBOUR: 'it returns false'. Refute it at one input. -/
def linksTellWrong : ChangeSpec := { name := "linksTell", fn := fun _ => fun
  | [d1, d2, d3, d4, d5, d6, d7, d8, d9] => { results := [.lit (.bool false)], args := [d1, d2, d3, d4, d5, d6, d7, d8, d9] }
  | _ => none }
def LinksTellWrongFalsely : Prop := linksTellRow.holds Tryd.pinned (OpenSpec.ofChange linksTellWrong)

/-- 'footpathlaw13.LinksBack': WHATEVER THE INPUT: true; the input reads as it did. -/
def linksBackSpec : ChangeSpec := { name := "linksBack", fn := fun _ => fun
  | [d1, d2, d3, d4, d5, d6, d7] => { results := [.lit (.bool true)], args := [d1, d2, d3, d4, d5, d6, d7] }
  | _ => none }
def linksBackRow : OpenClaim := { program := "ytljcebahjfifhaadoor", sum := "eab47e1e02edb51a6b265e4241e12beb5494d2e4e7db1f670ac2da2ec85dc4d7", func := "footpath/footpathlaw13.LinksBack", spec := "linksBack", unfollowed := true, recurses := true, named := ["footpath/links.directions"], apart := false, laid := [("footpath/links.directions", laid_footpath_links_directions)] }
def LinksBackSaid : Prop := linksBackRow.holds Tryd.pinned (OpenSpec.ofChange linksBackSpec)

/-- ITS FALSE NEIGHBOUR: 'it returns false'. Refute it at one input. -/
def linksBackWrong : ChangeSpec := { name := "linksBack", fn := fun _ => fun
  | [d1, d2, d3, d4, d5, d6, d7] => { results := [.lit (.bool false)], args := [d1, d2, d3, d4, d5, d6, d7] }
  | _ => none }
def LinksBackWrongFalsely : Prop := linksBackRow.holds Tryd.pinned (OpenSpec.ofChange linksBackWrong)

/-- 'footpathlaw13.LinksEight': WHATEVER THE INPUT: true; the input reads as it did. -/
def linksEightSpec : ChangeSpec := { name := "linksEight", fn := fun _ => fun
  | [d1, d2, d3, d4, d5] => { results := [.lit (.bool true)], args := [d1, d2, d3, d4, d5] }
  | _ => none }
def linksEightRow : OpenClaim := { program := "ytljcebahjfifhaadoor", sum := "eab47e1e02edb51a6b265e4241e12beb5494d2e4e7db1f670ac2da2ec85dc4d7", func := "footpath/footpathlaw13.LinksEight", spec := "linksEight", unfollowed := true, recurses := true, named := ["footpath/links.directions"], apart := false, laid := [("footpath/links.directions", laid_footpath_links_directions)] }
def LinksEightSaid : Prop := linksEightRow.holds Tryd.pinned (OpenSpec.ofChange linksEightSpec)

/-- ITS FALSE NEIGHBOUR: 'it returns false'. Refute it at one input. -/
def linksEightWrong : ChangeSpec := { name := "linksEight", fn := fun _ => fun
  | [d1, d2, d3, d4, d5] => { results := [.lit (.bool false)], args := [d1, d2, d3, d4, d5] }
  | _ => none }
def LinksEightWrongFalsely : Prop := linksEightRow.holds Tryd.pinned (OpenSpec.ofChange linksEightWrong)

/-- 'footpathlaw13.LinksArea': WHATEVER THE INPUT: true; the input reads as it did. -/
def linksAreaSpec : ChangeSpec := { name := "linksArea", fn := fun _ => fun
  | [d1, d2, d3, d4] => { results := [.lit (.bool true)], args := [d1, d2, d3, d4] }
  | _ => none }
def linksAreaRow : OpenClaim := { program := "ytljcebahjfifhaadoor", sum := "eab47e1e02edb51a6b265e4241e12beb5494d2e4e7db1f670ac2da2ec85dc4d7", func := "footpath/footpathlaw13.LinksArea", spec := "linksArea", named := ["footpath/links.directions"], apart := false, laid := [("footpath/links.directions", laid_footpath_links_directions)] }
def LinksAreaSaid : Prop := linksAreaRow.holds Tryd.pinned (OpenSpec.ofChange linksAreaSpec)

/-- ITS FALSE NEIGHBOUR: 'it returns false'. Refute it at one input. -/
def linksAreaWrong : ChangeSpec := { name := "linksArea", fn := fun _ => fun
  | [d1, d2, d3, d4] => { results := [.lit (.bool false)], args := [d1, d2, d3, d4] }
  | _ => none }
def LinksAreaWrongFalsely : Prop := linksAreaRow.holds Tryd.pinned (OpenSpec.ofChange linksAreaWrong)

/- THE SECOND FORM. 'bulk': how many values and letters a reading holds, each counted each time it is reached (what is shared counts as often as it is met; a slice's spare places count too). A statement '..UptoSaid' is the law's where the arguments, and the package variables that the reading takes, are together of bulk at most 1048576: NARROWER than '..Said'. Prove '..Said' where nothing that the law and all that it calls make is longer than what came in: it says more and counts as full. Else prove '..UptoSaid'. A law counts once. -/
mutual
def uptoBulk {H : Type} : DataW H → Nat
  | .lit (.string bytes) => bytes.length + 1
  | .lit _ => 1
  | .nil => 1
  | .ptr d => uptoBulk d + 1
  | .slice elems spare => uptoBulkAll elems + uptoBulkAll spare + 1
  | .agg parts => uptoBulkAll parts + 1
  | .iface _ d => uptoBulk d + 1
  | .map entries => uptoBulkEntries entries + 1
  | .held _ => 1
def uptoBulkAll {H : Type} : List (DataW H) → Nat
  | [] => 0
  | d :: r => uptoBulk d + uptoBulkAll r
def uptoBulkEntries {H : Type} : List (Lit × DataW H) → Nat
  | [] => 0
  | x :: r => uptoBulkEntry x + uptoBulkEntries r
def uptoBulkEntry {H : Type} : Lit × DataW H → Nat
  | (.string bytes, d) => bytes.length + uptoBulk d + 1
  | (_, d) => uptoBulk d + 1
 end
def uptoSmall : (H : Type) → List (DataW H) → Bool := fun _ ds => decide (uptoBulkAll ds ≤ 1048576)
def OpenSpec.upto (s : _root_.Go.ChangeSpec) : _root_.Go.OpenSpec := { _root_.Go.OpenSpec.ofChange s with cond := some uptoSmall }

/-- 'footpathlaw13.LinksTell', WHERE WHAT IT READS IS OF BULK AT MOST 1048576: true; the input reads as it did. -/
def linksTellUptoRow : OpenClaim := { program := "ytljcebahjfifhaadoor", sum := "eab47e1e02edb51a6b265e4241e12beb5494d2e4e7db1f670ac2da2ec85dc4d7", func := "footpath/footpathlaw13.LinksTell", spec := "linksTell", unfollowed := true, recurses := true, named := ["footpath/links.directions"], apart := false, laid := [("footpath/links.directions", laid_footpath_links_directions)], narrowed := true }
def LinksTellUptoSaid : Prop := linksTellUptoRow.holds Tryd.pinned (OpenSpec.upto linksTellSpec)

/-- 'footpathlaw13.LinksBack', WHERE WHAT IT READS IS OF BULK AT MOST 1048576: true; the input reads as it did. -/
def linksBackUptoRow : OpenClaim := { program := "ytljcebahjfifhaadoor", sum := "eab47e1e02edb51a6b265e4241e12beb5494d2e4e7db1f670ac2da2ec85dc4d7", func := "footpath/footpathlaw13.LinksBack", spec := "linksBack", unfollowed := true, recurses := true, named := ["footpath/links.directions"], apart := false, laid := [("footpath/links.directions", laid_footpath_links_directions)], narrowed := true }
def LinksBackUptoSaid : Prop := linksBackUptoRow.holds Tryd.pinned (OpenSpec.upto linksBackSpec)

/-- 'footpathlaw13.LinksEight', WHERE WHAT IT READS IS OF BULK AT MOST 1048576: true; the input reads as it did. -/
def linksEightUptoRow : OpenClaim := { program := "ytljcebahjfifhaadoor", sum := "eab47e1e02edb51a6b265e4241e12beb5494d2e4e7db1f670ac2da2ec85dc4d7", func := "footpath/footpathlaw13.LinksEight", spec := "linksEight", unfollowed := true, recurses := true, named := ["footpath/links.directions"], apart := false, laid := [("footpath/links.directions", laid_footpath_links_directions)], narrowed := true }
def LinksEightUptoSaid : Prop := linksEightUptoRow.holds Tryd.pinned (OpenSpec.upto linksEightSpec)

/-- 'footpathlaw13.LinksArea', WHERE WHAT IT READS IS OF BULK AT MOST 1048576: true; the input reads as it did. -/
def linksAreaUptoRow : OpenClaim := { program := "ytljcebahjfifhaadoor", sum := "eab47e1e02edb51a6b265e4241e12beb5494d2e4e7db1f670ac2da2ec85dc4d7", func := "footpath/footpathlaw13.LinksArea", spec := "linksArea", named := ["footpath/links.directions"], apart := false, laid := [("footpath/links.directions", laid_footpath_links_directions)], narrowed := true }
def LinksAreaUptoSaid : Prop := linksAreaUptoRow.holds Tryd.pinned (OpenSpec.upto linksAreaSpec)

end Rows
end Go.Proofs.YtljcebahjfifhaaDoor
