/-
  NARROWER THAN 'FOR EVERY INPUT', by the rows' own cells (each row's printed sentence says how): BinsTouch: laid · BinsOf: laid · BinsOne: laid · BinsHalves: laid.
  DERIVED. THE GIVEN ROWS OF THIS SEAT. 4 by the template 'for every input the law returns true; each argument reads behind the call as it read before'; 0 by the template 'total and deterministic' (their statements: YtonngfogbnfbnaaDoorTotals.lean).
  GIVEN WITH THE SEED: the statements are not yours to turn. If you find one false, say at which input.
  Laid BY PROGRAM, IN A SANDBOX (cutbox-rows.mjs): the forced cells as the released guide's own fill.sh prints them over the translation 17d03839a6434c16… (all of the seat's roots in one cut). By AI agents, Wed Nov 11 2026. No macro, syntax, notation, axiom, sorry.
-/
import Derived.Test.YtonngfogbnfbnaaDoorChecked
import GoSem.Claim
import GoSem.ClaimJoined
import GoSem.ClaimMapViews
import Derived.JoinedTies
import Derived.KernelRfl
namespace Go.Proofs.YtonngfogbnfbnaaDoor
/- THE CELL 'sum', in the pinned program and in every row, IS THE sha256 OF THE DUMP (.gsa) THAT YtonngfogbnfbnaaDoorProg.lean LOADS. Nothing in Lean hashes anything: it is a label: what it is worth is what the hold of that sum in a sandbox is worth. -/
noncomputable def Tryd.pinned : Pinned := { name := "ytonngfogbnfbnaadoor", sum := "17d03839a6434c16683ae4bc96ba239b9e8949b24eb6404570906b4ab852a7db", checked := Tryd.checked }
namespace Rows
def none {H : Type} : Left H := { results := [], args := [] }

/- WHAT THE LISTED PACKAGE-LEVEL VARIABLES READ AS WHEN THE CALL BEGINS. Each datum BY PROGRAM (the guide's laid-datum.mjs) off the statement by which the dump's own 'gosem.cut.vars' lays the variable. In a bare row this is a premise. The card (YtonngfogbnfbnaaDoorCards.lean) ties it to the program's text. -/
def laid_footpath_bins_nowhere {H : Type} : DataW H := .agg [.lit (.int .i64 0), .lit (.int .i64 0), .lit (.int .i64 (-1)), .lit (.int .i64 (-1))]

/-- 'footpathlaw06.BinsTouch': WHATEVER THE INPUT: true; the input reads as it did. -/
def binsTouchSpec : ChangeSpec := { name := "binsTouch", fn := fun _ => fun
  | [d1, d2, d3, d4, d5, d6] => { results := [.lit (.bool true)], args := [d1, d2, d3, d4, d5, d6] }
  | _ => none }
def binsTouchRow : OpenClaim := { program := "ytonngfogbnfbnaadoor", sum := "17d03839a6434c16683ae4bc96ba239b9e8949b24eb6404570906b4ab852a7db", func := "footpath/footpathlaw06.BinsTouch", spec := "binsTouch", unfollowed := true, recurses := true, named := ["footpath/bins.nowhere"], apart := false, laid := [("footpath/bins.nowhere", laid_footpath_bins_nowhere)] }
def BinsTouchSaid : Prop := binsTouchRow.holds Tryd.pinned (OpenSpec.ofChange binsTouchSpec)

/-- ITS FALSE NEIGHBOUR: 'it returns false'. Refute it at one input. -/
def binsTouchWrong : ChangeSpec := { name := "binsTouch", fn := fun _ => fun
  | [d1, d2, d3, d4, d5, d6] => { results := [.lit (.bool false)], args := [d1, d2, d3, d4, d5, d6] }
  | _ => none }
def BinsTouchWrongFalsely : Prop := binsTouchRow.holds Tryd.pinned (OpenSpec.ofChange binsTouchWrong)

/-- 'footpathlaw06.BinsOf': WHATEVER THE INPUT: true; the input reads as it did. -/
def binsOfSpec : ChangeSpec := { name := "binsOf", fn := fun _ => fun
  | [d1, d2, d3] => { results := [.lit (.bool true)], args := [d1, d2, d3] }
  | _ => none }
def binsOfRow : OpenClaim := { program := "ytonngfogbnfbnaadoor", sum := "17d03839a6434c16683ae4bc96ba239b9e8949b24eb6404570906b4ab852a7db", func := "footpath/footpathlaw06.BinsOf", spec := "binsOf", unfollowed := true, recurses := true, named := ["footpath/bins.nowhere"], apart := false, laid := [("footpath/bins.nowhere", laid_footpath_bins_nowhere)] }
def BinsOfSaid : Prop := binsOfRow.holds Tryd.pinned (OpenSpec.ofChange binsOfSpec)

/-- ITS FALSE NEIGHBOUR: 'it returns false'. Refute it at one input. -/
def binsOfWrong : ChangeSpec := { name := "binsOf", fn := fun _ => fun
  | [d1, d2, d3] => { results := [.lit (.bool false)], args := [d1, d2, d3] }
  | _ => none }
def BinsOfWrongFalsely : Prop := binsOfRow.holds Tryd.pinned (OpenSpec.ofChange binsOfWrong)

/-- 'footpathlaw06.BinsOne': WHATEVER THE INPUT: true; the input reads as it did. -/
def binsOneSpec : ChangeSpec := { name := "binsOne", fn := fun _ => fun
  | [d1, d2, d3, d4, d5, d6] => { results := [.lit (.bool true)], args := [d1, d2, d3, d4, d5, d6] }
  | _ => none }
def binsOneRow : OpenClaim := { program := "ytonngfogbnfbnaadoor", sum := "17d03839a6434c16683ae4bc96ba239b9e8949b24eb6404570906b4ab852a7db", func := "footpath/footpathlaw06.BinsOne", spec := "binsOne", named := ["footpath/bins.nowhere"], apart := false, laid := [("footpath/bins.nowhere", laid_footpath_bins_nowhere)] }
def BinsOneSaid : Prop := binsOneRow.holds Tryd.pinned (OpenSpec.ofChange binsOneSpec)

/-- ITS FALSE NEIGHBOUR: 'it returns false'. Refute it at one input. -/
def binsOneWrong : ChangeSpec := { name := "binsOne", fn := fun _ => fun
  | [d1, d2, d3, d4, d5, d6] => { results := [.lit (.bool false)], args := [d1, d2, d3, d4, d5, d6] }
  | _ => none }
def BinsOneWrongFalsely : Prop := binsOneRow.holds Tryd.pinned (OpenSpec.ofChange binsOneWrong)

/-- 'footpathlaw06.BinsHalves': WHATEVER THE INPUT: true; the input reads as it did. -/
def binsHalvesSpec : ChangeSpec := { name := "binsHalves", fn := fun _ => fun
  | [d1, d2, d3, d4, d5, d6, d7] => { results := [.lit (.bool true)], args := [d1, d2, d3, d4, d5, d6, d7] }
  | _ => none }
def binsHalvesRow : OpenClaim := { program := "ytonngfogbnfbnaadoor", sum := "17d03839a6434c16683ae4bc96ba239b9e8949b24eb6404570906b4ab852a7db", func := "footpath/footpathlaw06.BinsHalves", spec := "binsHalves", named := ["footpath/bins.nowhere"], apart := false, laid := [("footpath/bins.nowhere", laid_footpath_bins_nowhere)] }
def BinsHalvesSaid : Prop := binsHalvesRow.holds Tryd.pinned (OpenSpec.ofChange binsHalvesSpec)

/-- ITS FALSE NEIGHBOUR: 'it returns false'. Refute it at one input. -/
def binsHalvesWrong : ChangeSpec := { name := "binsHalves", fn := fun _ => fun
  | [d1, d2, d3, d4, d5, d6, d7] => { results := [.lit (.bool false)], args := [d1, d2, d3, d4, d5, d6, d7] }
  | _ => none }
def BinsHalvesWrongFalsely : Prop := binsHalvesRow.holds Tryd.pinned (OpenSpec.ofChange binsHalvesWrong)

/- THE SECOND FORM. 'bulk': how many values and letters a reading holds, each counted each time it is reached (what is shared counts as often as it is met; a slice's spare places count too). A statement '..UptoSaid' is the law's where the arguments, and the package variables that the reading takes, are together of bulk at most 1048576: NARROWER than '..Said'. Prove '..Said' where nothing that the law and all that it calls make is longer than what came in: it says more and counts as full. Else prove '..UptoSaid'. A law counts once. -/
mutual
def uptoBulk {H : Type} : DataW H → Nat
  | .lit (.string bytes) => bytes.length + 1
  | .lit _ => 1
  | .nil => 1
  | .ptr d => uptoBulk d + 1
  | .slice elems spare => uptoBulkAll elems + uptoBulkAll spare + 1
  | .agg parts => uptoBulkAll parts + 1
  | .iface _ d => uptoBulk d + 1
  | .map entries => uptoBulkEntries entries + 1
  | .held _ => 1
def uptoBulkAll {H : Type} : List (DataW H) → Nat
  | [] => 0
  | d :: r => uptoBulk d + uptoBulkAll r
def uptoBulkEntries {H : Type} : List (Lit × DataW H) → Nat
  | [] => 0
  | x :: r => uptoBulkEntry x + uptoBulkEntries r
def uptoBulkEntry {H : Type} : Lit × DataW H → Nat
  | (.string bytes, d) => bytes.length + uptoBulk d + 1
  | (_, d) => uptoBulk d + 1
 end
def uptoSmall : (H : Type) → List (DataW H) → Bool := fun _ ds => decide (uptoBulkAll ds ≤ 1048576)
def OpenSpec.upto (s : _root_.Go.ChangeSpec) : _root_.Go.OpenSpec := { _root_.Go.OpenSpec.ofChange s with cond := some uptoSmall }

/-- 'footpathlaw06.BinsTouch', WHERE WHAT IT READS IS OF BULK AT MOST 1048576: true; the input reads as it did. -/
def binsTouchUptoRow : OpenClaim := { program := "ytonngfogbnfbnaadoor", sum := "17d03839a6434c16683ae4bc96ba239b9e8949b24eb6404570906b4ab852a7db", func := "footpath/footpathlaw06.BinsTouch", spec := "binsTouch", unfollowed := true, recurses := true, named := ["footpath/bins.nowhere"], apart := false, laid := [("footpath/bins.nowhere", laid_footpath_bins_nowhere)], narrowed := true }
def BinsTouchUptoSaid : Prop := binsTouchUptoRow.holds Tryd.pinned (OpenSpec.upto binsTouchSpec)

/-- 'footpathlaw06.BinsOf', WHERE WHAT IT READS IS OF BULK AT MOST 1048576: true; the input reads as it did. -/
def binsOfUptoRow : OpenClaim := { program := "ytonngfogbnfbnaadoor", sum := "17d03839a6434c16683ae4bc96ba239b9e8949b24eb6404570906b4ab852a7db", func := "footpath/footpathlaw06.BinsOf", spec := "binsOf", unfollowed := true, recurses := true, named := ["footpath/bins.nowhere"], apart := false, laid := [("footpath/bins.nowhere", laid_footpath_bins_nowhere)], narrowed := true }
def BinsOfUptoSaid : Prop := binsOfUptoRow.holds Tryd.pinned (OpenSpec.upto binsOfSpec)

/-- 'footpathlaw06.BinsOne', WHERE WHAT IT READS IS OF BULK AT MOST 1048576: true; the input reads as it did. -/
def binsOneUptoRow : OpenClaim := { program := "ytonngfogbnfbnaadoor", sum := "17d03839a6434c16683ae4bc96ba239b9e8949b24eb6404570906b4ab852a7db", func := "footpath/footpathlaw06.BinsOne", spec := "binsOne", named := ["footpath/bins.nowhere"], apart := false, laid := [("footpath/bins.nowhere", laid_footpath_bins_nowhere)], narrowed := true }
def BinsOneUptoSaid : Prop := binsOneUptoRow.holds Tryd.pinned (OpenSpec.upto binsOneSpec)

/-- 'footpathlaw06.BinsHalves', WHERE WHAT IT READS IS OF BULK AT MOST 1048576: true; the input reads as it did. -/
def binsHalvesUptoRow : OpenClaim := { program := "ytonngfogbnfbnaadoor", sum := "17d03839a6434c16683ae4bc96ba239b9e8949b24eb6404570906b4ab852a7db", func := "footpath/footpathlaw06.BinsHalves", spec := "binsHalves", named := ["footpath/bins.nowhere"], apart := false, laid := [("footpath/bins.nowhere", laid_footpath_bins_nowhere)], narrowed := true }
def BinsHalvesUptoSaid : Prop := binsHalvesUptoRow.holds Tryd.pinned (OpenSpec.upto binsHalvesSpec)

end Rows
end Go.Proofs.YtonngfogbnfbnaaDoor
