/-
  NARROWER THAN 'FOR EVERY INPUT', by the rows' own cells (each row's printed sentence says how): CoreTells: laid · CoreWorld: laid · CorePad: laid · CoreFar: laid · CoreLess: laid.
  DERIVED. THE GIVEN ROWS OF THIS SEAT. 5 by the template 'for every input the law returns true; each argument reads behind the call as it read before'; 0 by the template 'total and deterministic' (their statements: YtmhghnbgllaihaaGreatDoorTotals.lean).
  GIVEN WITH THE SEED: the statements are not yours to turn. If you find one false, say at which input.
  Laid BY PROGRAM, IN A SANDBOX (cutbox-rows.mjs): the forced cells as the released guide's own fill.sh prints them over the translation 00b2f3d21bce0672… (all of the seat's roots in one cut). By AI agents, Wed Nov 11 2026. No macro, syntax, notation, axiom, sorry.
-/
import Derived.Test.YtmhghnbgllaihaaGreatDoorChecked
import GoSem.Claim
import GoSem.ClaimJoined
import GoSem.ClaimMapViews
import Derived.JoinedTies
import Derived.KernelRfl
namespace Go.Proofs.YtmhghnbgllaihaaGreatDoor
/- THE CELL 'sum', in the pinned program and in every row, IS THE sha256 OF THE DUMP (.gsa) THAT YtmhghnbgllaihaaGreatDoorProg.lean LOADS. Nothing in Lean hashes anything: it is a label: what it is worth is what the hold of that sum in a sandbox is worth. -/
noncomputable def Tryz.pinned : Pinned := { name := "ytmhghnbgllaihaagreatdoor", sum := "00b2f3d21bce0672ae622c9f7c71b60620e3c970b7d9d1fcba50d632d315700b", checked := Tryz.checked }
namespace Rows
def none {H : Type} : Left H := { results := [], args := [] }

/- WHAT THE LISTED PACKAGE-LEVEL VARIABLES READ AS WHEN THE CALL BEGINS. Each datum BY PROGRAM (the guide's laid-datum.mjs) off the statement by which the dump's own 'gosem.cut.vars' lays the variable. In a bare row this is a premise. The card (YtmhghnbgllaihaaGreatDoorCards.lean) ties it to the program's text. -/
def laid_footpath_links_directions {H : Type} : DataW H := .agg [.agg [.lit (.int .i64 1), .lit (.int .i64 0)], .agg [.lit (.int .i64 0), .lit (.int .i64 1)], .agg [.lit (.int .i64 (-1)), .lit (.int .i64 0)], .agg [.lit (.int .i64 0), .lit (.int .i64 (-1))]]
def laid_footpath_bins_nowhere {H : Type} : DataW H := .agg [.lit (.int .i64 0), .lit (.int .i64 0), .lit (.int .i64 (-1)), .lit (.int .i64 (-1))]

/-- 'footpathlaw15.CoreTells': WHATEVER THE INPUT: true; the input reads as it did. -/
def coreTellsSpec : ChangeSpec := { name := "coreTells", fn := fun _ => fun
  | [d1, d2, d3, d4, d5, d6] => { results := [.lit (.bool true)], args := [d1, d2, d3, d4, d5, d6] }
  | _ => none }
def coreTellsRow : OpenClaim := { program := "ytmhghnbgllaihaagreatdoor", sum := "00b2f3d21bce0672ae622c9f7c71b60620e3c970b7d9d1fcba50d632d315700b", func := "footpath/footpathlaw15.CoreTells", spec := "coreTells", unfollowed := true, recurses := true, named := ["footpath/bins.nowhere", "footpath/links.directions"], plainKeys := false, apart := false, laid := [("footpath/links.directions", laid_footpath_links_directions), ("footpath/bins.nowhere", laid_footpath_bins_nowhere)] }
def CoreTellsSaid : Prop := coreTellsRow.holds Tryz.pinned (OpenSpec.ofChange coreTellsSpec)

/-- ITS FALSE NEIGHBOUR: 'it returns false'. Refute it at one input. -/
def coreTellsWrong : ChangeSpec := { name := "coreTells", fn := fun _ => fun
  | [d1, d2, d3, d4, d5, d6] => { results := [.lit (.bool false)], args := [d1, d2, d3, d4, d5, d6] }
  | _ => none }
def CoreTellsWrongFalsely : Prop := coreTellsRow.holds Tryz.pinned (OpenSpec.ofChange coreTellsWrong)

/-- 'footpathlaw15.CoreWorld': WHATEVER THE INPUT: true; the input reads as it did. -/
def coreWorldSpec : ChangeSpec := { name := "coreWorld", fn := fun _ => fun
  | [d1, d2] => { results := [.lit (.bool true)], args := [d1, d2] }
  | _ => none }
def coreWorldRow : OpenClaim := { program := "ytmhghnbgllaihaagreatdoor", sum := "00b2f3d21bce0672ae622c9f7c71b60620e3c970b7d9d1fcba50d632d315700b", func := "footpath/footpathlaw15.CoreWorld", spec := "coreWorld", unfollowed := true, recurses := true, named := ["footpath/bins.nowhere", "footpath/links.directions"], plainKeys := false, apart := false, laid := [("footpath/links.directions", laid_footpath_links_directions), ("footpath/bins.nowhere", laid_footpath_bins_nowhere)] }
def CoreWorldSaid : Prop := coreWorldRow.holds Tryz.pinned (OpenSpec.ofChange coreWorldSpec)

/-- ITS FALSE NEIGHBOUR: 'it returns false'. Refute it at one input. -/
def coreWorldWrong : ChangeSpec := { name := "coreWorld", fn := fun _ => fun
  | [d1, d2] => { results := [.lit (.bool false)], args := [d1, d2] }
  | _ => none }
def CoreWorldWrongFalsely : Prop := coreWorldRow.holds Tryz.pinned (OpenSpec.ofChange coreWorldWrong)

/-- 'footpathlaw15.CorePad': WHATEVER THE INPUT: true; the input reads as it did. -/
def corePadSpec : ChangeSpec := { name := "corePad", fn := fun _ => fun
  | [d1, d2, d3, d4] => { results := [.lit (.bool true)], args := [d1, d2, d3, d4] }
  | _ => none }
def corePadRow : OpenClaim := { program := "ytmhghnbgllaihaagreatdoor", sum := "00b2f3d21bce0672ae622c9f7c71b60620e3c970b7d9d1fcba50d632d315700b", func := "footpath/footpathlaw15.CorePad", spec := "corePad", unfollowed := true, recurses := true, named := ["footpath/bins.nowhere", "footpath/links.directions"], plainKeys := false, apart := false, laid := [("footpath/links.directions", laid_footpath_links_directions), ("footpath/bins.nowhere", laid_footpath_bins_nowhere)] }
def CorePadSaid : Prop := corePadRow.holds Tryz.pinned (OpenSpec.ofChange corePadSpec)

/-- ITS FALSE NEIGHBOUR: 'it returns false'. Refute it at one input. -/
def corePadWrong : ChangeSpec := { name := "corePad", fn := fun _ => fun
  | [d1, d2, d3, d4] => { results := [.lit (.bool false)], args := [d1, d2, d3, d4] }
  | _ => none }
def CorePadWrongFalsely : Prop := corePadRow.holds Tryz.pinned (OpenSpec.ofChange corePadWrong)

/-- 'footpathlaw15.CoreFar': WHATEVER THE INPUT: true; the input reads as it did. -/
def coreFarSpec : ChangeSpec := { name := "coreFar", fn := fun _ => fun
  | [d1, d2, d3, d4, d5] => { results := [.lit (.bool true)], args := [d1, d2, d3, d4, d5] }
  | _ => none }
def coreFarRow : OpenClaim := { program := "ytmhghnbgllaihaagreatdoor", sum := "00b2f3d21bce0672ae622c9f7c71b60620e3c970b7d9d1fcba50d632d315700b", func := "footpath/footpathlaw15.CoreFar", spec := "coreFar", unfollowed := true, recurses := true, named := ["footpath/bins.nowhere", "footpath/links.directions"], plainKeys := false, apart := false, laid := [("footpath/links.directions", laid_footpath_links_directions), ("footpath/bins.nowhere", laid_footpath_bins_nowhere)] }
def CoreFarSaid : Prop := coreFarRow.holds Tryz.pinned (OpenSpec.ofChange coreFarSpec)

/-- ITS FALSE NEIGHBOUR: 'it returns false'. Refute it at one input. -/
def coreFarWrong : ChangeSpec := { name := "coreFar", fn := fun _ => fun
  | [d1, d2, d3, d4, d5] => { results := [.lit (.bool false)], args := [d1, d2, d3, d4, d5] }
  | _ => none }
def CoreFarWrongFalsely : Prop := coreFarRow.holds Tryz.pinned (OpenSpec.ofChange coreFarWrong)

/-- 'footpathlaw15.CoreLess': WHATEVER THE INPUT: true; the input reads as it did. -/
def coreLessSpec : ChangeSpec := { name := "coreLess", fn := fun _ => fun
  | [d1, d2, d3, d4] => { results := [.lit (.bool true)], args := [d1, d2, d3, d4] }
  | _ => none }
def coreLessRow : OpenClaim := { program := "ytmhghnbgllaihaagreatdoor", sum := "00b2f3d21bce0672ae622c9f7c71b60620e3c970b7d9d1fcba50d632d315700b", func := "footpath/footpathlaw15.CoreLess", spec := "coreLess", unfollowed := true, recurses := true, named := ["footpath/bins.nowhere", "footpath/links.directions"], plainKeys := false, apart := false, laid := [("footpath/links.directions", laid_footpath_links_directions), ("footpath/bins.nowhere", laid_footpath_bins_nowhere)] }
def CoreLessSaid : Prop := coreLessRow.holds Tryz.pinned (OpenSpec.ofChange coreLessSpec)

/-- ITS FALSE NEIGHBOUR: 'it returns false'. Refute it at one input. -/
def coreLessWrong : ChangeSpec := { name := "coreLess", fn := fun _ => fun
  | [d1, d2, d3, d4] => { results := [.lit (.bool false)], args := [d1, d2, d3, d4] }
  | _ => none }
def CoreLessWrongFalsely : Prop := coreLessRow.holds Tryz.pinned (OpenSpec.ofChange coreLessWrong)

/- THE SECOND FORM. 'bulk': how many values and letters a reading holds, each counted each time it is reached (what is shared counts as often as it is met; a slice's spare places count too). A statement '..UptoSaid' is the law's where the arguments, and the package variables that the reading takes, are together of bulk at most 1048576: NARROWER than '..Said'. Prove '..Said' where nothing that the law and all that it calls make is longer than what came in: it says more and counts as full. Else prove '..UptoSaid'. A law counts once. -/
mutual
def uptoBulk {H : Type} : DataW H → Nat
  | .lit (.string bytes) => bytes.length + 1
  | .lit _ => 1
  | .nil => 1
  | .ptr d => uptoBulk d + 1
  | .slice elems spare => uptoBulkAll elems + uptoBulkAll spare + 1
  | .agg parts => uptoBulkAll parts + 1
  | .iface _ d => uptoBulk d + 1
  | .map entries => uptoBulkEntries entries + 1
  | .held _ => 1
def uptoBulkAll {H : Type} : List (DataW H) → Nat
  | [] => 0
  | d :: r => uptoBulk d + uptoBulkAll r
def uptoBulkEntries {H : Type} : List (Lit × DataW H) → Nat
  | [] => 0
  | x :: r => uptoBulkEntry x + uptoBulkEntries r
def uptoBulkEntry {H : Type} : Lit × DataW H → Nat
  | (.string bytes, d) => bytes.length + uptoBulk d + 1
  | (_, d) => uptoBulk d + 1
 end
def uptoSmall : (H : Type) → List (DataW H) → Bool := fun _ ds => decide (uptoBulkAll ds ≤ 1048576)
def OpenSpec.upto (s : _root_.Go.ChangeSpec) : _root_.Go.OpenSpec := { _root_.Go.OpenSpec.ofChange s with cond := some uptoSmall }

/-- 'footpathlaw15.CoreTells', WHERE WHAT IT READS IS OF BULK AT MOST 1048576: true; the input reads as it did. -/
def coreTellsUptoRow : OpenClaim := { program := "ytmhghnbgllaihaagreatdoor", sum := "00b2f3d21bce0672ae622c9f7c71b60620e3c970b7d9d1fcba50d632d315700b", func := "footpath/footpathlaw15.CoreTells", spec := "coreTells", unfollowed := true, recurses := true, named := ["footpath/bins.nowhere", "footpath/links.directions"], plainKeys := false, apart := false, laid := [("footpath/links.directions", laid_footpath_links_directions), ("footpath/bins.nowhere", laid_footpath_bins_nowhere)], narrowed := true }
def CoreTellsUptoSaid : Prop := coreTellsUptoRow.holds Tryz.pinned (OpenSpec.upto coreTellsSpec)

/-- 'footpathlaw15.CoreWorld', WHERE WHAT IT READS IS OF BULK AT MOST 1048576: true; the input reads as it did. -/
def coreWorldUptoRow : OpenClaim := { program := "ytmhghnbgllaihaagreatdoor", sum := "00b2f3d21bce0672ae622c9f7c71b60620e3c970b7d9d1fcba50d632d315700b", func := "footpath/footpathlaw15.CoreWorld", spec := "coreWorld", unfollowed := true, recurses := true, named := ["footpath/bins.nowhere", "footpath/links.directions"], plainKeys := false, apart := false, laid := [("footpath/links.directions", laid_footpath_links_directions), ("footpath/bins.nowhere", laid_footpath_bins_nowhere)], narrowed := true }
def CoreWorldUptoSaid : Prop := coreWorldUptoRow.holds Tryz.pinned (OpenSpec.upto coreWorldSpec)

/-- 'footpathlaw15.CorePad', WHERE WHAT IT READS IS OF BULK AT MOST 1048576: true; the input reads as it did. -/
def corePadUptoRow : OpenClaim := { program := "ytmhghnbgllaihaagreatdoor", sum := "00b2f3d21bce0672ae622c9f7c71b60620e3c970b7d9d1fcba50d632d315700b", func := "footpath/footpathlaw15.CorePad", spec := "corePad", unfollowed := true, recurses := true, named := ["footpath/bins.nowhere", "footpath/links.directions"], plainKeys := false, apart := false, laid := [("footpath/links.directions", laid_footpath_links_directions), ("footpath/bins.nowhere", laid_footpath_bins_nowhere)], narrowed := true }
def CorePadUptoSaid : Prop := corePadUptoRow.holds Tryz.pinned (OpenSpec.upto corePadSpec)

/-- 'footpathlaw15.CoreFar', WHERE WHAT IT READS IS OF BULK AT MOST 1048576: true; the input reads as it did. -/
def coreFarUptoRow : OpenClaim := { program := "ytmhghnbgllaihaagreatdoor", sum := "00b2f3d21bce0672ae622c9f7c71b60620e3c970b7d9d1fcba50d632d315700b", func := "footpath/footpathlaw15.CoreFar", spec := "coreFar", unfollowed := true, recurses := true, named := ["footpath/bins.nowhere", "footpath/links.directions"], plainKeys := false, apart := false, laid := [("footpath/links.directions", laid_footpath_links_directions), ("footpath/bins.nowhere", laid_footpath_bins_nowhere)], narrowed := true }
def CoreFarUptoSaid : Prop := coreFarUptoRow.holds Tryz.pinned (OpenSpec.upto coreFarSpec)

/-- 'footpathlaw15.CoreLess', WHERE WHAT IT READS IS OF BULK AT MOST 1048576: true; the input reads as it did. -/
def coreLessUptoRow : OpenClaim := { program := "ytmhghnbgllaihaagreatdoor", sum := "00b2f3d21bce0672ae622c9f7c71b60620e3c970b7d9d1fcba50d632d315700b", func := "footpath/footpathlaw15.CoreLess", spec := "coreLess", unfollowed := true, recurses := true, named := ["footpath/bins.nowhere", "footpath/links.directions"], plainKeys := false, apart := false, laid := [("footpath/links.directions", laid_footpath_links_directions), ("footpath/bins.nowhere", laid_footpath_bins_nowhere)], narrowed := true }
def CoreLessUptoSaid : Prop := coreLessUptoRow.holds Tryz.pinned (OpenSpec.upto coreLessSpec)

end Rows
end Go.Proofs.YtmhghnbgllaihaaGreatDoor
