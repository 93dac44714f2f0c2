/-
  No cell of these rows narrows 'for every input' (looked for: loops, veiled, ifaces, maps, wideKeys, modest, calm, conditions, laid).
  DERIVED. THE GIVEN ROWS OF THIS SEAT. 5 by the template 'for every input the law returns true; each argument reads behind the call as it read before'; 0 by the template 'total and deterministic' (their statements: YtllfjdjihkaadaaTotals.lean).
  GIVEN WITH THE SEED: the statements are not yours to turn. If you find one false, say at which input.
  Laid BY PROGRAM, IN A SANDBOX (cutbox-rows.mjs): the forced cells as the released guide's own fill.sh prints them over the translation 47a1af7e4111762b… (all of the seat's roots in one cut). By AI agents, Wed Nov 11 2026. No macro, syntax, notation, axiom, sorry.
-/
import Derived.Test.YtllfjdjihkaadaaChecked
import GoSem.Claim
import GoSem.ClaimJoined
import GoSem.ClaimMapViews
import Derived.JoinedTies
import Derived.KernelRfl
namespace Go.Proofs.Ytllfjdjihkaadaa
/- THE CELL 'sum', in the pinned program and in every row, IS THE sha256 OF THE DUMP (.gsa) THAT YtllfjdjihkaadaaProg.lean LOADS. Nothing in Lean hashes anything: it is a label: what it is worth is what the hold of that sum in a sandbox is worth. -/
noncomputable def Try.pinned : Pinned := { name := "ytllfjdjihkaadaa", sum := "47a1af7e4111762b030eaaa35d6fa6fb3733fdbacb8da835df4c3276c8900df8", checked := Try.checked }
namespace Rows
def none {H : Type} : Left H := { results := [], args := [] }

/-- 'footpathlaw01.WholeTells': WHATEVER THE INPUT: true; the input reads as it did. -/
def wholeTellsSpec : ChangeSpec := { name := "wholeTells", fn := fun _ => fun
  | [d1, d2, d3, d4] => { results := [.lit (.bool true)], args := [d1, d2, d3, d4] }
  | _ => none }
def wholeTellsRow : OpenClaim := { program := "ytllfjdjihkaadaa", sum := "47a1af7e4111762b030eaaa35d6fa6fb3733fdbacb8da835df4c3276c8900df8", func := "footpath/footpathlaw01.WholeTells", spec := "wholeTells", unfollowed := true, recurses := true, apart := false }
def WholeTellsSaid : Prop := wholeTellsRow.holds Try.pinned (OpenSpec.ofChange wholeTellsSpec)

/-- ITS FALSE NEIGHBOUR: 'it returns false'. Refute it at one input. -/
def wholeTellsWrong : ChangeSpec := { name := "wholeTells", fn := fun _ => fun
  | [d1, d2, d3, d4] => { results := [.lit (.bool false)], args := [d1, d2, d3, d4] }
  | _ => none }
def WholeTellsWrongFalsely : Prop := wholeTellsRow.holds Try.pinned (OpenSpec.ofChange wholeTellsWrong)

/-- 'footpathlaw01.WholeConfig': WHATEVER THE INPUT: true; the input reads as it did. -/
def wholeConfigSpec : ChangeSpec := { name := "wholeConfig", fn := fun _ => fun
  | [d] => { results := [.lit (.bool true)], args := [d] }
  | _ => none }
def wholeConfigRow : OpenClaim := { program := "ytllfjdjihkaadaa", sum := "47a1af7e4111762b030eaaa35d6fa6fb3733fdbacb8da835df4c3276c8900df8", func := "footpath/footpathlaw01.WholeConfig", spec := "wholeConfig", unfollowed := true, recurses := true, apart := false }
def WholeConfigSaid : Prop := wholeConfigRow.holds Try.pinned (OpenSpec.ofChange wholeConfigSpec)

/-- ITS FALSE NEIGHBOUR: 'it returns false'. Refute it at one input. -/
def wholeConfigWrong : ChangeSpec := { name := "wholeConfig", fn := fun _ => fun
  | [d] => { results := [.lit (.bool false)], args := [d] }
  | _ => none }
def WholeConfigWrongFalsely : Prop := wholeConfigRow.holds Try.pinned (OpenSpec.ofChange wholeConfigWrong)

/-- 'footpathlaw01.WholeFloors': WHATEVER THE INPUT: true; the input reads as it did. -/
def wholeFloorsSpec : ChangeSpec := { name := "wholeFloors", fn := fun _ => fun
  | [d1, d2] => { results := [.lit (.bool true)], args := [d1, d2] }
  | _ => none }
def wholeFloorsRow : OpenClaim := { program := "ytllfjdjihkaadaa", sum := "47a1af7e4111762b030eaaa35d6fa6fb3733fdbacb8da835df4c3276c8900df8", func := "footpath/footpathlaw01.WholeFloors", spec := "wholeFloors", unfollowed := true, recurses := true, apart := false }
def WholeFloorsSaid : Prop := wholeFloorsRow.holds Try.pinned (OpenSpec.ofChange wholeFloorsSpec)

/-- ITS FALSE NEIGHBOUR: 'it returns false'. Refute it at one input. -/
def wholeFloorsWrong : ChangeSpec := { name := "wholeFloors", fn := fun _ => fun
  | [d1, d2] => { results := [.lit (.bool false)], args := [d1, d2] }
  | _ => none }
def WholeFloorsWrongFalsely : Prop := wholeFloorsRow.holds Try.pinned (OpenSpec.ofChange wholeFloorsWrong)

/-- 'footpathlaw01.WholeCross': WHATEVER THE INPUT: true; the input reads as it did. -/
def wholeCrossSpec : ChangeSpec := { name := "wholeCross", fn := fun _ => fun
  | [d1, d2, d3, d4] => { results := [.lit (.bool true)], args := [d1, d2, d3, d4] }
  | _ => none }
def wholeCrossRow : OpenClaim := { program := "ytllfjdjihkaadaa", sum := "47a1af7e4111762b030eaaa35d6fa6fb3733fdbacb8da835df4c3276c8900df8", func := "footpath/footpathlaw01.WholeCross", spec := "wholeCross", unfollowed := true, recurses := true, apart := false }
def WholeCrossSaid : Prop := wholeCrossRow.holds Try.pinned (OpenSpec.ofChange wholeCrossSpec)

/-- ITS FALSE NEIGHBOUR: 'it returns false'. Refute it at one input. -/
def wholeCrossWrong : ChangeSpec := { name := "wholeCross", fn := fun _ => fun
  | [d1, d2, d3, d4] => { results := [.lit (.bool false)], args := [d1, d2, d3, d4] }
  | _ => none }
def WholeCrossWrongFalsely : Prop := wholeCrossRow.holds Try.pinned (OpenSpec.ofChange wholeCrossWrong)

/-- 'footpathlaw01.WholeMod': WHATEVER THE INPUT: true; the input reads as it did. -/
def wholeModSpec : ChangeSpec := { name := "wholeMod", fn := fun _ => fun
  | [d1, d2, d3] => { results := [.lit (.bool true)], args := [d1, d2, d3] }
  | _ => none }
def wholeModRow : OpenClaim := { program := "ytllfjdjihkaadaa", sum := "47a1af7e4111762b030eaaa35d6fa6fb3733fdbacb8da835df4c3276c8900df8", func := "footpath/footpathlaw01.WholeMod", spec := "wholeMod", unfollowed := true, recurses := true, apart := false }
def WholeModSaid : Prop := wholeModRow.holds Try.pinned (OpenSpec.ofChange wholeModSpec)

/-- ITS FALSE NEIGHBOUR: 'it returns false'. Refute it at one input. -/
def wholeModWrong : ChangeSpec := { name := "wholeMod", fn := fun _ => fun
  | [d1, d2, d3] => { results := [.lit (.bool false)], args := [d1, d2, d3] }
  | _ => none }
def WholeModWrongFalsely : Prop := wholeModRow.holds Try.pinned (OpenSpec.ofChange wholeModWrong)

/- THE SECOND FORM. 'bulk': how many values and letters a reading holds, each counted each time it is reached (what is shared counts as often as it is met; a slice's spare places count too). A statement '..UptoSaid' is the law's where the arguments, and the package variables that the reading takes, are together of bulk at most 1048576: NARROWER than '..Said'. Prove '..Said' where nothing that the law and all that it calls make is longer than what came in: it says more and counts as full. Else prove '..UptoSaid'. A law counts once. -/
mutual
def uptoBulk {H : Type} : DataW H → Nat
  | .lit (.string bytes) => bytes.length + 1
  | .lit _ => 1
  | .nil => 1
  | .ptr d => uptoBulk d + 1
  | .slice elems spare => uptoBulkAll elems + uptoBulkAll spare + 1
  | .agg parts => uptoBulkAll parts + 1
  | .iface _ d => uptoBulk d + 1
  | .map entries => uptoBulkEntries entries + 1
  | .held _ => 1
def uptoBulkAll {H : Type} : List (DataW H) → Nat
  | [] => 0
  | d :: r => uptoBulk d + uptoBulkAll r
def uptoBulkEntries {H : Type} : List (Lit × DataW H) → Nat
  | [] => 0
  | x :: r => uptoBulkEntry x + uptoBulkEntries r
def uptoBulkEntry {H : Type} : Lit × DataW H → Nat
  | (.string bytes, d) => bytes.length + uptoBulk d + 1
  | (_, d) => uptoBulk d + 1
 end
def uptoSmall : (H : Type) → List (DataW H) → Bool := fun _ ds => decide (uptoBulkAll ds ≤ 1048576)
def OpenSpec.upto (s : _root_.Go.ChangeSpec) : _root_.Go.OpenSpec := { _root_.Go.OpenSpec.ofChange s with cond := some uptoSmall }

/-- 'footpathlaw01.WholeTells', WHERE WHAT IT READS IS OF BULK AT MOST 1048576: true; the input reads as it did. -/
def wholeTellsUptoRow : OpenClaim := { program := "ytllfjdjihkaadaa", sum := "47a1af7e4111762b030eaaa35d6fa6fb3733fdbacb8da835df4c3276c8900df8", func := "footpath/footpathlaw01.WholeTells", spec := "wholeTells", unfollowed := true, recurses := true, apart := false, narrowed := true }
def WholeTellsUptoSaid : Prop := wholeTellsUptoRow.holds Try.pinned (OpenSpec.upto wholeTellsSpec)

/-- 'footpathlaw01.WholeConfig', WHERE WHAT IT READS IS OF BULK AT MOST 1048576: true; the input reads as it did. -/
def wholeConfigUptoRow : OpenClaim := { program := "ytllfjdjihkaadaa", sum := "47a1af7e4111762b030eaaa35d6fa6fb3733fdbacb8da835df4c3276c8900df8", func := "footpath/footpathlaw01.WholeConfig", spec := "wholeConfig", unfollowed := true, recurses := true, apart := false, narrowed := true }
def WholeConfigUptoSaid : Prop := wholeConfigUptoRow.holds Try.pinned (OpenSpec.upto wholeConfigSpec)

/-- 'footpathlaw01.WholeFloors', WHERE WHAT IT READS IS OF BULK AT MOST 1048576: true; the input reads as it did. -/
def wholeFloorsUptoRow : OpenClaim := { program := "ytllfjdjihkaadaa", sum := "47a1af7e4111762b030eaaa35d6fa6fb3733fdbacb8da835df4c3276c8900df8", func := "footpath/footpathlaw01.WholeFloors", spec := "wholeFloors", unfollowed := true, recurses := true, apart := false, narrowed := true }
def WholeFloorsUptoSaid : Prop := wholeFloorsUptoRow.holds Try.pinned (OpenSpec.upto wholeFloorsSpec)

/-- 'footpathlaw01.WholeCross', WHERE WHAT IT READS IS OF BULK AT MOST 1048576: true; the input reads as it did. -/
def wholeCrossUptoRow : OpenClaim := { program := "ytllfjdjihkaadaa", sum := "47a1af7e4111762b030eaaa35d6fa6fb3733fdbacb8da835df4c3276c8900df8", func := "footpath/footpathlaw01.WholeCross", spec := "wholeCross", unfollowed := true, recurses := true, apart := false, narrowed := true }
def WholeCrossUptoSaid : Prop := wholeCrossUptoRow.holds Try.pinned (OpenSpec.upto wholeCrossSpec)

/-- 'footpathlaw01.WholeMod', WHERE WHAT IT READS IS OF BULK AT MOST 1048576: true; the input reads as it did. -/
def wholeModUptoRow : OpenClaim := { program := "ytllfjdjihkaadaa", sum := "47a1af7e4111762b030eaaa35d6fa6fb3733fdbacb8da835df4c3276c8900df8", func := "footpath/footpathlaw01.WholeMod", spec := "wholeMod", unfollowed := true, recurses := true, apart := false, narrowed := true }
def WholeModUptoSaid : Prop := wholeModUptoRow.holds Try.pinned (OpenSpec.upto wholeModSpec)

end Rows
end Go.Proofs.Ytllfjdjihkaadaa
