/-
  No cell of these rows narrows 'for every input' (looked for: loops, veiled, ifaces, maps, wideKeys, modest, calm, conditions, laid).
  DERIVED. THE GIVEN ROWS OF THIS SEAT. 4 by the template 'for every input the law returns true; each argument reads behind the call as it read before'; 0 by the template 'total and deterministic' (their statements: YtebpgefmilkioaaTotals.lean).
  GIVEN WITH THE SEED: the statements are not yours to turn. If you find one false, say at which input.
  Laid BY PROGRAM, IN A SANDBOX (cutbox-rows.mjs): the forced cells as the released guide's own fill.sh prints them over the translation 7c83d8da6745a112… (all of the seat's roots in one cut). By AI agents, Wed Nov 11 2026. No macro, syntax, notation, axiom, sorry.
-/
import Derived.Test.YtebpgefmilkioaaChecked
import GoSem.Claim
import GoSem.ClaimJoined
import GoSem.ClaimMapViews
import Derived.JoinedTies
import Derived.KernelRfl
namespace Go.Proofs.Ytebpgefmilkioaa
/- THE CELL 'sum', in the pinned program and in every row, IS THE sha256 OF THE DUMP (.gsa) THAT YtebpgefmilkioaaProg.lean LOADS. Nothing in Lean hashes anything: it is a label: what it is worth is what the hold of that sum in a sandbox is worth. -/
noncomputable def Try.pinned : Pinned := { name := "ytebpgefmilkioaa", sum := "7c83d8da6745a112199bf194273004160d53bf2f8ff0a4da29a012ca4157089c", checked := Try.checked }
namespace Rows
def none {H : Type} : Left H := { results := [], args := [] }

/-- 'footpathlaw03.CellsTell': WHATEVER THE INPUT: true; the input reads as it did. -/
def cellsTellSpec : ChangeSpec := { name := "cellsTell", fn := fun _ => fun
  | [d1, d2, d3, d4, d5, d6, d7, d8, d9] => { results := [.lit (.bool true)], args := [d1, d2, d3, d4, d5, d6, d7, d8, d9] }
  | _ => none }
def cellsTellRow : OpenClaim := { program := "ytebpgefmilkioaa", sum := "7c83d8da6745a112199bf194273004160d53bf2f8ff0a4da29a012ca4157089c", func := "footpath/footpathlaw03.CellsTell", spec := "cellsTell", inPlace := ["internal/reflectlite.ValueOf", "internal/reflectlite.Swapper", "(internal/reflectlite.Value).Len"], unfollowed := true, recurses := true, apart := false }
def CellsTellSaid : Prop := cellsTellRow.holds Try.pinned (OpenSpec.ofChange cellsTellSpec)

/-- ITS FALSE NEIGHBOUR: 'it returns false'. Refute it at one input. -/
def cellsTellWrong : ChangeSpec := { name := "cellsTell", fn := fun _ => fun
  | [d1, d2, d3, d4, d5, d6, d7, d8, d9] => { results := [.lit (.bool false)], args := [d1, d2, d3, d4, d5, d6, d7, d8, d9] }
  | _ => none }
def CellsTellWrongFalsely : Prop := cellsTellRow.holds Try.pinned (OpenSpec.ofChange cellsTellWrong)

/-- 'footpathlaw03.CellsTurned': WHATEVER THE INPUT: true; the input reads as it did. -/
def cellsTurnedSpec : ChangeSpec := { name := "cellsTurned", fn := fun _ => fun
  | [d1, d2] => { results := [.lit (.bool true)], args := [d1, d2] }
  | _ => none }
def cellsTurnedRow : OpenClaim := { program := "ytebpgefmilkioaa", sum := "7c83d8da6745a112199bf194273004160d53bf2f8ff0a4da29a012ca4157089c", func := "footpath/footpathlaw03.CellsTurned", spec := "cellsTurned", inPlace := ["internal/reflectlite.ValueOf", "internal/reflectlite.Swapper", "(internal/reflectlite.Value).Len"], unfollowed := true, recurses := true, apart := false }
def CellsTurnedSaid : Prop := cellsTurnedRow.holds Try.pinned (OpenSpec.ofChange cellsTurnedSpec)

/-- ITS FALSE NEIGHBOUR: 'it returns false'. Refute it at one input. -/
def cellsTurnedWrong : ChangeSpec := { name := "cellsTurned", fn := fun _ => fun
  | [d1, d2] => { results := [.lit (.bool false)], args := [d1, d2] }
  | _ => none }
def CellsTurnedWrongFalsely : Prop := cellsTurnedRow.holds Try.pinned (OpenSpec.ofChange cellsTurnedWrong)

/-- 'footpathlaw03.CellsHold': WHATEVER THE INPUT: true; the input reads as it did. -/
def cellsHoldSpec : ChangeSpec := { name := "cellsHold", fn := fun _ => fun
  | [d1, d2, d3, d4] => { results := [.lit (.bool true)], args := [d1, d2, d3, d4] }
  | _ => none }
def cellsHoldRow : OpenClaim := { program := "ytebpgefmilkioaa", sum := "7c83d8da6745a112199bf194273004160d53bf2f8ff0a4da29a012ca4157089c", func := "footpath/footpathlaw03.CellsHold", spec := "cellsHold", inPlace := ["internal/reflectlite.ValueOf", "internal/reflectlite.Swapper", "(internal/reflectlite.Value).Len"], unfollowed := true, recurses := true, apart := false }
def CellsHoldSaid : Prop := cellsHoldRow.holds Try.pinned (OpenSpec.ofChange cellsHoldSpec)

/-- ITS FALSE NEIGHBOUR: 'it returns false'. Refute it at one input. -/
def cellsHoldWrong : ChangeSpec := { name := "cellsHold", fn := fun _ => fun
  | [d1, d2, d3, d4] => { results := [.lit (.bool false)], args := [d1, d2, d3, d4] }
  | _ => none }
def CellsHoldWrongFalsely : Prop := cellsHoldRow.holds Try.pinned (OpenSpec.ofChange cellsHoldWrong)

/-- 'footpathlaw03.CellsRise': WHATEVER THE INPUT: true; the input reads as it did. -/
def cellsRiseSpec : ChangeSpec := { name := "cellsRise", fn := fun _ => fun
  | [d1, d2] => { results := [.lit (.bool true)], args := [d1, d2] }
  | _ => none }
def cellsRiseRow : OpenClaim := { program := "ytebpgefmilkioaa", sum := "7c83d8da6745a112199bf194273004160d53bf2f8ff0a4da29a012ca4157089c", func := "footpath/footpathlaw03.CellsRise", spec := "cellsRise", inPlace := ["internal/reflectlite.ValueOf", "internal/reflectlite.Swapper", "(internal/reflectlite.Value).Len"], unfollowed := true, recurses := true, apart := false }
def CellsRiseSaid : Prop := cellsRiseRow.holds Try.pinned (OpenSpec.ofChange cellsRiseSpec)

/-- ITS FALSE NEIGHBOUR: 'it returns false'. Refute it at one input. -/
def cellsRiseWrong : ChangeSpec := { name := "cellsRise", fn := fun _ => fun
  | [d1, d2] => { results := [.lit (.bool false)], args := [d1, d2] }
  | _ => none }
def CellsRiseWrongFalsely : Prop := cellsRiseRow.holds Try.pinned (OpenSpec.ofChange cellsRiseWrong)

/- THE SECOND FORM. 'bulk': how many values and letters a reading holds, each counted each time it is reached (what is shared counts as often as it is met; a slice's spare places count too). A statement '..UptoSaid' is the law's where the arguments, and the package variables that the reading takes, are together of bulk at most 1048576: NARROWER than '..Said'. Prove '..Said' where nothing that the law and all that it calls make is longer than what came in: it says more and counts as full. Else prove '..UptoSaid'. A law counts once. -/
mutual
def uptoBulk {H : Type} : DataW H → Nat
  | .lit (.string bytes) => bytes.length + 1
  | .lit _ => 1
  | .nil => 1
  | .ptr d => uptoBulk d + 1
  | .slice elems spare => uptoBulkAll elems + uptoBulkAll spare + 1
  | .agg parts => uptoBulkAll parts + 1
  | .iface _ d => uptoBulk d + 1
  | .map entries => uptoBulkEntries entries + 1
  | .held _ => 1
def uptoBulkAll {H : Type} : List (DataW H) → Nat
  | [] => 0
  | d :: r => uptoBulk d + uptoBulkAll r
def uptoBulkEntries {H : Type} : List (Lit × DataW H) → Nat
  | [] => 0
  | x :: r => uptoBulkEntry x + uptoBulkEntries r
def uptoBulkEntry {H : Type} : Lit × DataW H → Nat
  | (.string bytes, d) => bytes.length + uptoBulk d + 1
  | (_, d) => uptoBulk d + 1
 end
def uptoSmall : (H : Type) → List (DataW H) → Bool := fun _ ds => decide (uptoBulkAll ds ≤ 1048576)
def OpenSpec.upto (s : _root_.Go.ChangeSpec) : _root_.Go.OpenSpec := { _root_.Go.OpenSpec.ofChange s with cond := some uptoSmall }

/-- 'footpathlaw03.CellsTell', WHERE WHAT IT READS IS OF BULK AT MOST 1048576: true; the input reads as it did. -/
def cellsTellUptoRow : OpenClaim := { program := "ytebpgefmilkioaa", sum := "7c83d8da6745a112199bf194273004160d53bf2f8ff0a4da29a012ca4157089c", func := "footpath/footpathlaw03.CellsTell", spec := "cellsTell", inPlace := ["internal/reflectlite.ValueOf", "internal/reflectlite.Swapper", "(internal/reflectlite.Value).Len"], unfollowed := true, recurses := true, apart := false, narrowed := true }
def CellsTellUptoSaid : Prop := cellsTellUptoRow.holds Try.pinned (OpenSpec.upto cellsTellSpec)

/-- 'footpathlaw03.CellsTurned', WHERE WHAT IT READS IS OF BULK AT MOST 1048576: true; the input reads as it did. -/
def cellsTurnedUptoRow : OpenClaim := { program := "ytebpgefmilkioaa", sum := "7c83d8da6745a112199bf194273004160d53bf2f8ff0a4da29a012ca4157089c", func := "footpath/footpathlaw03.CellsTurned", spec := "cellsTurned", inPlace := ["internal/reflectlite.ValueOf", "internal/reflectlite.Swapper", "(internal/reflectlite.Value).Len"], unfollowed := true, recurses := true, apart := false, narrowed := true }
def CellsTurnedUptoSaid : Prop := cellsTurnedUptoRow.holds Try.pinned (OpenSpec.upto cellsTurnedSpec)

/-- 'footpathlaw03.CellsHold', WHERE WHAT IT READS IS OF BULK AT MOST 1048576: true; the input reads as it did. -/
def cellsHoldUptoRow : OpenClaim := { program := "ytebpgefmilkioaa", sum := "7c83d8da6745a112199bf194273004160d53bf2f8ff0a4da29a012ca4157089c", func := "footpath/footpathlaw03.CellsHold", spec := "cellsHold", inPlace := ["internal/reflectlite.ValueOf", "internal/reflectlite.Swapper", "(internal/reflectlite.Value).Len"], unfollowed := true, recurses := true, apart := false, narrowed := true }
def CellsHoldUptoSaid : Prop := cellsHoldUptoRow.holds Try.pinned (OpenSpec.upto cellsHoldSpec)

/-- 'footpathlaw03.CellsRise', WHERE WHAT IT READS IS OF BULK AT MOST 1048576: true; the input reads as it did. -/
def cellsRiseUptoRow : OpenClaim := { program := "ytebpgefmilkioaa", sum := "7c83d8da6745a112199bf194273004160d53bf2f8ff0a4da29a012ca4157089c", func := "footpath/footpathlaw03.CellsRise", spec := "cellsRise", inPlace := ["internal/reflectlite.ValueOf", "internal/reflectlite.Swapper", "(internal/reflectlite.Value).Len"], unfollowed := true, recurses := true, apart := false, narrowed := true }
def CellsRiseUptoSaid : Prop := cellsRiseUptoRow.holds Try.pinned (OpenSpec.upto cellsRiseSpec)

end Rows
end Go.Proofs.Ytebpgefmilkioaa
