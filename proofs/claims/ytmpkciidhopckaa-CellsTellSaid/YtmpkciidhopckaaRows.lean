/-
  No cell of these rows narrows 'for every input' (looked for: loops, veiled, ifaces, maps, wideKeys, modest, calm, conditions, laid).
  DERIVED. THE GIVEN ROWS OF THIS SEAT. 7 by the template 'for every input the law returns true; each argument reads behind the call as it read before'; 0 by the template 'total and deterministic' (their statements: YtmpkciidhopckaaTotals.lean).
  GIVEN WITH THE SEED: the statements are not yours to turn. If you find one false, say at which input.
  Laid BY PROGRAM, IN A SANDBOX (cutbox-rows.mjs): the forced cells as the released guide's own fill.sh prints them over the translation 2e91021247acefe1… (all of the seat's roots in one cut). By AI agents, Wed Nov 11 2026. No macro, syntax, notation, axiom, sorry.
-/
import Derived.Test.YtmpkciidhopckaaChecked
import GoSem.Claim
import GoSem.ClaimJoined
import GoSem.ClaimMapViews
import Derived.JoinedTies
import Derived.KernelRfl
namespace Go.Proofs.Ytmpkciidhopckaa
/- THE CELL 'sum', in the pinned program and in every row, IS THE sha256 OF THE DUMP (.gsa) THAT YtmpkciidhopckaaProg.lean LOADS. Nothing in Lean hashes anything: it is a label: what it is worth is what the hold of that sum in a sandbox is worth. -/
noncomputable def Try.pinned : Pinned := { name := "ytmpkciidhopckaa", sum := "2e91021247acefe1bb81af5b7cefa711deb86e3f63bc282df2cd5abdf9fbb4e0", checked := Try.checked }
namespace Rows
def none {H : Type} : Left H := { results := [], args := [] }

/-- 'footpathlaw03.CellsTell': WHATEVER THE INPUT: true; the input reads as it did. -/
def cellsTellSpec : ChangeSpec := { name := "cellsTell", fn := fun _ => fun
  | [d1, d2, d3, d4, d5, d6, d7, d8, d9] => { results := [.lit (.bool true)], args := [d1, d2, d3, d4, d5, d6, d7, d8, d9] }
  | _ => none }
def cellsTellRow : OpenClaim := { program := "ytmpkciidhopckaa", sum := "2e91021247acefe1bb81af5b7cefa711deb86e3f63bc282df2cd5abdf9fbb4e0", func := "footpath/footpathlaw03.CellsTell", spec := "cellsTell", inPlace := ["internal/reflectlite.ValueOf", "internal/reflectlite.Swapper", "(internal/reflectlite.Value).Len"], unfollowed := true, recurses := true, apart := false }
def CellsTellSaid : Prop := cellsTellRow.holds Try.pinned (OpenSpec.ofChange cellsTellSpec)

/-- ITS FALSE NEIGHBOUR: 'it returns false'. Refute it at one input. -/
def cellsTellWrong : ChangeSpec := { name := "cellsTell", fn := fun _ => fun
  | [d1, d2, d3, d4, d5, d6, d7, d8, d9] => { results := [.lit (.bool false)], args := [d1, d2, d3, d4, d5, d6, d7, d8, d9] }
  | _ => none }
def CellsTellWrongFalsely : Prop := cellsTellRow.holds Try.pinned (OpenSpec.ofChange cellsTellWrong)

/-- 'footpathlaw03.CellsTurned': WHATEVER THE INPUT: true; the input reads as it did. -/
def cellsTurnedSpec : ChangeSpec := { name := "cellsTurned", fn := fun _ => fun
  | [d1, d2] => { results := [.lit (.bool true)], args := [d1, d2] }
  | _ => none }
def cellsTurnedRow : OpenClaim := { program := "ytmpkciidhopckaa", sum := "2e91021247acefe1bb81af5b7cefa711deb86e3f63bc282df2cd5abdf9fbb4e0", func := "footpath/footpathlaw03.CellsTurned", spec := "cellsTurned", inPlace := ["internal/reflectlite.ValueOf", "internal/reflectlite.Swapper", "(internal/reflectlite.Value).Len"], unfollowed := true, recurses := true, apart := false }
def CellsTurnedSaid : Prop := cellsTurnedRow.holds Try.pinned (OpenSpec.ofChange cellsTurnedSpec)

/-- ITS FALSE NEIGHBOUR: 'it returns false'. Refute it at one input. -/
def cellsTurnedWrong : ChangeSpec := { name := "cellsTurned", fn := fun _ => fun
  | [d1, d2] => { results := [.lit (.bool false)], args := [d1, d2] }
  | _ => none }
def CellsTurnedWrongFalsely : Prop := cellsTurnedRow.holds Try.pinned (OpenSpec.ofChange cellsTurnedWrong)

/-- 'footpathlaw04.TriChecks': WHATEVER THE INPUT: true; the input reads as it did. -/
def triChecksSpec : ChangeSpec := { name := "triChecks", fn := fun _ => fun
  | [d1, d2] => { results := [.lit (.bool true)], args := [d1, d2] }
  | _ => none }
def triChecksRow : OpenClaim := { program := "ytmpkciidhopckaa", sum := "2e91021247acefe1bb81af5b7cefa711deb86e3f63bc282df2cd5abdf9fbb4e0", func := "footpath/footpathlaw04.TriChecks", spec := "triChecks", unfollowed := true, recurses := true, apart := false }
def TriChecksSaid : Prop := triChecksRow.holds Try.pinned (OpenSpec.ofChange triChecksSpec)

/-- ITS FALSE NEIGHBOUR: 'it returns false'. Refute it at one input. -/
def triChecksWrong : ChangeSpec := { name := "triChecks", fn := fun _ => fun
  | [d1, d2] => { results := [.lit (.bool false)], args := [d1, d2] }
  | _ => none }
def TriChecksWrongFalsely : Prop := triChecksRow.holds Try.pinned (OpenSpec.ofChange triChecksWrong)

/-- 'footpathlaw04.TriWalks': WHATEVER THE INPUT: true; the input reads as it did. -/
def triWalksSpec : ChangeSpec := { name := "triWalks", fn := fun _ => fun
  | [d1, d2, d3, d4] => { results := [.lit (.bool true)], args := [d1, d2, d3, d4] }
  | _ => none }
def triWalksRow : OpenClaim := { program := "ytmpkciidhopckaa", sum := "2e91021247acefe1bb81af5b7cefa711deb86e3f63bc282df2cd5abdf9fbb4e0", func := "footpath/footpathlaw04.TriWalks", spec := "triWalks", unfollowed := true, recurses := true, apart := false }
def TriWalksSaid : Prop := triWalksRow.holds Try.pinned (OpenSpec.ofChange triWalksSpec)

/-- ITS FALSE NEIGHBOUR: 'it returns false'. Refute it at one input. -/
def triWalksWrong : ChangeSpec := { name := "triWalks", fn := fun _ => fun
  | [d1, d2, d3, d4] => { results := [.lit (.bool false)], args := [d1, d2, d3, d4] }
  | _ => none }
def TriWalksWrongFalsely : Prop := triWalksRow.holds Try.pinned (OpenSpec.ofChange triWalksWrong)

/-- 'footpathlaw04.TriSame': WHATEVER THE INPUT: true; the input reads as it did. -/
def triSameSpec : ChangeSpec := { name := "triSame", fn := fun _ => fun
  | [d1, d2] => { results := [.lit (.bool true)], args := [d1, d2] }
  | _ => none }
def triSameRow : OpenClaim := { program := "ytmpkciidhopckaa", sum := "2e91021247acefe1bb81af5b7cefa711deb86e3f63bc282df2cd5abdf9fbb4e0", func := "footpath/footpathlaw04.TriSame", spec := "triSame", unfollowed := true, recurses := true, apart := false }
def TriSameSaid : Prop := triSameRow.holds Try.pinned (OpenSpec.ofChange triSameSpec)

/-- ITS FALSE NEIGHBOUR: 'it returns false'. Refute it at one input. -/
def triSameWrong : ChangeSpec := { name := "triSame", fn := fun _ => fun
  | [d1, d2] => { results := [.lit (.bool false)], args := [d1, d2] }
  | _ => none }
def TriSameWrongFalsely : Prop := triSameRow.holds Try.pinned (OpenSpec.ofChange triSameWrong)

/-- 'footpathlaw04.TriTurned': WHATEVER THE INPUT: true; the input reads as it did. -/
def triTurnedSpec : ChangeSpec := { name := "triTurned", fn := fun _ => fun
  | [d1, d2, d3] => { results := [.lit (.bool true)], args := [d1, d2, d3] }
  | _ => none }
def triTurnedRow : OpenClaim := { program := "ytmpkciidhopckaa", sum := "2e91021247acefe1bb81af5b7cefa711deb86e3f63bc282df2cd5abdf9fbb4e0", func := "footpath/footpathlaw04.TriTurned", spec := "triTurned", unfollowed := true, recurses := true, apart := false }
def TriTurnedSaid : Prop := triTurnedRow.holds Try.pinned (OpenSpec.ofChange triTurnedSpec)

/-- ITS FALSE NEIGHBOUR: 'it returns false'. Refute it at one input. -/
def triTurnedWrong : ChangeSpec := { name := "triTurned", fn := fun _ => fun
  | [d1, d2, d3] => { results := [.lit (.bool false)], args := [d1, d2, d3] }
  | _ => none }
def TriTurnedWrongFalsely : Prop := triTurnedRow.holds Try.pinned (OpenSpec.ofChange triTurnedWrong)

/-- 'footpathlaw04.TriEven': WHATEVER THE INPUT: true; the input reads as it did. -/
def triEvenSpec : ChangeSpec := { name := "triEven", fn := fun _ => fun
  | [d1, d2, d3, d4, d5] => { results := [.lit (.bool true)], args := [d1, d2, d3, d4, d5] }
  | _ => none }
def triEvenRow : OpenClaim := { program := "ytmpkciidhopckaa", sum := "2e91021247acefe1bb81af5b7cefa711deb86e3f63bc282df2cd5abdf9fbb4e0", func := "footpath/footpathlaw04.TriEven", spec := "triEven", unfollowed := true, recurses := true, apart := false }
def TriEvenSaid : Prop := triEvenRow.holds Try.pinned (OpenSpec.ofChange triEvenSpec)

/-- ITS FALSE NEIGHBOUR: 'it returns false'. Refute it at one input. -/
def triEvenWrong : ChangeSpec := { name := "triEven", fn := fun _ => fun
  | [d1, d2, d3, d4, d5] => { results := [.lit (.bool false)], args := [d1, d2, d3, d4, d5] }
  | _ => none }
def TriEvenWrongFalsely : Prop := triEvenRow.holds Try.pinned (OpenSpec.ofChange triEvenWrong)

/- THE SECOND FORM. 'bulk': how many values and letters a reading holds, each counted each time it is reached (what is shared counts as often as it is met; a slice's spare places count too). A statement '..UptoSaid' is the law's where the arguments, and the package variables that the reading takes, are together of bulk at most 1048576: NARROWER than '..Said'. Prove '..Said' where nothing that the law and all that it calls make is longer than what came in: it says more and counts as full. Else prove '..UptoSaid'. A law counts once. -/
mutual
def uptoBulk {H : Type} : DataW H → Nat
  | .lit (.string bytes) => bytes.length + 1
  | .lit _ => 1
  | .nil => 1
  | .ptr d => uptoBulk d + 1
  | .slice elems spare => uptoBulkAll elems + uptoBulkAll spare + 1
  | .agg parts => uptoBulkAll parts + 1
  | .iface _ d => uptoBulk d + 1
  | .map entries => uptoBulkEntries entries + 1
  | .held _ => 1
def uptoBulkAll {H : Type} : List (DataW H) → Nat
  | [] => 0
  | d :: r => uptoBulk d + uptoBulkAll r
def uptoBulkEntries {H : Type} : List (Lit × DataW H) → Nat
  | [] => 0
  | x :: r => uptoBulkEntry x + uptoBulkEntries r
def uptoBulkEntry {H : Type} : Lit × DataW H → Nat
  | (.string bytes, d) => bytes.length + uptoBulk d + 1
  | (_, d) => uptoBulk d + 1
 end
def uptoSmall : (H : Type) → List (DataW H) → Bool := fun _ ds => decide (uptoBulkAll ds ≤ 1048576)
def OpenSpec.upto (s : _root_.Go.ChangeSpec) : _root_.Go.OpenSpec := { _root_.Go.OpenSpec.ofChange s with cond := some uptoSmall }

/-- 'footpathlaw03.CellsTell', WHERE WHAT IT READS IS OF BULK AT MOST 1048576: true; the input reads as it did. -/
def cellsTellUptoRow : OpenClaim := { program := "ytmpkciidhopckaa", sum := "2e91021247acefe1bb81af5b7cefa711deb86e3f63bc282df2cd5abdf9fbb4e0", func := "footpath/footpathlaw03.CellsTell", spec := "cellsTell", inPlace := ["internal/reflectlite.ValueOf", "internal/reflectlite.Swapper", "(internal/reflectlite.Value).Len"], unfollowed := true, recurses := true, apart := false, narrowed := true }
def CellsTellUptoSaid : Prop := cellsTellUptoRow.holds Try.pinned (OpenSpec.upto cellsTellSpec)

/-- 'footpathlaw03.CellsTurned', WHERE WHAT IT READS IS OF BULK AT MOST 1048576: true; the input reads as it did. -/
def cellsTurnedUptoRow : OpenClaim := { program := "ytmpkciidhopckaa", sum := "2e91021247acefe1bb81af5b7cefa711deb86e3f63bc282df2cd5abdf9fbb4e0", func := "footpath/footpathlaw03.CellsTurned", spec := "cellsTurned", inPlace := ["internal/reflectlite.ValueOf", "internal/reflectlite.Swapper", "(internal/reflectlite.Value).Len"], unfollowed := true, recurses := true, apart := false, narrowed := true }
def CellsTurnedUptoSaid : Prop := cellsTurnedUptoRow.holds Try.pinned (OpenSpec.upto cellsTurnedSpec)

/-- 'footpathlaw04.TriChecks', WHERE WHAT IT READS IS OF BULK AT MOST 1048576: true; the input reads as it did. -/
def triChecksUptoRow : OpenClaim := { program := "ytmpkciidhopckaa", sum := "2e91021247acefe1bb81af5b7cefa711deb86e3f63bc282df2cd5abdf9fbb4e0", func := "footpath/footpathlaw04.TriChecks", spec := "triChecks", unfollowed := true, recurses := true, apart := false, narrowed := true }
def TriChecksUptoSaid : Prop := triChecksUptoRow.holds Try.pinned (OpenSpec.upto triChecksSpec)

/-- 'footpathlaw04.TriWalks', WHERE WHAT IT READS IS OF BULK AT MOST 1048576: true; the input reads as it did. -/
def triWalksUptoRow : OpenClaim := { program := "ytmpkciidhopckaa", sum := "2e91021247acefe1bb81af5b7cefa711deb86e3f63bc282df2cd5abdf9fbb4e0", func := "footpath/footpathlaw04.TriWalks", spec := "triWalks", unfollowed := true, recurses := true, apart := false, narrowed := true }
def TriWalksUptoSaid : Prop := triWalksUptoRow.holds Try.pinned (OpenSpec.upto triWalksSpec)

/-- 'footpathlaw04.TriSame', WHERE WHAT IT READS IS OF BULK AT MOST 1048576: true; the input reads as it did. -/
def triSameUptoRow : OpenClaim := { program := "ytmpkciidhopckaa", sum := "2e91021247acefe1bb81af5b7cefa711deb86e3f63bc282df2cd5abdf9fbb4e0", func := "footpath/footpathlaw04.TriSame", spec := "triSame", unfollowed := true, recurses := true, apart := false, narrowed := true }
def TriSameUptoSaid : Prop := triSameUptoRow.holds Try.pinned (OpenSpec.upto triSameSpec)

/-- 'footpathlaw04.TriTurned', WHERE WHAT IT READS IS OF BULK AT MOST 1048576: true; the input reads as it did. -/
def triTurnedUptoRow : OpenClaim := { program := "ytmpkciidhopckaa", sum := "2e91021247acefe1bb81af5b7cefa711deb86e3f63bc282df2cd5abdf9fbb4e0", func := "footpath/footpathlaw04.TriTurned", spec := "triTurned", unfollowed := true, recurses := true, apart := false, narrowed := true }
def TriTurnedUptoSaid : Prop := triTurnedUptoRow.holds Try.pinned (OpenSpec.upto triTurnedSpec)

/-- 'footpathlaw04.TriEven', WHERE WHAT IT READS IS OF BULK AT MOST 1048576: true; the input reads as it did. -/
def triEvenUptoRow : OpenClaim := { program := "ytmpkciidhopckaa", sum := "2e91021247acefe1bb81af5b7cefa711deb86e3f63bc282df2cd5abdf9fbb4e0", func := "footpath/footpathlaw04.TriEven", spec := "triEven", unfollowed := true, recurses := true, apart := false, narrowed := true }
def TriEvenUptoSaid : Prop := triEvenUptoRow.holds Try.pinned (OpenSpec.upto triEvenSpec)

end Rows
end Go.Proofs.Ytmpkciidhopckaa
