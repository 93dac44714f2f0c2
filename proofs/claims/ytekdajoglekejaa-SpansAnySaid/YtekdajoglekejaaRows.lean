/-
  No cell of these rows narrows 'for every input' (looked for: loops, veiled, ifaces, maps, wideKeys, modest, calm, conditions, laid).
  DERIVED. THE GIVEN ROWS OF THIS SEAT. 5 by the template 'for every input the law returns true; each argument reads behind the call as it read before'; 0 by the template 'total and deterministic' (their statements: YtekdajoglekejaaTotals.lean).
  GIVEN WITH THE SEED: the statements are not yours to turn. If you find one false, say at which input.
  Laid BY PROGRAM, IN A SANDBOX (cutbox-rows.mjs): the forced cells as the released guide's own fill.sh prints them over the translation b74631b30530c347… (all of the seat's roots in one cut). By AI agents, Wed Nov 11 2026. No macro, syntax, notation, axiom, sorry.
-/
import Derived.Test.YtekdajoglekejaaChecked
import GoSem.Claim
import GoSem.ClaimJoined
import GoSem.ClaimMapViews
import Derived.JoinedTies
import Derived.KernelRfl
namespace Go.Proofs.Ytekdajoglekejaa
/- THE CELL 'sum', in the pinned program and in every row, IS THE sha256 OF THE DUMP (.gsa) THAT YtekdajoglekejaaProg.lean LOADS. Nothing in Lean hashes anything: it is a label: what it is worth is what the hold of that sum in a sandbox is worth. -/
noncomputable def Try.pinned : Pinned := { name := "ytekdajoglekejaa", sum := "b74631b30530c3472abb11722afc799c74279cd708635d956a64633a1575166f", checked := Try.checked }
namespace Rows
def none {H : Type} : Left H := { results := [], args := [] }

/-- 'footpathlaw08.SpansMerge': WHATEVER THE INPUT: true; the input reads as it did. -/
def spansMergeSpec : ChangeSpec := { name := "spansMerge", fn := fun _ => fun
  | [d] => { results := [.lit (.bool true)], args := [d] }
  | _ => none }
def spansMergeRow : OpenClaim := { program := "ytekdajoglekejaa", sum := "b74631b30530c3472abb11722afc799c74279cd708635d956a64633a1575166f", func := "footpath/footpathlaw08.SpansMerge", spec := "spansMerge", unfollowed := true, recurses := true, apart := false }
def SpansMergeSaid : Prop := spansMergeRow.holds Try.pinned (OpenSpec.ofChange spansMergeSpec)

/-- ITS FALSE NEIGHBOUR: 'it returns false'. Refute it at one input. -/
def spansMergeWrong : ChangeSpec := { name := "spansMerge", fn := fun _ => fun
  | [d] => { results := [.lit (.bool false)], args := [d] }
  | _ => none }
def SpansMergeWrongFalsely : Prop := spansMergeRow.holds Try.pinned (OpenSpec.ofChange spansMergeWrong)

/-- 'footpathlaw08.SpansPut': WHATEVER THE INPUT: true; the input reads as it did. -/
def spansPutSpec : ChangeSpec := { name := "spansPut", fn := fun _ => fun
  | [d1, d2, d3, d4] => { results := [.lit (.bool true)], args := [d1, d2, d3, d4] }
  | _ => none }
def spansPutRow : OpenClaim := { program := "ytekdajoglekejaa", sum := "b74631b30530c3472abb11722afc799c74279cd708635d956a64633a1575166f", func := "footpath/footpathlaw08.SpansPut", spec := "spansPut", unfollowed := true, recurses := true, apart := false }
def SpansPutSaid : Prop := spansPutRow.holds Try.pinned (OpenSpec.ofChange spansPutSpec)

/-- ITS FALSE NEIGHBOUR: 'it returns false'. Refute it at one input. -/
def spansPutWrong : ChangeSpec := { name := "spansPut", fn := fun _ => fun
  | [d1, d2, d3, d4] => { results := [.lit (.bool false)], args := [d1, d2, d3, d4] }
  | _ => none }
def SpansPutWrongFalsely : Prop := spansPutRow.holds Try.pinned (OpenSpec.ofChange spansPutWrong)

/-- 'footpathlaw08.SpansAny': WHATEVER THE INPUT: true; the input reads as it did. -/
def spansAnySpec : ChangeSpec := { name := "spansAny", fn := fun _ => fun
  | [d1, d2, d3, d4] => { results := [.lit (.bool true)], args := [d1, d2, d3, d4] }
  | _ => none }
def spansAnyRow : OpenClaim := { program := "ytekdajoglekejaa", sum := "b74631b30530c3472abb11722afc799c74279cd708635d956a64633a1575166f", func := "footpath/footpathlaw08.SpansAny", spec := "spansAny", unfollowed := true, recurses := true, apart := false }
def SpansAnySaid : Prop := spansAnyRow.holds Try.pinned (OpenSpec.ofChange spansAnySpec)

/-- ITS FALSE NEIGHBOUR: 'it returns false'. Refute it at one input. -/
def spansAnyWrong : ChangeSpec := { name := "spansAny", fn := fun _ => fun
  | [d1, d2, d3, d4] => { results := [.lit (.bool false)], args := [d1, d2, d3, d4] }
  | _ => none }
def SpansAnyWrongFalsely : Prop := spansAnyRow.holds Try.pinned (OpenSpec.ofChange spansAnyWrong)

/-- 'footpathlaw08.SpansTop': WHATEVER THE INPUT: true; the input reads as it did. -/
def spansTopSpec : ChangeSpec := { name := "spansTop", fn := fun _ => fun
  | [d] => { results := [.lit (.bool true)], args := [d] }
  | _ => none }
def spansTopRow : OpenClaim := { program := "ytekdajoglekejaa", sum := "b74631b30530c3472abb11722afc799c74279cd708635d956a64633a1575166f", func := "footpath/footpathlaw08.SpansTop", spec := "spansTop", unfollowed := true, recurses := true, apart := false }
def SpansTopSaid : Prop := spansTopRow.holds Try.pinned (OpenSpec.ofChange spansTopSpec)

/-- ITS FALSE NEIGHBOUR: 'it returns false'. Refute it at one input. -/
def spansTopWrong : ChangeSpec := { name := "spansTop", fn := fun _ => fun
  | [d] => { results := [.lit (.bool false)], args := [d] }
  | _ => none }
def SpansTopWrongFalsely : Prop := spansTopRow.holds Try.pinned (OpenSpec.ofChange spansTopWrong)

/-- 'footpathlaw08.SpansSolid': WHATEVER THE INPUT: true; the input reads as it did. -/
def spansSolidSpec : ChangeSpec := { name := "spansSolid", fn := fun _ => fun
  | [d1, d2, d3] => { results := [.lit (.bool true)], args := [d1, d2, d3] }
  | _ => none }
def spansSolidRow : OpenClaim := { program := "ytekdajoglekejaa", sum := "b74631b30530c3472abb11722afc799c74279cd708635d956a64633a1575166f", func := "footpath/footpathlaw08.SpansSolid", spec := "spansSolid", unfollowed := true, recurses := true, apart := false }
def SpansSolidSaid : Prop := spansSolidRow.holds Try.pinned (OpenSpec.ofChange spansSolidSpec)

/-- ITS FALSE NEIGHBOUR: 'it returns false'. Refute it at one input. -/
def spansSolidWrong : ChangeSpec := { name := "spansSolid", fn := fun _ => fun
  | [d1, d2, d3] => { results := [.lit (.bool false)], args := [d1, d2, d3] }
  | _ => none }
def SpansSolidWrongFalsely : Prop := spansSolidRow.holds Try.pinned (OpenSpec.ofChange spansSolidWrong)

/- THE SECOND FORM. 'bulk': how many values and letters a reading holds, each counted each time it is reached (what is shared counts as often as it is met; a slice's spare places count too). A statement '..UptoSaid' is the law's where the arguments, and the package variables that the reading takes, are together of bulk at most 1048576: NARROWER than '..Said'. Prove '..Said' where nothing that the law and all that it calls make is longer than what came in: it says more and counts as full. Else prove '..UptoSaid'. A law counts once. -/
mutual
def uptoBulk {H : Type} : DataW H → Nat
  | .lit (.string bytes) => bytes.length + 1
  | .lit _ => 1
  | .nil => 1
  | .ptr d => uptoBulk d + 1
  | .slice elems spare => uptoBulkAll elems + uptoBulkAll spare + 1
  | .agg parts => uptoBulkAll parts + 1
  | .iface _ d => uptoBulk d + 1
  | .map entries => uptoBulkEntries entries + 1
  | .held _ => 1
def uptoBulkAll {H : Type} : List (DataW H) → Nat
  | [] => 0
  | d :: r => uptoBulk d + uptoBulkAll r
def uptoBulkEntries {H : Type} : List (Lit × DataW H) → Nat
  | [] => 0
  | x :: r => uptoBulkEntry x + uptoBulkEntries r
def uptoBulkEntry {H : Type} : Lit × DataW H → Nat
  | (.string bytes, d) => bytes.length + uptoBulk d + 1
  | (_, d) => uptoBulk d + 1
 end
def uptoSmall : (H : Type) → List (DataW H) → Bool := fun _ ds => decide (uptoBulkAll ds ≤ 1048576)
def OpenSpec.upto (s : _root_.Go.ChangeSpec) : _root_.Go.OpenSpec := { _root_.Go.OpenSpec.ofChange s with cond := some uptoSmall }

/-- 'footpathlaw08.SpansMerge', WHERE WHAT IT READS IS OF BULK AT MOST 1048576: true; the input reads as it did. -/
def spansMergeUptoRow : OpenClaim := { program := "ytekdajoglekejaa", sum := "b74631b30530c3472abb11722afc799c74279cd708635d956a64633a1575166f", func := "footpath/footpathlaw08.SpansMerge", spec := "spansMerge", unfollowed := true, recurses := true, apart := false, narrowed := true }
def SpansMergeUptoSaid : Prop := spansMergeUptoRow.holds Try.pinned (OpenSpec.upto spansMergeSpec)

/-- 'footpathlaw08.SpansPut', WHERE WHAT IT READS IS OF BULK AT MOST 1048576: true; the input reads as it did. -/
def spansPutUptoRow : OpenClaim := { program := "ytekdajoglekejaa", sum := "b74631b30530c3472abb11722afc799c74279cd708635d956a64633a1575166f", func := "footpath/footpathlaw08.SpansPut", spec := "spansPut", unfollowed := true, recurses := true, apart := false, narrowed := true }
def SpansPutUptoSaid : Prop := spansPutUptoRow.holds Try.pinned (OpenSpec.upto spansPutSpec)

/-- 'footpathlaw08.SpansAny', WHERE WHAT IT READS IS OF BULK AT MOST 1048576: true; the input reads as it did. -/
def spansAnyUptoRow : OpenClaim := { program := "ytekdajoglekejaa", sum := "b74631b30530c3472abb11722afc799c74279cd708635d956a64633a1575166f", func := "footpath/footpathlaw08.SpansAny", spec := "spansAny", unfollowed := true, recurses := true, apart := false, narrowed := true }
def SpansAnyUptoSaid : Prop := spansAnyUptoRow.holds Try.pinned (OpenSpec.upto spansAnySpec)

/-- 'footpathlaw08.SpansTop', WHERE WHAT IT READS IS OF BULK AT MOST 1048576: true; the input reads as it did. -/
def spansTopUptoRow : OpenClaim := { program := "ytekdajoglekejaa", sum := "b74631b30530c3472abb11722afc799c74279cd708635d956a64633a1575166f", func := "footpath/footpathlaw08.SpansTop", spec := "spansTop", unfollowed := true, recurses := true, apart := false, narrowed := true }
def SpansTopUptoSaid : Prop := spansTopUptoRow.holds Try.pinned (OpenSpec.upto spansTopSpec)

/-- 'footpathlaw08.SpansSolid', WHERE WHAT IT READS IS OF BULK AT MOST 1048576: true; the input reads as it did. -/
def spansSolidUptoRow : OpenClaim := { program := "ytekdajoglekejaa", sum := "b74631b30530c3472abb11722afc799c74279cd708635d956a64633a1575166f", func := "footpath/footpathlaw08.SpansSolid", spec := "spansSolid", unfollowed := true, recurses := true, apart := false, narrowed := true }
def SpansSolidUptoSaid : Prop := spansSolidUptoRow.holds Try.pinned (OpenSpec.upto spansSolidSpec)

end Rows
end Go.Proofs.Ytekdajoglekejaa
