/-
  No cell of these rows narrows 'for every input' (looked for: loops, veiled, ifaces, maps, wideKeys, modest, calm, conditions, laid).
  DERIVED. THE GIVEN ROWS OF THIS SEAT. 4 by the template 'for every input the law returns true; each argument reads behind the call as it read before'; 0 by the template 'total and deterministic' (their statements: YtgpjeijhbikjaaaTotals.lean).
  GIVEN WITH THE SEED: the statements are not yours to turn. If you find one false, say at which input.
  Laid BY PROGRAM, IN A SANDBOX (cutbox-rows.mjs): the forced cells as the released guide's own fill.sh prints them over the translation 6f68693d61aa6db9… (all of the seat's roots in one cut). By AI agents, Wed Nov 11 2026. No macro, syntax, notation, axiom, sorry.
-/
import Derived.Test.YtgpjeijhbikjaaaChecked
import GoSem.Claim
import GoSem.ClaimJoined
import GoSem.ClaimMapViews
import Derived.JoinedTies
import Derived.KernelRfl
namespace Go.Proofs.Ytgpjeijhbikjaaa
/- THE CELL 'sum', in the pinned program and in every row, IS THE sha256 OF THE DUMP (.gsa) THAT YtgpjeijhbikjaaaProg.lean LOADS. Nothing in Lean hashes anything: it is a label: what it is worth is what the hold of that sum in a sandbox is worth. -/
noncomputable def Try.pinned : Pinned := { name := "ytgpjeijhbikjaaa", sum := "6f68693d61aa6db9d7e7ac5d26f503371b25aa2d8c610f86fb7f0a2aed5d6db3", checked := Try.checked }
namespace Rows
def none {H : Type} : Left H := { results := [], args := [] }

/-- 'footpathlaw02.GeomTurns': WHATEVER THE INPUT: true; the input reads as it did. -/
def geomTurnsSpec : ChangeSpec := { name := "geomTurns", fn := fun _ => fun
  | [d1, d2, d3, d4] => { results := [.lit (.bool true)], args := [d1, d2, d3, d4] }
  | _ => none }
def geomTurnsRow : OpenClaim := { program := "ytgpjeijhbikjaaa", sum := "6f68693d61aa6db9d7e7ac5d26f503371b25aa2d8c610f86fb7f0a2aed5d6db3", func := "footpath/footpathlaw02.GeomTurns", spec := "geomTurns", apart := false }
def GeomTurnsSaid : Prop := geomTurnsRow.holds Try.pinned (OpenSpec.ofChange geomTurnsSpec)

/-- ITS FALSE NEIGHBOUR: 'it returns false'. Refute it at one input. -/
def geomTurnsWrong : ChangeSpec := { name := "geomTurns", fn := fun _ => fun
  | [d1, d2, d3, d4] => { results := [.lit (.bool false)], args := [d1, d2, d3, d4] }
  | _ => none }
def GeomTurnsWrongFalsely : Prop := geomTurnsRow.holds Try.pinned (OpenSpec.ofChange geomTurnsWrong)

/-- 'footpathlaw02.GeomStraight': WHATEVER THE INPUT: true; the input reads as it did. -/
def geomStraightSpec : ChangeSpec := { name := "geomStraight", fn := fun _ => fun
  | [d] => { results := [.lit (.bool true)], args := [d] }
  | _ => none }
def geomStraightRow : OpenClaim := { program := "ytgpjeijhbikjaaa", sum := "6f68693d61aa6db9d7e7ac5d26f503371b25aa2d8c610f86fb7f0a2aed5d6db3", func := "footpath/footpathlaw02.GeomStraight", spec := "geomStraight", apart := false }
def GeomStraightSaid : Prop := geomStraightRow.holds Try.pinned (OpenSpec.ofChange geomStraightSpec)

/-- ITS FALSE NEIGHBOUR: 'it returns false'. Refute it at one input. -/
def geomStraightWrong : ChangeSpec := { name := "geomStraight", fn := fun _ => fun
  | [d] => { results := [.lit (.bool false)], args := [d] }
  | _ => none }
def GeomStraightWrongFalsely : Prop := geomStraightRow.holds Try.pinned (OpenSpec.ofChange geomStraightWrong)

/-- 'footpathlaw02.GeomSwaps': WHATEVER THE INPUT: true; the input reads as it did. -/
def geomSwapsSpec : ChangeSpec := { name := "geomSwaps", fn := fun _ => fun
  | [d1, d2, d3, d4, d5] => { results := [.lit (.bool true)], args := [d1, d2, d3, d4, d5] }
  | _ => none }
def geomSwapsRow : OpenClaim := { program := "ytgpjeijhbikjaaa", sum := "6f68693d61aa6db9d7e7ac5d26f503371b25aa2d8c610f86fb7f0a2aed5d6db3", func := "footpath/footpathlaw02.GeomSwaps", spec := "geomSwaps", apart := false }
def GeomSwapsSaid : Prop := geomSwapsRow.holds Try.pinned (OpenSpec.ofChange geomSwapsSpec)

/-- ITS FALSE NEIGHBOUR: 'it returns false'. Refute it at one input. -/
def geomSwapsWrong : ChangeSpec := { name := "geomSwaps", fn := fun _ => fun
  | [d1, d2, d3, d4, d5] => { results := [.lit (.bool false)], args := [d1, d2, d3, d4, d5] }
  | _ => none }
def GeomSwapsWrongFalsely : Prop := geomSwapsRow.holds Try.pinned (OpenSpec.ofChange geomSwapsWrong)

/-- 'footpathlaw02.GeomTouches': WHATEVER THE INPUT: true; the input reads as it did. -/
def geomTouchesSpec : ChangeSpec := { name := "geomTouches", fn := fun _ => fun
  | [d1, d2, d3, d4, d5] => { results := [.lit (.bool true)], args := [d1, d2, d3, d4, d5] }
  | _ => none }
def geomTouchesRow : OpenClaim := { program := "ytgpjeijhbikjaaa", sum := "6f68693d61aa6db9d7e7ac5d26f503371b25aa2d8c610f86fb7f0a2aed5d6db3", func := "footpath/footpathlaw02.GeomTouches", spec := "geomTouches", apart := false }
def GeomTouchesSaid : Prop := geomTouchesRow.holds Try.pinned (OpenSpec.ofChange geomTouchesSpec)

/-- ITS FALSE NEIGHBOUR: 'it returns false'. Refute it at one input. -/
def geomTouchesWrong : ChangeSpec := { name := "geomTouches", fn := fun _ => fun
  | [d1, d2, d3, d4, d5] => { results := [.lit (.bool false)], args := [d1, d2, d3, d4, d5] }
  | _ => none }
def GeomTouchesWrongFalsely : Prop := geomTouchesRow.holds Try.pinned (OpenSpec.ofChange geomTouchesWrong)

/- THE SECOND FORM. 'bulk': how many values and letters a reading holds, each counted each time it is reached (what is shared counts as often as it is met; a slice's spare places count too). A statement '..UptoSaid' is the law's where the arguments, and the package variables that the reading takes, are together of bulk at most 1048576: NARROWER than '..Said'. Prove '..Said' where nothing that the law and all that it calls make is longer than what came in: it says more and counts as full. Else prove '..UptoSaid'. A law counts once. -/
mutual
def uptoBulk {H : Type} : DataW H → Nat
  | .lit (.string bytes) => bytes.length + 1
  | .lit _ => 1
  | .nil => 1
  | .ptr d => uptoBulk d + 1
  | .slice elems spare => uptoBulkAll elems + uptoBulkAll spare + 1
  | .agg parts => uptoBulkAll parts + 1
  | .iface _ d => uptoBulk d + 1
  | .map entries => uptoBulkEntries entries + 1
  | .held _ => 1
def uptoBulkAll {H : Type} : List (DataW H) → Nat
  | [] => 0
  | d :: r => uptoBulk d + uptoBulkAll r
def uptoBulkEntries {H : Type} : List (Lit × DataW H) → Nat
  | [] => 0
  | x :: r => uptoBulkEntry x + uptoBulkEntries r
def uptoBulkEntry {H : Type} : Lit × DataW H → Nat
  | (.string bytes, d) => bytes.length + uptoBulk d + 1
  | (_, d) => uptoBulk d + 1
 end
def uptoSmall : (H : Type) → List (DataW H) → Bool := fun _ ds => decide (uptoBulkAll ds ≤ 1048576)
def OpenSpec.upto (s : _root_.Go.ChangeSpec) : _root_.Go.OpenSpec := { _root_.Go.OpenSpec.ofChange s with cond := some uptoSmall }

/-- 'footpathlaw02.GeomTurns', WHERE WHAT IT READS IS OF BULK AT MOST 1048576: true; the input reads as it did. -/
def geomTurnsUptoRow : OpenClaim := { program := "ytgpjeijhbikjaaa", sum := "6f68693d61aa6db9d7e7ac5d26f503371b25aa2d8c610f86fb7f0a2aed5d6db3", func := "footpath/footpathlaw02.GeomTurns", spec := "geomTurns", apart := false, narrowed := true }
def GeomTurnsUptoSaid : Prop := geomTurnsUptoRow.holds Try.pinned (OpenSpec.upto geomTurnsSpec)

/-- 'footpathlaw02.GeomStraight', WHERE WHAT IT READS IS OF BULK AT MOST 1048576: true; the input reads as it did. -/
def geomStraightUptoRow : OpenClaim := { program := "ytgpjeijhbikjaaa", sum := "6f68693d61aa6db9d7e7ac5d26f503371b25aa2d8c610f86fb7f0a2aed5d6db3", func := "footpath/footpathlaw02.GeomStraight", spec := "geomStraight", apart := false, narrowed := true }
def GeomStraightUptoSaid : Prop := geomStraightUptoRow.holds Try.pinned (OpenSpec.upto geomStraightSpec)

/-- 'footpathlaw02.GeomSwaps', WHERE WHAT IT READS IS OF BULK AT MOST 1048576: true; the input reads as it did. -/
def geomSwapsUptoRow : OpenClaim := { program := "ytgpjeijhbikjaaa", sum := "6f68693d61aa6db9d7e7ac5d26f503371b25aa2d8c610f86fb7f0a2aed5d6db3", func := "footpath/footpathlaw02.GeomSwaps", spec := "geomSwaps", apart := false, narrowed := true }
def GeomSwapsUptoSaid : Prop := geomSwapsUptoRow.holds Try.pinned (OpenSpec.upto geomSwapsSpec)

/-- 'footpathlaw02.GeomTouches', WHERE WHAT IT READS IS OF BULK AT MOST 1048576: true; the input reads as it did. -/
def geomTouchesUptoRow : OpenClaim := { program := "ytgpjeijhbikjaaa", sum := "6f68693d61aa6db9d7e7ac5d26f503371b25aa2d8c610f86fb7f0a2aed5d6db3", func := "footpath/footpathlaw02.GeomTouches", spec := "geomTouches", apart := false, narrowed := true }
def GeomTouchesUptoSaid : Prop := geomTouchesUptoRow.holds Try.pinned (OpenSpec.upto geomTouchesSpec)

end Rows
end Go.Proofs.Ytgpjeijhbikjaaa
