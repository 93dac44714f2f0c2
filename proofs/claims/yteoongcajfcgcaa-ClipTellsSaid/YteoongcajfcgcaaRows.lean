/-
  No cell of these rows narrows 'for every input' (looked for: loops, veiled, ifaces, maps, wideKeys, modest, calm, conditions, laid).
  DERIVED. THE GIVEN ROWS OF THIS SEAT. 4 by the template 'for every input the law returns true; each argument reads behind the call as it read before'; 0 by the template 'total and deterministic' (their statements: YteoongcajfcgcaaTotals.lean).
  GIVEN WITH THE SEED: the statements are not yours to turn. If you find one false, say at which input.
  Laid BY PROGRAM, IN A SANDBOX (cutbox-rows.mjs): the forced cells as the released guide's own fill.sh prints them over the translation 787482cc56c90834… (all of the seat's roots in one cut). By AI agents, Wed Nov 11 2026. No macro, syntax, notation, axiom, sorry.
-/
import Derived.Test.YteoongcajfcgcaaChecked
import GoSem.Claim
import GoSem.ClaimJoined
import GoSem.ClaimMapViews
import Derived.JoinedTies
import Derived.KernelRfl
namespace Go.Proofs.Yteoongcajfcgcaa
/- THE CELL 'sum', in the pinned program and in every row, IS THE sha256 OF THE DUMP (.gsa) THAT YteoongcajfcgcaaProg.lean LOADS. Nothing in Lean hashes anything: it is a label: what it is worth is what the hold of that sum in a sandbox is worth. -/
noncomputable def Try.pinned : Pinned := { name := "yteoongcajfcgcaa", sum := "787482cc56c90834fa71deea529c7813ad45573dd6e579eaa092361b3b1c18e7", checked := Try.checked }
namespace Rows
def none {H : Type} : Left H := { results := [], args := [] }

/-- 'footpathlaw07.ClipTells': WHATEVER THE INPUT: true; the input reads as it did. -/
def clipTellsSpec : ChangeSpec := { name := "clipTells", fn := fun _ => fun
  | [d1, d2, d3] => { results := [.lit (.bool true)], args := [d1, d2, d3] }
  | _ => none }
def clipTellsRow : OpenClaim := { program := "yteoongcajfcgcaa", sum := "787482cc56c90834fa71deea529c7813ad45573dd6e579eaa092361b3b1c18e7", func := "footpath/footpathlaw07.ClipTells", spec := "clipTells", unfollowed := true, recurses := true, apart := false }
def ClipTellsSaid : Prop := clipTellsRow.holds Try.pinned (OpenSpec.ofChange clipTellsSpec)

/-- ITS FALSE NEIGHBOUR: 'it returns false'. Refute it at one input. -/
def clipTellsWrong : ChangeSpec := { name := "clipTells", fn := fun _ => fun
  | [d1, d2, d3] => { results := [.lit (.bool false)], args := [d1, d2, d3] }
  | _ => none }
def ClipTellsWrongFalsely : Prop := clipTellsRow.holds Try.pinned (OpenSpec.ofChange clipTellsWrong)

/-- 'footpathlaw07.ClipBetween': WHATEVER THE INPUT: true; the input reads as it did. -/
def clipBetweenSpec : ChangeSpec := { name := "clipBetween", fn := fun _ => fun
  | [d1, d2, d3] => { results := [.lit (.bool true)], args := [d1, d2, d3] }
  | _ => none }
def clipBetweenRow : OpenClaim := { program := "yteoongcajfcgcaa", sum := "787482cc56c90834fa71deea529c7813ad45573dd6e579eaa092361b3b1c18e7", func := "footpath/footpathlaw07.ClipBetween", spec := "clipBetween", unfollowed := true, recurses := true, apart := false }
def ClipBetweenSaid : Prop := clipBetweenRow.holds Try.pinned (OpenSpec.ofChange clipBetweenSpec)

/-- ITS FALSE NEIGHBOUR: 'it returns false'. Refute it at one input. -/
def clipBetweenWrong : ChangeSpec := { name := "clipBetween", fn := fun _ => fun
  | [d1, d2, d3] => { results := [.lit (.bool false)], args := [d1, d2, d3] }
  | _ => none }
def ClipBetweenWrongFalsely : Prop := clipBetweenRow.holds Try.pinned (OpenSpec.ofChange clipBetweenWrong)

/-- 'footpathlaw07.ClipFlat': WHATEVER THE INPUT: true; the input reads as it did. -/
def clipFlatSpec : ChangeSpec := { name := "clipFlat", fn := fun _ => fun
  | [d1, d2, d3, d4] => { results := [.lit (.bool true)], args := [d1, d2, d3, d4] }
  | _ => none }
def clipFlatRow : OpenClaim := { program := "yteoongcajfcgcaa", sum := "787482cc56c90834fa71deea529c7813ad45573dd6e579eaa092361b3b1c18e7", func := "footpath/footpathlaw07.ClipFlat", spec := "clipFlat", unfollowed := true, recurses := true, apart := false }
def ClipFlatSaid : Prop := clipFlatRow.holds Try.pinned (OpenSpec.ofChange clipFlatSpec)

/-- ITS FALSE NEIGHBOUR: 'it returns false'. Refute it at one input. -/
def clipFlatWrong : ChangeSpec := { name := "clipFlat", fn := fun _ => fun
  | [d1, d2, d3, d4] => { results := [.lit (.bool false)], args := [d1, d2, d3, d4] }
  | _ => none }
def ClipFlatWrongFalsely : Prop := clipFlatRow.holds Try.pinned (OpenSpec.ofChange clipFlatWrong)

/-- 'footpathlaw07.ClipCorners': WHATEVER THE INPUT: true; the input reads as it did. -/
def clipCornersSpec : ChangeSpec := { name := "clipCorners", fn := fun _ => fun
  | [d1, d2, d3] => { results := [.lit (.bool true)], args := [d1, d2, d3] }
  | _ => none }
def clipCornersRow : OpenClaim := { program := "yteoongcajfcgcaa", sum := "787482cc56c90834fa71deea529c7813ad45573dd6e579eaa092361b3b1c18e7", func := "footpath/footpathlaw07.ClipCorners", spec := "clipCorners", unfollowed := true, recurses := true, apart := false }
def ClipCornersSaid : Prop := clipCornersRow.holds Try.pinned (OpenSpec.ofChange clipCornersSpec)

/-- ITS FALSE NEIGHBOUR: 'it returns false'. Refute it at one input. -/
def clipCornersWrong : ChangeSpec := { name := "clipCorners", fn := fun _ => fun
  | [d1, d2, d3] => { results := [.lit (.bool false)], args := [d1, d2, d3] }
  | _ => none }
def ClipCornersWrongFalsely : Prop := clipCornersRow.holds Try.pinned (OpenSpec.ofChange clipCornersWrong)

/- THE SECOND FORM. 'bulk': how many values and letters a reading holds, each counted each time it is reached (what is shared counts as often as it is met; a slice's spare places count too). A statement '..UptoSaid' is the law's where the arguments, and the package variables that the reading takes, are together of bulk at most 1048576: NARROWER than '..Said'. Prove '..Said' where nothing that the law and all that it calls make is longer than what came in: it says more and counts as full. Else prove '..UptoSaid'. A law counts once. -/
mutual
def uptoBulk {H : Type} : DataW H → Nat
  | .lit (.string bytes) => bytes.length + 1
  | .lit _ => 1
  | .nil => 1
  | .ptr d => uptoBulk d + 1
  | .slice elems spare => uptoBulkAll elems + uptoBulkAll spare + 1
  | .agg parts => uptoBulkAll parts + 1
  | .iface _ d => uptoBulk d + 1
  | .map entries => uptoBulkEntries entries + 1
  | .held _ => 1
def uptoBulkAll {H : Type} : List (DataW H) → Nat
  | [] => 0
  | d :: r => uptoBulk d + uptoBulkAll r
def uptoBulkEntries {H : Type} : List (Lit × DataW H) → Nat
  | [] => 0
  | x :: r => uptoBulkEntry x + uptoBulkEntries r
def uptoBulkEntry {H : Type} : Lit × DataW H → Nat
  | (.string bytes, d) => bytes.length + uptoBulk d + 1
  | (_, d) => uptoBulk d + 1
 end
def uptoSmall : (H : Type) → List (DataW H) → Bool := fun _ ds => decide (uptoBulkAll ds ≤ 1048576)
def OpenSpec.upto (s : _root_.Go.ChangeSpec) : _root_.Go.OpenSpec := { _root_.Go.OpenSpec.ofChange s with cond := some uptoSmall }

/-- 'footpathlaw07.ClipTells', WHERE WHAT IT READS IS OF BULK AT MOST 1048576: true; the input reads as it did. -/
def clipTellsUptoRow : OpenClaim := { program := "yteoongcajfcgcaa", sum := "787482cc56c90834fa71deea529c7813ad45573dd6e579eaa092361b3b1c18e7", func := "footpath/footpathlaw07.ClipTells", spec := "clipTells", unfollowed := true, recurses := true, apart := false, narrowed := true }
def ClipTellsUptoSaid : Prop := clipTellsUptoRow.holds Try.pinned (OpenSpec.upto clipTellsSpec)

/-- 'footpathlaw07.ClipBetween', WHERE WHAT IT READS IS OF BULK AT MOST 1048576: true; the input reads as it did. -/
def clipBetweenUptoRow : OpenClaim := { program := "yteoongcajfcgcaa", sum := "787482cc56c90834fa71deea529c7813ad45573dd6e579eaa092361b3b1c18e7", func := "footpath/footpathlaw07.ClipBetween", spec := "clipBetween", unfollowed := true, recurses := true, apart := false, narrowed := true }
def ClipBetweenUptoSaid : Prop := clipBetweenUptoRow.holds Try.pinned (OpenSpec.upto clipBetweenSpec)

/-- 'footpathlaw07.ClipFlat', WHERE WHAT IT READS IS OF BULK AT MOST 1048576: true; the input reads as it did. -/
def clipFlatUptoRow : OpenClaim := { program := "yteoongcajfcgcaa", sum := "787482cc56c90834fa71deea529c7813ad45573dd6e579eaa092361b3b1c18e7", func := "footpath/footpathlaw07.ClipFlat", spec := "clipFlat", unfollowed := true, recurses := true, apart := false, narrowed := true }
def ClipFlatUptoSaid : Prop := clipFlatUptoRow.holds Try.pinned (OpenSpec.upto clipFlatSpec)

/-- 'footpathlaw07.ClipCorners', WHERE WHAT IT READS IS OF BULK AT MOST 1048576: true; the input reads as it did. -/
def clipCornersUptoRow : OpenClaim := { program := "yteoongcajfcgcaa", sum := "787482cc56c90834fa71deea529c7813ad45573dd6e579eaa092361b3b1c18e7", func := "footpath/footpathlaw07.ClipCorners", spec := "clipCorners", unfollowed := true, recurses := true, apart := false, narrowed := true }
def ClipCornersUptoSaid : Prop := clipCornersUptoRow.holds Try.pinned (OpenSpec.upto clipCornersSpec)

end Rows
end Go.Proofs.Yteoongcajfcgcaa
