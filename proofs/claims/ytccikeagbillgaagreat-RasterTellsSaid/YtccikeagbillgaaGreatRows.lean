/-
  No cell of these rows narrows 'for every input' (looked for: loops, veiled, ifaces, maps, wideKeys, modest, calm, conditions, laid).
  DERIVED. THE GIVEN ROWS OF THIS SEAT. 3 by the template 'for every input the law returns true; each argument reads behind the call as it read before'; 0 by the template 'total and deterministic' (their statements: YtccikeagbillgaaGreatTotals.lean).
  GIVEN WITH THE SEED: the statements are not yours to turn. If you find one false, say at which input.
  Laid BY PROGRAM, IN A SANDBOX (cutbox-rows.mjs): the forced cells as the released guide's own fill.sh prints them over the translation 8ab56509a5c03461… (all of the seat's roots in one cut). By AI agents, Wed Nov 11 2026. No macro, syntax, notation, axiom, sorry.
-/
import Derived.Test.YtccikeagbillgaaGreatChecked
import GoSem.Claim
import GoSem.ClaimJoined
import GoSem.ClaimMapViews
import Derived.JoinedTies
import Derived.KernelRfl
namespace Go.Proofs.YtccikeagbillgaaGreat
/- THE CELL 'sum', in the pinned program and in every row, IS THE sha256 OF THE DUMP (.gsa) THAT YtccikeagbillgaaGreatProg.lean LOADS. Nothing in Lean hashes anything: it is a label: what it is worth is what the hold of that sum in a sandbox is worth. -/
noncomputable def Tryz.pinned : Pinned := { name := "ytccikeagbillgaagreat", sum := "8ab56509a5c03461e5831d3dadaf64061d2c0f252efc5525efe7263dcf0ec49e", checked := Tryz.checked }
namespace Rows
def none {H : Type} : Left H := { results := [], args := [] }

/-- 'footpathlaw09.RasterTells': WHATEVER THE INPUT: true; the input reads as it did. -/
def rasterTellsSpec : ChangeSpec := { name := "rasterTells", fn := fun _ => fun
  | [d1, d2, d3, d4, d5, d6] => { results := [.lit (.bool true)], args := [d1, d2, d3, d4, d5, d6] }
  | _ => none }
def rasterTellsRow : OpenClaim := { program := "ytccikeagbillgaagreat", sum := "8ab56509a5c03461e5831d3dadaf64061d2c0f252efc5525efe7263dcf0ec49e", func := "footpath/footpathlaw09.RasterTells", spec := "rasterTells", unfollowed := true, recurses := true, apart := false }
def RasterTellsSaid : Prop := rasterTellsRow.holds Tryz.pinned (OpenSpec.ofChange rasterTellsSpec)

/-- ITS FALSE NEIGHBOUR: 'it returns false'. Refute it at one input. -/
def rasterTellsWrong : ChangeSpec := { name := "rasterTells", fn := fun _ => fun
  | [d1, d2, d3, d4, d5, d6] => { results := [.lit (.bool false)], args := [d1, d2, d3, d4, d5, d6] }
  | _ => none }
def RasterTellsWrongFalsely : Prop := rasterTellsRow.holds Tryz.pinned (OpenSpec.ofChange rasterTellsWrong)

/-- 'footpathlaw09.RasterOrder': WHATEVER THE INPUT: true; the input reads as it did. -/
def rasterOrderSpec : ChangeSpec := { name := "rasterOrder", fn := fun _ => fun
  | [d1, d2, d3, d4, d5, d6] => { results := [.lit (.bool true)], args := [d1, d2, d3, d4, d5, d6] }
  | _ => none }
def rasterOrderRow : OpenClaim := { program := "ytccikeagbillgaagreat", sum := "8ab56509a5c03461e5831d3dadaf64061d2c0f252efc5525efe7263dcf0ec49e", func := "footpath/footpathlaw09.RasterOrder", spec := "rasterOrder", unfollowed := true, recurses := true, apart := false }
def RasterOrderSaid : Prop := rasterOrderRow.holds Tryz.pinned (OpenSpec.ofChange rasterOrderSpec)

/-- ITS FALSE NEIGHBOUR: 'it returns false'. Refute it at one input. -/
def rasterOrderWrong : ChangeSpec := { name := "rasterOrder", fn := fun _ => fun
  | [d1, d2, d3, d4, d5, d6] => { results := [.lit (.bool false)], args := [d1, d2, d3, d4, d5, d6] }
  | _ => none }
def RasterOrderWrongFalsely : Prop := rasterOrderRow.holds Tryz.pinned (OpenSpec.ofChange rasterOrderWrong)

/-- 'footpathlaw09.RasterOwn': WHATEVER THE INPUT: true; the input reads as it did. -/
def rasterOwnSpec : ChangeSpec := { name := "rasterOwn", fn := fun _ => fun
  | [d1, d2, d3, d4, d5] => { results := [.lit (.bool true)], args := [d1, d2, d3, d4, d5] }
  | _ => none }
def rasterOwnRow : OpenClaim := { program := "ytccikeagbillgaagreat", sum := "8ab56509a5c03461e5831d3dadaf64061d2c0f252efc5525efe7263dcf0ec49e", func := "footpath/footpathlaw09.RasterOwn", spec := "rasterOwn", unfollowed := true, recurses := true, apart := false }
def RasterOwnSaid : Prop := rasterOwnRow.holds Tryz.pinned (OpenSpec.ofChange rasterOwnSpec)

/-- ITS FALSE NEIGHBOUR: 'it returns false'. Refute it at one input. -/
def rasterOwnWrong : ChangeSpec := { name := "rasterOwn", fn := fun _ => fun
  | [d1, d2, d3, d4, d5] => { results := [.lit (.bool false)], args := [d1, d2, d3, d4, d5] }
  | _ => none }
def RasterOwnWrongFalsely : Prop := rasterOwnRow.holds Tryz.pinned (OpenSpec.ofChange rasterOwnWrong)

/- THE SECOND FORM. 'bulk': how many values and letters a reading holds, each counted each time it is reached (what is shared counts as often as it is met; a slice's spare places count too). A statement '..UptoSaid' is the law's where the arguments, and the package variables that the reading takes, are together of bulk at most 1048576: NARROWER than '..Said'. Prove '..Said' where nothing that the law and all that it calls make is longer than what came in: it says more and counts as full. Else prove '..UptoSaid'. A law counts once. -/
mutual
def uptoBulk {H : Type} : DataW H → Nat
  | .lit (.string bytes) => bytes.length + 1
  | .lit _ => 1
  | .nil => 1
  | .ptr d => uptoBulk d + 1
  | .slice elems spare => uptoBulkAll elems + uptoBulkAll spare + 1
  | .agg parts => uptoBulkAll parts + 1
  | .iface _ d => uptoBulk d + 1
  | .map entries => uptoBulkEntries entries + 1
  | .held _ => 1
def uptoBulkAll {H : Type} : List (DataW H) → Nat
  | [] => 0
  | d :: r => uptoBulk d + uptoBulkAll r
def uptoBulkEntries {H : Type} : List (Lit × DataW H) → Nat
  | [] => 0
  | x :: r => uptoBulkEntry x + uptoBulkEntries r
def uptoBulkEntry {H : Type} : Lit × DataW H → Nat
  | (.string bytes, d) => bytes.length + uptoBulk d + 1
  | (_, d) => uptoBulk d + 1
 end
def uptoSmall : (H : Type) → List (DataW H) → Bool := fun _ ds => decide (uptoBulkAll ds ≤ 1048576)
def OpenSpec.upto (s : _root_.Go.ChangeSpec) : _root_.Go.OpenSpec := { _root_.Go.OpenSpec.ofChange s with cond := some uptoSmall }

/-- 'footpathlaw09.RasterTells', WHERE WHAT IT READS IS OF BULK AT MOST 1048576: true; the input reads as it did. -/
def rasterTellsUptoRow : OpenClaim := { program := "ytccikeagbillgaagreat", sum := "8ab56509a5c03461e5831d3dadaf64061d2c0f252efc5525efe7263dcf0ec49e", func := "footpath/footpathlaw09.RasterTells", spec := "rasterTells", unfollowed := true, recurses := true, apart := false, narrowed := true }
def RasterTellsUptoSaid : Prop := rasterTellsUptoRow.holds Tryz.pinned (OpenSpec.upto rasterTellsSpec)

/-- 'footpathlaw09.RasterOrder', WHERE WHAT IT READS IS OF BULK AT MOST 1048576: true; the input reads as it did. -/
def rasterOrderUptoRow : OpenClaim := { program := "ytccikeagbillgaagreat", sum := "8ab56509a5c03461e5831d3dadaf64061d2c0f252efc5525efe7263dcf0ec49e", func := "footpath/footpathlaw09.RasterOrder", spec := "rasterOrder", unfollowed := true, recurses := true, apart := false, narrowed := true }
def RasterOrderUptoSaid : Prop := rasterOrderUptoRow.holds Tryz.pinned (OpenSpec.upto rasterOrderSpec)

/-- 'footpathlaw09.RasterOwn', WHERE WHAT IT READS IS OF BULK AT MOST 1048576: true; the input reads as it did. -/
def rasterOwnUptoRow : OpenClaim := { program := "ytccikeagbillgaagreat", sum := "8ab56509a5c03461e5831d3dadaf64061d2c0f252efc5525efe7263dcf0ec49e", func := "footpath/footpathlaw09.RasterOwn", spec := "rasterOwn", unfollowed := true, recurses := true, apart := false, narrowed := true }
def RasterOwnUptoSaid : Prop := rasterOwnUptoRow.holds Tryz.pinned (OpenSpec.upto rasterOwnSpec)

end Rows
end Go.Proofs.YtccikeagbillgaaGreat
