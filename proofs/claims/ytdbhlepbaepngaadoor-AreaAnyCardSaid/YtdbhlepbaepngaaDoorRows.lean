/-
  NARROWER THAN 'FOR EVERY INPUT', by the rows' own cells (each row's printed sentence says how): AreaOf: laid · AreaAny: laid · AreaDrops: laid.
  DERIVED. THE GIVEN ROWS OF THIS SEAT. 3 by the template 'for every input the law returns true; each argument reads behind the call as it read before'; 0 by the template 'total and deterministic' (their statements: YtdbhlepbaepngaaDoorTotals.lean).
  GIVEN WITH THE SEED: the statements are not yours to turn. If you find one false, say at which input.
  Laid BY PROGRAM, IN A SANDBOX (cutbox-rows.mjs): the forced cells as the released guide's own fill.sh prints them over the translation 515f41ada1359f7c… (all of the seat's roots in one cut). By AI agents, Wed Nov 11 2026. No macro, syntax, notation, axiom, sorry.
-/
import Derived.Test.YtdbhlepbaepngaaDoorChecked
import GoSem.Claim
import GoSem.ClaimJoined
import GoSem.ClaimMapViews
import Derived.JoinedTies
import Derived.KernelRfl
namespace Go.Proofs.YtdbhlepbaepngaaDoor
/- THE CELL 'sum', in the pinned program and in every row, IS THE sha256 OF THE DUMP (.gsa) THAT YtdbhlepbaepngaaDoorProg.lean LOADS. Nothing in Lean hashes anything: it is a label: what it is worth is what the hold of that sum in a sandbox is worth. -/
noncomputable def Tryd.pinned : Pinned := { name := "ytdbhlepbaepngaadoor", sum := "515f41ada1359f7c54b559fbd14fe03403c666aaf9935f52cc864240a197ff2e", checked := Tryd.checked }
namespace Rows
def none {H : Type} : Left H := { results := [], args := [] }

/- WHAT THE LISTED PACKAGE-LEVEL VARIABLES READ AS WHEN THE CALL BEGINS. Each datum BY PROGRAM (the guide's laid-datum.mjs) off the statement by which the dump's own 'gosem.cut.vars' lays the variable. In a bare row this is a premise. The card (YtdbhlepbaepngaaDoorCards.lean) ties it to the program's text. -/
def laid_footpath_bins_nowhere {H : Type} : DataW H := .agg [.lit (.int .i64 0), .lit (.int .i64 0), .lit (.int .i64 (-1)), .lit (.int .i64 (-1))]

/-- 'footpathlaw12.AreaOf': WHATEVER THE INPUT: true; the input reads as it did. -/
def areaOfSpec : ChangeSpec := { name := "areaOf", fn := fun _ => fun
  | [d1, d2, d3] => { results := [.lit (.bool true)], args := [d1, d2, d3] }
  | _ => none }
def areaOfRow : OpenClaim := { program := "ytdbhlepbaepngaadoor", sum := "515f41ada1359f7c54b559fbd14fe03403c666aaf9935f52cc864240a197ff2e", func := "footpath/footpathlaw12.AreaOf", spec := "areaOf", unfollowed := true, recurses := true, named := ["footpath/bins.nowhere"], apart := false, laid := [("footpath/bins.nowhere", laid_footpath_bins_nowhere)] }
def AreaOfSaid : Prop := areaOfRow.holds Tryd.pinned (OpenSpec.ofChange areaOfSpec)

/-- ITS FALSE NEIGHBOUR: 'it returns false'. Refute it at one input. -/
def areaOfWrong : ChangeSpec := { name := "areaOf", fn := fun _ => fun
  | [d1, d2, d3] => { results := [.lit (.bool false)], args := [d1, d2, d3] }
  | _ => none }
def AreaOfWrongFalsely : Prop := areaOfRow.holds Tryd.pinned (OpenSpec.ofChange areaOfWrong)

/-- 'footpathlaw12.AreaAny': WHATEVER THE INPUT: true; the input reads as it did. -/
def areaAnySpec : ChangeSpec := { name := "areaAny", fn := fun _ => fun
  | [d1, d2, d3, d4] => { results := [.lit (.bool true)], args := [d1, d2, d3, d4] }
  | _ => none }
def areaAnyRow : OpenClaim := { program := "ytdbhlepbaepngaadoor", sum := "515f41ada1359f7c54b559fbd14fe03403c666aaf9935f52cc864240a197ff2e", func := "footpath/footpathlaw12.AreaAny", spec := "areaAny", unfollowed := true, recurses := true, named := ["footpath/bins.nowhere"], apart := false, laid := [("footpath/bins.nowhere", laid_footpath_bins_nowhere)] }
def AreaAnySaid : Prop := areaAnyRow.holds Tryd.pinned (OpenSpec.ofChange areaAnySpec)

/-- ITS FALSE NEIGHBOUR: 'it returns false'. Refute it at one input. -/
def areaAnyWrong : ChangeSpec := { name := "areaAny", fn := fun _ => fun
  | [d1, d2, d3, d4] => { results := [.lit (.bool false)], args := [d1, d2, d3, d4] }
  | _ => none }
def AreaAnyWrongFalsely : Prop := areaAnyRow.holds Tryd.pinned (OpenSpec.ofChange areaAnyWrong)

/-- 'footpathlaw12.AreaDrops': WHATEVER THE INPUT: true; the input reads as it did. -/
def areaDropsSpec : ChangeSpec := { name := "areaDrops", fn := fun _ => fun
  | [d1, d2, d3, d4] => { results := [.lit (.bool true)], args := [d1, d2, d3, d4] }
  | _ => none }
def areaDropsRow : OpenClaim := { program := "ytdbhlepbaepngaadoor", sum := "515f41ada1359f7c54b559fbd14fe03403c666aaf9935f52cc864240a197ff2e", func := "footpath/footpathlaw12.AreaDrops", spec := "areaDrops", unfollowed := true, recurses := true, named := ["footpath/bins.nowhere"], apart := false, laid := [("footpath/bins.nowhere", laid_footpath_bins_nowhere)] }
def AreaDropsSaid : Prop := areaDropsRow.holds Tryd.pinned (OpenSpec.ofChange areaDropsSpec)

/-- ITS FALSE NEIGHBOUR: 'it returns false'. Refute it at one input. -/
def areaDropsWrong : ChangeSpec := { name := "areaDrops", fn := fun _ => fun
  | [d1, d2, d3, d4] => { results := [.lit (.bool false)], args := [d1, d2, d3, d4] }
  | _ => none }
def AreaDropsWrongFalsely : Prop := areaDropsRow.holds Tryd.pinned (OpenSpec.ofChange areaDropsWrong)

/- THE SECOND FORM. 'bulk': how many values and letters a reading holds, each counted each time it is reached (what is shared counts as often as it is met; a slice's spare places count too). A statement '..UptoSaid' is the law's where the arguments, and the package variables that the reading takes, are together of bulk at most 1048576: NARROWER than '..Said'. Prove '..Said' where nothing that the law and all that it calls make is longer than what came in: it says more and counts as full. Else prove '..UptoSaid'. A law counts once. -/
mutual
def uptoBulk {H : Type} : DataW H → Nat
  | .lit (.string bytes) => bytes.length + 1
  | .lit _ => 1
  | .nil => 1
  | .ptr d => uptoBulk d + 1
  | .slice elems spare => uptoBulkAll elems + uptoBulkAll spare + 1
  | .agg parts => uptoBulkAll parts + 1
  | .iface _ d => uptoBulk d + 1
  | .map entries => uptoBulkEntries entries + 1
  | .held _ => 1
def uptoBulkAll {H : Type} : List (DataW H) → Nat
  | [] => 0
  | d :: r => uptoBulk d + uptoBulkAll r
def uptoBulkEntries {H : Type} : List (Lit × DataW H) → Nat
  | [] => 0
  | x :: r => uptoBulkEntry x + uptoBulkEntries r
def uptoBulkEntry {H : Type} : Lit × DataW H → Nat
  | (.string bytes, d) => bytes.length + uptoBulk d + 1
  | (_, d) => uptoBulk d + 1
 end
def uptoSmall : (H : Type) → List (DataW H) → Bool := fun _ ds => decide (uptoBulkAll ds ≤ 1048576)
def OpenSpec.upto (s : _root_.Go.ChangeSpec) : _root_.Go.OpenSpec := { _root_.Go.OpenSpec.ofChange s with cond := some uptoSmall }

/-- 'footpathlaw12.AreaOf', WHERE WHAT IT READS IS OF BULK AT MOST 1048576: true; the input reads as it did. -/
def areaOfUptoRow : OpenClaim := { program := "ytdbhlepbaepngaadoor", sum := "515f41ada1359f7c54b559fbd14fe03403c666aaf9935f52cc864240a197ff2e", func := "footpath/footpathlaw12.AreaOf", spec := "areaOf", unfollowed := true, recurses := true, named := ["footpath/bins.nowhere"], apart := false, laid := [("footpath/bins.nowhere", laid_footpath_bins_nowhere)], narrowed := true }
def AreaOfUptoSaid : Prop := areaOfUptoRow.holds Tryd.pinned (OpenSpec.upto areaOfSpec)

/-- 'footpathlaw12.AreaAny', WHERE WHAT IT READS IS OF BULK AT MOST 1048576: true; the input reads as it did. -/
def areaAnyUptoRow : OpenClaim := { program := "ytdbhlepbaepngaadoor", sum := "515f41ada1359f7c54b559fbd14fe03403c666aaf9935f52cc864240a197ff2e", func := "footpath/footpathlaw12.AreaAny", spec := "areaAny", unfollowed := true, recurses := true, named := ["footpath/bins.nowhere"], apart := false, laid := [("footpath/bins.nowhere", laid_footpath_bins_nowhere)], narrowed := true }
def AreaAnyUptoSaid : Prop := areaAnyUptoRow.holds Tryd.pinned (OpenSpec.upto areaAnySpec)

/-- 'footpathlaw12.AreaDrops', WHERE WHAT IT READS IS OF BULK AT MOST 1048576: true; the input reads as it did. -/
def areaDropsUptoRow : OpenClaim := { program := "ytdbhlepbaepngaadoor", sum := "515f41ada1359f7c54b559fbd14fe03403c666aaf9935f52cc864240a197ff2e", func := "footpath/footpathlaw12.AreaDrops", spec := "areaDrops", unfollowed := true, recurses := true, named := ["footpath/bins.nowhere"], apart := false, laid := [("footpath/bins.nowhere", laid_footpath_bins_nowhere)], narrowed := true }
def AreaDropsUptoSaid : Prop := areaDropsUptoRow.holds Tryd.pinned (OpenSpec.upto areaDropsSpec)

end Rows
end Go.Proofs.YtdbhlepbaepngaaDoor
