/-
  No cell of these rows narrows 'for every input' (looked for: loops, veiled, ifaces, maps, wideKeys, modest, calm, conditions, laid).
  DERIVED. THE GIVEN ROWS OF THIS SEAT. 3 by the template 'for every input the law returns true; each argument reads behind the call as it read before'; 0 by the template 'total and deterministic' (their statements: YtonngfogbnfbnaaTotals.lean).
  GIVEN WITH THE SEED: the statements are not yours to turn. If you find one false, say at which input.
  Laid BY PROGRAM, IN A SANDBOX (cutbox-rows.mjs): the forced cells as the released guide's own fill.sh prints them over the translation 072a2800620a78b1… (all of the seat's roots in one cut). By AI agents, Wed Nov 11 2026. No macro, syntax, notation, axiom, sorry.
-/
import Derived.Test.YtonngfogbnfbnaaChecked
import GoSem.Claim
import GoSem.ClaimJoined
import GoSem.ClaimMapViews
import Derived.JoinedTies
import Derived.KernelRfl
namespace Go.Proofs.Ytonngfogbnfbnaa
/- THE CELL 'sum', in the pinned program and in every row, IS THE sha256 OF THE DUMP (.gsa) THAT YtonngfogbnfbnaaProg.lean LOADS. Nothing in Lean hashes anything: it is a label: what it is worth is what the hold of that sum in a sandbox is worth. -/
noncomputable def Try.pinned : Pinned := { name := "ytonngfogbnfbnaa", sum := "072a2800620a78b16f337ef8e2108f5a099bfd630cde23f4acce87be1f5fcea0", checked := Try.checked }
namespace Rows
def none {H : Type} : Left H := { results := [], args := [] }

/-- 'footpathlaw05.SoupAdds': WHATEVER THE INPUT: true; the input reads as it did. -/
def soupAddsSpec : ChangeSpec := { name := "soupAdds", fn := fun _ => fun
  | [d1, d2, d3, d4, d5] => { results := [.lit (.bool true)], args := [d1, d2, d3, d4, d5] }
  | _ => none }
def soupAddsRow : OpenClaim := { program := "ytonngfogbnfbnaa", sum := "072a2800620a78b16f337ef8e2108f5a099bfd630cde23f4acce87be1f5fcea0", func := "footpath/footpathlaw05.SoupAdds", spec := "soupAdds", unfollowed := true, recurses := true, apart := false }
def SoupAddsSaid : Prop := soupAddsRow.holds Try.pinned (OpenSpec.ofChange soupAddsSpec)

/-- ITS FALSE NEIGHBOUR: 'it returns false'. Refute it at one input. -/
def soupAddsWrong : ChangeSpec := { name := "soupAdds", fn := fun _ => fun
  | [d1, d2, d3, d4, d5] => { results := [.lit (.bool false)], args := [d1, d2, d3, d4, d5] }
  | _ => none }
def SoupAddsWrongFalsely : Prop := soupAddsRow.holds Try.pinned (OpenSpec.ofChange soupAddsWrong)

/-- 'footpathlaw05.SoupBack': WHATEVER THE INPUT: true; the input reads as it did. -/
def soupBackSpec : ChangeSpec := { name := "soupBack", fn := fun _ => fun
  | [d1, d2, d3, d4] => { results := [.lit (.bool true)], args := [d1, d2, d3, d4] }
  | _ => none }
def soupBackRow : OpenClaim := { program := "ytonngfogbnfbnaa", sum := "072a2800620a78b16f337ef8e2108f5a099bfd630cde23f4acce87be1f5fcea0", func := "footpath/footpathlaw05.SoupBack", spec := "soupBack", unfollowed := true, recurses := true, apart := false }
def SoupBackSaid : Prop := soupBackRow.holds Try.pinned (OpenSpec.ofChange soupBackSpec)

/-- ITS FALSE NEIGHBOUR: 'it returns false'. Refute it at one input. -/
def soupBackWrong : ChangeSpec := { name := "soupBack", fn := fun _ => fun
  | [d1, d2, d3, d4] => { results := [.lit (.bool false)], args := [d1, d2, d3, d4] }
  | _ => none }
def SoupBackWrongFalsely : Prop := soupBackRow.holds Try.pinned (OpenSpec.ofChange soupBackWrong)

/-- 'footpathlaw05.SoupOthers': WHATEVER THE INPUT: true; the input reads as it did. -/
def soupOthersSpec : ChangeSpec := { name := "soupOthers", fn := fun _ => fun
  | [d1, d2, d3, d4, d5] => { results := [.lit (.bool true)], args := [d1, d2, d3, d4, d5] }
  | _ => none }
def soupOthersRow : OpenClaim := { program := "ytonngfogbnfbnaa", sum := "072a2800620a78b16f337ef8e2108f5a099bfd630cde23f4acce87be1f5fcea0", func := "footpath/footpathlaw05.SoupOthers", spec := "soupOthers", unfollowed := true, recurses := true, apart := false }
def SoupOthersSaid : Prop := soupOthersRow.holds Try.pinned (OpenSpec.ofChange soupOthersSpec)

/-- ITS FALSE NEIGHBOUR: 'it returns false'. Refute it at one input. -/
def soupOthersWrong : ChangeSpec := { name := "soupOthers", fn := fun _ => fun
  | [d1, d2, d3, d4, d5] => { results := [.lit (.bool false)], args := [d1, d2, d3, d4, d5] }
  | _ => none }
def SoupOthersWrongFalsely : Prop := soupOthersRow.holds Try.pinned (OpenSpec.ofChange soupOthersWrong)

/- THE SECOND FORM. 'bulk': how many values and letters a reading holds, each counted each time it is reached (what is shared counts as often as it is met; a slice's spare places count too). A statement '..UptoSaid' is the law's where the arguments, and the package variables that the reading takes, are together of bulk at most 1048576: NARROWER than '..Said'. Prove '..Said' where nothing that the law and all that it calls make is longer than what came in: it says more and counts as full. Else prove '..UptoSaid'. A law counts once. -/
mutual
def uptoBulk {H : Type} : DataW H → Nat
  | .lit (.string bytes) => bytes.length + 1
  | .lit _ => 1
  | .nil => 1
  | .ptr d => uptoBulk d + 1
  | .slice elems spare => uptoBulkAll elems + uptoBulkAll spare + 1
  | .agg parts => uptoBulkAll parts + 1
  | .iface _ d => uptoBulk d + 1
  | .map entries => uptoBulkEntries entries + 1
  | .held _ => 1
def uptoBulkAll {H : Type} : List (DataW H) → Nat
  | [] => 0
  | d :: r => uptoBulk d + uptoBulkAll r
def uptoBulkEntries {H : Type} : List (Lit × DataW H) → Nat
  | [] => 0
  | x :: r => uptoBulkEntry x + uptoBulkEntries r
def uptoBulkEntry {H : Type} : Lit × DataW H → Nat
  | (.string bytes, d) => bytes.length + uptoBulk d + 1
  | (_, d) => uptoBulk d + 1
 end
def uptoSmall : (H : Type) → List (DataW H) → Bool := fun _ ds => decide (uptoBulkAll ds ≤ 1048576)
def OpenSpec.upto (s : _root_.Go.ChangeSpec) : _root_.Go.OpenSpec := { _root_.Go.OpenSpec.ofChange s with cond := some uptoSmall }

/-- 'footpathlaw05.SoupAdds', WHERE WHAT IT READS IS OF BULK AT MOST 1048576: true; the input reads as it did. -/
def soupAddsUptoRow : OpenClaim := { program := "ytonngfogbnfbnaa", sum := "072a2800620a78b16f337ef8e2108f5a099bfd630cde23f4acce87be1f5fcea0", func := "footpath/footpathlaw05.SoupAdds", spec := "soupAdds", unfollowed := true, recurses := true, apart := false, narrowed := true }
def SoupAddsUptoSaid : Prop := soupAddsUptoRow.holds Try.pinned (OpenSpec.upto soupAddsSpec)

/-- 'footpathlaw05.SoupBack', WHERE WHAT IT READS IS OF BULK AT MOST 1048576: true; the input reads as it did. -/
def soupBackUptoRow : OpenClaim := { program := "ytonngfogbnfbnaa", sum := "072a2800620a78b16f337ef8e2108f5a099bfd630cde23f4acce87be1f5fcea0", func := "footpath/footpathlaw05.SoupBack", spec := "soupBack", unfollowed := true, recurses := true, apart := false, narrowed := true }
def SoupBackUptoSaid : Prop := soupBackUptoRow.holds Try.pinned (OpenSpec.upto soupBackSpec)

/-- 'footpathlaw05.SoupOthers', WHERE WHAT IT READS IS OF BULK AT MOST 1048576: true; the input reads as it did. -/
def soupOthersUptoRow : OpenClaim := { program := "ytonngfogbnfbnaa", sum := "072a2800620a78b16f337ef8e2108f5a099bfd630cde23f4acce87be1f5fcea0", func := "footpath/footpathlaw05.SoupOthers", spec := "soupOthers", unfollowed := true, recurses := true, apart := false, narrowed := true }
def SoupOthersUptoSaid : Prop := soupOthersUptoRow.holds Try.pinned (OpenSpec.upto soupOthersSpec)

end Rows
end Go.Proofs.Ytonngfogbnfbnaa
