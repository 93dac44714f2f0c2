/- Package tri: within, cross, the closure of Bounds. -/
import Derived.Test.YtljcebahjfifhaaDoorTriA
import Derived.Test.YtljcebahjfifhaaDoorWholeH
import Derived.Test.YtljcebahjfifhaaDoorSteady
import Derived.Deep.DeepCutAuto
import Derived.Deep.CutBlock
namespace Go.Proofs.YtljcebahjfifhaaDoor
open Go.RowKit
set_option linter.unusedVariables false

theorem cross_small {a b c d : Int} (ha : -1073741824 ≤ a ∧ a ≤ 1073741824) (hb : -1073741824 ≤ b ∧ b ≤ 1073741824) (hc : -1073741824 ≤ c ∧ c ≤ 1073741824) (hd : -1073741824 ≤ d ∧ d ≤ 1073741824) : crossI a b c d = a * d - b * c := by
  unfold crossI crossB; simp only [nearB_iff]; rw [if_pos (by simp; omega)]

def minI (a b c : Int) : Int := min (min (min a a) b) c
def maxI (a b c : Int) : Int := max (max (max a a) b) c

end Go.Proofs.YtljcebahjfifhaaDoor
