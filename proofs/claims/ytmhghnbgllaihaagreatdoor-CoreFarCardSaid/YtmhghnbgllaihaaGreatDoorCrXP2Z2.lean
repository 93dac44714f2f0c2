import Derived.Test.YtmhghnbgllaihaaGreatDoorCrWP2Z2
import Derived.Test.YtmhghnbgllaihaaGreatDoorSoXFP2Z2
import Derived.Deep.DeepCutAuto
set_option linter.unusedVariables false

namespace Go.Proofs.YtmhghnbgllaihaaGreatDoor
open Go.RowKit
theorem cob_zero {C:CfgR} {S:SoupV} {tx tz:Int} (h:cobE C S tx tz=0):S.err C=0∧tilOk C tx tz=true∧fulE C S (padB C (tilB C tx tz))=0:=by
 unfold cobE at h
 split at h
 ·omega
 ·rename_i h0
  split at h
  ·rename_i h1
   exact⟨by omega,h1,h⟩
  ·omega
theorem corL_8 (C:CfgR) (S:SoupV) (b:Bd):∀ i (p:i<(corL C (coA C S.ts S.bs) b).length),(corL C (coA C S.ts S.bs) b)[i].length≤8:=fun i p=>by
 unfold corL at p
 have g1:(corL C (coA C S.ts S.bs) b)[i]=corI C (coA C S.ts S.bs) (b.x+((i % b.w.toNat:Nat):Int)) (b.z+((i / b.w.toNat:Nat):Int)):=gridT_at p
 rw[g1]
 unfold corI keepL
 refine Nat.le_trans (keepT_len _ _ _) ?_
 unfold coA
 rw[List.length_map]
 exact flX_len8 C _
end Go.Proofs.YtmhghnbgllaihaaGreatDoor
