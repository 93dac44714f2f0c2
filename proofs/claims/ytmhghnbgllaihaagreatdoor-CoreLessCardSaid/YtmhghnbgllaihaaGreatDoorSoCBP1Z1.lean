import Derived.Test.YtmhghnbgllaihaaGreatDoorClBP1Z1

namespace Go.Proofs.YtmhghnbgllaihaaGreatDoor
open Go.RowKit
set_option linter.unusedVariables false
set_option maxRecDepth 100000
def outV (wd dp x y z:Int):Bool:=decide (x<0)||decide (wd<x)||decide (z<0)||decide (dp<z) || !heiB y
def mayTB (wd dp:Int) (X:TriR):Bool := !outV wd dp X.x0 X.y0 X.z0 && !outV wd dp X.x1 X.y1 X.z1 && !outV wd dp X.x2 X.y2 X.z2&&((X.x1 - X.x0)*(X.z2 - X.z0) - (X.z1 - X.z0)*(X.x2 - X.x0) != 0)
end Go.Proofs.YtmhghnbgllaihaaGreatDoor
