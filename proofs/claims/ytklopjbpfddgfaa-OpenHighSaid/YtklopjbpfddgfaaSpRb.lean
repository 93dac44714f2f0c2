/- The document's own put: spans and a piece. -/
import Derived.Test.YtklopjbpfddgfaaSpRa
import Derived.Test.YtklopjbpfddgfaaSpCr
import Derived.Deep.LoopGhost
import Derived.Deep.DeepCutAuto
namespace Go.Proofs.Ytklopjbpfddgfaa
open Go.RowKit
set_option linter.unusedVariables false

end Go.Proofs.Ytklopjbpfddgfaa
