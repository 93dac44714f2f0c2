import Derived.Test.YtdbhlepbaepngaaDoorWholeIZ14

/- Contract of the document's own Check: one test at a time. -/
namespace Go.Proofs.YtdbhlepbaepngaaDoor
open Go.RowKit

end Go.Proofs.YtdbhlepbaepngaaDoor
