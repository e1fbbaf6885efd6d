/-
  Layer 18, tree: riffleref18.High. Condition: the parts of a node stand ahead of it.
-/
import Derived.Test.YtjmpilmmgfjpmaaDoorTrLives
set_option maxRecDepth 100000
namespace Go.Proofs.YtjmpilmmgfjpmaaDoor.Tr
open Go.Proofs.YtjmpilmmgfjpmaaDoor.Sh Go.Proofs.YtjmpilmmgfjpmaaDoor.St
open Go.RowKit
set_option linter.unusedVariables false

end Go.Proofs.YtjmpilmmgfjpmaaDoor.Tr
