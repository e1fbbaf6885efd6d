/-
  What riffleref03.Item answers for a cell whose axes have no room behind them: as XCellRItem says it of the others. Condition: at most 100 axes and 1000 numbers.
-/
import Derived.Test.YtjmpilmmgfjpmaaDoorPkC
set_option maxRecDepth 100000
namespace Go.Proofs.YtjmpilmmgfjpmaaDoor.Sh
open Go.RowKit
set_option linter.unusedVariables false

end Go.Proofs.YtjmpilmmgfjpmaaDoor.Sh
