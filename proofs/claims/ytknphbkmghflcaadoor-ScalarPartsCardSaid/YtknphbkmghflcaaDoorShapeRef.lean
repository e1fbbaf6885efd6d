/-
  What riffleref01.Right, Size and Same, slices.Equal and shape.Same answer for any lists of numbers, and that they change nothing. Condition: a slice is no longer than an int can say.
-/
import Derived.Test.YtknphbkmghflcaaDoorProg
import Derived.Test.YtknphbkmghflcaaDoorShapeMath
import Derived.WalkKit
import Derived.WalkSpells
import Derived.Lib.Hide
import Derived.Deep.QuietTactic
import Derived.BigQuiet
namespace Go.Proofs.YtknphbkmghflcaaDoor.Sh
open Go.RowKit
set_option linter.unusedVariables false

end Go.Proofs.YtknphbkmghflcaaDoor.Sh
