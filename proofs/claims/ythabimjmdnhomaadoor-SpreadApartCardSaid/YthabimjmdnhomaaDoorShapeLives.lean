/-
  The document's example of layer 1 (rifflelaw01.lives) is true in whatever world; nothing that was there is written. No condition.
-/
import Derived.Test.YthabimjmdnhomaaDoorShapeStr
import Derived.Test.YthabimjmdnhomaaDoorShapeIdx
namespace Go.Proofs.YthabimjmdnhomaaDoor.Sh
open Go.RowKit
set_option linter.unusedVariables false

end Go.Proofs.YthabimjmdnhomaaDoor.Sh
