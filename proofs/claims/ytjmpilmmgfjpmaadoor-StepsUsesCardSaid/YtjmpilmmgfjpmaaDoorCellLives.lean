/-
  The document's example of layer 3 (rifflelaw03.lives) is true in whatever world; nothing that was there is written. No condition.
-/
import Derived.Test.YtjmpilmmgfjpmaaDoorPkC
set_option maxRecDepth 100000
namespace Go.Proofs.YtjmpilmmgfjpmaaDoor.Sh
open Go.RowKit
set_option linter.unusedVariables false

section
variable (A : Option Addr) (c : Nat) (d : List Int) (B : Option Addr) (c2 : Nat) (v : List Int) (w : World) (hd : d.length ≤ 100) (hv : v.length ≤ 1000) (id : Ints w A d) (iv : Ints w B v)
include hd hv id iv
end
end Go.Proofs.YtjmpilmmgfjpmaaDoor.Sh
