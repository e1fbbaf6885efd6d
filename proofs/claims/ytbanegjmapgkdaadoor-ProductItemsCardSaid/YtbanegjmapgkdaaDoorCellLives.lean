/-
  The document's example of layer 3 (rifflelaw03.lives) is true in whatever world; nothing that was there is written. No condition.
-/
import Derived.Test.YtbanegjmapgkdaaDoorPkC
set_option maxRecDepth 100000
namespace Go.Proofs.YtbanegjmapgkdaaDoor.Sh
open Go.RowKit
set_option linter.unusedVariables false

section
variable (A : Option Addr) (c : Nat) (d : List Int) (B : Option Addr) (c2 : Nat) (v : List Int) (w : World) (hd : d.length ≤ 100) (hv : v.length ≤ 1000) (id : Ints w A d) (iv : Ints w B v)
include hd hv id iv
end
theorem item_22 (A : Option Addr) (c : Nat) (B : Option Addr) (c2 : Nat) (w : World) (hc : 4 ≤ c2) (hcm : c2 ≤ maxLen) (id : Ints w A [2, 2]) (iv : Ints w B [1, 2, 3, 4]) : Calls Tryd.prog 18 #[.agg #[.slice A 2 c, .slice B 4 c2], .int .i64 1] w (RetC w [2] [3, 4] (.bool true)) :=
  item_yes A c [2, 2] B c2 [1, 2, 3, 4] 1 w hc hcm id iv (by decide)

end Go.Proofs.YtbanegjmapgkdaaDoor.Sh
