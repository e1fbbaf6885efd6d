/-
  The document's example of layer 1 (rifflelaw01.lives) is true in whatever world; nothing that was there is written. No condition.
-/
import Derived.Test.YtknphbkmghflcaaShapeStr
import Derived.Test.YtknphbkmghflcaaShapeIdx
namespace Go.Proofs.Ytknphbkmghflcaa.Sh
open Go.RowKit
set_option linter.unusedVariables false

theorem index_23 (A B : Option Addr) (c c2 : Nat) (w : World) (h : Ints w A [2, 3]) (h2 : Ints w B [1, 0]) : Calls Try.prog 27 #[.slice A 2 c, .slice B 2 c2] w fun e w' => e = .returned (.int .i64 3) ∧ Below w.heap.size w w' :=
  index_any A c [2, 3] B c2 [1, 0] w (by unfold maxLen; decide) (by unfold maxLen; decide) h h2

end Go.Proofs.Ytknphbkmghflcaa.Sh
