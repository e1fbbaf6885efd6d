/-
  The document's example of layer 1 (rifflelaw01.lives) is true in whatever world; nothing that was there is written. No condition.
-/
import Derived.Test.YthabimjmdnhomaaShapeStr
import Derived.Test.YthabimjmdnhomaaShapeIdx
namespace Go.Proofs.Ythabimjmdnhomaa.Sh
open Go.RowKit
set_option linter.unusedVariables false

theorem strides_23 (A : Option Addr) (c : Nat) (w : World) (h : Ints w A [2, 3]) : Calls Try.prog 44 #[.slice A 2 c] w fun e w' => ∃ B c', e = .returned (.slice B 2 c') ∧ Ints w' B [3, 1] ∧ Below w.heap.size w w' :=
  strides_any A c [2, 3] w (by unfold maxLen; decide) h
end Go.Proofs.Ythabimjmdnhomaa.Sh
