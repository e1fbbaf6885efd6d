/-
  What fold.Scan answers, in all its ways; nothing that was there is written. Conditions: the table of traits holds what its text lays; the numbers are int64.
-/
import Derived.Test.YtbanegjmapgkdaaDoorFdScan0
set_option maxRecDepth 100000
namespace Go.Proofs.YtbanegjmapgkdaaDoor.Fd
open Go.Proofs.YtbanegjmapgkdaaDoor.Sh
open Go.RowKit
set_option linter.unusedVariables false

/-- What a scan reads stands there. -/
structure ScOk (v : List Int) (P st n : Nat) : Prop where
  n64 : n ≤ 64
  v64 : v.length ≤ 64
  pos : 0 < n → (0 < P ∧ 0 < st) ∧ st ≤ 64
  le : ∀ k, k < n → k / st % P * st ≤ k
  at_ : ∀ k, k < n → ∀ j, j < k / st % P + 1 → k - k / st % P * st + j * st < v.length
def scF (c : Int) (s : Bool) (v : List Int) (P st k : Nat) : Int := rowI c s (lineL v (k - k / st % P * st) st (k / st % P + 1))
end Go.Proofs.YtbanegjmapgkdaaDoor.Fd
