/-
  What fold.Reduce answers, in all its ways; nothing that was there is written. Conditions: the table of traits holds what its text lays; the numbers are int64.
-/
import Derived.Test.YtbanegjmapgkdaaDoorFdScan0
set_option maxRecDepth 100000
namespace Go.Proofs.YtbanegjmapgkdaaDoor.Fd
open Go.Proofs.YtbanegjmapgkdaaDoor.Sh
open Go.RowKit
set_option linter.unusedVariables false

theorem without_o (A : Option Addr) (c : Nat) (d O : List Int) (a : Int) (w : World) (hO : withoutL d a = O) (hl : d.length ≤ 100) (hi : Ints w A d) : Calls Tryd.prog 32 #[.slice A d.length c, .int .i64 a] w (RetInts w O) := by
  subst hO; exact without_any A c d a w hl hi
theorem right_x (A : Option Addr) (c : Nat) (d : List Int) (t : Bool) (w : World) (ht : rightB d = t) (hl : d.length ≤ 1000) (hi : Ints w A d) : Calls Tryd.prog 73 #[.slice A d.length c] w fun e w' => e = .returned (.bool t) ∧ Below w.heap.size w w' := by
  subst ht; exact right_any A c d w (by unfold maxLen; omega) hi
/-- What a fold reads stands there. -/
structure RdOk (v : List Int) (P st n : Nat) : Prop where
  n64 : n ≤ 64
  v64 : v.length ≤ 64
  pos : 0 < n → 0 < st ∧ st ≤ 64
  at_ : ∀ k, k < n → ∀ j, j < P → k / st * st * P + k % st + j * st < v.length
def rdF (c : Int) (s : Bool) (v : List Int) (P st k : Nat) : Int := rowI c s (lineL v (k / st * st * P + k % st) st P)
end Go.Proofs.YtbanegjmapgkdaaDoor.Fd
