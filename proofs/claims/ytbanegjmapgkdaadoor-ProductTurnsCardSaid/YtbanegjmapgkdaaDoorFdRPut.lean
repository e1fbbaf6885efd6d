/-
  What riffleref08.put answers ahead of a place and behind it; nothing that was there is written. Condition: at most 100 axes, and the room of the place is one that can be.
-/
import Derived.Test.YtbanegjmapgkdaaDoorFdRScan
set_option maxRecDepth 100000
namespace Go.Proofs.YtbanegjmapgkdaaDoor.Fd
open Go.Proofs.YtbanegjmapgkdaaDoor.Sh
open Go.RowKit
set_option linter.unusedVariables false

theorem one_newJ (w : World) (x : Int) : Ints (w.alloc (.cells #[.int .i64 x] 3)) (some ⟨w.heap.size, 0, none⟩) [x] := (MineT.new 3 w [x] 0 (Nat.zero_le _) (by unfold maxLen; simp)).ints'
end Go.Proofs.YtbanegjmapgkdaaDoor.Fd
