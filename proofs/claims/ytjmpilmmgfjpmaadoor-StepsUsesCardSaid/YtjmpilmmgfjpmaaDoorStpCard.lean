/-
  The world of the cards of layer 22. No condition.
-/
import Derived.Test.YtjmpilmmgfjpmaaDoorCards
import Derived.Test.YtjmpilmmgfjpmaaDoorTie
import Derived.Test.YtjmpilmmgfjpmaaDoorPkC
import Derived.Test.YtjmpilmmgfjpmaaDoorPkX
import Derived.Deep.DeepHandedRow
import Derived.Deep.DeepWitnessRowRef
import Derived.Lib.LaidIn
import Derived.SevenTiedPlain
set_option maxRecDepth 100000
namespace Go.Proofs.YtjmpilmmgfjpmaaDoor.Stp
open Go.Proofs.YtjmpilmmgfjpmaaDoor.Sh
open Go.ChangeShapes Go.WideShapes Go.ChangeAt Go.RowKit
set_option linter.unusedVariables false

/-- The table, out of what the row lists. -/
theorem tab_met {W : World} (hL : laidMetH Tryd.prog Rows.stepsRiseRow.laid W) : Sc.Tab W := by
  have h := Lib.laidMet.reads hL (.head _)
  rw [Sc.laidEq] at h
  exact Sc.tab_of h
/-- A world for the witness: the settled one, the table holding what its initialiser lays. -/
noncomputable def laidWorld (os : Os) : World :=
  let w0 := World.holding Tryd.prog os ⟨#[], #[], []⟩
  { w0 with heap := w0.heap.modify 0 fun
    | .cells _ t frozen => .cells (Sc.trL.flatMap Sc.Tr.vals).toArray t frozen
    | o => o }
theorem laid_met (os : Os) (args : Array Value) : laidMet Tryd.prog Rows.stepsRiseRow.laid ((laidWorld os).forCall (fun _ _ => 0) ⟨#[], args, []⟩).memory :=
  (LaidIn.of_run (l := Rows.stepsRiseRow.laid) [0] 8 (by kernel_rfl) (by kernel_rfl) (by kernel_rfl) (by kernel_rfl)).met
end Go.Proofs.YtjmpilmmgfjpmaaDoor.Stp
