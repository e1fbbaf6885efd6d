/-
  What riffleref01.Places answers for any axes: all places, one behind the other; nothing that was there is written. Condition: at most 100 axes.
-/
import Derived.Test.YthabimjmdnhomaaDoorShapePls2
namespace Go.Proofs.YthabimjmdnhomaaDoor.Sh
open Go.RowKit
set_option linter.unusedVariables false

theorem dg_zero (d : List Int) : dg d 0 = List.replicate d.length 0 := by
  induction d with
  | nil => rfl
  | cons x d ih => simp [dg, ih, List.replicate_succ]

/-- A row of rows is answered: the t-th is the t-th place. -/
def RetOuts (d : List Int) (w : World) (e : Ending) (w' : World) : Prop := ∃ v base, e = .returned v ∧ Outs d w' base v (sizeI d).toNat ∧ Below w.heap.size w w'

end Go.Proofs.YthabimjmdnhomaaDoor.Sh
