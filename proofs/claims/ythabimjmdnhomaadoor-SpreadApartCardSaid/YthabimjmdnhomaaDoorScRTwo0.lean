/-
  What riffleref04.Two and riffleref04.Do answer of any code and any numbers: the same; nothing that was there is written. Condition: the numbers have 64 bits.
-/
import Derived.Test.YthabimjmdnhomaaDoorScTwo
namespace Go.Proofs.YthabimjmdnhomaaDoor.Sc
open Go.RowKit
set_option linter.unusedVariables false

/-- 1, if it is so, else 0. -/
def tB (b : Bool) : Int := if b = true then 1 else 0
theorem truth_t (b : Bool) (w : World) : Calls Tryd.prog 46 #[.bool b] w fun e w' => e = .returned (.int .i64 (tB b)) ∧ w = w' := truth_any b w
theorem rhas_b (c v : Int) (b : Bool) (w : World) (h : hasB c v = b) : Calls Tryd.prog 28 #[.int .i64 c, .int .i64 v] w fun e w' => e = .returned (.bool b) ∧ w = w' := by
  subst h; exact rhas_any c v w
end Go.Proofs.YthabimjmdnhomaaDoor.Sc
