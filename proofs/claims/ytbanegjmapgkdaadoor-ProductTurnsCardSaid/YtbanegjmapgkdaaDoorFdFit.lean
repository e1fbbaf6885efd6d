/-
  What fold.fitting answers; nothing that was there is written. Condition: the table of traits holds what its text lays.
-/
import Derived.Test.YtbanegjmapgkdaaDoorFdLine
import Derived.Test.YtbanegjmapgkdaaDoorPkC
import Derived.Deep.DeepCutAuto
set_option maxRecDepth 100000
namespace Go.Proofs.YtbanegjmapgkdaaDoor.Fd
open Go.Proofs.YtbanegjmapgkdaaDoor.Sh
open Go.RowKit
set_option linter.unusedVariables false

/-- The three boxes of fitting. -/
theorem fit_all (w : World) (c : Int) (s : Bool) (x y : Value) :
    FnAt (((w.alloc (.cells #[.int .i64 c, .bool s] 23)).alloc (.cells #[x, y] 29)).alloc (.cells #[.nilFunc, .int .i64 0, .bool false] 105)) w.heap.size c s ∧
    Box (((w.alloc (.cells #[.int .i64 c, .bool s] 23)).alloc (.cells #[x, y] 29)).alloc (.cells #[.nilFunc, .int .i64 0, .bool false] 105)) (w.heap.size + 1) x y ∧
    Bx 105 (((w.alloc (.cells #[.int .i64 c, .bool s] 23)).alloc (.cells #[x, y] 29)).alloc (.cells #[.nilFunc, .int .i64 0, .bool false] 105)) (w.heap.size + 1 + 1) #[.nilFunc, .int .i64 0, .bool false] ∧
    Below w.heap.size w (((w.alloc (.cells #[.int .i64 c, .bool s] 23)).alloc (.cells #[x, y] 29)).alloc (.cells #[.nilFunc, .int .i64 0, .bool false] 105)) := by
  have h1 : (w.alloc (.cells #[.int .i64 c, .bool s] 23)).heap.size = w.heap.size + 1 := by simp
  have h2 : ((w.alloc (.cells #[.int .i64 c, .bool s] 23)).alloc (.cells #[x, y] 29)).heap.size = w.heap.size + 1 + 1 := by simp
  have b2 := Box.new (w.alloc (.cells #[.int .i64 c, .bool s] 23)) x y
  have b3 := Bx.new 105 ((w.alloc (.cells #[.int .i64 c, .bool s] 23)).alloc (.cells #[x, y] 29)) #[.nilFunc, .int .i64 0, .bool false]
  rw [h1] at b2
  rw [h2] at b3
  exact ⟨bx2 (((Bx.new 23 w #[.int .i64 c, .bool s]).alloc _).alloc _), b2.alloc _, b3, below_next (below_next (below_new _ _) (below_new _ _)) (below_new _ _)⟩
/-- The three boxes of Reduce and Scan. -/
theorem red_all (w : World) (c : Int) (s : Bool) (x y : Value) :
    FnAt (((w.alloc (.cells #[.int .i64 c, .bool s] 23)).alloc (.cells #[x, y] 29)).alloc (.cells #[.slice none 0 0, .slice none 0 0] 29)) w.heap.size c s ∧
    Box (((w.alloc (.cells #[.int .i64 c, .bool s] 23)).alloc (.cells #[x, y] 29)).alloc (.cells #[.slice none 0 0, .slice none 0 0] 29)) (w.heap.size + 1) x y ∧
    Box (((w.alloc (.cells #[.int .i64 c, .bool s] 23)).alloc (.cells #[x, y] 29)).alloc (.cells #[.slice none 0 0, .slice none 0 0] 29)) (w.heap.size + 1 + 1) (.slice none 0 0) (.slice none 0 0) ∧
    Below w.heap.size w (((w.alloc (.cells #[.int .i64 c, .bool s] 23)).alloc (.cells #[x, y] 29)).alloc (.cells #[.slice none 0 0, .slice none 0 0] 29)) := by
  have h1 : (w.alloc (.cells #[.int .i64 c, .bool s] 23)).heap.size = w.heap.size + 1 := by simp
  have h2 : ((w.alloc (.cells #[.int .i64 c, .bool s] 23)).alloc (.cells #[x, y] 29)).heap.size = w.heap.size + 1 + 1 := by simp
  have b2 := Box.new (w.alloc (.cells #[.int .i64 c, .bool s] 23)) x y
  have b3 := Box.new ((w.alloc (.cells #[.int .i64 c, .bool s] 23)).alloc (.cells #[x, y] 29)) (.slice none 0 0) (.slice none 0 0)
  rw [h1] at b2
  rw [h2] at b3
  exact ⟨bx2 (((Bx.new 23 w #[.int .i64 c, .bool s]).alloc _).alloc _), b2.alloc _, b3, below_next (below_next (below_new _ _) (below_new _ _)) (below_new _ _)⟩
/-- What folds, or why nothing does. -/
def RetFt (w : World) (c : Int) (s : Bool) (e : Ending) (w' : World) : Prop := ∃ g, e = .returned (.tuple #[.agg #[(.func (.func 93) #[] #[.pointer (some ⟨g, 0, none⟩)]), .int .i64 (Sc.trOf c).unit, .bool (Sc.trOf c).starts], .int .i64 0]) ∧ FnAt w' g c s ∧ w.heap.size ≤ g ∧ Below w.heap.size w w'
end Go.Proofs.YtbanegjmapgkdaaDoor.Fd
