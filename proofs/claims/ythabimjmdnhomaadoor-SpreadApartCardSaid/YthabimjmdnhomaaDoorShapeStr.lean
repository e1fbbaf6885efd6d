/-
  What shape.Strides answers for any axes: the products of the lengths behind each axis, nothing of axes that may not be; nothing that was there is written. Condition: the slice is no longer than an int can say.
-/
import Derived.Test.YthabimjmdnhomaaDoorProg
import Derived.Test.YthabimjmdnhomaaDoorShapeProd
import Derived.Test.YthabimjmdnhomaaDoorShapeOwn
namespace Go.Proofs.YthabimjmdnhomaaDoor.Sh
open Go.RowKit
set_option linter.unusedVariables false

theorem foldl_mul (l : List Int) (x : Int) : l.foldl (· * ·) x = x * l.foldl (· * ·) 1 := by
  induction l generalizing x with
  | nil => simp
  | cons y t ih => simp only [List.foldl_cons]; rw [ih (x * y), ih (1 * y), Int.one_mul, Int.mul_assoc]
theorem prod_cons (x : Int) (l : List Int) : prod (x :: l) = x * prod l := by
  unfold prod; rw [List.foldl_cons, foldl_mul, Int.one_mul]
/-- Of each axis all lengths behind it, multiplied. -/
def strL : List Int → List Int
  | [] => []
  | _ :: t => prod t :: strL t
theorem strL_length (l : List Int) : (strL l).length = l.length := by induction l with | nil => rfl | cons x t ih => simp [strL, ih]
theorem strL_drop (l : List Int) (k : Nat) (h : k < l.length) : (strL l).drop k = prod (l.drop (k + 1)) :: (strL l).drop (k + 1) := by
  induction l generalizing k with
  | nil => simp at h
  | cons x t ih =>
    cases k with
    | zero => simp [strL]
    | succ k => simp only [strL, List.drop_succ_cons]; exact ih k (by simpa using h)
theorem drop_at (l : List Int) (k : Nat) (h : k < l.length) : l.drop k = l.getD k 0 :: l.drop (k + 1) := by
  rw [List.drop_eq_getElem_cons h]; simp [List.getD, h]
def strB (l : List Int) : List Int := if rightB l = true then strL l else []
theorem set_step (l : List Int) (k : Nat) (h : k < l.length) :
    (List.replicate (l.length - k) 0 ++ (strL l).drop (l.length - k)).set (l.length - 1 - k) (prod (l.drop (l.length - k))) = List.replicate (l.length - (k + 1)) 0 ++ (strL l).drop (l.length - (k + 1)) := by
  have e1 : l.length - k = (l.length - 1 - k) + 1 := by omega
  have e2 : l.length - (k + 1) = l.length - 1 - k := by omega
  rw [e2, strL_drop l (l.length - 1 - k) (by omega), ← e1]
  generalize l.length - 1 - k = m at *
  rw [e1, List.replicate_succ', List.append_assoc, List.set_append_right _ _ (by simp)]
  simp

/-- A slice of these numbers is answered; nothing that was there is written. -/
def RetInts (w : World) (xs : List Int) (e : Ending) (w' : World) : Prop := ∃ A c, e = .returned (.slice A xs.length c) ∧ Ints w' A xs ∧ Below w.heap.size w w'

end Go.Proofs.YthabimjmdnhomaaDoor.Sh
