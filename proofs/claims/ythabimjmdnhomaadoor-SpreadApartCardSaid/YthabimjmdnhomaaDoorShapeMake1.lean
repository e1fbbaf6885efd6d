/-
  What riffleref01.With, Without and Turned and shape.Turned answer for any lengths; nothing that was there is written. Condition: a list is short enough for any machine.
-/
import Derived.Test.YthabimjmdnhomaaDoorShapeApp
import Derived.Test.YthabimjmdnhomaaDoorShapeStr
namespace Go.Proofs.YthabimjmdnhomaaDoor.Sh
open Go.RowKit
set_option linter.unusedVariables false

/-- The list with n in the place of what stands at the axis. -/
def withL (d : List Int) (x n : Int) : List Int := if 0 ≤ x ∧ x < d.length then d.set x.toNat n else d
/-- The list without what stands at the axis. -/
def withoutL (d : List Int) (x : Int) : List Int := if 0 ≤ x ∧ x < d.length then d.eraseIdx x.toNat else d

theorem withL_nil (x n : Int) : withL [] x n = [] := if_neg (by simp only [List.length_nil]; omega)
theorem withoutL_nil (x : Int) : withoutL [] x = [] := if_neg (by simp only [List.length_nil]; omega)
theorem withL_take (d : List Int) (x n : Int) (k : Nat) (hk : k < d.length) : withL (d.take (k + 1)) x n = withL (d.take k) x n ++ [if (k : Int) = x then n else d.getD k 0] := by
  have hl : (d.take k).length = k := by simp; omega
  have hl1 : (d.take (k + 1)).length = k + 1 := by simp; omega
  unfold withL
  rw [hl, hl1, take_snoc d k hk]
  by_cases h : (k : Int) = x
  · subst h
    rw [if_pos (by omega), if_neg (by omega), if_pos rfl, Int.toNat_natCast, List.set_append_right _ _ (by omega)]
    simp [hl]
  · rw [if_neg h]
    by_cases h2 : 0 ≤ x ∧ x < k
    · rw [if_pos (by omega), if_pos h2, List.set_append_left _ _ (by omega)]
    · rw [if_neg (by omega), if_neg h2]
theorem withoutL_take (d : List Int) (x : Int) (k : Nat) (hk : k < d.length) : withoutL (d.take (k + 1)) x = withoutL (d.take k) x ++ if (k : Int) = x then [] else [d.getD k 0] := by
  have hl : (d.take k).length = k := by simp; omega
  have hl1 : (d.take (k + 1)).length = k + 1 := by simp; omega
  unfold withoutL
  rw [hl, hl1, take_snoc d k hk]
  by_cases h : (k : Int) = x
  · subst h
    rw [if_pos (by omega), if_neg (by omega), if_pos rfl, Int.toNat_natCast, List.eraseIdx_append_of_length_le (by omega)]
    simp [hl]
  · rw [if_neg h]
    by_cases h2 : 0 ≤ x ∧ x < k
    · rw [if_pos (by omega), if_pos h2, List.eraseIdx_append_of_lt_length (by omega)]
    · rw [if_neg (by omega), if_neg h2]
theorem withL_len (d : List Int) (x n : Int) : (withL d x n).length = d.length := by unfold withL; split <;> simp
theorem withoutL_len (d : List Int) (x : Int) : (withoutL d x).length ≤ d.length := by unfold withoutL; split <;> simp [List.length_eraseIdx]; split <;> omega

theorem rev_drop (d : List Int) (k : Nat) (h : k < d.length) : (d.drop (d.length - (k + 1))).reverse = (d.drop (d.length - k)).reverse ++ [d.getD (d.length - 1 - k) 0] := by
  rw [show d.length - (k + 1) = d.length - 1 - k from by omega, drop_at d (d.length - 1 - k) (by omega), List.reverse_cons, show d.length - 1 - k + 1 = d.length - k from by omega]

/-- The numbers so far, put down from behind. -/
theorem turn_step (d : List Int) (k : Nat) (h : k < d.length) :
    (List.replicate (d.length - k) 0 ++ (d.take k).reverse).set (d.length - 1 - k) (d.getD k 0) = List.replicate (d.length - (k + 1)) 0 ++ (d.take (k + 1)).reverse := by
  rw [take_snoc d k h, List.reverse_append, List.reverse_singleton]
  have e1 : d.length - k = (d.length - 1 - k) + 1 := by omega
  have e2 : d.length - (k + 1) = d.length - 1 - k := by omega
  rw [e1, e2, List.replicate_succ', List.append_assoc, List.set_append_right _ _ (by simp)]
  simp

end Go.Proofs.YthabimjmdnhomaaDoor.Sh
