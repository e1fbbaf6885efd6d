/-
  A function that joins: three numbers come to the same, whichever two are taken first. No condition.
-/
import Derived.Test.YtfamgaakcbinkaaDoorPkX
set_option maxRecDepth 100000
namespace Go.Proofs.YtfamgaakcbinkaaDoor.Sc
open Go.RowKit
set_option linter.unusedVariables false

theorem twoI_1 (a b : Int) : twoI 1 a b = wrap64 (a + b) := by
  unfold twoI
  rw [if_pos rfl]
theorem twoI_2 (a b : Int) : twoI 2 a b = wrap64 (a - b) := by
  unfold twoI
  rw [if_neg (by decide), if_pos rfl]
theorem twoI_3 (a b : Int) : twoI 3 a b = wrap64 (a * b) := by
  unfold twoI
  rw [if_neg (by decide), if_neg (by decide), if_pos rfl]
theorem twoI_4 (a b : Int) : twoI 4 a b = overI a b := by
  unfold twoI
  rw [if_neg (by decide), if_neg (by decide), if_neg (by decide), if_pos rfl]
theorem twoI_5 (a b : Int) : twoI 5 a b = powI a b := by
  unfold twoI
  rw [if_neg (by decide), if_neg (by decide), if_neg (by decide), if_neg (by decide), if_pos rfl]
theorem twoI_6 (a b : Int) : twoI 6 a b = restI a b := by
  unfold twoI
  rw [if_neg (by decide), if_neg (by decide), if_neg (by decide), if_neg (by decide), if_neg (by decide), if_pos rfl]
theorem twoI_7 (a b : Int) : twoI 7 a b = max a b := by
  unfold twoI
  rw [if_neg (by decide), if_neg (by decide), if_neg (by decide), if_neg (by decide), if_neg (by decide), if_neg (by decide), if_pos rfl]
theorem twoI_8 (a b : Int) : twoI 8 a b = min a b := by
  unfold twoI
  rw [if_neg (by decide), if_neg (by decide), if_neg (by decide), if_neg (by decide), if_neg (by decide), if_neg (by decide), if_neg (by decide), if_pos rfl]
theorem twoI_9 (a b : Int) : twoI 9 a b = (if a = b then 1 else 0) := by
  unfold twoI
  rw [if_neg (by decide), if_neg (by decide), if_neg (by decide), if_neg (by decide), if_neg (by decide), if_neg (by decide), if_neg (by decide), if_neg (by decide), if_pos rfl]
theorem twoI_10 (a b : Int) : twoI 10 a b = (if ¬ a = b then 1 else 0) := by
  unfold twoI
  rw [if_neg (by decide), if_neg (by decide), if_neg (by decide), if_neg (by decide), if_neg (by decide), if_neg (by decide), if_neg (by decide), if_neg (by decide), if_neg (by decide), if_pos rfl]
theorem twoI_11 (a b : Int) : twoI 11 a b = (if a < b then 1 else 0) := by
  unfold twoI
  rw [if_neg (by decide), if_neg (by decide), if_neg (by decide), if_neg (by decide), if_neg (by decide), if_neg (by decide), if_neg (by decide), if_neg (by decide), if_neg (by decide), if_neg (by decide), if_pos rfl]
theorem twoI_12 (a b : Int) : twoI 12 a b = (if a ≤ b then 1 else 0) := by
  unfold twoI
  rw [if_neg (by decide), if_neg (by decide), if_neg (by decide), if_neg (by decide), if_neg (by decide), if_neg (by decide), if_neg (by decide), if_neg (by decide), if_neg (by decide), if_neg (by decide), if_neg (by decide), if_pos rfl]
theorem twoI_13 (a b : Int) : twoI 13 a b = (if b < a then 1 else 0) := by
  unfold twoI
  rw [if_neg (by decide), if_neg (by decide), if_neg (by decide), if_neg (by decide), if_neg (by decide), if_neg (by decide), if_neg (by decide), if_neg (by decide), if_neg (by decide), if_neg (by decide), if_neg (by decide), if_neg (by decide), if_pos rfl]
theorem twoI_14 (a b : Int) : twoI 14 a b = (if b ≤ a then 1 else 0) := by
  unfold twoI
  rw [if_neg (by decide), if_neg (by decide), if_neg (by decide), if_neg (by decide), if_neg (by decide), if_neg (by decide), if_neg (by decide), if_neg (by decide), if_neg (by decide), if_neg (by decide), if_neg (by decide), if_neg (by decide), if_neg (by decide), if_pos rfl]
theorem twoI_15 (a b : Int) : twoI 15 a b = bits .and .i64 a b := by
  unfold twoI
  rw [if_neg (by decide), if_neg (by decide), if_neg (by decide), if_neg (by decide), if_neg (by decide), if_neg (by decide), if_neg (by decide), if_neg (by decide), if_neg (by decide), if_neg (by decide), if_neg (by decide), if_neg (by decide), if_neg (by decide), if_neg (by decide), if_pos rfl]
theorem twoI_16 (a b : Int) : twoI 16 a b = bits .or .i64 a b := by
  unfold twoI
  rw [if_neg (by decide), if_neg (by decide), if_neg (by decide), if_neg (by decide), if_neg (by decide), if_neg (by decide), if_neg (by decide), if_neg (by decide), if_neg (by decide), if_neg (by decide), if_neg (by decide), if_neg (by decide), if_neg (by decide), if_neg (by decide), if_neg (by decide), if_pos rfl]
theorem twoI_17 (a b : Int) : twoI 17 a b = a := by
  unfold twoI
  rw [if_neg (by decide), if_neg (by decide), if_neg (by decide), if_neg (by decide), if_neg (by decide), if_neg (by decide), if_neg (by decide), if_neg (by decide), if_neg (by decide), if_neg (by decide), if_neg (by decide), if_neg (by decide), if_neg (by decide), if_neg (by decide), if_neg (by decide), if_neg (by decide), if_pos rfl]
theorem twoI_18 (a b : Int) : twoI 18 a b = b := by
  unfold twoI
  rw [if_neg (by decide), if_neg (by decide), if_neg (by decide), if_neg (by decide), if_neg (by decide), if_neg (by decide), if_neg (by decide), if_neg (by decide), if_neg (by decide), if_neg (by decide), if_neg (by decide), if_neg (by decide), if_neg (by decide), if_neg (by decide), if_neg (by decide), if_neg (by decide), if_neg (by decide), if_pos rfl]
theorem joins_cases {c : Int} (h : (trOf c).joins = true) : c = 1 ∨ c = 3 ∨ c = 7 ∨ c = 8 ∨ c = 15 ∨ c = 16 ∨ c = 17 ∨ c = 18 := by
  by_cases h1 : 1 ≤ c ∧ c ≤ 19
  · obtain ⟨k, rfl⟩ : ∃ k : Nat, c = k := ⟨c.toNat, by omega⟩
    have hk : ∀ k : Nat, k < 20 → (trL.getD k noTr).joins = true → k = 1 ∨ k = 3 ∨ k = 7 ∨ k = 8 ∨ k = 15 ∨ k = 16 ∨ k = 17 ∨ k = 18 := by decide
    have e : trOf (k : Int) = trL.getD k noTr := trOf_in h1.1 h1.2
    rw [e] at h
    have := hk k (by omega) h
    omega
  · rw [trOf_out (c := c) (by omega)] at h
    cases h
theorem two_assoc {c : Int} (h : (trOf c).joins = true) (a b e : Int) : twoI c a (twoI c b e) = twoI c (twoI c a b) e := by
  rcases joins_cases h with h | h | h | h | h | h | h | h <;> subst h
  · rw [twoI_1, twoI_1, twoI_1, twoI_1, wrap_add_r, wrap_add_l, Int.add_assoc]
  · rw [twoI_3, twoI_3, twoI_3, twoI_3, wrap_mul_r, wrap_mul_l, Int.mul_assoc]
  · rw [twoI_7, twoI_7, twoI_7, twoI_7]; omega
  · rw [twoI_8, twoI_8, twoI_8, twoI_8]; omega
  · rw [twoI_15, twoI_15, twoI_15, twoI_15, and_assoc]
  · rw [twoI_16, twoI_16, twoI_16, twoI_16, or_assoc]
  · rw [twoI_17, twoI_17, twoI_17]
  · rw [twoI_18, twoI_18, twoI_18]
theorem do_assoc {c : Int} (h : (trOf c).joins = true) (s : Bool) (a b e : Int) : doI c s a (doI c s b e) = doI c s (doI c s a b) e := by
  unfold doI
  cases s
  · exact two_assoc h a b e
  · exact (two_assoc h e b a).symm
end Go.Proofs.YtfamgaakcbinkaaDoor.Sc
