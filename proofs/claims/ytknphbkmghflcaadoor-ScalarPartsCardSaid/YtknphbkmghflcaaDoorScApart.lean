/-
  That of each function with two arguments that doesn't join three numbers from -2 to 3 come to unlike ones, by which number of the search they are found. No condition.
-/
import Derived.Test.YtknphbkmghflcaaDoorScThree
namespace Go.Proofs.YtknphbkmghflcaaDoor.Sc
open Go.RowKit
set_option linter.unusedVariables false

/-- The three numbers of a place of the search. -/
def pA (n : Nat) : Int := (n : Int) % 6 - 2
def pB (n : Nat) : Int := (n : Int) / 6 % 6 - 2
def pC (n : Nat) : Int := (n : Int) / 36 - 2
theorem pA_R (n : Nat) : InR (pA n) := by unfold InR pA; omega
theorem pB_R (n : Nat) : InR (pB n) := by unfold InR pB; omega
theorem pC_R {n : Nat} (h : n < 216) : InR (pC n) := by unfold InR pC; omega
def Apart (c : Int) (s : Bool) (n : Nat) : Prop := ¬ doI c s (pA n) (doI c s (pB n) (pC n)) = doI c s (doI c s (pA n) (pB n)) (pC n)
theorem apart_2f : Apart 2 false 0 := by
  unfold Apart
  rw [show pA 0 = -2 from by decide, show pB 0 = -2 from by decide, show pC 0 = -2 from by decide]
  simp only [doI, twoI_2, wrap_def]
  decide
theorem apart_2t : Apart 2 true 0 := by
  unfold Apart
  rw [show pA 0 = -2 from by decide, show pB 0 = -2 from by decide, show pC 0 = -2 from by decide]
  simp only [doI, twoI_2, wrap_def]
  decide
theorem apart_4f : Apart 4 false 0 := by
  unfold Apart
  rw [show pA 0 = -2 from by decide, show pB 0 = -2 from by decide, show pC 0 = -2 from by decide]
  simp only [doI, twoI_4, overI, wrap_def]
  decide
theorem apart_4t : Apart 4 true 0 := by
  unfold Apart
  rw [show pA 0 = -2 from by decide, show pB 0 = -2 from by decide, show pC 0 = -2 from by decide]
  simp only [doI, twoI_4, overI, wrap_def]
  decide
theorem apart_5f : Apart 5 false 0 := by
  unfold Apart
  rw [show pA 0 = -2 from by decide, show pB 0 = -2 from by decide, show pC 0 = -2 from by decide]
  simp only [doI, twoI_5, powI, wrap_def]
  decide
theorem apart_5t : Apart 5 true 0 := by
  unfold Apart
  rw [show pA 0 = -2 from by decide, show pB 0 = -2 from by decide, show pC 0 = -2 from by decide]
  simp only [doI, twoI_5, powI, wrap_def]
  decide
theorem apart_6f : Apart 6 false 0 := by
  unfold Apart
  rw [show pA 0 = -2 from by decide, show pB 0 = -2 from by decide, show pC 0 = -2 from by decide]
  simp only [doI, twoI_6, restI, overI, wrap_def]
  decide
theorem apart_6t : Apart 6 true 0 := by
  unfold Apart
  rw [show pA 0 = -2 from by decide, show pB 0 = -2 from by decide, show pC 0 = -2 from by decide]
  simp only [doI, twoI_6, restI, overI, wrap_def]
  decide
theorem apart_9f : Apart 9 false 3 := by
  unfold Apart
  rw [show pA 3 = 1 from by decide, show pB 3 = -2 from by decide, show pC 3 = -2 from by decide]
  simp only [doI, twoI_9]
  decide
theorem apart_9t : Apart 9 true 3 := by
  unfold Apart
  rw [show pA 3 = 1 from by decide, show pB 3 = -2 from by decide, show pC 3 = -2 from by decide]
  simp only [doI, twoI_9]
  decide
theorem apart_10f : Apart 10 false 2 := by
  unfold Apart
  rw [show pA 2 = 0 from by decide, show pB 2 = -2 from by decide, show pC 2 = -2 from by decide]
  simp only [doI, twoI_10]
  decide
theorem apart_10t : Apart 10 true 2 := by
  unfold Apart
  rw [show pA 2 = 0 from by decide, show pB 2 = -2 from by decide, show pC 2 = -2 from by decide]
  simp only [doI, twoI_10]
  decide
theorem apart_11f : Apart 11 false 0 := by
  unfold Apart
  rw [show pA 0 = -2 from by decide, show pB 0 = -2 from by decide, show pC 0 = -2 from by decide]
  simp only [doI, twoI_11]
  decide
theorem apart_11t : Apart 11 true 0 := by
  unfold Apart
  rw [show pA 0 = -2 from by decide, show pB 0 = -2 from by decide, show pC 0 = -2 from by decide]
  simp only [doI, twoI_11]
  decide
theorem apart_12f : Apart 12 false 0 := by
  unfold Apart
  rw [show pA 0 = -2 from by decide, show pB 0 = -2 from by decide, show pC 0 = -2 from by decide]
  simp only [doI, twoI_12]
  decide
theorem apart_12t : Apart 12 true 0 := by
  unfold Apart
  rw [show pA 0 = -2 from by decide, show pB 0 = -2 from by decide, show pC 0 = -2 from by decide]
  simp only [doI, twoI_12]
  decide
theorem apart_13f : Apart 13 false 0 := by
  unfold Apart
  rw [show pA 0 = -2 from by decide, show pB 0 = -2 from by decide, show pC 0 = -2 from by decide]
  simp only [doI, twoI_13]
  decide
theorem apart_13t : Apart 13 true 0 := by
  unfold Apart
  rw [show pA 0 = -2 from by decide, show pB 0 = -2 from by decide, show pC 0 = -2 from by decide]
  simp only [doI, twoI_13]
  decide
theorem apart_14f : Apart 14 false 0 := by
  unfold Apart
  rw [show pA 0 = -2 from by decide, show pB 0 = -2 from by decide, show pC 0 = -2 from by decide]
  simp only [doI, twoI_14]
  decide
theorem apart_14t : Apart 14 true 0 := by
  unfold Apart
  rw [show pA 0 = -2 from by decide, show pB 0 = -2 from by decide, show pC 0 = -2 from by decide]
  simp only [doI, twoI_14]
  decide
theorem apart_any {c : Int} (hh : hasB c 2 = true) (hj : (trOf c).joins = false) (s : Bool) : ∃ n, n < 216 ∧ Apart c s n := by
  have h : c = 2 ∨ c = 4 ∨ c = 5 ∨ c = 6 ∨ c = 9 ∨ c = 10 ∨ c = 11 ∨ c = 12 ∨ c = 13 ∨ c = 14 := by
    by_cases h1 : 1 ≤ c ∧ c ≤ 18
    · obtain ⟨k, rfl⟩ : ∃ k : Nat, c = k := ⟨c.toNat, by omega⟩
      have hk : ∀ k : Nat, k < 19 → 1 ≤ k → (trL.getD k noTr).joins = false → k = 2 ∨ (4 ≤ k ∧ k ≤ 6) ∨ (9 ≤ k ∧ k ≤ 14) := by decide
      have e : trOf (k : Int) = trL.getD k noTr := trOf_in h1.1 (by omega)
      rw [e] at hj
      have := hk k (by omega) (by omega) hj
      omega
    · rw [has2_out (by omega)] at hh; cases hh
  rcases h with h | h | h | h | h | h | h | h | h | h <;> subst h <;> cases s
  · exact ⟨0, by decide, apart_2f⟩
  · exact ⟨0, by decide, apart_2t⟩
  · exact ⟨0, by decide, apart_4f⟩
  · exact ⟨0, by decide, apart_4t⟩
  · exact ⟨0, by decide, apart_5f⟩
  · exact ⟨0, by decide, apart_5t⟩
  · exact ⟨0, by decide, apart_6f⟩
  · exact ⟨0, by decide, apart_6t⟩
  · exact ⟨3, by decide, apart_9f⟩
  · exact ⟨3, by decide, apart_9t⟩
  · exact ⟨2, by decide, apart_10f⟩
  · exact ⟨2, by decide, apart_10t⟩
  · exact ⟨0, by decide, apart_11f⟩
  · exact ⟨0, by decide, apart_11t⟩
  · exact ⟨0, by decide, apart_12f⟩
  · exact ⟨0, by decide, apart_12t⟩
  · exact ⟨0, by decide, apart_13f⟩
  · exact ⟨0, by decide, apart_13t⟩
  · exact ⟨0, by decide, apart_14f⟩
  · exact ⟨0, by decide, apart_14t⟩
end Go.Proofs.YtknphbkmghflcaaDoor.Sc
