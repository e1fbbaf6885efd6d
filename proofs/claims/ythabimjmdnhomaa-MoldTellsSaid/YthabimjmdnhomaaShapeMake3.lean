/-
  What shape.Perm, shape.Picked, riffleref01.Perm and riffleref01.Picked answer for any lists; nothing that was there is written. Condition: at most 100 numbers each.
-/
import Derived.Test.YthabimjmdnhomaaShapePick
import Derived.Test.YthabimjmdnhomaaShapeMake2
import Derived.RegionTactic
namespace Go.Proofs.Ythabimjmdnhomaa.Sh
open Go.RowKit
set_option linter.unusedVariables false

/-- The first k numbers are in their range, and none stands twice. -/
def Fine (p : List Int) (k : Nat) : Prop := (∀ x ∈ p.take k, 0 ≤ x ∧ x < p.length) ∧ ∀ x : Int, (p.take k).count x ≤ 1
theorem Fine.next {p : List Int} {k : Nat} (h : Fine p k) (hk : k < p.length) (h0 : 0 ≤ p.getD k 0) (h1 : p.getD k 0 < p.length) (hn : ¬ p.getD k 0 ∈ p.take k) : Fine p (k + 1) := by
  refine ⟨fun x hx => ?_, fun x => ?_⟩
  · rw [take_snoc p k hk, List.mem_append] at hx
    rcases hx with hx | hx
    · exact h.1 x hx
    · rw [List.mem_singleton] at hx; subst hx; exact ⟨h0, h1⟩
  · rw [count_take p k hk]
    have := h.2 x
    split
    · rename_i e
      subst e
      have : (p.take k).count (p.getD k 0) = 0 := List.count_eq_zero.2 hn
      omega
    · omega
theorem Fine.zero (p : List Int) : Fine p 0 := ⟨by simp, by simp⟩
theorem Fine.all {p : List Int} (h : Fine p p.length) : permB p = true := by
  unfold Fine at h
  rw [List.take_length] at h
  exact permB_of h.1 h.2
/-- Which numbers stand among the first k. -/
def metF (p : List Int) (k : Nat) (j : Nat) : Bool := decide ((j : Int) ∈ p.take k)
theorem metF_next (p : List Int) (k : Nat) (hk : k < p.length) (h0 : 0 ≤ p.getD k 0) (j : Nat) : (if (p.getD k 0).toNat = j then true else metF p k j) = metF p (k + 1) j := by
  unfold metF
  rw [take_snoc p k hk]
  by_cases h : (p.getD k 0).toNat = j
  · rw [if_pos h]
    have : (j : Int) = p.getD k 0 := by omega
    simp [this]
  · rw [if_neg h]
    have : ¬ (j : Int) = p.getD k 0 := by omega
    simp only [List.mem_append, List.mem_singleton, this, or_false]

theorem all_succ (p : List Int) (n : Nat) : (List.range (n + 1)).all (fun j => p.count (j : Int) == 1) = ((List.range n).all (fun j => p.count (j : Int) == 1) && (p.count (n : Int) == 1)) := by
  rw [List.range_succ, List.all_append]; simp
theorem permB_stop {p : List Int} {n : Nat} (hn : n < p.length) (h : ¬ p.count (n : Int) = 1) : permB p = false := by
  rw [Bool.eq_false_iff]; intro hp; exact h ((permB_iff p).1 hp n hn)

end Go.Proofs.Ythabimjmdnhomaa.Sh
