/-
  What shape.Picked and riffleref01.Picked answer for any lists; nothing that was there is written. Condition: at most 100 numbers each.
-/
import Derived.Test.YthabimjmdnhomaaShapeMake3
namespace Go.Proofs.Ythabimjmdnhomaa.Sh
open Go.RowKit
set_option linter.unusedVariables false

theorem pickB_no {d p : List Int} (h : ¬ (p.length = d.length ∧ permB p = true)) : pickB d p = [] := if_neg h
theorem pickB_yes {d p : List Int} (h : p.length = d.length) (hp : permB p = true) : pickB d p = fI d.length (pf d p) := if_pos ⟨h, hp⟩
theorem pf_zero (n : Nat) : pf [] [] n = 0 := rfl
theorem pick_step (d p : List Int) (k : Nat) (h : p.length = d.length) (hk : k < d.length) (h0 : 0 ≤ p.getD k 0) :
    (fI d.length (pf (d.take k) (p.take k))).set (p.getD k 0).toNat (d.getD k 0) = fI d.length (pf (d.take (k + 1)) (p.take (k + 1))) := by
  rw [fI_set]
  apply fI_congr
  intro j _
  rw [pf_take d p k h hk]
  by_cases e : p.getD k 0 = (j : Int)
  · rw [if_pos e, if_pos (by omega)]
  · rw [if_neg e, if_neg (by omega)]
theorem perm_at {p : List Int} (h : permB p = true) (k : Nat) (hk : k < p.length) : 0 ≤ p.getD k 0 ∧ p.getD k 0 < p.length :=
  permB_range h (p.getD k 0) (by simp [List.getD, hk])

end Go.Proofs.Ythabimjmdnhomaa.Sh
