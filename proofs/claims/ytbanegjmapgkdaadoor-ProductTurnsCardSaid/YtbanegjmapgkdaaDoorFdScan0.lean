/-
  What fold.Scan answers, in all its ways; nothing that was there is written. Conditions: the table of traits holds what its text lays; the numbers are int64.
-/
import Derived.Test.YtbanegjmapgkdaaDoorFdFit
set_option maxRecDepth 100000
namespace Go.Proofs.YtbanegjmapgkdaaDoor.Fd
open Go.Proofs.YtbanegjmapgkdaaDoor.Sh
open Go.RowKit
set_option linter.unusedVariables false

theorem far5 {W : World} {p a1 a2 a3 a4 a5 : Addr} {u x1 x2 x3 x4 x5 : Value} (h : W.cell? a1 = some x1 ∧ W.cell? a2 = some x2 ∧ W.cell? a3 = some x3 ∧ W.cell? a4 = some x4 ∧ W.cell? a5 = some x5) (n1 : a1.block ≠ p.block) (n2 : a2.block ≠ p.block) (n3 : a3.block ≠ p.block) (n4 : a4.block ≠ p.block) (n5 : a5.block ≠ p.block) :
    (W.setCell p u).cell? a1 = some x1 ∧ (W.setCell p u).cell? a2 = some x2 ∧ (W.setCell p u).cell? a3 = some x3 ∧ (W.setCell p u).cell? a4 = some x4 ∧ (W.setCell p u).cell? a5 = some x5 := by
  have k : ∀ a x, W.cell? a = some x → a.block ≠ p.block → (W.setCell p u).cell? a = some x := fun a x h n => (World.cell?_setCell_other _ _ _ _ (fun e => by first | exact n (congrArg Addr.block e) | exact n (congrArg Addr.block e).symm)).trans h
  exact ⟨k _ _ h.1 n1, k _ _ h.2.1 n2, k _ _ h.2.2.1 n3, k _ _ h.2.2.2.1 n4, k _ _ h.2.2.2.2 n5⟩
theorem keepB {W w1 : World} {p : Addr} {x : Value} (hb : Below W.heap.size W w1) (h : W.cell? p = some x) : w1.cell? p = some x := (hb.cell (p := p) (World.block_lt_of_cell? W p h)).trans h
/-- The axis that is meant, its length, its stride. -/
structure AxOk (d : List Int) (b : Bool) (a P st : Nat) : Prop where
  ax : (if b = true then 0 else (d.length : Int) - 1) = (a : Int)
  lt : a < d.length
  hP : d.getD a 0 = (P : Int)
  hst : (strB d).getD a 0 = (st : Int)
  sl : (strB d).length = d.length
  P64 : P ≤ 64
end Go.Proofs.YtbanegjmapgkdaaDoor.Fd
