/-
  A list of numbers does not lie in the box of a cell: a store into the box leaves the list as it was. No condition.
-/
import Derived.Test.YtbanegjmapgkdaaDoorPkC
set_option maxRecDepth 100000
namespace Go.Proofs.YtbanegjmapgkdaaDoor.Sh
open Go.RowKit
set_option linter.unusedVariables false

theorem Box.cells {w : World} {g : Nat} {x y : Value} (h : Box w g x y) (i : Nat) {u : Value} (hu : w.cell? ⟨g, i, none⟩ = some u) : u = x ∨ u = y := by
  rw [cell_of_row w g i _ _ _ h] at hu
  match i, hu with
  | 0, hu => left; simpa using hu.symm
  | 1, hu => right; simpa using hu.symm
  | i + 2, hu => simp at hu
/-- The numbers lie elsewhere than the box. -/
theorem Ints.ne_box {w : World} {b off g : Nat} {l : List Int} {A B : Option Addr} {n c m e : Nat} (h : Ints w (some ⟨b, off, none⟩) l) (hp : 0 < l.length) (bx : Box w g (.slice A n c) (.slice B m e)) : b ≠ g := fun hbg => by
  obtain ⟨b', o', e', _, hc⟩ := h hp
  injection e' with e'
  injection e' with e1 e2
  subst e1 e2 hbg
  rcases bx.cells _ (hc 0 hp) with h | h <;> cases h
theorem Ints.set_box {w : World} {g : Nat} {l : List Int} {L A B : Option Addr} {n c m e : Nat} (h : Ints w L l) (bx : Box w g (.slice A n c) (.slice B m e)) (x y : Value) : Ints ((w.setCell ⟨g, 0, none⟩ x).setCell ⟨g, 1, none⟩ y) L l := fun hp => by
  obtain ⟨b, off, rfl, hb, hc⟩ := h hp
  have hne := Ints.ne_box h hp bx
  refine ⟨b, off, rfl, by simpa [World.setCell] using hb, fun i hi => ?_⟩
  rw [World.cell?_setCell_other _ ⟨g, 1, none⟩ ⟨b, off + i, none⟩ y (fun e => by injection e with e1; omega), World.cell?_setCell_other _ ⟨g, 0, none⟩ ⟨b, off + i, none⟩ x (fun e => by injection e with e1; omega)]
  exact hc i hi
end Go.Proofs.YtbanegjmapgkdaaDoor.Sh
