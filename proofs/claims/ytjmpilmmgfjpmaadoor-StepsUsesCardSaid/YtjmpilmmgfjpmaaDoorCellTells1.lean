/-
  rifflelaw03.CellTells returns true for any two cells and any place that has a number. Condition: at most 10 axes and 200 numbers.
-/
import Derived.Test.YtjmpilmmgfjpmaaDoorCellRItem2
import Derived.Test.YtjmpilmmgfjpmaaDoorCellLives
import Derived.Deep.DeepCutAuto
set_option maxRecDepth 100000
namespace Go.Proofs.YtjmpilmmgfjpmaaDoor.Sh
open Go.RowKit
set_option linter.unusedVariables false

theorem itemD_len (d : List Int) (n : Nat) (i : Int) : (itemD d n i).length ≤ d.length := by unfold itemD; split <;> simp
theorem itemV_len (d v : List Int) (i : Int) : (itemV d v i).length ≤ v.length := by
  unfold itemV
  split
  · simp [piece]; omega
  · simp
section
variable (A : Option Addr) (c : Nat) (d : List Int) (B : Option Addr) (n c2 : Nat) (w : World) (cb : Bool) (hcb : cellB d n = cb) (hl : d.length ≤ maxLen) (hi : Ints w A d)
include hcb hl hi
end
section
variable (A : Option Addr) (c : Nat) (d : List Int) (B : Option Addr) (c2 : Nat) (v : List Int) (A' : Option Addr) (c' : Nat) (e : List Int) (B' : Option Addr) (c2' : Nat) (u : List Int) (w : World) (sb : Bool) (hsb : sameB d v e u = sb)
    (hd : d.length ≤ maxLen) (hv : v.length ≤ maxLen) (he : e.length ≤ maxLen) (hu : u.length ≤ maxLen) (id : Ints w A d) (iv : Ints w B v) (ie : Ints w A' e) (iu : Ints w B' u)
include hsb hd hv he hu id iv ie iu
end
/-- Four boxes of cells stay as they are. -/
theorem keepS {W w1 : World} {g0 g1 g2 g3 : Nat} {x0 y0 x1 y1 x2 y2 x3 y3 : Value} (hb : Below W.heap.size W w1)
    (h : W.cell? ⟨g0, 0, none⟩ = some x0 ∧ W.cell? ⟨g0, 1, none⟩ = some y0 ∧ W.cell? ⟨g1, 0, none⟩ = some x1 ∧ W.cell? ⟨g1, 1, none⟩ = some y1 ∧ W.cell? ⟨g2, 0, none⟩ = some x2 ∧ W.cell? ⟨g2, 1, none⟩ = some y2 ∧ W.cell? ⟨g3, 0, none⟩ = some x3 ∧ W.cell? ⟨g3, 1, none⟩ = some y3) :
    w1.cell? ⟨g0, 0, none⟩ = some x0 ∧ w1.cell? ⟨g0, 1, none⟩ = some y0 ∧ w1.cell? ⟨g1, 0, none⟩ = some x1 ∧ w1.cell? ⟨g1, 1, none⟩ = some y1 ∧ w1.cell? ⟨g2, 0, none⟩ = some x2 ∧ w1.cell? ⟨g2, 1, none⟩ = some y2 ∧ w1.cell? ⟨g3, 0, none⟩ = some x3 ∧ w1.cell? ⟨g3, 1, none⟩ = some y3 := by
  obtain ⟨h0, h1, h2, h3, h4, h5, h6, h7⟩ := h
  have k0 := keepC hb ⟨h0, h1⟩
  have k1 := keepC hb ⟨h2, h3⟩
  have k2 := keepC hb ⟨h4, h5⟩
  have k3 := keepC hb ⟨h6, h7⟩
  exact ⟨k0.1, k0.2, k1.1, k1.2, k2.1, k2.2, k3.1, k3.2⟩

end Go.Proofs.YtjmpilmmgfjpmaaDoor.Sh
