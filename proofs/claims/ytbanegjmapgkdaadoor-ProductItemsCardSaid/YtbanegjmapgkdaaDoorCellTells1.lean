/-
  rifflelaw03.CellTells returns true for any two cells and any place that has a number. Condition: at most 10 axes and 200 numbers.
-/
import Derived.Test.YtbanegjmapgkdaaDoorCellRItem2
import Derived.Test.YtbanegjmapgkdaaDoorCellLives
import Derived.Deep.DeepCutAuto
set_option maxRecDepth 100000
namespace Go.Proofs.YtbanegjmapgkdaaDoor.Sh
open Go.RowKit
set_option linter.unusedVariables false

theorem item_any (A : Option Addr) (c : Nat) (d : List Int) (B : Option Addr) (c2 : Nat) (v : List Int) (i : Int) (w : World) (hd : d.length ≤ 100) (hc : v.length ≤ c2) (hcm : c2 ≤ maxLen) (id : Ints w A d) (iv : Ints w B v) :
    Calls Tryd.prog 18 #[.agg #[.slice A d.length c, .slice B v.length c2], .int .i64 i] w (RetC w (itemD d v.length i) (itemV d v i) (.bool (itemB d v.length i))) := by
  by_cases h : itemB d v.length i = true
  · rw [(item_is h).1, (item_is h).2, h]
    exact item_yes A c d B c2 v i w hc hcm id iv h
  · have h' : itemB d v.length i = false := by simpa using h
    rw [(item_not h').1, (item_not h').2, h']
    exact item_no A c d B c2 v.length i w hd id h'
theorem itemD_len (d : List Int) (n : Nat) (i : Int) : (itemD d n i).length ≤ d.length := by unfold itemD; split <;> simp
theorem itemV_len (d v : List Int) (i : Int) : (itemV d v i).length ≤ v.length := by
  unfold itemV
  split
  · simp [piece]; omega
  · simp
theorem rsame_refl (A : Option Addr) (c : Nat) (d : List Int) (B : Option Addr) (c2 : Nat) (v : List Int) (A' : Option Addr) (c' : Nat) (B' : Option Addr) (c2' : Nat) (w : World)
    (hd : d.length ≤ 1000) (hv : v.length ≤ 1000) (id : Ints w A d) (iv : Ints w B v) (ie : Ints w A' d) (iu : Ints w B' v) :
    Calls Tryd.prog 14 #[.agg #[.slice A d.length c, .slice B v.length c2], .agg #[.slice A' d.length c', .slice B' v.length c2']] w fun r w' => r = .returned (.bool true) ∧ Below w.heap.size w w' := by
  refine (rsame_any A c d B c2 v A' c' d B' c2' v w (by unfold maxLen; omega) (by unfold maxLen; omega) (by unfold maxLen; omega) (by unfold maxLen; omega) id iv ie iu).mono ?_
  rintro r w' ⟨rfl, hb⟩
  exact ⟨by simp [sameB], hb⟩
section
variable (A : Option Addr) (c : Nat) (d : List Int) (B : Option Addr) (n c2 : Nat) (w : World) (cb : Bool) (hcb : cellB d n = cb) (hl : d.length ≤ maxLen) (hi : Ints w A d)
include hcb hl hi
theorem cright_b : Calls Tryd.prog 35 #[.agg #[.slice A d.length c, .slice B n c2]] w fun e w' => e = .returned (.bool cb) ∧ Below w.heap.size w w' := by
  rw [← hcb]; exact cright_any A c d B n c2 w hl hi
theorem rright_b : Calls Tryd.prog 40 #[.agg #[.slice A d.length c, .slice B n c2]] w fun e w' => e = .returned (.bool cb) ∧ Below w.heap.size w w' := by
  rw [← hcb]; exact rright_any A c d B n c2 w hl hi
end
section
variable (A : Option Addr) (c : Nat) (d : List Int) (B : Option Addr) (c2 : Nat) (v : List Int) (A' : Option Addr) (c' : Nat) (e : List Int) (B' : Option Addr) (c2' : Nat) (u : List Int) (w : World) (sb : Bool) (hsb : sameB d v e u = sb)
    (hd : d.length ≤ maxLen) (hv : v.length ≤ maxLen) (he : e.length ≤ maxLen) (hu : u.length ≤ maxLen) (id : Ints w A d) (iv : Ints w B v) (ie : Ints w A' e) (iu : Ints w B' u)
include hsb hd hv he hu id iv ie iu
theorem rsame_b : Calls Tryd.prog 14 #[.agg #[.slice A d.length c, .slice B v.length c2], .agg #[.slice A' e.length c', .slice B' u.length c2']] w fun r w' => r = .returned (.bool sb) ∧ Below w.heap.size w w' := by
  rw [← hsb]; exact rsame_any A c d B c2 v A' c' e B' c2' u w hd hv he hu id iv ie iu
end
/-- Four boxes of cells stay as they are. -/
theorem keepS {W w1 : World} {g0 g1 g2 g3 : Nat} {x0 y0 x1 y1 x2 y2 x3 y3 : Value} (hb : Below W.heap.size W w1)
    (h : W.cell? ⟨g0, 0, none⟩ = some x0 ∧ W.cell? ⟨g0, 1, none⟩ = some y0 ∧ W.cell? ⟨g1, 0, none⟩ = some x1 ∧ W.cell? ⟨g1, 1, none⟩ = some y1 ∧ W.cell? ⟨g2, 0, none⟩ = some x2 ∧ W.cell? ⟨g2, 1, none⟩ = some y2 ∧ W.cell? ⟨g3, 0, none⟩ = some x3 ∧ W.cell? ⟨g3, 1, none⟩ = some y3) :
    w1.cell? ⟨g0, 0, none⟩ = some x0 ∧ w1.cell? ⟨g0, 1, none⟩ = some y0 ∧ w1.cell? ⟨g1, 0, none⟩ = some x1 ∧ w1.cell? ⟨g1, 1, none⟩ = some y1 ∧ w1.cell? ⟨g2, 0, none⟩ = some x2 ∧ w1.cell? ⟨g2, 1, none⟩ = some y2 ∧ w1.cell? ⟨g3, 0, none⟩ = some x3 ∧ w1.cell? ⟨g3, 1, none⟩ = some y3 := by
  obtain ⟨h0, h1, h2, h3, h4, h5, h6, h7⟩ := h
  have k0 := keepC hb ⟨h0, h1⟩
  have k1 := keepC hb ⟨h2, h3⟩
  have k2 := keepC hb ⟨h4, h5⟩
  have k3 := keepC hb ⟨h6, h7⟩
  exact ⟨k0.1, k0.2, k1.1, k1.2, k2.1, k2.2, k3.1, k3.2⟩

end Go.Proofs.YtbanegjmapgkdaaDoor.Sh
