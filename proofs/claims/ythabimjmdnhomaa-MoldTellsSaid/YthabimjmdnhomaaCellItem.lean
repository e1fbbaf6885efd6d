/-
  What cell.Item answers for any cell and any number; nothing that was there is written. Condition: at most 100 axes and 1000 numbers.
-/
import Derived.Test.YthabimjmdnhomaaCellMake
namespace Go.Proofs.Ythabimjmdnhomaa.Sh
open Go.RowKit
set_option linter.unusedVariables false

/-- A slice of these numbers, in new memory. -/
def RetF (w : World) (xs : List Int) (e : Ending) (w' : World) : Prop := ∃ A c, e = .returned (.slice A xs.length c) ∧ Fr w' w.heap.size A xs ∧ Below w.heap.size w w'

/-- Has a cell an Item of this number? -/
def itemB (d : List Int) (n : Nat) (i : Int) : Bool := cellB d n && decide (0 < d.length) && decide (0 ≤ i) && decide (i < d.getD 0 0)
def itemD (d : List Int) (n : Nat) (i : Int) : List Int := if itemB d n i = true then d.tail else []
def itemV (d v : List Int) (i : Int) : List Int := if itemB d v.length i = true then piece v i.toNat (sizeI d.tail).toNat else []
theorem item_not {d v : List Int} {i : Int} (h : itemB d v.length i = false) : itemD d v.length i = [] ∧ itemV d v i = [] := by simp [itemD, itemV, h]
theorem item_is {d v : List Int} {i : Int} (h : itemB d v.length i = true) : itemD d v.length i = d.tail ∧ itemV d v i = piece v i.toNat (sizeI d.tail).toNat := by simp [itemD, itemV, h]
/-- The parts of a cell that has Items. -/
theorem item_parts {d : List Int} {n : Nat} {i : Int} (h : itemB d n i = true) : ∃ (x s k : Nat) (t : List Int), d = (x : Int) :: t ∧ rightB d = true ∧ rightB t = true ∧ sizeI t = s ∧ n = x * s ∧ i = k ∧ k < x ∧ (k + 1) * s ≤ n ∧ n ≤ 64 ∧ x ≤ 64 ∧ d.length ≤ 3 := by
  simp only [itemB, Bool.and_eq_true, decide_eq_true_eq] at h
  obtain ⟨⟨⟨h1, h2⟩, h3⟩, h4⟩ := h
  obtain ⟨hr, hn⟩ := cellB_parts h1
  cases d with
  | nil => simp at h2
  | cons y t =>
    simp at h4
    obtain ⟨hl3, hall, h64⟩ := rightB_all hr
    have hs : sizeI (y :: t) = prod (y :: t) := sizeI_mk hl3 hall h64
    rw [prod_cons] at h64 hs
    have hy := okAx_bd (by simpa using (List.all_eq_true.1 hall) y (by simp))
    have hta : t.all okAx = true := by
      rw [List.all_eq_true] at hall ⊢
      intro z hz
      exact hall z (by simp [hz])
    have hp0 := (prod_bd t hta).1
    have hge : 1 * prod t ≤ y * prod t := Int.mul_le_mul_of_nonneg_right (by omega) hp0
    have hrt : rightB t = true := rightB_mk (by simp at hl3; omega) hta (by omega)
    have hst : sizeI t = prod t := by simp [sizeI, hrt]
    have hki : (i + 1) * prod t ≤ y * prod t := Int.mul_le_mul_of_nonneg_right (by omega) hp0
    refine ⟨y.toNat, (prod t).toNat, i.toNat, t, by simp; omega, hr, hrt, by rw [hst]; omega, ?_, by omega, by omega, ?_, by omega, by omega, hl3⟩
    · have : ((y.toNat * (prod t).toNat : Nat) : Int) = y * prod t := by rw [Int.natCast_mul, Int.toNat_of_nonneg (by omega), Int.toNat_of_nonneg hp0]
      omega
    · have : (((i.toNat + 1) * (prod t).toNat : Nat) : Int) = (i + 1) * prod t := by rw [Int.natCast_mul, Int.natCast_add, Int.toNat_of_nonneg (by omega), Int.toNat_of_nonneg hp0]; rfl
      omega

theorem size_nat (A : Option Addr) (c : Nat) (d : List Int) (s : Nat) (w : World) (hs : sizeI d = s) (hl : d.length ≤ maxLen) (hi : Ints w A d) :
    Calls Try.prog 49 #[.slice A d.length c] w fun e w' => e = .returned (.int .i64 (s : Int)) ∧ Below w.heap.size w w' := by
  rw [← hs]; exact size_any A c d w hl hi
theorem keep1 {W w1 : World} {g : Nat} {x : Value} (hb : Below W.heap.size W w1) (h : W.cell? ⟨g, 1, none⟩ = some x) : w1.cell? ⟨g, 1, none⟩ = some x :=
  (hb.cell (p := ⟨g, 1, none⟩) (World.block_lt_of_cell? W ⟨g, 1, none⟩ h)).trans h

end Go.Proofs.Ythabimjmdnhomaa.Sh
