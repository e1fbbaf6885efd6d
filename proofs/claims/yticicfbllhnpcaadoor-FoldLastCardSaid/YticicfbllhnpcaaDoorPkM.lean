/-
  The product of numbers put behind one another. No condition. Plain facts on places: the number of a place one of whose axes has another number, and the numbers of places of axes put behind one another. No condition; nothing of the program stands here.
-/
import Derived.Test.YticicfbllhnpcaaDoorPkS
set_option maxRecDepth 100000
-- MoPr
namespace Go.Proofs.YticicfbllhnpcaaDoor.Sh
open Go.RowKit
set_option linter.unusedVariables false

theorem prod_append (a b : List Int) : prod (a ++ b) = prod a * prod b := by
  induction a with
  | nil => rw [List.nil_append, prod_nil, Int.one_mul]
  | cons x t ih => rw [List.cons_append, prod_cons, prod_cons, ih, Int.mul_assoc]
theorem split_at (D : List Int) (a : Nat) (h : a < D.length) : D = D.take a ++ D.getD a 0 :: D.drop (a + 1) := by
  rw [← drop_at D a h, List.take_append_drop]
end Go.Proofs.YticicfbllhnpcaaDoor.Sh
-- MoPlc
namespace Go.Proofs.YticicfbllhnpcaaDoor.Sh
open Go.RowKit
set_option linter.unusedVariables false

theorem dg_append (X Z : List Int) (h : 0 ≤ prod Z) (i : Int) : dg (X ++ Z) i = dg X (i / prod Z) ++ dg Z i := by
  induction X with
  | nil => rfl
  | cons x X ih =>
    have e : i / prod (X ++ Z) = i / prod Z / prod X := by rw [prod_append, Int.mul_comm, ← Int.ediv_ediv_of_nonneg h]
    simp only [List.cons_append, dg, e, ih]
theorem hor_append (X Z p q : List Int) (a : Int) (h : p.length = X.length) : hor (X ++ Z) (p ++ q) a = hor Z q (hor X p a) := by
  induction X generalizing p a with
  | nil => obtain rfl := List.eq_nil_of_length_eq_zero (l := p) (by simpa using h); simp [hor]
  | cons x X ih =>
    match p, h with
    | y :: p, h => simp only [List.cons_append, hor]; exact ih p _ (by simpa using h)
theorem inB_append (X Z p q : List Int) (h : p.length = X.length) : inB (X ++ Z) (p ++ q) = (inB X p && inB Z q) := by
  induction X generalizing p with
  | nil => obtain rfl := List.eq_nil_of_length_eq_zero (l := p) (by simpa using h); simp [inB]
  | cons x X ih =>
    match p, h with
    | y :: p, h => simp only [List.cons_append, inB, ih p (by simpa using h), Bool.and_assoc]
theorem posL_append {X Z : List Int} (h : posL (X ++ Z)) : posL X ∧ posL Z := ⟨fun x hx => h x (by simp [hx]), fun x hx => h x (by simp [hx])⟩
/-- A place's number where one axis, of another length, has another number. -/
theorem hor_one {X Y : List Int} {S P i j : Int} (hX : posL X) (hY : posL Y) (hS : 1 ≤ S) (h0 : 0 ≤ i) (h1 : i < prod (X ++ S :: Y)) :
    hor (X ++ P :: Y) (dg X (i / (S * prod Y)) ++ j :: dg Y i) 0 = ((i / (S * prod Y)) * P + j) * prod Y + i % prod Y := by
  have pY := prod_pos hY
  have hp : 0 < S * prod Y := Int.mul_pos (by omega) (by omega)
  rw [hor_append _ _ _ _ _ (dg_length X _)]
  simp only [hor]
  rw [hor_dg hY, hor_dg hX, Int.zero_mul, Int.zero_add]
  have : i / (S * prod Y) % prod X = i / (S * prod Y) := by
    rw [prod_append, prod_cons] at h1
    refine Int.emod_eq_of_lt (Int.ediv_nonneg h0 (by omega)) ?_
    rw [Int.ediv_lt_iff_lt_mul hp]; exact h1
  rw [this]
/-- The place of a number of a cell, one of whose axes has the length S. -/
theorem dg_one {X Y : List Int} {S i : Int} (hY : 0 ≤ prod Y) : dg (X ++ S :: Y) i = dg X (i / (S * prod Y)) ++ (i / prod Y % S) :: dg Y i ∨ S * prod Y < 0 := by
  by_cases h : 0 ≤ prod (S :: Y)
  · left; rw [dg_append X (S :: Y) h]; rw [prod_cons]; rfl
  · right; rw [prod_cons] at h; omega
theorem dg_one' {X Y : List Int} {S i : Int} (hY : 0 ≤ prod Y) (hS : 0 ≤ S) : dg (X ++ S :: Y) i = dg X (i / (S * prod Y)) ++ (i / prod Y % S) :: dg Y i := by
  rcases dg_one (X := X) (Y := Y) (S := S) (i := i) hY with h | h
  · exact h
  · exact absurd (Int.mul_nonneg hS hY) (by omega)
theorem set_mid (p q : List Int) (x y : Int) {a : Nat} (h : p.length = a) : (p ++ x :: q).set a y = p ++ y :: q := by subst h; simp
theorem get_mid (p q : List Int) (x : Int) {a : Nat} (h : p.length = a) : (p ++ x :: q).getD a 0 = x := by subst h; simp [List.getD]
end Go.Proofs.YticicfbllhnpcaaDoor.Sh
