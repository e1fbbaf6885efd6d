/-
  Plain facts on places, and what shape.Place answers for any axes and any number; nothing that was there is written. Condition: at most 100 axes.
-/
import Derived.Test.YthabimjmdnhomaaShapeStr
import Derived.Test.YthabimjmdnhomaaShapeIdx
import Derived.Test.YthabimjmdnhomaaShapeMake2
namespace Go.Proofs.Ythabimjmdnhomaa.Sh
open Go.RowKit
set_option linter.unusedVariables false

/-- The numbers of the place whose Index is i. -/
def dg : List Int → Int → List Int
  | [], _ => []
  | x :: t, i => (i / prod t) % x :: dg t i
theorem dg_length (d : List Int) (i : Int) : (dg d i).length = d.length := by induction d with | nil => rfl | cons x t ih => simp [dg, ih]
theorem dg_drop (d : List Int) (i : Int) (k : Nat) (h : k < d.length) : (dg d i).drop k = (i / prod (d.drop (k + 1))) % d.getD k 0 :: (dg d i).drop (k + 1) := by
  induction d generalizing k with
  | nil => simp at h
  | cons x t ih =>
    cases k with
    | zero => simp [dg]
    | succ k => simp only [dg, List.drop_succ_cons]; rw [ih k (by simpa using h)]; simp
/-- Every length is at least one. -/
def posL (d : List Int) : Prop := ∀ x ∈ d, 1 ≤ x
theorem posL_tail {x : Int} {d : List Int} (h : posL (x :: d)) : posL d := fun y hy => h y (List.mem_cons_of_mem _ hy)
theorem prod_pos {d : List Int} (h : posL d) : 1 ≤ prod d := by
  induction d with
  | nil => simp [prod]
  | cons x d ih =>
    rw [prod_cons]
    have h1 := h x List.mem_cons_self
    have h2 := ih (posL_tail h)
    have := Int.mul_le_mul h1 h2 (by omega) (by omega)
    omega
theorem posL_of {d : List Int} (ha : d.all okAx = true) (hp : 0 < prod d) : posL d := by
  induction d with
  | nil => intro x hx; cases hx
  | cons x d ih =>
    simp only [List.all_cons, Bool.and_eq_true] at ha
    have hx := okAx_bd ha.1
    have hd := (prod_bd d ha.2).1
    rw [prod_cons] at hp
    have hx1 : 1 ≤ x := by
      rcases Int.lt_or_le x 1 with h | h
      · have : x = 0 := by omega
        subst this; simp at hp
      · exact h
    have hd1 : 0 < prod d := by
      rcases Int.lt_or_le 0 (prod d) with h | h
      · exact h
      · have : prod d = 0 := by omega
        rw [this] at hp; simp at hp
    intro y hy
    rcases List.mem_cons.1 hy with rfl | hy
    · exact hx1
    · exact ih ha.2 hd1 y hy
theorem dg_in {d : List Int} (h : posL d) (i : Int) : inB d (dg d i) = true := by
  induction d with
  | nil => rfl
  | cons x d ih =>
    have hx := h x List.mem_cons_self
    simp only [dg, inB, Bool.and_eq_true, decide_eq_true_eq]
    exact ⟨⟨Int.emod_nonneg _ (by omega), Int.emod_lt_of_pos _ (by omega)⟩, ih (posL_tail h)⟩
theorem emod_mul_split (i x p : Int) (hx : 0 ≤ x) (hp : 0 ≤ p) : i % (x * p) = (i / p % x) * p + i % p := by
  rw [Int.emod_def i (x * p), Int.emod_def (i / p) x, Int.emod_def i p, Int.mul_comm x p, ← Int.ediv_ediv_of_nonneg hp]
  rw [Int.sub_mul, Int.mul_comm (i / p) p, Int.mul_comm x (i / p / x), Int.mul_assoc (i / p / x) x p, Int.mul_comm (i / p / x) (x * p), Int.mul_comm x p]
  omega
theorem hor_dg {d : List Int} (h : posL d) (i a : Int) : hor d (dg d i) a = a * prod d + i % prod d := by
  induction d generalizing a with
  | nil => simp [hor, prod]
  | cons x d ih =>
    have hx := h x List.mem_cons_self
    have hp := prod_pos (posL_tail h)
    simp only [dg, hor]
    rw [ih (posL_tail h), prod_cons, emod_mul_split i x (prod d) (by omega) (by omega), Int.add_mul, Int.mul_assoc, Int.add_assoc]
theorem idxI_dg {d : List Int} (hr : rightB d = true) (i : Int) (h0 : 0 ≤ i) (h1 : i < prod d) : idxI d (dg d i) = i := by
  have hp := posL_of (rightB_all hr).2.1 (by omega)
  unfold idxI
  rw [if_pos ⟨hr, dg_in hp i⟩, hor_dg hp]
  rw [Int.emod_eq_of_lt h0 h1]; omega
theorem sizeI_pos {d : List Int} {i : Int} (h0 : 0 ≤ i) (h1 : i < sizeI d) : rightB d = true ∧ i < prod d ∧ posL d := by
  unfold sizeI at h1
  by_cases hr : rightB d = true
  · rw [if_pos hr] at h1
    exact ⟨hr, h1, posL_of (rightB_all hr).2.1 (by omega)⟩
  · rw [if_neg hr] at h1; omega
def placeL (d : List Int) (i : Int) : List Int := if 0 ≤ i ∧ i < sizeI d then dg d i else []

/-- Does a place stand behind another one, number by number? -/
def gtB : List Int → List Int → Bool
  | x :: a, y :: b => if x = y then gtB a b else decide (y < x)
  | _, _ => false
theorem hor_lt (d p q : List Int) (a b : Int) (hp : inB d p = true) (hq : inB d q = true) (h : a < b) : hor d p a < hor d q b := by
  induction d generalizing p q a b with
  | nil =>
    cases p with
    | nil => cases q with
      | nil => simpa [hor] using h
      | cons _ _ => simp [inB] at hq
    | cons _ _ => simp [inB] at hp
  | cons x d ih =>
    cases p with
    | nil => simp [inB] at hp
    | cons i p => cases q with
      | nil => simp [inB] at hq
      | cons j q =>
        simp only [inB, Bool.and_eq_true, decide_eq_true_eq] at hp hq
        simp only [hor]
        apply ih p q _ _ hp.2 hq.2
        have hx : 0 ≤ x := by omega
        have h3 : (a + 1) * x ≤ b * x := Int.mul_le_mul_of_nonneg_right (by omega) hx
        rw [Int.add_mul, Int.one_mul] at h3
        omega
theorem gtB_of (d p q : List Int) (a : Int) (hp : inB d p = true) (hq : inB d q = true) (h : hor d q a < hor d p a) : gtB p q = true := by
  induction d generalizing p q a with
  | nil =>
    cases p with
    | nil => cases q with
      | nil => simp [hor] at h
      | cons _ _ => simp [inB] at hq
    | cons _ _ => simp [inB] at hp
  | cons x d ih =>
    cases p with
    | nil => simp [inB] at hp
    | cons i p => cases q with
      | nil => simp [inB] at hq
      | cons j q =>
        simp only [inB, Bool.and_eq_true, decide_eq_true_eq] at hp hq
        simp only [hor] at h
        simp only [gtB]
        by_cases e : i = j
        · rw [if_pos e]; subst e; exact ih p q _ hp.2 hq.2 h
        · rw [if_neg e]
          rcases Int.lt_or_lt_of_ne e with hlt | hgt
          · exact absurd (hor_lt d p q (a * x + i) (a * x + j) hp.2 hq.2 (by omega)) (by omega)
          · simpa using hgt
theorem gtB_dg {d : List Int} (h : posL d) (i : Int) (h0 : 1 ≤ i) (h1 : i < prod d) : gtB (dg d i) (dg d (i - 1)) = true := by
  apply gtB_of d _ _ 0 (dg_in h i) (dg_in h (i - 1))
  rw [hor_dg h, hor_dg h, Int.emod_eq_of_lt (by omega) h1, Int.emod_eq_of_lt (by omega) (by omega)]
  omega

theorem place_step (d : List Int) (i : Int) (k : Nat) (h : k < d.length) :
    (List.replicate (d.length - k) 0 ++ (dg d i).drop (d.length - k)).set (d.length - 1 - k) ((i / prod (d.drop (d.length - k))) % d.getD (d.length - 1 - k) 0) = List.replicate (d.length - (k + 1)) 0 ++ (dg d i).drop (d.length - (k + 1)) := by
  have e1 : d.length - k = (d.length - 1 - k) + 1 := by omega
  have e2 : d.length - (k + 1) = d.length - 1 - k := by omega
  rw [e2, dg_drop d i (d.length - 1 - k) (by omega), ← e1]
  generalize (i / prod (d.drop (d.length - k))) % d.getD (d.length - 1 - k) 0 = y
  generalize d.length - 1 - k = m at *
  rw [e1, List.replicate_succ', List.append_assoc, List.set_append_right _ _ (by simp)]
  simp
theorem div_step (d : List Int) (i : Int) (k : Nat) (h : k < d.length) (hp : posL d) :
    i / prod (d.drop (d.length - (k + 1))) = i / prod (d.drop (d.length - k)) / d.getD (d.length - 1 - k) 0 := by
  rw [show d.length - (k + 1) = d.length - 1 - k from by omega, drop_at d _ (by omega), prod_cons, show d.length - 1 - k + 1 = d.length - k from by omega, Int.mul_comm, Int.ediv_ediv_of_nonneg]
  have := prod_pos (d := d.drop (d.length - k)) (fun x hx => hp x (List.mem_of_mem_drop hx))
  omega

end Go.Proofs.Ythabimjmdnhomaa.Sh
