/-
  Plain facts on all places of axes, counted up one by one, and words for a row of rows that the call itself makes. No condition.
-/
import Derived.Test.YthabimjmdnhomaaShapeBack1
namespace Go.Proofs.Ythabimjmdnhomaa.Sh
open Go.RowKit
set_option linter.unusedVariables false

theorem ediv_add_one {i p : Int} (hp : 0 < p) (h : (i + 1) % p = 0) : (i + 1) / p = i / p + 1 := by
  have h1 := Int.emod_add_mul_ediv (i + 1) p
  have h2 := Int.emod_add_mul_ediv i p
  have h3 := Int.emod_nonneg i (Int.ne_of_gt hp)
  have h4 := Int.emod_lt_of_pos i hp
  rw [h, Int.zero_add] at h1
  have key : p * ((i + 1) / p - i / p) = i % p + 1 := by rw [Int.mul_sub]; omega
  have hpos : 0 < (i + 1) / p - i / p := by
    rcases Int.lt_or_le 0 ((i + 1) / p - i / p) with g | g
    · exact g
    · have := Int.mul_le_mul_of_nonneg_left g (Int.le_of_lt hp)
      rw [Int.mul_zero] at this
      omega
  have hlt : (i + 1) / p - i / p < 2 := by
    rcases Int.lt_or_le ((i + 1) / p - i / p) 2 with g | g
    · exact g
    · have := Int.mul_le_mul_of_nonneg_left g (Int.le_of_lt hp)
      omega
  omega
theorem ediv_same {i p : Int} (hp : 0 < p) (h : (i + 1) % p ≠ 0) : (i + 1) / p = i / p := by
  have h1 := Int.emod_add_mul_ediv (i + 1) p
  have h2 := Int.emod_add_mul_ediv i p
  have h3 := Int.emod_nonneg i (Int.ne_of_gt hp)
  have h4 := Int.emod_lt_of_pos i hp
  have h5 := Int.emod_nonneg (i + 1) (Int.ne_of_gt hp)
  have h6 := Int.emod_lt_of_pos (i + 1) hp
  have key : p * ((i + 1) / p - i / p) = i % p + 1 - (i + 1) % p := by rw [Int.mul_sub]; omega
  have g1 : (i + 1) / p - i / p < 1 := by
    rcases Int.lt_or_le ((i + 1) / p - i / p) 1 with g | g
    · exact g
    · have := Int.mul_le_mul_of_nonneg_left g (Int.le_of_lt hp)
      omega
  have g2 : -1 < (i + 1) / p - i / p := by
    rcases Int.lt_or_le (-1) ((i + 1) / p - i / p) with g | g
    · exact g
    · have := Int.mul_le_mul_of_nonneg_left g (Int.le_of_lt hp)
      omega
  omega
theorem posL_drop {d : List Int} (h : posL d) (k : Nat) : posL (d.drop k) := fun x hx => h x (List.mem_of_mem_drop hx)
theorem posL_at {d : List Int} (h : posL d) {k : Nat} (hk : k < d.length) : 1 ≤ d.getD k 0 := h _ (by simp only [List.getD]; rw [List.getElem?_eq_getElem hk]; exact List.getElem_mem _)
theorem prod_drop (d : List Int) (k : Nat) (hk : k < d.length) : prod (d.drop k) = d.getD k 0 * prod (d.drop (k + 1)) := by rw [drop_at d k hk, prod_cons]
/-- One digit, where what stands behind has gone round. -/
theorem digit_up {d : List Int} (hp : posL d) (i : Int) (k : Nat) (hk : k < d.length) (hc : (i + 1) % prod (d.drop (k + 1)) = 0) :
    (((i / prod (d.drop (k + 1))) % d.getD k 0 + 1 < d.getD k 0) → (i + 1) / prod (d.drop (k + 1)) % d.getD k 0 = (i / prod (d.drop (k + 1))) % d.getD k 0 + 1 ∧ (i + 1) % prod (d.drop k) ≠ 0) ∧
    (¬ ((i / prod (d.drop (k + 1))) % d.getD k 0 + 1 < d.getD k 0) → (i + 1) / prod (d.drop (k + 1)) % d.getD k 0 = 0 ∧ (i + 1) % prod (d.drop k) = 0) := by
  have hx := posL_at hp hk
  have hP := prod_pos (posL_drop hp (k + 1))
  have hsp := emod_mul_split (i + 1) (d.getD k 0) (prod (d.drop (k + 1))) (by omega) (by omega)
  rw [hc, Int.add_zero] at hsp
  rw [prod_drop d k hk, hsp, ediv_add_one (by omega) hc]
  generalize prod (d.drop (k + 1)) = P at *
  generalize d.getD k 0 = x at *
  generalize i / P = q at *
  have h3 := Int.emod_nonneg q (show x ≠ 0 by omega)
  have h4 := Int.emod_lt_of_pos q (show 0 < x by omega)
  constructor
  · intro hlt
    have e : (q + 1) % x = q % x + 1 := by rw [Int.add_emod, Int.emod_eq_of_lt (a := 1) (by omega) (by omega), Int.emod_eq_of_lt (by omega) (by omega)]
    rw [e]
    refine ⟨rfl, ?_⟩
    have := Int.mul_le_mul (show 1 ≤ q % x + 1 by omega) hP (by omega) (by omega)
    omega
  · intro hge
    have e : (q + 1) % x = 0 := by
      have h5 : q % x = x - 1 := by omega
      rw [Int.add_emod, h5]
      by_cases h1 : x = 1
      · subst h1; simp [Int.emod_one]
      · rw [Int.emod_eq_of_lt (a := 1) (by omega) (by omega), show x - 1 + 1 = x from by omega, Int.emod_self]
    rw [e]
    exact ⟨rfl, by simp⟩
/-- Ahead of a digit that has not gone round nothing turns. -/
theorem take_same {d : List Int} (hp : posL d) (i : Int) (k : Nat) (hk : k ≤ d.length) (hc : (i + 1) % prod (d.drop k) ≠ 0) : (dg d (i + 1)).take k = (dg d i).take k := by
  induction d generalizing k with
  | nil => simp [dg]
  | cons x d ih =>
    cases k with
    | zero => simp
    | succ k =>
      simp only [dg, List.take_succ_cons]
      simp only [List.drop_succ_cons] at hc
      rw [ih (posL_tail hp) k (by simpa using hk) hc]
      congr 2
      have hP := prod_pos (posL_tail hp)
      apply ediv_same (by omega)
      intro h0
      apply hc
      have hpd : prod d = prod (d.take k) * prod (d.drop k) := by
        have : ∀ (a b : List Int), prod (a ++ b) = prod a * prod b := by
          intro a b
          induction a with
          | nil => simp [prod_nil]
          | cons y a ih => rw [List.cons_append, prod_cons, prod_cons, ih, Int.mul_assoc]
        rw [← this, List.take_append_drop]
      rw [hpd] at h0
      exact Int.emod_eq_zero_of_dvd (Int.dvd_trans (Int.dvd_mul_left _ _) (Int.dvd_of_emod_eq_zero h0))
/-- The place, half counted up: the first m numbers as they were. -/
def half (d : List Int) (i : Int) (m : Nat) : List Int := (dg d i).take m ++ (dg d (i + 1)).drop m
theorem half_length (d : List Int) (i : Int) (m : Nat) (hm : m ≤ d.length) : (half d i m).length = d.length := by simp [half, dg_length]; omega
theorem half_all (d : List Int) (i : Int) : half d i d.length = dg d i := by
  unfold half
  rw [List.take_of_length_le (by rw [dg_length]; omega), List.drop_of_length_le (by rw [dg_length]; omega), List.append_nil]
theorem half_none (d : List Int) (i : Int) : half d i 0 = dg d (i + 1) := rfl
theorem dg_at (d : List Int) (i : Int) (k : Nat) (hk : k < d.length) : (dg d i).getD k 0 = (i / prod (d.drop (k + 1))) % d.getD k 0 := by
  have h1 := dg_drop d i k hk
  have h2 := drop_at (dg d i) k (by rw [dg_length]; exact hk)
  rw [h1] at h2
  injection h2 with h2 _
  exact h2.symm
theorem half_at (d : List Int) (i : Int) (k : Nat) (hk : k < d.length) : (half d i (k + 1)).getD k 0 = (i / prod (d.drop (k + 1))) % d.getD k 0 := by
  rw [← dg_at d i k hk]
  unfold half
  have : k < (dg d i).length := by rw [dg_length]; exact hk
  have hm : k < min (k + 1) (dg d i).length := by omega
  simp [List.getD, this, List.getElem?_append, hm]
theorem half_set (d : List Int) (i : Int) (k : Nat) (hk : k < d.length) (y : Int) : (half d i (k + 1)).set k y = (dg d i).take k ++ y :: (dg d (i + 1)).drop (k + 1) := by
  unfold half
  rw [take_snoc (dg d i) k (by rw [dg_length]; exact hk), List.append_assoc, List.set_append_right _ _ (by simp [dg_length]; omega)]
  simp [dg_length, Nat.min_eq_left (Nat.le_of_lt hk)]
theorem half_stop {d : List Int} (hp : posL d) (i : Int) (k : Nat) (hk : k < d.length) (hc : (i + 1) % prod (d.drop (k + 1)) = 0) (h : (half d i (k + 1)).getD k 0 + 1 < d.getD k 0) :
    (half d i (k + 1)).set k ((half d i (k + 1)).getD k 0 + 1) = dg d (i + 1) := by
  rw [half_set d i k hk, half_at d i k hk]
  rw [half_at d i k hk] at h
  obtain ⟨e1, e2⟩ := (digit_up hp i k hk hc).1 h
  rw [← e1, ← dg_drop d (i + 1) k hk, ← take_same hp i k (by omega) e2, List.take_append_drop]
theorem half_on {d : List Int} (hp : posL d) (i : Int) (k : Nat) (hk : k < d.length) (hc : (i + 1) % prod (d.drop (k + 1)) = 0) (h : ¬ ((half d i (k + 1)).getD k 0 + 1 < d.getD k 0)) (y : Int) :
    ((half d i (k + 1)).set k y).set k 0 = half d i k ∧ (i + 1) % prod (d.drop k) = 0 := by
  rw [half_at d i k hk] at h
  obtain ⟨e1, e2⟩ := (digit_up hp i k hk hc).2 h
  refine ⟨?_, e2⟩
  rw [List.set_set, half_set d i k hk, ← e1, ← dg_drop d (i + 1) k hk]
  rfl
theorem dg_mod {d : List Int} (hp : posL d) (a h : Int) : dg d (a * prod d + h) = dg d h := by
  induction d generalizing a with
  | nil => rfl
  | cons x d ih =>
    have hx := hp x List.mem_cons_self
    have hP := prod_pos (posL_tail hp)
    simp only [dg]
    rw [prod_cons, ← Int.mul_assoc, ih (posL_tail hp)]
    congr 1
    rw [Int.add_comm, Int.add_mul_ediv_right _ _ (show prod d ≠ 0 by omega), Int.add_comm, Int.add_comm, Int.add_mul_emod_self_right]
theorem hor_add (d p : List Int) (a : Int) (h : inB d p = true) : hor d p a = a * prod d + hor d p 0 := by
  induction d generalizing p a with
  | nil => cases p with | nil => simp [hor, prod] | cons _ _ => simp [inB] at h
  | cons x d ih => cases p with
    | nil => simp [inB] at h
    | cons i p =>
      simp only [inB, Bool.and_eq_true] at h
      simp only [hor]
      rw [ih p (a * x + i) h.2, ih p (0 * x + i) h.2, prod_cons, Int.add_mul, Int.mul_assoc, Int.zero_mul, Int.zero_add, Int.add_assoc]
theorem inB_pos {d p : List Int} (h : inB d p = true) : posL d := by
  induction d generalizing p with
  | nil => intro x hx; cases hx
  | cons x d ih => cases p with
    | nil => simp [inB] at h
    | cons i p =>
      simp only [inB, Bool.and_eq_true, decide_eq_true_eq] at h
      intro y hy
      rcases List.mem_cons.1 hy with rfl | hy
      · omega
      · exact ih h.2 y hy
theorem dg_hor (d p : List Int) (h : inB d p = true) : dg d (hor d p 0) = p := by
  induction d generalizing p with
  | nil => cases p with | nil => rfl | cons _ _ => simp [inB] at h
  | cons x d ih => cases p with
    | nil => simp [inB] at h
    | cons i p =>
      have hpos := inB_pos h
      simp only [inB, Bool.and_eq_true, decide_eq_true_eq] at h
      have hb := hor_bd d p h.2
      have hP := prod_pos (posL_tail hpos)
      have e : hor (x :: d) (i :: p) 0 = i * prod d + hor d p 0 := by
        simp only [hor]
        rw [hor_add d p _ h.2, Int.zero_mul, Int.zero_add]
      rw [e]
      simp only [dg]
      rw [dg_mod (posL_tail hpos), ih p h.2]
      congr 1
      rw [Int.add_comm, Int.add_mul_ediv_right _ _ (show prod d ≠ 0 by omega), Int.ediv_eq_zero_of_lt hb.1 hb.2, Int.zero_add, Int.emod_eq_of_lt h.1.1 h.1.2]
theorem idxI_none {d p : List Int} (h : ∀ j : Nat, (j : Int) < sizeI d → ¬ dg d j = p) : idxI d p = -1 := by
  unfold idxI
  by_cases c : rightB d = true ∧ inB d p = true
  · exfalso
    have hb := hor_bd d p c.2
    have hs : sizeI d = prod d := by simp [sizeI, c.1]
    apply h (hor d p 0).toNat (by omega)
    rw [show (((hor d p 0).toNat : Nat) : Int) = hor d p 0 from by omega]
    exact dg_hor d p c.2
  · exact if_neg c
theorem idxI_found {d p : List Int} (j : Nat) (hj : (j : Int) < sizeI d) (h : dg d j = p) : idxI d p = j := by
  obtain ⟨hr, hip, _⟩ := sizeI_pos (by omega) hj
  rw [← h]; exact idxI_dg hr j (by omega) hip
end Go.Proofs.Ythabimjmdnhomaa.Sh
