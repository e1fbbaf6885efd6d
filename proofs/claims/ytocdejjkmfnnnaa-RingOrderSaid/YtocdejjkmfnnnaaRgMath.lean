/-
  Plain facts on a list that goes round, cut into pieces of one length: what a piece is behind another piece's being written, and what rows the list has. No condition; nothing of the program stands here.
-/
import Derived.WalkKit
import Derived.Laws.CopyOwn
set_option maxRecDepth 100000
namespace Go.Proofs.Ytocdejjkmfnnnaa.Rg
open Go.RowKit
set_option linter.unusedVariables false

/-- The i-th piece of s numbers. -/
def cutL {α : Type} (v : List α) (i s : Nat) : List α := (v.drop (i * s)).take s
theorem cut_end {p s n : Nat} (h : p < n) : p * s + s ≤ n * s := by
  have : (p + 1) * s ≤ n * s := Nat.mul_le_mul_right s h
  rw [Nat.succ_mul] at this; exact this
theorem cutL_length {α : Type} {v : List α} {i s : Nat} (h : i * s + s ≤ v.length) : (cutL v i s).length = s := by simp [cutL]; omega
theorem apart_mul {p q s : Nat} (h : q ≠ p) : q * s + s ≤ p * s ∨ p * s + s ≤ q * s := by
  rcases Nat.lt_or_ge q p with h1 | h1
  · exact .inl (cut_end h1)
  · exact .inr (cut_end (by omega))
theorem cutL_put {α : Type} {v y : List α} {p s : Nat} (h : p * s + s ≤ v.length) (hy : y.length = s) : cutL (splice v (p * s) y) p s = y := by
  unfold cutL splice
  rw [List.drop_append_of_le_length (by simp; omega), List.drop_take, Nat.sub_self, List.take_zero, List.nil_append, List.take_append_of_le_length (by omega), List.take_of_length_le (by omega)]
theorem cutL_off {α : Type} {v y : List α} {p q s : Nat} (h : p * s + s ≤ v.length) (hy : y.length = s) (hq : q ≠ p) : cutL (splice v (p * s) y) q s = cutL v q s := by
  apply List.ext_getElem?
  intro j
  unfold cutL splice
  rw [List.getElem?_take, List.getElem?_take]
  split
  · next hj =>
    rw [List.getElem?_drop, List.getElem?_drop]
    rcases apart_mul (s := s) hq with h1 | h1
    · rw [List.getElem?_append_left (by simp; omega), List.getElem?_take, if_pos (by omega)]
    · rw [List.getElem?_append_right (by simp; omega), List.getElem?_append_right (by simp; omega), List.getElem?_drop]
      congr 1
      simp; omega
  · rfl
theorem put_length {α : Type} {v y : List α} {p s : Nat} (h : p * s + s ≤ v.length) (hy : y.length = s) : (splice v (p * s) y).length = v.length := length_splice _ _ _ (by omega)
theorem round_lt {n a b : Nat} (ha : a < n) : (a + b) % n < n := Nat.mod_lt _ (by omega)
theorem round_ne {n f i j : Nat} (hf : f < n) (hi : i < n) (hj : j < n) (h : i ≠ j) : (f + i) % n ≠ (f + j) % n := by
  rcases Nat.lt_or_ge (f + i) n with h1 | h1 <;> rcases Nat.lt_or_ge (f + j) n with h2 | h2
  · rw [Nat.mod_eq_of_lt h1, Nat.mod_eq_of_lt h2]; omega
  · rw [Nat.mod_eq_of_lt h1, Nat.mod_eq_sub_mod h2, Nat.mod_eq_of_lt (by omega)]; omega
  · rw [Nat.mod_eq_sub_mod h1, Nat.mod_eq_of_lt (show f + i - n < n by omega), Nat.mod_eq_of_lt h2]; omega
  · rw [Nat.mod_eq_sub_mod h1, Nat.mod_eq_of_lt (show f + i - n < n by omega), Nat.mod_eq_sub_mod h2, Nat.mod_eq_of_lt (show f + j - n < n by omega)]; omega

/-- These values, going round from the f-th piece on, are these rows. -/
def Rd {α : Type} (n s f : Nat) (xs : List α) (rs : List (List α)) : Prop := n * s ≤ xs.length ∧ f < n ∧ rs.length ≤ n ∧ ∀ i r, rs[i]? = some r → cutL xs ((f + i) % n) s = r
section
variable {α : Type} {n s f : Nat} {xs : List α} {rs : List (List α)}
theorem Rd.new (h : 0 < n) (hx : n * s ≤ xs.length) : Rd n s 0 xs [] := ⟨hx, h, by simp, fun i r hi => by simp at hi⟩
theorem Rd.fits (h : Rd n s f xs rs) (i : Nat) : (f + i) % n * s + s ≤ xs.length := Nat.le_trans (cut_end (round_lt h.2.1)) h.1
theorem Rd.row_len (h : Rd n s f xs rs) {i : Nat} {r : List α} (hi : rs[i]? = some r) : r.length = s := by
  rw [← h.2.2.2 i r hi]; exact cutL_length (h.fits i)
theorem Rd.push (h : Rd n s f xs rs) {y : List α} (hy : y.length = s) (hr : rs.length < n) :
    Rd n s f (splice xs ((f + rs.length) % n * s) y) (rs ++ [y]) := by
  have hf := h.fits rs.length
  refine ⟨by rw [put_length hf hy]; exact h.1, h.2.1, by simp; omega, fun i r hi => ?_⟩
  by_cases he : i = rs.length
  · subst he
    rw [cutL_put hf hy]
    simpa using hi
  · have hlt : i < rs.length := by
      have := (List.getElem?_eq_some_iff.1 hi).1
      simp at this; omega
    rw [cutL_off hf hy (round_ne h.2.1 (by omega) hr he)]
    exact h.2.2.2 i r (by rwa [List.getElem?_append_left hlt] at hi)
theorem Rd.pop {r : List α} (h : Rd n s f xs (r :: rs)) : Rd n s ((f + 1) % n) xs rs := by
  have hl := h.2.2.1
  simp at hl
  refine ⟨h.1, round_lt h.2.1, by omega, fun i q hi => ?_⟩
  have e : ((f + 1) % n + i) % n = (f + (i + 1)) % n := by rw [Nat.mod_add_mod]; congr 1; omega
  rw [e]
  exact h.2.2.2 (i + 1) q (by simpa using hi)
end
theorem cutL_take {α : Type} {v : List α} {p s n : Nat} (h : p * s + s ≤ n) : cutL (v.take n) p s = cutL v p s := by
  unfold cutL
  rw [List.drop_take, List.take_take, Nat.min_eq_left (by omega)]
theorem Rd.same {α : Type} {n s f : Nat} {xs ys : List α} {rs : List (List α)} (h : Rd n s f xs rs) (hl : n * s ≤ ys.length) (he : ys.take (n * s) = xs.take (n * s)) : Rd n s f ys rs := by
  refine ⟨hl, h.2.1, h.2.2.1, fun i r hi => ?_⟩
  have hb := cut_end (s := s) (round_lt (b := i) h.2.1)
  rw [← h.2.2.2 i r hi, ← cutL_take (v := ys) hb, he, cutL_take hb]
theorem splice_at {α : Type} (L ys : List α) (off i : Nat) (h : off + ys.length ≤ L.length) : (splice L off ys)[i]? = if off ≤ i ∧ i < off + ys.length then ys[i - off]? else L[i]? := by
  unfold splice
  split
  · next hi =>
    rw [List.getElem?_append_right (by simp; omega), List.getElem?_append_left (by simp; omega)]
    congr 1
    simp; omega
  · next hi =>
    rcases Nat.lt_or_ge i off with h1 | h1
    · rw [List.getElem?_append_left (by simp; omega), List.getElem?_take, if_pos h1]
    · rw [List.getElem?_append_right (by simp; omega), List.getElem?_append_right (by simp; omega), List.getElem?_drop]
      congr 1
      simp; omega
end Go.Proofs.Ytocdejjkmfnnnaa.Rg
