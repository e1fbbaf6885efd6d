/-
  What shape.within and shape.Index answer for any axes and any place; nothing that was there is written. Condition: the slices are no longer than an int can say.
-/
import Derived.Test.YthabimjmdnhomaaProg
import Derived.Test.YthabimjmdnhomaaShapeProd
import Derived.Deep.QuietTactic
import Derived.BigQuiet
namespace Go.Proofs.Ythabimjmdnhomaa.Sh
open Go.RowKit
set_option linter.unusedVariables false

/-- Is it a place of these axes? -/
def inB : List Int → List Int → Bool
  | [], [] => true
  | x :: d, i :: p => decide (0 ≤ i) && decide (i < x) && inB d p
  | _, _ => false
/-- How many places stand ahead, from a start. -/
def hor : List Int → List Int → Int → Int
  | x :: d, i :: p, a => hor d p (a * x + i)
  | _, _, a => a
def idxI (d p : List Int) : Int := if rightB d = true ∧ inB d p = true then hor d p 0 else -1

theorem inB_length {d p : List Int} (h : inB d p = true) : p.length = d.length := by
  induction d generalizing p with
  | nil => cases p with | nil => rfl | cons _ _ => simp [inB] at h
  | cons x d ih => cases p with
    | nil => simp [inB] at h
    | cons i p => simp only [inB, Bool.and_eq_true] at h; simp [ih h.2]
theorem inB_snoc (d p : List Int) (x i : Int) (h : p.length = d.length) : inB (d ++ [x]) (p ++ [i]) = (inB d p && (decide (0 ≤ i) && decide (i < x))) := by
  induction d generalizing p with
  | nil => cases p with | nil => simp [inB] | cons _ _ => simp at h
  | cons y d ih => cases p with
    | nil => simp at h
    | cons j p => simp only [List.cons_append, inB, ih p (by simpa using h), Bool.and_assoc]
theorem hor_snoc (d p : List Int) (x i a : Int) (h : p.length = d.length) : hor (d ++ [x]) (p ++ [i]) a = hor d p a * x + i := by
  induction d generalizing p a with
  | nil => cases p with | nil => simp [hor] | cons _ _ => simp at h
  | cons y d ih => cases p with
    | nil => simp at h
    | cons j p => simp only [List.cons_append, hor, ih p _ (by simpa using h)]
theorem inB_take_false {d p : List Int} {k : Nat} (h : inB (d.take k) (p.take k) = false) (hl : p.length = d.length) : inB d p = false := by
  induction k generalizing d p with
  | zero => simp [inB] at h
  | succ k ih => cases d with
    | nil => cases p with | nil => simp [inB] at h | cons _ _ => simp at hl
    | cons x d => cases p with
      | nil => simp at hl
      | cons i p =>
        simp only [List.take_succ_cons, inB, Bool.and_eq_false_iff] at h ⊢
        rcases h with h | h
        · exact .inl h
        · exact .inr (ih h (by simpa using hl))
theorem hor_bd (d p : List Int) (h : inB d p = true) : 0 ≤ hor d p 0 ∧ hor d p 0 < prod d := by
  have key : ∀ (d p : List Int) (a q : Int), 0 ≤ a → a < q → inB d p = true → 0 ≤ hor d p a ∧ hor d p a < d.foldl (· * ·) q := by
    intro d
    induction d with
    | nil => intro p a q h0 h1 h; cases p with | nil => exact ⟨h0, h1⟩ | cons _ _ => simp [inB] at h
    | cons x d ih =>
      intro p a q h0 h1 h
      cases p with
      | nil => simp [inB] at h
      | cons i p =>
        simp only [inB, Bool.and_eq_true, decide_eq_true_eq] at h
        obtain ⟨⟨hi0, hi1⟩, h⟩ := h
        have hx : 0 ≤ x := by omega
        have h2 : 0 ≤ a * x := Int.mul_nonneg h0 hx
        have h3 : (a + 1) * x ≤ q * x := Int.mul_le_mul_of_nonneg_right (by omega) hx
        rw [Int.add_mul, Int.one_mul] at h3
        exact ih p (a * x + i) (q * x) (by omega) (by omega) h
  exact key d p 0 1 (by omega) (by omega) h
theorem inB_take (d p : List Int) (k : Nat) (hl : p.length = d.length) (hk : k < d.length) : inB (d.take (k + 1)) (p.take (k + 1)) = (inB (d.take k) (p.take k) && (decide (0 ≤ p.getD k 0) && decide (p.getD k 0 < d.getD k 0))) := by
  rw [take_snoc d k hk, take_snoc p k (by omega), inB_snoc _ _ _ _ (by simp [hl])]
theorem hor_take (d p : List Int) (k : Nat) (hl : p.length = d.length) (hk : k < d.length) : hor (d.take (k + 1)) (p.take (k + 1)) 0 = hor (d.take k) (p.take k) 0 * d.getD k 0 + p.getD k 0 := by
  rw [take_snoc d k hk, take_snoc p k (by omega), hor_snoc _ _ _ _ _ (by simp [hl])]
theorem idxI_not {d p : List Int} (h : ¬ rightB d = true) : idxI d p = -1 := by simp [idxI, h]
theorem idxI_len {d p : List Int} (h : ¬ p.length = d.length) : idxI d p = -1 := by
  have : ¬ inB d p = true := fun e => h (inB_length e)
  simp [idxI, this]
theorem idxI_bad {d p : List Int} {k : Nat} (hl : p.length = d.length) (hk : k < d.length) (h : ¬ (0 ≤ p.getD k 0 ∧ p.getD k 0 < d.getD k 0)) : idxI d p = -1 := by
  have : inB d p = false := by
    apply inB_take_false (k := k + 1) _ hl
    rw [inB_take d p k hl hk]
    simp only [Bool.and_eq_false_iff, decide_eq_false_iff_not]
    right; omega
  simp [idxI, this]

def withinB (i n : Int) : Bool := decide (0 ≤ i) && decide (i < n)
set_option maxHeartbeats 400000 in
theorem within_any (i n : Int) (w : World) : Calls Try.prog 60 #[.int .i64 i, .int .i64 n] w fun e w' => e = .returned (.bool (withinB i n)) ∧ w' = w := by
  by_cases h : 0 ≤ i
  · go_enter Try.func60, Try.ntmps60
    go_wp2
    go_ret
    exact ⟨ret_bool (by simp [withinB, h]), rfl⟩
  · go_enter Try.func60, Try.ntmps60
    go_wp2
    go_ret
    exact ⟨ret_bool (by simp [withinB]; omega), rfl⟩
theorem within_yes (i n : Int) (w : World) (h : withinB i n = true) : Calls Try.prog 60 #[.int .i64 i, .int .i64 n] w fun e w' => e = .returned (.bool true) ∧ w' = w := by
  have := within_any i n w; rwa [h] at this
theorem within_no (i n : Int) (w : World) (h : withinB i n = false) : Calls Try.prog 60 #[.int .i64 i, .int .i64 n] w fun e w' => e = .returned (.bool false) ∧ w' = w := by
  have := within_any i n w; rwa [h] at this

end Go.Proofs.Ythabimjmdnhomaa.Sh
