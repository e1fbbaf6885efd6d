/-
  The deltas between the rows of a tape and others from a place on: as the program lays them, place by place, and as the document does. Plain lists, no condition but what each says.
-/
import Derived.Test.YtfamgaakcbinkaaDoorStBase
namespace Go.Proofs.YtfamgaakcbinkaaDoor.Tp
set_option linter.unusedVariables false

/-- A delta: its kind, its place, its row. -/
abbrev Dl : Type := Int × Nat × List Int
/-- What becomes of the j-th place from p on: another row, none any more, or a new one. -/
def f2 (rows news : List (List Int)) (p j : Nat) : Option Dl := if j < news.length ∧ p + j < rows.length ∧ rows.getD (p + j) [] ≠ news.getD j [] then some (2, p + j, news.getD j []) else none
def f3 (rows news : List (List Int)) (p j : Nat) : Option Dl := if news.length ≤ j then some (3, p + j, []) else none
def f1 (rows news : List (List Int)) (p j : Nat) : Option Dl := if j < news.length ∧ rows.length ≤ p + j then some (1, p + j, news.getD j []) else none
/-- Those of the first k. -/
def acc (f : Nat → Option Dl) (k : Nat) : List Dl := (List.range k).filterMap f
section
variable {f : Nat → Option Dl} {k : Nat} {d : Dl}
theorem acc_0 : acc f 0 = [] := rfl
theorem acc_yes (h : f k = some d) : acc f (k + 1) = acc f k ++ [d] := by simp [acc, List.range_succ, List.filterMap_append, h]
theorem acc_no (h : f k = none) : acc f (k + 1) = acc f k := by simp [acc, List.range_succ, List.filterMap_append, h]
theorem acc_len : (acc f k).length ≤ k := by
  have := List.length_filterMap_le f (List.range k)
  simpa [acc] using this
theorem acc_stop {M : Nat} : ∀ c, (∀ j, M ≤ j → j < M + c → f j = none) → acc f (M + c) = acc f M
  | 0, _ => rfl
  | c + 1, h => by
    rw [← Nat.add_assoc, acc_no (h _ (by omega) (by omega))]
    exact acc_stop c fun j h1 h2 => h j h1 (by omega)
theorem acc_from {g : Nat → Dl} {n : Nat} (h0 : ∀ j, j < n → f j = none) : ∀ c, (∀ j, j < c → f (n + j) = some (g j)) → acc f (n + c) = (List.range c).map g
  | 0, _ => by
    have := acc_stop (f := f) (M := 0) n (fun j _ hj => h0 j (by omega))
    simpa [acc_0] using this
  | c + 1, h => by
    rw [← Nat.add_assoc, acc_yes (h c (by omega)), acc_from h0 c fun j hj => h j (by omega), List.range_succ, List.map_append]
    rfl
end
/-- As the program tells them. -/
def deltasL (rows news : List (List Int)) (p : Nat) : List Dl :=
  acc (f2 rows news p) (max (rows.length - p) news.length) ++ ((acc (f3 rows news p) (max (rows.length - p) news.length)).reverse ++ acc (f1 rows news p) (max (rows.length - p) news.length))
/-- Those that go, and those that come, as the document tells them. -/
def gone (e k : Nat) : List Dl := (List.range k).map fun t => (3, e - 1 - t, [])
def come (news : List (List Int)) (p e k : Nat) : List Dl := (List.range k).map fun t => (1, e + t, news.getD (e + t - p) [])
theorem gone_succ (e k : Nat) : gone e (k + 1) = gone e k ++ [(3, e - 1 - k, [])] := by simp [gone, List.range_succ]
theorem come_succ (news : List (List Int)) (p e k : Nat) : come news p e (k + 1) = come news p e k ++ [(1, e + k, news.getD (e + k - p) [])] := by simp [come, List.range_succ]
/-- As the document tells them. -/
def changesL (rows news : List (List Int)) (p : Nat) : List Dl :=
  acc (f2 rows news p) (min (rows.length - p) news.length) ++ (gone rows.length (rows.length - (p + news.length)) ++ come news p rows.length (p + news.length - rows.length))
theorem deltas_eq (rows news : List (List Int)) (p : Nat) (hp : p ≤ rows.length) : deltasL rows news p = changesL rows news p := by
  unfold deltasL changesL
  have h2 : acc (f2 rows news p) (max (rows.length - p) news.length) = acc (f2 rows news p) (min (rows.length - p) news.length) := by
    have := acc_stop (f := f2 rows news p) (M := min (rows.length - p) news.length) (max (rows.length - p) news.length - min (rows.length - p) news.length) (fun j h1 h2 => by
      unfold f2; rw [if_neg]; omega)
    rw [← this]; congr 1; omega
  have h3 : (acc (f3 rows news p) (max (rows.length - p) news.length)).reverse = gone rows.length (rows.length - (p + news.length)) := by
    have := acc_from (f := f3 rows news p) (g := fun j => (3, p + (news.length + j), [])) (n := news.length) (fun j hj => by unfold f3; rw [if_neg]; omega) (rows.length - (p + news.length)) (fun j hj => by unfold f3; rw [if_pos (by omega)])
    have e : max (rows.length - p) news.length = news.length + (rows.length - (p + news.length)) := by omega
    rw [e, this]
    apply List.ext_getElem
    · simp [gone]
    · intro i h1 h2
      simp [gone] at h1 h2 ⊢
      omega
  have h1 : acc (f1 rows news p) (max (rows.length - p) news.length) = come news p rows.length (p + news.length - rows.length) := by
    by_cases h : p + news.length ≤ rows.length
    · have := acc_stop (f := f1 rows news p) (M := 0) (max (rows.length - p) news.length) (fun j _ hj => by unfold f1; rw [if_neg]; omega)
      rw [Nat.zero_add, acc_0] at this
      rw [this, show p + news.length - rows.length = 0 by omega]
      rfl
    · have := acc_from (f := f1 rows news p) (g := fun j => (1, rows.length + j, news.getD (rows.length + j - p) [])) (n := rows.length - p) (fun j hj => by unfold f1; rw [if_neg]; omega) (p + news.length - rows.length) (fun j hj => by
        unfold f1
        rw [if_pos (by omega)]
        rw [show p + (rows.length - p + j) = rows.length + j by omega, show rows.length + j - p = rows.length - p + j by omega])
      have e : max (rows.length - p) news.length = rows.length - p + (p + news.length - rows.length) := by omega
      rw [e, this]
      rfl
  rw [h1, h2, h3]
/-- The rows behind it. -/
def setL (rows news : List (List Int)) (p : Nat) : List (List Int) := rows.take p ++ news
theorem setL_len {rows news : List (List Int)} {p : Nat} (hp : p ≤ rows.length) : (setL rows news p).length = p + news.length := by simp [setL, Nat.min_eq_left hp]
theorem setL_at {rows news : List (List Int)} {p j : Nat} (hp : p ≤ rows.length) : (setL rows news p).getD (p + j) [] = news.getD j [] := by
  unfold setL
  have hl : (rows.take p).length = p := by rw [List.length_take]; omega
  simp only [List.getD]
  rw [List.getElem?_append_right (by omega), hl, Nat.add_sub_cancel_left]
end Go.Proofs.YtfamgaakcbinkaaDoor.Tp
