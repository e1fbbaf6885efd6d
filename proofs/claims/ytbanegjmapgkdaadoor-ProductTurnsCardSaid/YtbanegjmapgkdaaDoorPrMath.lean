/-
  Lines and their meeting, as lists: what Outer's rounds lay. No program.
-/
import Derived.Test.YtbanegjmapgkdaaDoorPrOut0
set_option maxRecDepth 100000
namespace Go.Proofs.YtbanegjmapgkdaaDoor.Pr
open Go.Proofs.YtbanegjmapgkdaaDoor.Sh
open Go.Proofs.YtbanegjmapgkdaaDoor.Fd
open Go.RowKit
set_option linter.unusedVariables false

theorem padL_at (l : List Int) {i : Nat} (h : i < 64) : (padL l).getD i 0 = l.getD i 0 := by
  simp [padL, List.getD, h]
theorem padL_R {l : List Int} (h : AllR l) : AllR (padL l) := by
  intro x hx
  simp only [padL, List.mem_map] at hx
  obtain ⟨k, _, rfl⟩ := hx
  exact h.at _
theorem meet_len (c : Int) (s : Bool) (xs ys : List Int) (n : Nat) : (meetL c s xs ys n).length = 64 := mixK_length _ _ _
/-- The numbers two lines make, place by place. -/
def metL (c : Int) (s : Bool) (a b : List Int) (n : Nat) : List Int := (List.range n).map fun i => Sc.doI c s (a.getD i 0) (b.getD i 0)
theorem metL_len (c : Int) (s : Bool) (a b : List Int) (n : Nat) : (metL c s a b n).length = n := by simp [metL]
theorem meet_take (c : Int) (s : Bool) (a b : List Int) {n : Nat} (h : n ≤ 64) : (meetL c s (padL a) (padL b) n).take n = metL c s a b n := by
  apply List.ext_getElem
  · simp [metL_len, meet_len, h]
  · intro i h1 h2
    have hi : i < n := by rw [metL_len] at h2; exact h2
    have hi64 : i < 64 := by omega
    simp only [List.getElem_take, meetL, mixK, List.getElem_map, List.getElem_range, metL]
    rw [if_pos hi, padL_at _ hi64, padL_at _ hi64]
theorem line_one (x : Int) (n : Nat) : lineL [x] 0 0 n = List.replicate n x := by
  apply List.ext_getElem <;> simp [lineL]
theorem line_all (v : List Int) : lineL v 0 1 v.length = v := by
  apply List.ext_getElem
  · simp [lineL]
  · intro i h1 h2
    simp [lineL, List.getD, h2]
theorem met_one (c : Int) (s : Bool) (x : Int) (v : List Int) : metL c s (List.replicate v.length x) v v.length = v.map fun y => Sc.doI c s x y := by
  apply List.ext_getElem
  · simp [metL]
  · intro i h1 h2
    have hi : i < v.length := by simpa using h2
    simp [metL, List.getD, hi]
/-- What the outer product has behind so many rounds. -/
def outK (c : Int) (s : Bool) (v v' : List Int) (k : Nat) : List Int := ((v.take k).flatMap fun x => v'.map fun y => Sc.doI c s x y) ++ List.replicate ((v.length - k) * v'.length) 0
def outV (c : Int) (s : Bool) (v v' : List Int) : List Int := v.flatMap fun x => v'.map fun y => Sc.doI c s x y
theorem flat_len (f : Int → Int → Int) (l v' : List Int) : (l.flatMap fun x => v'.map fun y => f x y).length = l.length * v'.length := by
  induction l with
  | nil => simp
  | cons x l ih => simp only [List.flatMap_cons, List.length_append, List.length_map, ih, List.length_cons]; rw [Nat.add_mul]; omega
theorem outV_len (c : Int) (s : Bool) (v v' : List Int) : (outV c s v v').length = v.length * v'.length := flat_len _ _ _
theorem outK_len (c : Int) (s : Bool) (v v' : List Int) {k : Nat} (h : k ≤ v.length) : (outK c s v v' k).length = v.length * v'.length := by
  unfold outK
  rw [List.length_append, flat_len, List.length_take, List.length_replicate, Nat.min_eq_left h, ← Nat.add_mul]
  congr 1; omega
theorem outK_0 (c : Int) (s : Bool) (v v' : List Int) : outK c s v v' 0 = List.replicate (v.length * v'.length) 0 := by simp [outK]
theorem outK_n (c : Int) (s : Bool) (v v' : List Int) : outK c s v v' v.length = outV c s v v' := by simp [outK, outV]
theorem outK_succ (c : Int) (s : Bool) (v v' : List Int) {k : Nat} (h : k < v.length) : splice (outK c s v v' k) (k * v'.length) (v'.map fun y => Sc.doI c s (v.getD k 0) y) = outK c s v v' (k + 1) := by
  have h1 : ((v.take k).flatMap fun x => v'.map fun y => Sc.doI c s x y).length = k * v'.length := by rw [flat_len, List.length_take, Nat.min_eq_left (by omega)]
  have h2 : (v.length - k) * v'.length = v'.length + (v.length - (k + 1)) * v'.length := by
    obtain ⟨m, hm⟩ : ∃ m, v.length - k = m + 1 := ⟨v.length - k - 1, by omega⟩
    have hm2 : v.length - (k + 1) = m := by omega
    rw [hm, hm2, Nat.add_mul]; omega
  have h3 : v.take (k + 1) = v.take k ++ [v.getD k 0] := by
    rw [List.take_add_one]; simp [List.getD, h]
  unfold splice outK
  rw [List.take_append_of_le_length (by rw [h1]; exact Nat.le_refl _), List.take_of_length_le (by rw [h1]; exact Nat.le_refl _)]
  rw [List.drop_append, List.length_map, h1, List.drop_of_length_le (by rw [h1]; omega), h3, List.flatMap_append]
  rw [h2]
  simp [Nat.add_sub_cancel_left]
end Go.Proofs.YtbanegjmapgkdaaDoor.Pr
