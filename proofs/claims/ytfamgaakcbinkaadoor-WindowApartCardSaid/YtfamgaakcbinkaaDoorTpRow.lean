/-
  Deltas as they lie in memory; slices.Grow, slices.Concat and slices.Reverse of such. Conditions: as told in each.
-/
import Derived.Test.YtfamgaakcbinkaaDoorTpMath
import Derived.Laws.EntriesVeiled
import Derived.IntWalk
import Derived.Deep.QuietTactic
import Derived.BigQuiet
import Derived.Deep.RegionLaw
import Derived.Lib.SliceRun
import Derived.Lib.AppendZeros
namespace Go.Proofs.YtfamgaakcbinkaaDoor.Tp
open Go.Proofs.YtfamgaakcbinkaaDoor.Sh Go.Proofs.YtfamgaakcbinkaaDoor.St
open Go.RowKit
set_option linter.unusedVariables false

/-- A delta with the slice that holds its row. -/
abbrev Qd : Type := Dl × (Option Addr × Nat)
def vq (q : Qd) : Value := .slice q.2.1 q.1.2.2.length q.2.2
def cq (q : Qd) : List Value := [.int .i64 q.1.1, .int .i64 (q.1.2.1 : Nat), vq q]
def flat3 (qs : List Qd) : List Value := qs.flatMap cq
theorem flat3_cons (q : Qd) (qs : List Qd) : flat3 (q :: qs) = .int .i64 q.1.1 :: .int .i64 (q.1.2.1 : Nat) :: vq q :: flat3 qs := rfl
theorem flat3_app (a b : List Qd) : flat3 (a ++ b) = flat3 a ++ flat3 b := List.flatMap_append
theorem flat3_len : ∀ qs : List Qd, (flat3 qs).length = qs.length * 3
  | [] => rfl
  | q :: qs => by rw [flat3_cons, List.length_cons, List.length_cons, List.length_cons, List.length_cons, flat3_len qs]; omega
theorem flat3_at : ∀ (qs : List Qd) (i : Nat) (q : Qd), qs[i]? = some q → (flat3 qs)[i * 3]? = some (.int .i64 q.1.1) ∧ (flat3 qs)[i * 3 + 1]? = some (.int .i64 (q.1.2.1 : Nat)) ∧ (flat3 qs)[i * 3 + 2]? = some (vq q)
  | [], i, q, h => by simp at h
  | p :: qs, 0, q, h => by
    obtain rfl : p = q := by simpa using h
    exact ⟨rfl, rfl, rfl⟩
  | p :: qs, i + 1, q, h => by
    have ih := flat3_at qs i q (by simpa using h)
    rw [flat3_cons, show (i + 1) * 3 = i * 3 + 1 + 1 + 1 by omega]
    simpa using ih
theorem flat3_one (qs : List Qd) : ∀ u ∈ flat3 qs, u.oneCell' = true := by
  intro u hu
  obtain ⟨p, _, hp⟩ := List.mem_flatMap.1 hu
  simp [cq] at hp
  rcases hp with rfl | rfl | rfl <;> rfl
theorem flat3_set : ∀ (qs : List Qd) (i : Nat) (q : Qd), i < qs.length → flat3 (qs.set i q) = (((flat3 qs).set (i * 3) (.int .i64 q.1.1)).set (i * 3 + 1) (.int .i64 (q.1.2.1 : Nat))).set (i * 3 + 2) (vq q)
  | [], i, q, h => by simp at h
  | p :: qs, 0, q, h => rfl
  | p :: qs, i + 1, q, h => by
    have ih := flat3_set qs i q (by simpa using h)
    rw [List.set_cons_succ, flat3_cons, ih, flat3_cons, show (i + 1) * 3 = i * 3 + 1 + 1 + 1 by omega]
    simp
section
variable {base : Nat} {w w' : World} {V : Value} {qs : List Qd}
end
/-- Two rows are apart. -/
def Off (V W : Value) : Prop := ∀ k, V.ownBlock = some k → W.ownBlock ≠ some k
theorem Off.symm {V W : Value} (h : Off V W) : Off W V := fun k h1 h2 => h k h2 h1
theorem Off.or {V W : Value} (h : Off V W) : V.ownBlock = none ∨ V.ownBlock ≠ W.ownBlock := by
  rcases hv : V.ownBlock with _ | k
  · exact .inl rfl
  · exact .inr fun e => h k hv e.symm
theorem Off.nil (W : Value) : Off (.slice none 0 0) W := fun k h => by simp [Value.ownBlock] at h
/-- A row that grew is apart from what lay before. -/
theorem Off.grew {V V' W : Value} {n : Nat} (h : Off V W) (hV : V'.ownBlock = V.ownBlock ∨ V'.ownBlock = some n) (hW : ∀ k, W.ownBlock = some k → k < n) : Off V' W := fun k h1 h2 => by
  rcases hV with e | e
  · exact h k (by rw [← e]; exact h1) h2
  · rw [e] at h1; injection h1 with h1; have := hW k h2; omega

/-- The first k lists, put behind one another. -/
def catQ (ps : List (List Qd)) (k : Nat) : List Qd := (ps.take k).flatten
theorem catQ_succ {ps : List (List Qd)} {k : Nat} {l : List Qd} (h : ps[k]? = some l) : catQ ps (k + 1) = catQ ps k ++ l := by
  obtain ⟨hk, e⟩ := List.getElem?_eq_some_iff.1 h
  unfold catQ
  rw [List.take_succ_eq_append_getElem hk, List.flatten_append, e]
  simp
theorem catQ_le (ps : List (List Qd)) (k : Nat) : (catQ ps k).length ≤ ps.flatten.length := by
  have := congrArg (fun l => l.flatten.length) (List.take_append_drop k ps)
  simp only [List.flatten_append, List.length_append] at this
  unfold catQ
  omega
theorem catQ_all (ps : List (List Qd)) : catQ ps ps.length = ps.flatten := by unfold catQ; rw [List.take_length]
end Go.Proofs.YtfamgaakcbinkaaDoor.Tp
