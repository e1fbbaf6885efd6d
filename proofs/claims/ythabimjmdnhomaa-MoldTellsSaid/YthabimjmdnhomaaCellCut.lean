/-
  What cell.cut answers: the i-th piece of a list of pieces of one size; the world is as it was. Condition: the piece lies within the list.
-/
import Derived.Test.YthabimjmdnhomaaCellAt
namespace Go.Proofs.Ythabimjmdnhomaa.Sh
open Go.RowKit
set_option linter.unusedVariables false

theorem MineT.cap {t : TypeId} {w : World} {base : Nat} {A : Option Addr} {n c : Nat} {xs : List Int} (h : MineT t w base (.slice A n c) xs) : n ≤ c ∧ c ≤ maxLen := by
  rcases h.2 with ⟨h0, _⟩ | ⟨g, cap, cur, h1, _, _, h2, h3, _⟩
  · injection h0 with _ h1 h2; subst h1 h2; simp
  · injection h1 with _ h4 h5; subst h5; omega

/-- The i-th piece of a list of pieces of size s. -/
def piece (v : List Int) (i s : Nat) : List Int := (v.drop (i * s)).take s
theorem piece_length {v : List Int} {i s : Nat} (h : (i + 1) * s ≤ v.length) : (piece v i s).length = s := by
  rw [Nat.add_mul, Nat.one_mul] at h
  simp [piece]; omega
theorem ret_slice {A : Option Addr} {m n s : Nat} (h : m = s) (hn : n = s) : Ending.returned (.slice A m m) = .returned (.slice A n s) := by rw [h, hn]
def RetCut (xs : List Int) (s : Nat) (w : World) (e : Ending) (w' : World) : Prop := ∃ A, e = .returned (.slice A xs.length s) ∧ Ints w A xs ∧ w = w'

end Go.Proofs.Ythabimjmdnhomaa.Sh
