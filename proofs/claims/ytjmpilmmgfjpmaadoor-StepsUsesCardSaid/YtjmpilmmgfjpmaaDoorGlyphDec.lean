/-
  What the signs' readers of package glyph answer for any text: leading, Named, Of and First, over the library's own contract of utf8.DecodeRuneInString; nothing that was there is written. Condition: the two tables of unicode/utf8 hold what their text lays.
-/
import Derived.Test.YtjmpilmmgfjpmaaDoorGlyphFind
set_option maxRecDepth 100000
namespace Go.Proofs.YtjmpilmmgfjpmaaDoor.Gl
open Go.RowKit
set_option linter.unusedVariables false

theorem rs_free : ∀ k, k < 44 → ∀ j, j < 44 → 1 ≤ j → rs j <+: rs k → j = k := by
  have h : ∀ k : Fin 44, ∀ j : Fin 44, 1 ≤ j.1 → (rs j.1).isPrefixOf (rs k.1) = true → j.1 = k.1 := by decide
  exact fun k hk j hj h1 hp => h ⟨k, hk⟩ ⟨j, hj⟩ h1 (List.isPrefixOf_iff_prefix.2 hp)
theorem first_congr {p q : Nat → Prop} {c : Nat} (h : IsFirst p c) (e : ∀ j, 1 ≤ j → j < 44 → (p j ↔ q j)) : IsFirst q c := by
  rcases h with ⟨rfl, h⟩ | ⟨h1, h2, h3, h4⟩
  · exact .inl ⟨rfl, fun k k1 k2 hq => h k k1 k2 ((e k k1 k2).2 hq)⟩
  · exact .inr ⟨h1, h2, (e c h1 h2).1 h3, fun k k1 k2 hq => h4 k k1 k2 ((e k k1 (by omega)).2 hq)⟩
theorem rs_zero : rs 0 = [] := rfl

def Lead (l : List UInt8) (c n : Nat) : Prop := IsFirst (fun k => rs k <+: l) c ∧ n = (rs c).length
end Go.Proofs.YtjmpilmmgfjpmaaDoor.Gl
