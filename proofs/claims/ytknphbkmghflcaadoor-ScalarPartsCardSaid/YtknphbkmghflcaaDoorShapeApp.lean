/-
  One number appended to a row of the call's own: what the row holds behind it. Condition: the row is short enough for any machine.
-/
import Derived.Test.YtknphbkmghflcaaDoorShapeOwn
namespace Go.Proofs.YtknphbkmghflcaaDoor.Sh
open Go.RowKit
set_option linter.unusedVariables false

/-- The value v is a slice of the call's own (blocks from base on) with these numbers. -/
def Mine (w : World) (base : Nat) (v : Value) (xs : List Int) : Prop := w.ownsRow base 3 1 v xs.length (xs.map (Value.int .i64))
theorem Mine.nil (w : World) (base : Nat) : Mine w base (.slice none 0 0) [] := World.ownsRow_nil _ _ _ _
theorem Mine.ints {w : World} {base : Nat} {v : Value} {xs : List Int} (h : Mine w base v xs) : ∃ A c, v = .slice A xs.length c ∧ Ints w A xs := ints_of_own h
theorem Mine.drewN {w : World} {base : Nat} {v : Value} {xs : List Int} (h : Mine w base v xs) (n : Nat) : Mine (w.drewN n) base v xs := h
theorem Mine.mine_block {w : World} {base : Nat} {v : Value} {xs : List Int} (h : Mine w base v xs) : ∀ k, v.ownBlock = some k → base ≤ k := by
  intro k hk
  rcases h.2 with ⟨rfl, _⟩ | ⟨g, cap, cur, rfl, hb, _⟩
  · simp [Value.ownBlock] at hk
  · simp [Value.ownBlock] at hk; omega

end Go.Proofs.YtknphbkmghflcaaDoor.Sh
