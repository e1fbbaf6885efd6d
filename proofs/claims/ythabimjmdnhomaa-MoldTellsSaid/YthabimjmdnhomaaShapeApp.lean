/-
  One number appended to a row of the call's own: what the row holds behind it. Condition: the row is short enough for any machine.
-/
import Derived.Test.YthabimjmdnhomaaShapeOwn
namespace Go.Proofs.Ythabimjmdnhomaa.Sh
open Go.RowKit
set_option linter.unusedVariables false

/-- The value v is a slice of the call's own (blocks from base on) with these numbers. -/
def Mine (w : World) (base : Nat) (v : Value) (xs : List Int) : Prop := w.ownsRow base 3 1 v xs.length (xs.map (Value.int .i64))
theorem Mine.nil (w : World) (base : Nat) : Mine w base (.slice none 0 0) [] := World.ownsRow_nil _ _ _ _
theorem Mine.ints {w : World} {base : Nat} {v : Value} {xs : List Int} (h : Mine w base v xs) : ∃ A c, v = .slice A xs.length c ∧ Ints w A xs := ints_of_own h
theorem Mine.drewN {w : World} {base : Nat} {v : Value} {xs : List Int} (h : Mine w base v xs) (n : Nat) : Mine (w.drewN n) base v xs := h
theorem Mine.mine_block {w : World} {base : Nat} {v : Value} {xs : List Int} (h : Mine w base v xs) : ∀ k, v.ownBlock = some k → base ≤ k := by
  intro k hk
  rcases h.2 with ⟨rfl, _⟩ | ⟨g, cap, cur, rfl, hb, _⟩
  · simp [Value.ownBlock] at hk
  · simp [Value.ownBlock] at hk; omega

theorem wpList_app {ops : Array Oper} {rest : List Oper} {o : Oper} {a : Act} {Q : Exit → Act → World → Prop} {w : World} {y : Int} (hgd : o.guard = none) (s x : Operand)
    (ho : o.op = .call { callee := .builtin .append, args := #[s, x], argTypes := #[22, 22] })
    (base : Nat) (v : Value) (xs : List Int) (hs : a.eval s = v) (hx : a.eval x = .slice (some ⟨w.heap.size, 0, none⟩) 1 1) (hown : Mine w base v xs)
    (hlen : xs.length < 17592186044415) (hbase : base ≤ w.heap.size)
    (h : ∀ v' w', Mine w' base v' (xs ++ [y]) → Below base w w' → wpList Try.prog ops Q rest (a.put o.dst v') w') :
    wpList Try.prog ops Q (o :: rest) a (w.alloc (.cells #[.int .i64 y] 3)) := by
  obtain ⟨i0, hi, hz0, hz1, hz2⟩ := info_parts infoInt
  refine wpList_append_own _ hgd s x 22 ho base 3 i0 (.int .i64 0) 1 8 Try.underlying22 hi hz0 hz1 hz2 rfl (by decide) v xs.length (xs.map (Value.int .i64)) hs (World.ownsRow.alloc hown _)
    ⟨w.heap.size, 0, none⟩ 1 1 [.int .i64 y] hx rfl ?_ ?_ (by unfold maxLen; omega) (by omega) (by simp; omega) ?_
  · intro j u hj
    match j, hj with
    | 0, hj => simp at hj; subst hj; simp [Addr.add]
  · intro u hu; simp at hu; subst hu; rfl
  · intro v' w' h1 h2 _
    refine h v' w' ?_ (((Below.refl _ w).alloc hbase _).grown h2 (by simp; omega) hown.mine_block)
    unfold Mine
    simpa using h1
end Go.Proofs.Ythabimjmdnhomaa.Sh
