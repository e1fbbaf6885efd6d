/-
  A cell that is made number by number: its box, and the row that grows by append. Conditions: as told in each.
-/
import Derived.Test.YthabimjmdnhomaaRow64
import Derived.Deep.RegionLaw
namespace Go.Proofs.Ythabimjmdnhomaa.Sh
open Go.RowKit
set_option linter.unusedVariables false

/-- Since w0 only block g has turned, which is a cell's box; its numbers are a row of the call's own. -/
def OutSt (w0 w : World) (g : Nat) (X V : Value) (ys : List Int) : Prop := w0.grownBy w (some g) ∧ Box w g X V ∧ MineT 2 w w0.heap.size V ys ∧ g < w0.heap.size
section
variable {w0 w w' w5 : World} {g : Nat} {X V V' : Value} {ys zs : List Int}
theorem OutSt.turn (h : OutSt w0 w g X V ys) : w0.grownBy w (some g) := h.1
theorem OutSt.box (h : OutSt w0 w g X V ys) : Box w g X V := h.2.1
theorem OutSt.mine (h : OutSt w0 w g X V ys) : MineT 2 w w0.heap.size V ys := h.2.2.1
theorem OutSt.new (w : World) (X : Value) : OutSt (w.alloc (.cells #[X, .slice none 0 0] 25)) (w.alloc (.cells #[X, .slice none 0 0] 25)) w.heap.size X (.slice none 0 0) [] :=
  ⟨World.grownBy.refl _ _, Box.new w _ _, MineT.nil _ _ _, by simp⟩
theorem OutSt.next (h : OutSt w0 w g X V ys) (hb : Below w.heap.size w w') : OutSt w0 w' g X V ys :=
  ⟨turned_below h.1 hb, h.2.1.next hb, h.2.2.1.below hb (Nat.le_refl _), h.2.2.2⟩
theorem OutSt.drewN (h : OutSt w0 w g X V ys) (n : Nat) : OutSt w0 (w.drewN n) g X V ys := ⟨turned_drewN h.1 n, h.2.1, h.2.2.1, h.2.2.2⟩
theorem OutSt.drew (h : OutSt w0 w g X V ys) : OutSt w0 w.drew g X V ys := ⟨turned_drew h.1, h.2.1, h.2.2.1, h.2.2.2⟩
theorem OutSt.alloc (h : OutSt w0 w g X V ys) (o : Obj) : OutSt w0 (w.alloc o) g X V ys := h.next ((Below.refl _ w).alloc (Nat.le_refl _) o)
theorem OutSt.size (h : OutSt w0 w g X V ys) : w0.heap.size ≤ w.heap.size := h.1.size
theorem OutSt.ne (h : OutSt w0 w g X V ys) : some g ≠ V.ownBlock := fun e => by have := h.2.2.1.block g e.symm; have := h.2.2.2; omega
/-- Behind an append and ahead of its store. -/
theorem OutSt.mid (h : OutSt w0 w g X V ys) (hg : w.grownBy w5 V.ownBlock) : Box w5 g X V := h.2.1.grown hg h.ne
theorem OutSt.app (h : OutSt w0 w g X V ys) (hm : MineT 2 w5 w0.heap.size V' (ys ++ zs)) (hg : w.grownBy w5 V.ownBlock) : OutSt w0 (w5.setCell ⟨g, 1, none⟩ V') g X V' (ys ++ zs) :=
  ⟨turned_set (turned_grown h.1 hg h.2.2.1.block) 1 _, (h.mid hg).set1 _, hm.setCell (p := ⟨g, 1, none⟩) (fun e => by have := hm.block g e; have := h.2.2.2; omega) _, h.2.2.2⟩
end
theorem one_new (w : World) (x : Int) : Ints (w.alloc (.cells #[.int .i64 x] 2)) (some ⟨w.heap.size, 0, none⟩) [x] := (MineT.new 2 w [x] 0 (Nat.zero_le _) (by unfold maxLen; simp)).ints'
end Go.Proofs.Ythabimjmdnhomaa.Sh
