/-
  The document's example of layer 1 (rifflelaw01.lives) is true in whatever world; nothing that was there is written. No condition.
-/
import Derived.Test.YtdjckobbemkhbaaShapeStr
import Derived.Test.YtdjckobbemkhbaaShapeIdx
namespace Go.Proofs.Ytdjckobbemkhbaa.Sh
open Go.RowKit
set_option linter.unusedVariables false

theorem strides_23 (A : Option Addr) (c : Nat) (w : World) (h : Ints w A [2, 3]) : Calls Try.prog 18 #[.slice A 2 c] w fun e w' => ∃ B c', e = .returned (.slice B 2 c') ∧ Ints w' B [3, 1] ∧ Below w.heap.size w w' :=
  strides_any A c [2, 3] w (by unfold maxLen; decide) h
theorem index_23 (A B : Option Addr) (c c2 : Nat) (w : World) (h : Ints w A [2, 3]) (h2 : Ints w B [1, 0]) : Calls Try.prog 15 #[.slice A 2 c, .slice B 2 c2] w fun e w' => e = .returned (.int .i64 3) ∧ Below w.heap.size w w' :=
  index_any A c [2, 3] B c2 [1, 0] w (by unfold maxLen; decide) (by unfold maxLen; decide) h h2

set_option maxHeartbeats 1000000 in
theorem lives_any (w : World) : Calls Try.prog 7 #[] w fun e w' => e = .returned (.bool true) ∧ Below w.heap.size w w' := by
  go_enter Try.func7, Try.ntmps7
  go_wp2_with fail
  refine (strides_23 _ _ _ (Own.new w [2, 3]).ints).mono ?_
  rintro e w1 ⟨B, c', rfl, hi1, hb1⟩
  have hbw : Below w.heap.size w w1 := ((Below.refl _ w).alloc (Nat.le_refl _) _).trans (hb1.mono (by simp))
  have HB1 := Lib.hid hbw
  clear hb1 hbw
  obtain ⟨b, off, rfl, hlt, hc⟩ := hi1 (by simp)
  have hc0 : w1.cell? ⟨b, off, none⟩ = some (.int .i64 3) := hc 0 (by simp)
  have hc1 : w1.cell? ⟨b, off + 1, none⟩ = some (.int .i64 1) := hc 1 (by simp)
  clear hc
  go_wp2_with fail
  refine (index_23 _ _ _ _ _ ((Own.new w1 [2, 3]).alloc _).ints (by have h := (Own.new (w1.alloc (.cells (cellsI [2, 3]) 3)) [1, 0]).ints; rw [show (w1.alloc (.cells (cellsI [2, 3]) 3)).heap.size = w1.heap.size + 1 from by simp] at h; exact h)).mono ?_
  rintro e w2 ⟨rfl, hb2⟩
  have hw2 : Below w1.heap.size w1 w2 := ((((Below.refl _ w1).alloc (Nat.le_refl _) _).alloc (by simp) _).trans (hb2.mono (by simp; omega)))
  have k0 := (hw2.cell (p := ⟨b, off, none⟩) hlt).trans hc0
  have k1 := (hw2.cell (p := ⟨b, off + 1, none⟩) hlt).trans hc1
  have HB2 := Lib.hid (below_next HB1.out hw2)
  clear hb2 hw2 hc0 hc1
  go_wp2
  go_ret
  exact ⟨rfl, HB2.out⟩
end Go.Proofs.Ytdjckobbemkhbaa.Sh
