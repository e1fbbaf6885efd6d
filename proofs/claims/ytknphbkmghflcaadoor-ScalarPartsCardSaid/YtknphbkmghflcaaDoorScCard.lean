/-
  What a row of layer 4 lists, as the walks take it; a world for the witness; the document's example (rifflelaw04.lives). Condition of the example: the table of traits holds what its text lays.
-/
import Derived.Test.YtknphbkmghflcaaDoorCards
import Derived.Test.YtknphbkmghflcaaDoorTie
import Derived.Test.YtknphbkmghflcaaDoorScTwo
import Derived.Lib.SmallJoins
import Derived.WalkKit
import Derived.ProofKit
import Derived.OpenShut
import Derived.ChangeOld
import Derived.Below
import Derived.Deep.DeepHandedRow
import Derived.Deep.DeepWitnessRowRef
import Derived.Lib.LaidIn
import Derived.SevenTiedPlain
namespace Go.Proofs.YtknphbkmghflcaaDoor.Sc
open Go.ChangeShapes Go.WideShapes Go.ChangeAt Go.RowKit
set_option linter.unusedVariables false

theorem own : ownKnob Tryd.prog.godebug = none := by kernel_rfl
theorem laidOut : laidOutB Tryd.prog = true := by kernel_rfl
/-- The table, out of what the row lists. -/
theorem tab_met {W : World} (hL : laidMetH Tryd.prog Rows.scalarTwosRow.laid W) : Tab W := by
  have h := Lib.laidMet.reads hL (.head _)
  rw [laidEq] at h
  exact tab_of h
/-- A world for the witness: the settled one, the table holding what its initialiser lays. -/
noncomputable def laidWorld (os : Os) : World :=
  let w0 := World.holding Tryd.prog os ⟨#[], #[], []⟩
  { w0 with heap := w0.heap.modify 0 fun
    | .cells _ t frozen => .cells (trL.flatMap Tr.vals).toArray t frozen
    | o => o }
theorem laid_met (os : Os) (args : Array Value) : laidMet Tryd.prog Rows.scalarTwosRow.laid ((laidWorld os).forCall (fun _ _ => 0) ⟨#[], args, []⟩).memory :=
  (LaidIn.of_run (l := Rows.scalarTwosRow.laid) [0] 8 (by kernel_rfl) (by kernel_rfl) (by kernel_rfl) (by kernel_rfl)).met
theorem inR_of {n : Int} (h : (Lit.int .i64 n).wf = true) : InR n := by
  simp only [Lit.wf, IntKind.min, IntKind.max, IntKind.signed, IntKind.bits, Bool.and_eq_true, decide_eq_true_eq, if_true] at h
  unfold InR
  omega

theorem live1 : twoI 4 (-7) 2 = -4 := by
  show overI (-7) 2 = -4
  simp only [overI, wrap_def]; decide
theorem live2 : twoI 6 2 (-7) = 1 := by
  show restI 2 (-7) = 1
  simp only [restI, overI, wrap_def]; decide
theorem live3 : twoI 5 2 64 = 0 := by
  show powI 2 64 = 0
  simp only [powI, wrap_def]; decide
theorem live4 : twoI 4 5 0 = 0 := by
  show overI 5 0 = 0
  simp [overI]
theorem two_v (c a b x : Int) (w : World) (h : twoI c a b = x) (hB : twoB c = true) (hT : Tab w) (ha : InR a) (hb : InR b) : Calls Tryd.prog 8 #[.int .i64 c, .int .i64 a, .int .i64 b] w fun e w' => e = .returned (.tuple #[.int .i64 x, .bool true]) ∧ Below w.heap.size w w' := by
  subst h; rw [← hB]; exact two_any c a b w hT ha hb
set_option maxHeartbeats 1000000 in
theorem lives_any (w : World) (hT : Tab w) : Calls Tryd.prog 12 #[] w fun e w' => e = .returned (.bool true) ∧ Below w.heap.size w w' := by
  have HT := Lib.hid hT
  clear hT
  go_enter Tryd.func12, Tryd.ntmps12
  go_wp2_with fail
  refine (two_v 4 (-7) 2 (-4) _ live1 rfl HT.out (by unfold InR; omega) (by unfold InR; omega)).mono ?_
  rintro e w1 ⟨rfl, hb1⟩
  have T1 := Lib.hid (HT.out.below hb1)
  have L1 := Lib.hid hb1
  clear hb1
  go_wp2_with fail
  refine (two_v 6 2 (-7) 1 _ live2 rfl T1.out (by unfold InR; omega) (by unfold InR; omega)).mono ?_
  rintro e w2 ⟨rfl, hb2⟩
  have T2 := Lib.hid (T1.out.below hb2)
  have L2 := Lib.hid (below_next L1.out hb2)
  clear hb2
  go_wp2_with fail
  refine (two_v 5 2 64 0 _ live3 rfl T2.out (by unfold InR; omega) (by unfold InR; omega)).mono ?_
  rintro e w3 ⟨rfl, hb3⟩
  have T3 := Lib.hid (T2.out.below hb3)
  have L3 := Lib.hid (below_next L2.out hb3)
  clear hb3
  go_wp2_with fail
  refine (two_v 4 5 0 0 _ live4 rfl T3.out (by unfold InR; omega) (by unfold InR; omega)).mono ?_
  rintro e w4 ⟨rfl, hb4⟩
  have L4 := Lib.hid (below_next L3.out hb4)
  clear hb4
  go_wp2
  go_ret
  exact ⟨rfl, L4.out⟩
end Go.Proofs.YtknphbkmghflcaaDoor.Sc
