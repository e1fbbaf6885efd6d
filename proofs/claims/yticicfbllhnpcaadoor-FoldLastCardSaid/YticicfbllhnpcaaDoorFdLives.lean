/-
  The world of the cards of layer 8 and what rifflelaw08.lives answers. Condition: the table of traits holds what its text lays.
-/
import Derived.Test.YticicfbllhnpcaaDoorCards
import Derived.Test.YticicfbllhnpcaaDoorTie
import Derived.Test.YticicfbllhnpcaaDoorFdRow
import Derived.Deep.DeepHandedRow
import Derived.Deep.DeepWitnessRowRef
import Derived.Lib.LaidIn
import Derived.SevenTiedPlain
set_option maxRecDepth 100000
namespace Go.Proofs.YticicfbllhnpcaaDoor.Fd
open Go.Proofs.YticicfbllhnpcaaDoor.Sh
open Go.ChangeShapes Go.WideShapes Go.ChangeAt Go.RowKit
set_option linter.unusedVariables false

/-- The table, out of what the row lists. -/
theorem tab_met {W : World} (hL : laidMetH Tryd.prog Rows.foldReducesRow.laid W) : Sc.Tab W := by
  have h := Lib.laidMet.reads hL (.head _)
  rw [Sc.laidEq] at h
  exact Sc.tab_of h
/-- A world for the witness: the settled one, the table holding what its initialiser lays. -/
noncomputable def laidWorld (os : Os) : World :=
  let w0 := World.holding Tryd.prog os ⟨#[], #[], []⟩
  { w0 with heap := w0.heap.modify 0 fun
    | .cells _ t frozen => .cells (Sc.trL.flatMap Sc.Tr.vals).toArray t frozen
    | o => o }
theorem laid_met (os : Os) (args : Array Value) : laidMet Tryd.prog Rows.foldReducesRow.laid ((laidWorld os).forCall (fun _ _ => 0) ⟨#[], args, []⟩).memory :=
  (LaidIn.of_run (l := Rows.foldReducesRow.laid) [0] 8 (by kernel_rfl) (by kernel_rfl) (by kernel_rfl) (by kernel_rfl)).met
theorem inR_of {n : Int} (h : (Lit.int .i64 n).wf = true) : Sc.InR n := by
  simp only [Lit.wf, IntKind.min, IntKind.max, IntKind.signed, IntKind.bits, Bool.and_eq_true, decide_eq_true_eq, if_true] at h
  unfold Sc.InR
  omega
theorem allR_of {l : List Int} (h : WfL l) : AllR l := fun x hx => inR_of (h x hx)
theorem row1 (t : TypeId) (w : World) (xs : List Int) (hl : xs.length ≤ maxLen) : Ints (w.alloc (.cells (cellsI xs) t)) (some ⟨w.heap.size, 0, none⟩) xs := (MineT.new t w xs 0 (by simp) hl).ints'
theorem live_v : rowV 2 false [1, 2, 3] = 2 ∧ rowB 2 [1, 2, 3] = true := by
  have h : Sc.hasB 2 2 = true := Sc.has2_in (by omega) (by omega)
  have d : ∀ a b : Int, Sc.doI 2 false a b = wrap64 (a - b) := fun a b => rfl
  constructor
  · unfold rowV rowI
    rw [if_pos h, if_neg (by simp), foldI_cons _ _ _ (by simp), foldI_cons _ _ _ (by simp), d, d, show foldI 2 false [3] = 3 from rfl, Sc.wrap_def, Sc.wrap_def]
    decide
  · unfold rowB rowK
    rw [if_pos h, if_neg (by simp)]
theorem row_live (A : Option Addr) (cap : Nat) (w : World) (hT : Sc.Tab w) (hi : Ints w A [1, 2, 3]) :
    Calls Tryd.prog 48 #[.agg #[.int .i64 2, .bool false], .slice A 3 cap] w fun e w' => e = .returned (.tuple #[.int .i64 2, .bool true]) ∧ Below w.heap.size w w' := by
  have h := Row_any 2 false A cap [1, 2, 3] w hT (by simp) (by intro x hx; simp at hx; unfold Sc.InR; omega) hi
  rw [live_v.1, live_v.2] at h
  exact h
set_option maxHeartbeats 1000000 in
theorem lives_any (w : World) (hT : Sc.Tab w) : Calls Tryd.prog 15 #[] w fun e w' => e = .returned (.bool true) ∧ Below w.heap.size w w' := by
  have L := Lib.hid (below_new w (.cells (cellsI [1, 2, 3]) 2))
  have R := Lib.hid (row1 2 w [1, 2, 3] (by unfold maxLen; simp))
  have T := Lib.hid (hT.below L.out)
  go_enter Tryd.func15, Tryd.ntmps15
  go_wp2_with fail
  refine (row_live _ _ _ T.out R.out).mono ?_
  rintro r w1 ⟨rfl, hb⟩
  go_wp2
  go_ret
  exact ⟨rfl, below_next L.out hb⟩
end Go.Proofs.YticicfbllhnpcaaDoor.Fd
