/-
  The world of the cards of layer 5 and what rifflelaw05.lives answers. Condition: the table of traits holds what its text lays.
-/
import Derived.Test.YthabimjmdnhomaaDoorCards
import Derived.Test.YthabimjmdnhomaaDoorTie
import Derived.Test.YthabimjmdnhomaaDoorSpTwo
import Derived.Test.YthabimjmdnhomaaDoorFrame
import Derived.Deep.DeepHandedRow
import Derived.Deep.DeepWitnessRowRef
import Derived.Lib.LaidIn
import Derived.SevenTiedPlain
namespace Go.Proofs.YthabimjmdnhomaaDoor.Sp
open Go.Proofs.YthabimjmdnhomaaDoor.Sh
open Go.ChangeShapes Go.WideShapes Go.ChangeAt Go.RowKit
set_option linter.unusedVariables false

/-- The table, out of what the row lists. -/
theorem tab_met {W : World} (hL : laidMetH Tryd.prog Rows.spreadFitsRow.laid W) : Sc.Tab W := by
  have h := Lib.laidMet.reads hL (.head _)
  rw [Sc.laidEq] at h
  exact Sc.tab_of h
/-- A world for the witness: the settled one, the table holding what its initialiser lays. -/
noncomputable def laidWorld (os : Os) : World :=
  let w0 := World.holding Tryd.prog os ⟨#[], #[], []⟩
  { w0 with heap := w0.heap.modify 0 fun
    | .cells _ t frozen => .cells (Sc.trL.flatMap Sc.Tr.vals).toArray t frozen
    | o => o }
theorem laid_met (os : Os) (args : Array Value) : laidMet Tryd.prog Rows.spreadFitsRow.laid ((laidWorld os).forCall (fun _ _ => 0) ⟨#[], args, []⟩).memory :=
  (LaidIn.of_run (l := Rows.spreadFitsRow.laid) [0] 8 (by kernel_rfl) (by kernel_rfl) (by kernel_rfl) (by kernel_rfl)).met
theorem inR_of {n : Int} (h : (Lit.int .i64 n).wf = true) : Sc.InR n := by
  simp only [Lit.wf, IntKind.min, IntKind.max, IntKind.signed, IntKind.bits, Bool.and_eq_true, decide_eq_true_eq, if_true] at h
  unfold Sc.InR
  omega
theorem allR_of {l : List Int} (h : WfL l) : AllR l := fun x hx => inR_of (h x hx)

theorem live_E : twoE 1 [] 1 [2] 2 = 0 := by decide
theorem live_D : twoD 1 [] 1 [2] 2 = [2] := by decide
theorem live_V : twoV 1 false [] [10] [2] [1, 2] = [11, 12] := by
  have hs : (sizeI (fitD [] [2])).toNat = 2 := by decide
  have he : twoE 1 [] ([10] : List Int).length [2] ([1, 2] : List Int).length = 0 := by decide
  unfold twoV
  rw [if_pos he, hs]
  show [Sc.doI 1 false 10 1, Sc.doI 1 false 10 2] = [11, 12]
  have h1 : Sc.doI 1 false 10 1 = 11 := by show wrap64 (10 + 1) = 11; simp only [Sc.wrap_def]; decide
  have h2 : Sc.doI 1 false 10 2 = 12 := by show wrap64 (10 + 2) = 12; simp only [Sc.wrap_def]; decide
  rw [h1, h2]
theorem two_live (B : Option Addr) (c2 : Nat) (A' : Option Addr) (c1' : Nat) (B' : Option Addr) (c2' : Nat) (w : World) (hT : Sc.Tab w) (iv : Ints w B [10]) (ie : Ints w A' [2]) (iu : Ints w B' [1, 2]) :
    Calls Tryd.prog 12 #[.agg #[.int .i64 1, .bool false], .agg #[.slice none 0 0, .slice B 1 c2], .agg #[.slice A' 1 c1', .slice B' 2 c2']] w (RetC w [2] [11, 12] (.int .i64 0)) := by
  have h := two_any 1 false none 0 [] B c2 [10] A' c1' [2] B' c2' [1, 2] w hT (Ints.nil _ _) iv ie iu (by simp) (by simp) (by simp) (by simp) (by intro x hx; simp at hx; subst hx; unfold Sc.InR; omega) (by intro x hx; simp at hx; rcases hx with rfl | rfl <;> (unfold Sc.InR; omega))
  have e1 := live_E
  have e2 := live_D
  have e3 := live_V
  simp only [List.length_cons, List.length_nil, Nat.zero_add] at h
  rw [e1, e2, e3] at h
  exact h
theorem row1 (t : TypeId) (w : World) (xs : List Int) (hl : xs.length ≤ maxLen) : Ints (w.alloc (.cells (cellsI xs) t)) (some ⟨w.heap.size, 0, none⟩) xs := (MineT.new t w xs 0 (by simp) hl).ints'

set_option maxHeartbeats 1000000 in
theorem lives_any (w : World) (hT : Sc.Tab w) : Calls Tryd.prog 7 #[] w fun e w' => e = .returned (.bool true) ∧ Below w.heap.size w w' := by
  have b1 := below_new w (.cells (cellsI [10]) 2)
  have b2 := below_new (w.alloc (.cells (cellsI [10]) 2)) (.cells (cellsI [2]) 3)
  have b3 := below_new ((w.alloc (.cells (cellsI [10]) 2)).alloc (.cells (cellsI [2]) 3)) (.cells (cellsI [1, 2]) 2)
  have r1 := ((row1 2 w [10] (by unfold maxLen; simp)).below b2).below b3
  have r2 := (row1 3 (w.alloc (.cells (cellsI [10]) 2)) [2] (by unfold maxLen; simp)).below b3
  have r3 := row1 2 ((w.alloc (.cells (cellsI [10]) 2)).alloc (.cells (cellsI [2]) 3)) [1, 2] (by unfold maxLen; simp)
  rw [show (w.alloc (.cells (cellsI [10]) 2)).heap.size = w.heap.size + 1 from by simp] at r2
  rw [show ((w.alloc (.cells (cellsI [10]) 2)).alloc (.cells (cellsI [2]) 3)).heap.size = w.heap.size + 1 + 1 from by simp] at r3
  have L := Lib.hid (Sh.below_next b1 (Sh.below_next b2 b3))
  have T := Lib.hid (hT.below L.out)
  have R1 := Lib.hid r1
  have R2 := Lib.hid r2
  have R3 := Lib.hid r3
  clear b1 b2 b3 r1 r2 r3 hT
  go_enter Tryd.func7, Tryd.ntmps7
  go_wp2_with fail
  refine (two_live _ _ _ _ _ _ _ T.out R1.out R2.out R3.out).mono ?_
  rintro r w1 ⟨x, rfl, ⟨A2, c2, B2, c4, rfl, k1, k2, k3⟩, hb⟩
  replace L := Lib.hid (Sh.below_next L.out hb)
  clear hb
  obtain ⟨b, off, rfl, hle, hlt, hcs⟩ := k2 (by simp)
  have q0 : (w1.alloc (.cells #[.slice A2 1 c2, .slice (some ⟨b, off, none⟩) 2 c4] 32)).cell? ⟨b, off, none⟩ = some (.int .i64 11) := (World.cell?_alloc_past _ _ _ hlt).trans (hcs 0 (by simp))
  have q1 : (w1.alloc (.cells #[.slice A2 1 c2, .slice (some ⟨b, off, none⟩) 2 c4] 32)).cell? ⟨b, off + 1, none⟩ = some (.int .i64 12) := (World.cell?_alloc_past _ _ _ hlt).trans (hcs 1 (by simp))
  clear k1 k2 k3 hcs hle
  go_wp2
  go_ret
  exact ⟨rfl, L.out.alloc L.out.size _⟩
end Go.Proofs.YthabimjmdnhomaaDoor.Sp
