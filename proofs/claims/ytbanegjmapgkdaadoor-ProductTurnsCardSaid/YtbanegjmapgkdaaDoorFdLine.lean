/-
  What fold.line and fold.along and fold.fitting answer; nothing that was there is written. Conditions: the numbers of the line are there; the table of traits holds what its text lays.
-/
import Derived.Test.YtbanegjmapgkdaaDoorFdRow
import Derived.Test.YtbanegjmapgkdaaDoorPkC
set_option maxRecDepth 100000
namespace Go.Proofs.YtbanegjmapgkdaaDoor.Fd
open Go.Proofs.YtbanegjmapgkdaaDoor.Sh
open Go.RowKit
set_option linter.unusedVariables false

/-- So many numbers, each a stride behind the one ahead. -/
def lineL (v : List Int) (f st n : Nat) : List Int := (List.range n).map fun k => v.getD (f + k * st) 0
theorem lineL_len (v : List Int) (f st n : Nat) : (lineL v f st n).length = n := by simp [lineL]
theorem lineL_R {v : List Int} (h : AllR v) (f st n : Nat) : AllR (lineL v f st n) := by
  intro x hx
  simp only [lineL, List.mem_map] at hx
  obtain ⟨k, _, rfl⟩ := hx
  exact h.at _
theorem Row64.made (w : World) (n : Nat) : Row64 (w.alloc (.cells (madeCells #[Value.int .i64 0] n) 2)) w.heap.size (List.replicate n 0) := by
  unfold Row64; rw [← cells_made]; exact heap_alloc_new w _
/-- May a function be put to a cell? -/
def fitE (c : Int) (d : List Int) (n : Nat) : Int := if cellB d n = true then (if Sc.hasB c 2 = true then 0 else 14) else 1
end Go.Proofs.YtbanegjmapgkdaaDoor.Fd
