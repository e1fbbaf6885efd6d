/-
  What riffleref02.Signs, Words, place, Of, Named, Sign, Word and Class answer; nothing that was there is written. No condition.
-/
import Derived.Test.YtdhpplbopciijaaDoorGlyphRead
set_option maxRecDepth 100000
namespace Go.Proofs.YtdhpplbopciijaaDoor.Gl
open Go.RowKit
set_option linter.unusedVariables false

def strV (l : List UInt8) : Value := .string ⟨l.toArray⟩
def signA : Array Value := (signs.map strV).toArray
def wordA : Array Value := (ents.map fun e => strV e.2).toArray
set_option maxHeartbeats 1000000 in
set_option maxRecDepth 100000 in
theorem signs_any (w : World) : Calls Tryd.prog 37 #[] w fun e w' => e = .returned (.slice (some ⟨w.heap.size, 0, none⟩) 44 44) ∧ w' = w.alloc (.cells signA 9) := by
  go_enter Tryd.func37, Tryd.ntmps37
  go_wp2
  go_ret
  exact ⟨rfl, by kernel_rfl⟩
set_option maxHeartbeats 1000000 in
set_option maxRecDepth 100000 in
theorem words_any (w : World) : Calls Tryd.prog 48 #[] w fun e w' => e = .returned (.slice (some ⟨w.heap.size, 0, none⟩) 44 44) ∧ w' = w.alloc (.cells wordA 9) := by
  go_enter Tryd.func48, Tryd.ntmps48
  go_wp2
  go_ret
  exact ⟨rfl, by kernel_rfl⟩
end Go.Proofs.YtdhpplbopciijaaDoor.Gl
