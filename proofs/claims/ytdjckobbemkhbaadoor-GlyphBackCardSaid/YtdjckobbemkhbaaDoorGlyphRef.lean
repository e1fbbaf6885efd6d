/-
  What riffleref02.Signs, Words, place, Of, Named, Sign, Word and Class answer; nothing that was there is written. No condition.
-/
import Derived.Test.YtdjckobbemkhbaaDoorGlyphRead
namespace Go.Proofs.YtdjckobbemkhbaaDoor.Gl
open Go.RowKit
set_option linter.unusedVariables false

def strV (l : List UInt8) : Value := .string ⟨l.toArray⟩
def signA : Array Value := (signs.map strV).toArray
def wordA : Array Value := (ents.map fun e => strV e.2).toArray
set_option maxHeartbeats 1000000 in
set_option maxRecDepth 100000 in
theorem signs_any (w : World) : Calls Tryd.prog 24 #[] w fun e w' => e = .returned (.slice (some ⟨w.heap.size, 0, none⟩) 44 44) ∧ w' = w.alloc (.cells signA 9) := by
  go_enter Tryd.func24, Tryd.ntmps24
  go_wp2
  go_ret
  exact ⟨rfl, by kernel_rfl⟩
set_option maxHeartbeats 1000000 in
set_option maxRecDepth 100000 in
theorem words_any (w : World) : Calls Tryd.prog 25 #[] w fun e w' => e = .returned (.slice (some ⟨w.heap.size, 0, none⟩) 44 44) ∧ w' = w.alloc (.cells wordA 9) := by
  go_enter Tryd.func25, Tryd.ntmps25
  go_wp2
  go_ret
  exact ⟨rfl, by kernel_rfl⟩
end Go.Proofs.YtdjckobbemkhbaaDoor.Gl
