/-
  What riffleref02.place, Of, Named and First answer for any text; nothing that was there is written. Condition: a text is no longer than an int can say.
-/
import Derived.Test.YtjmpilmmgfjpmaaDoorGlyphRef
import Derived.Deep.QuietTactic
import Derived.BigQuiet
set_option maxRecDepth 100000
namespace Go.Proofs.YtjmpilmmgfjpmaaDoor.Gl
open Go.RowKit
set_option linter.unusedVariables false

/-- A row of 44 texts. -/
def Texts (w : World) (g : Nat) (f : Nat → List UInt8) : Prop := ∀ k, k < 44 → w.cell? ⟨g, k, none⟩ = some (strV (f k))
theorem texts_sign (w : World) : Texts (w.alloc (.cells signA 9)) w.heap.size rs := by
  intro k hk
  rw [cell_of_row _ w.heap.size k _ _ _ (heap_alloc_new w _)]
  have : k < signs.length := hk
  simp [signA, rs, List.getD, this]
theorem texts_word (w : World) : Texts (w.alloc (.cells wordA 9)) w.heap.size wrd := by
  intro k hk
  rw [cell_of_row _ w.heap.size k _ _ _ (heap_alloc_new w _)]
  have : k < ents.length := hk
  simp [wordA, wrd, List.getD, this]
theorem strV_list (l : List UInt8) : ∃ b : ByteArray, strV l = .string b ∧ b.toList = l ∧ b.size = l.length := ⟨⟨l.toArray⟩, rfl, by rw [toList_data], by simp [ByteArray.size]⟩

def TextIs (f : Nat → List UInt8) (l : List UInt8) (c : Nat) : Prop := IsFirst (fun k => f k = l ∧ l ≠ []) c
def NoText (f : Nat → List UInt8) (l : List UInt8) (k : Nat) : Prop := ∀ t, 1 ≤ t → t < k → ¬ (f t = l ∧ l ≠ [])
end Go.Proofs.YtjmpilmmgfjpmaaDoor.Gl
