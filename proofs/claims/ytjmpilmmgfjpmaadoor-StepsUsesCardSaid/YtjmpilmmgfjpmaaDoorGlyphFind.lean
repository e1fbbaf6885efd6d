/-
  What glyph.find answers for the two functions that it is handed, and glyph.lookUp for any code; nothing that was there is written. No condition.
-/
import Derived.Test.YtjmpilmmgfjpmaaDoorGlyphMath
set_option maxRecDepth 100000
namespace Go.Proofs.YtjmpilmmgfjpmaaDoor.Gl
open Go.RowKit
set_option linter.unusedVariables false

theorem ret_int {k : IntKind} {a b : Int} (h : a = b) : Ending.returned (.int k a) = .returned (.int k b) := by rw [h]
theorem ret_bool {a b : Bool} (h : a = b) : Ending.returned (.bool a) = .returned (.bool b) := by rw [h]
theorem below_next {a b c : World} (h : Below a.heap.size a b) (k : Below b.heap.size b c) : Below a.heap.size a c := h.trans (k.mono h.size)
theorem below_drewN {B : Nat} {a w : World} (h : Below B a w) (n : Nat) : Below B a (w.drewN n) := ⟨h.os, h.tape, h.output, h.size, h.block⟩

theorem flat2 {α β : Type} (f : α → List β) (hf : ∀ a, (f a).length = 2) : ∀ (l : List α) (k : Nat) (hk : k < l.length), ((l.flatMap f).drop (k * 2)).take 2 = f l[k]
  | x :: l, 0, _ => by
    rw [Nat.zero_mul, List.drop_zero, List.flatMap_cons, List.take_append_of_le_length (by rw [hf]; omega), List.take_of_length_le (by rw [hf]; omega)]
    rfl
  | x :: l, k + 1, h => by
    rw [List.flatMap_cons, show (k + 1) * 2 = (f x).length + k * 2 from by rw [hf]; omega, ← List.drop_drop, List.drop_left]
    exact flat2 f hf l k (by simpa using h)
def wB (k : Nat) : ByteArray := ⟨(wrd k).toArray⟩
theorem tab_part (k : Nat) (hk : k < 44) : tabA.extract (k * 2) (k * 2 + 2) = #[.int .i32 (sgn k), .string (wB k)] := by
  have hl : ents.length = 44 := rfl
  have h := flat2 entCells (fun _ => rfl) ents k (by omega)
  apply Array.toList_inj.1
  rw [Array.toList_extract]
  show List.extract (ents.flatMap entCells) (k * 2) (k * 2 + 2) = _
  rw [List.extract_eq_take_drop, show k * 2 + 2 - k * 2 = 2 from by omega, h]
  have e : ents[k]'(by omega) = ents.getD k (0, []) := by simp [List.getD, show k < ents.length by omega]
  rw [e]
  rfl
end Go.Proofs.YtjmpilmmgfjpmaaDoor.Gl
