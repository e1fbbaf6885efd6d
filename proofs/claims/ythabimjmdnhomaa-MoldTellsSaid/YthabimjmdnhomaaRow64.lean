/-
  A row of numbers known whole, filled place by place; what has turned since. No condition.
-/
import Derived.Test.YthabimjmdnhomaaCellStack
namespace Go.Proofs.Ythabimjmdnhomaa.Sh
open Go.RowKit
set_option linter.unusedVariables false

theorem turned_below {a w w' : World} {row : Option Nat} (h : a.grownBy w row) (k : Below w.heap.size w w') : a.grownBy w' row :=
  ⟨k.os.trans h.os, k.tape.trans h.tape, k.output.trans h.output, Nat.le_trans h.size k.size, fun i hi hne => (k.block i (Nat.lt_of_lt_of_le hi h.size)).trans (h.block i hi hne)⟩
theorem turned_refl (a : World) (row : Option Nat) : a.grownBy a row := World.grownBy.refl a row
/-- Block g is just these numbers. -/
def Row64 (w : World) (g : Nat) (xs : List Int) : Prop := w.heap[g]? = some (.cells (cellsI xs) 2 (0, 0))
section
variable {w w' : World} {g : Nat} {xs : List Int}
theorem Row64.lt (h : Row64 w g xs) : g < w.heap.size := by
  rcases Nat.lt_or_ge g w.heap.size with hlt | hge
  · exact hlt
  · unfold Row64 at h; rw [Array.getElem?_eq_none hge] at h; cases h
theorem Row64.cell (h : Row64 w g xs) {i : Nat} (hi : i < xs.length) : w.cell? ⟨g, i, none⟩ = some (.int .i64 (xs.getD i 0)) := by
  rw [cell_of_row w g i _ _ _ h]; simp [cellsI, List.getD, hi]
theorem Row64.frozen (h : Row64 w g xs) (i : Nat) : w.frozen? ⟨g, i, none⟩ = false := by unfold Row64 at h; simp [World.frozen?, h]
theorem Row64.drew (h : Row64 w g xs) : Row64 w.drew g xs := h
theorem Row64.drewN (h : Row64 w g xs) (n : Nat) : Row64 (w.drewN n) g xs := h
theorem Row64.alloc (h : Row64 w g xs) (o : Obj) : Row64 (w.alloc o) g xs := (Below.heap_alloc w o g h.lt).trans h
theorem Row64.next (h : Row64 w g xs) (hb : Below w.heap.size w w') : Row64 w' g xs := (hb.block g h.lt).trans h
theorem Row64.far (h : Row64 w g xs) {p : Addr} (hp : g ≠ p.block) (u : Value) : Row64 (w.setCell p u) g xs := (Below.heap_setCell w p u g hp).trans h
theorem Row64.set_ (h : Row64 w g xs) (i : Nat) (x : Int) : Row64 (w.setCell ⟨g, i, none⟩ (.int .i64 x)) g (xs.set i x) := by
  unfold Row64 at h ⊢
  simp [World.setCell, Array.getElem?_modify, h, cellsI, List.map_set]
theorem Row64.ints (h : Row64 w g xs) : Ints w (some ⟨g, 0, none⟩) xs := fun _ => ⟨g, 0, rfl, h.lt, fun i hi => by rw [Nat.zero_add]; exact h.cell hi⟩
end
/-- The numbers of the first k places, noughts behind. -/
def fillK (f : Nat → Int) (n k : Nat) : List Int := (List.range n).map fun i => if i < k then f i else 0
theorem fillK_length (f : Nat → Int) (n k : Nat) : (fillK f n k).length = n := by simp [fillK]
theorem fillK_0 (f : Nat → Int) (n : Nat) : fillK f n 0 = List.replicate n 0 := by
  apply List.ext_getElem <;> simp [fillK]
theorem fillK_n (f : Nat → Int) (n : Nat) : fillK f n n = (List.range n).map f := by
  apply List.map_congr_left
  intro i hi
  rw [if_pos (List.mem_range.1 hi)]
theorem fillK_succ (f : Nat → Int) (n k : Nat) (h : k < n) : (fillK f n k).set k (f k) = fillK f n (k + 1) := by
  apply List.ext_getElem
  · simp [fillK]
  · intro i h1 h2
    rw [List.getElem_set]
    simp only [fillK, List.getElem_map, List.getElem_range]
    by_cases hik : k = i
    · subst hik; simp
    · rw [if_neg hik]
      by_cases hlt : i < k
      · rw [if_pos hlt, if_pos (by omega)]
      · rw [if_neg hlt, if_neg (by omega)]
theorem below_new (w : World) (o : Obj) : Below w.heap.size w (w.alloc o) := (Below.refl _ w).alloc (Nat.le_refl _) o
end Go.Proofs.Ythabimjmdnhomaa.Sh
