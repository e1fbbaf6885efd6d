/-
  A block of the call's own that is known whole: a row of ints, with the list of its numbers. What stays of it behind draws, new blocks and stores. No condition.
-/
import Derived.Test.YthabimjmdnhomaaProg
import Derived.Test.YthabimjmdnhomaaShapeMath
import Derived.WalkKit
import Derived.WalkSpells
import Derived.Lib.Hide
import Derived.Deep.OwnRows
namespace Go.Proofs.Ythabimjmdnhomaa.Sh
open Go.RowKit
set_option linter.unusedVariables false

def cellsI (xs : List Int) : Array Value := (xs.map (Value.int .i64)).toArray
/-- Block g is just these numbers, none frozen. -/
def Own (w : World) (g : Nat) (xs : List Int) : Prop := w.heap[g]? = some (.cells (cellsI xs) 3 (0, 0))
section
variable {w w' : World} {g : Nat} {xs : List Int}
theorem Own.lt (h : Own w g xs) : g < w.heap.size := by
  rcases Nat.lt_or_ge g w.heap.size with hlt | hge
  · exact hlt
  · unfold Own at h; rw [Array.getElem?_eq_none hge] at h; cases h
theorem Own.cell (h : Own w g xs) {i : Nat} (hi : i < xs.length) : w.cell? ⟨g, i, none⟩ = some (.int .i64 (xs.getD i 0)) := by
  rw [cell_of_row w g i _ _ _ h]; simp [cellsI, List.getD, hi]
theorem Own.frozen (h : Own w g xs) (i : Nat) : w.frozen? ⟨g, i, none⟩ = false := by
  unfold Own at h
  simp [World.frozen?, h]
theorem cells_made (n : Nat) : madeCells #[Value.int .i64 0] n = cellsI (List.replicate n 0) := by
  apply Array.ext
  · simp [madeCells, cellsI]
  · intro i h1 h2
    simp [madeCells, cellsI, Nat.mod_one]
theorem Own.made (w : World) (n : Nat) : Own (w.alloc (.cells (madeCells #[Value.int .i64 0] n) 3)) w.heap.size (List.replicate n 0) := by
  unfold Own; rw [← cells_made]; exact heap_alloc_new w _
theorem Own.new (w : World) (xs : List Int) : Own (w.alloc (.cells (cellsI xs) 3)) w.heap.size xs := heap_alloc_new w _
theorem Own.drewN (h : Own w g xs) (n : Nat) : Own (w.drewN n) g xs := h
theorem Own.drew (h : Own w g xs) : Own w.drew g xs := h
theorem Own.alloc (h : Own w g xs) (o : Obj) : Own (w.alloc o) g xs := (Below.heap_alloc w o g h.lt).trans h
theorem Own.below {B : Nat} (h : Own w g xs) (hb : Below B w w') (hg : g < B) : Own w' g xs := (hb.block g hg).trans h
theorem Own.far (h : Own w g xs) {p : Addr} (hp : g ≠ p.block) (u : Value) : Own (w.setCell p u) g xs := (Below.heap_setCell w p u g hp).trans h
theorem Own.set_ (h : Own w g xs) (i : Nat) (x : Int) : Own (w.setCell ⟨g, i, none⟩ (.int .i64 x)) g (xs.set i x) := by
  unfold Own at h ⊢
  simp [World.setCell, Array.getElem?_modify, h, cellsI, List.map_set]
theorem Own.ints (h : Own w g xs) : Ints w (some ⟨g, 0, none⟩) xs := fun _ =>
  ⟨g, 0, rfl, h.lt, fun i hi => by rw [Nat.zero_add]; exact h.cell hi⟩
theorem ints_of_own {base : Nat} {v : Value} (h : w.ownsRow base 3 1 v xs.length (xs.map (Value.int .i64))) : ∃ A c, v = .slice A xs.length c ∧ Ints w A xs := by
  have hc := h.cells (g := v.ownBlock.getD 0)
  rcases h.2 with ⟨rfl, h0⟩ | ⟨g, cap, cur, rfl, hb, hg, _⟩
  · exact ⟨none, 0, by rw [h0], fun hp => absurd hp (by omega)⟩
  · refine ⟨some ⟨g, 0, none⟩, cap, rfl, fun _ => ⟨g, 0, rfl, ?_, fun i hi => ?_⟩⟩
    · rcases Nat.lt_or_ge g w.heap.size with hlt | hge
      · exact hlt
      · rw [Array.getElem?_eq_none hge] at hg; cases hg
    · have := hc rfl i (.int .i64 (xs.getD i 0)) (by simp [List.getD, hi])
      have e : ((⟨g, 0, none⟩ : Addr).add i) = ⟨g, 0 + i, none⟩ := Go.WideShapes.add_plain ..
      rw [← e]; exact this
end
theorem infoInt : (Try.prog.info? 3).map (fun i => (i.zero, i.size, i.bytes)) = some (some (.int .i64 0), 1, 8) := by kernel_rfl
end Go.Proofs.Ythabimjmdnhomaa.Sh
