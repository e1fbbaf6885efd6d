/-
  What cell.all answers of any cells, with cell.Right and with the function literal of cell.Stack; nothing that was there is written. Condition: the slices are no longer than an int can say.
-/
import Derived.Test.YthabimjmdnhomaaCellMake
namespace Go.Proofs.Ythabimjmdnhomaa.Sh
open Go.RowKit
set_option linter.unusedVariables false

/-- A cell as two lists: its axes and its numbers. -/
abbrev Two := List Int × List Int
/-- A slice of cells, nil let in. -/
def Cells (w : World) (A : Option Addr) (L : List Two) : Prop :=
  0 < L.length → ∃ b off, A = some ⟨b, off, none⟩ ∧ b < w.heap.size ∧ ∀ i (h : i < L.length), ∃ Ai ci Bi ei, w.cell? ⟨b, off + 2 * i, none⟩ = some (.slice Ai L[i].1.length ci) ∧ w.cell? ⟨b, off + 2 * i + 1, none⟩ = some (.slice Bi L[i].2.length ei) ∧ Ints w Ai L[i].1 ∧ Ints w Bi L[i].2
theorem Cells.below {w w' : World} {A : Option Addr} {L : List Two} (h : Cells w A L) (hb : Below w.heap.size w w') : Cells w' A L := by
  intro hl
  obtain ⟨b, off, e, hlt, hc⟩ := h hl
  refine ⟨b, off, e, Nat.lt_of_lt_of_le hlt hb.size, fun i hi => ?_⟩
  obtain ⟨Ai, ci, Bi, ei, h1, h2, h3, h4⟩ := hc i hi
  exact ⟨Ai, ci, Bi, ei, (hb.cell (p := ⟨b, off + 2 * i, none⟩) hlt).trans h1, (hb.cell (p := ⟨b, off + 2 * i + 1, none⟩) hlt).trans h2, h3.below hb, h4.below hb⟩
def SmallL (L : List Two) : Prop := ∀ x ∈ L, x.1.length ≤ 10 ∧ x.2.length ≤ 200

theorem all_take_snoc (p : Two → Bool) (L : List Two) (k : Nat) (h : k < L.length) : (L.take (k + 1)).all p = ((L.take k).all p && p L[k]) := by
  rw [List.take_succ_eq_append_getElem h, List.all_append, List.all_cons, List.all_nil, Bool.and_true]
theorem all_bad (p : Two → Bool) (L : List Two) (k : Nat) (h : k < L.length) (hp : p L[k] = false) : L.all p = false := by
  rw [Bool.eq_false_iff]
  intro ha
  rw [List.all_eq_true] at ha
  rw [ha _ (List.getElem_mem h)] at hp
  cases hp
def pR (x : Two) : Bool := cellB x.1 x.2.length
def pD (d : List Int) (x : Two) : Bool := decide (d = x.1)
theorem box_read {w : World} {g : Nat} {x y : Value} (h : Box w g x y) {o : Obj} : (w.alloc o).cell? ⟨g, 0, none⟩ = some x := (h.alloc o).c0
end Go.Proofs.Ythabimjmdnhomaa.Sh
