/-
  product.Outer where there is one. Conditions: the table of traits holds what its text lays; the numbers are int64.
-/
import Derived.Test.YtbanegjmapgkdaaDoorPrMath
import Derived.Deep.MidRow
import Derived.Test.YtbanegjmapgkdaaDoorPkS
import Derived.Test.YtbanegjmapgkdaaDoorCellBox
set_option maxRecDepth 100000
namespace Go.Proofs.YtbanegjmapgkdaaDoor.Pr
open Go.Proofs.YtbanegjmapgkdaaDoor.Sh
open Go.Proofs.YtbanegjmapgkdaaDoor.Fd
open Go.RowKit
set_option linter.unusedVariables false

theorem sizeI_0 : sizeI [] = 1 := by decide
/-- All numbers of a cell, as a line. -/
theorem along_b (A B : Option Addr) (c c2 : Nat) (d v : List Int) (w : World) (hd : d.length ≤ 100) (h : cellB d v.length = true) (hv : v.length ≤ 64) (iv : Ints w B v) :
    Calls Tryd.prog 38 #[.agg #[.slice A d.length c, .slice B v.length c2], .int .i64 0, .int .i64 1, .int .i64 (v.length : Int)] w fun e w' => e = .returned (.agg (cellsI (padL v))) ∧ Below w.heap.size w w' := by
  rcases Nat.eq_zero_or_pos d.length with h0 | h0
  · obtain rfl : d = [] := List.eq_nil_of_length_eq_zero h0
    have h1 : v.length = 1 := by
      simp [cellB, sizeI_0] at h
      omega
    have hl : lineL v 0 0 v.length = v := by
      obtain ⟨x, rfl⟩ : ∃ x, v = [x] := by
        match v, h1 with
        | [x], _ => exact ⟨x, rfl⟩
      rfl
    have := along_0 A B c c2 v 0 1 v.length w hv (by omega) (by omega) iv
    rw [hl] at this
    exact this
  · have := along_any A B c c2 d v 0 1 v.length w hv (by omega) (by omega) h0 hd (fun k hk => by omega) (by omega) iv
    rw [line_all] at this
    exact this
/-- One number, as often as asked, as a line. -/
theorem along_s (A B : Option Addr) (c c2 : Nat) (x : Int) (n : Nat) (w : World) (hn : n ≤ 64) (iv : Ints w B [x]) :
    Calls Tryd.prog 38 #[.agg #[.slice A 0 c, .slice B 1 c2], .int .i64 0, .int .i64 1, .int .i64 (n : Int)] w fun e w' => e = .returned (.agg (cellsI (padL (List.replicate n x)))) ∧ Below w.heap.size w w' := by
  have := along_0 A B c c2 [x] 0 1 n w hn (by simp) (by simp) iv
  rw [line_one] at this
  exact this
theorem LineAt.range {w : World} {g : Nat} {xs : List Int} (h : LineAt w g xs) : w.rangeAt g 0 (cellsI xs).toList := fun j v hv => by
  rw [Nat.zero_add, cell_of_row w g j _ _ _ h]; simpa using hv
theorem s3_below {W w1 : World} {a g : Nat} {x y : Value} {cs : List Value} (hb : Below W.heap.size W w1) (h : W.cell? ⟨a, 0, none⟩ = some x ∧ W.cell? ⟨a, 1, none⟩ = some y ∧ W.rangeAt g 0 cs) : w1.cell? ⟨a, 0, none⟩ = some x ∧ w1.cell? ⟨a, 1, none⟩ = some y ∧ w1.rangeAt g 0 cs :=
  ⟨keepC' hb h.1, keepC' hb h.2.1, fun j v hv => keepC' hb (h.2.2 j v hv)⟩
theorem s3_alloc {W : World} {a g : Nat} {x y : Value} {cs : List Value} (h : W.cell? ⟨a, 0, none⟩ = some x ∧ W.cell? ⟨a, 1, none⟩ = some y ∧ W.rangeAt g 0 cs) (o : Obj) : (W.alloc o).cell? ⟨a, 0, none⟩ = some x ∧ (W.alloc o).cell? ⟨a, 1, none⟩ = some y ∧ (W.alloc o).rangeAt g 0 cs := s3_below (below_new W o) h
end Go.Proofs.YtbanegjmapgkdaaDoor.Pr
