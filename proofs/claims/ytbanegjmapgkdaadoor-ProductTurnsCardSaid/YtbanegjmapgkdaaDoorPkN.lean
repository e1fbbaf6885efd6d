/-
  What mold.Copy answers where it answers a cell; nothing that was there is written. Conditions: as told; at most 100 axes and 1000 numbers. What mold.Copy answers where it answers a cell; nothing that was there is written. Conditions: as told; at most 100 axes and 1000 numbers. What mold.Copy answers where it answers an error; nothing that was there is written. Conditions: as told; at most 100 axes and 1000 numbers.
-/
import Derived.Test.YtbanegjmapgkdaaDoorPkMb
set_option maxRecDepth 100000
-- MoCopy
namespace Go.Proofs.YtbanegjmapgkdaaDoor.Sh
open Go.RowKit
set_option linter.unusedVariables false

theorem keep2 {W w1 : World} {p1 p2 : Addr} {x1 x2 : Value} (hb : Below W.heap.size W w1) (h : W.cell? p1 = some x1 ∧ W.cell? p2 = some x2) : w1.cell? p1 = some x1 ∧ w1.cell? p2 = some x2 :=
  have k : ∀ {p : Addr} {x : Value}, W.cell? p = some x → w1.cell? p = some x := fun {p x} hp => (hb.cell (World.block_lt_of_cell? W p hp)).trans hp
  ⟨k h.1, k h.2⟩
theorem keep3' {W w1 : World} {p1 p2 p3 : Addr} {x1 x2 x3 : Value} (hb : Below W.heap.size W w1) (h : W.cell? p1 = some x1 ∧ W.cell? p2 = some x2 ∧ W.cell? p3 = some x3) : w1.cell? p1 = some x1 ∧ w1.cell? p2 = some x2 ∧ w1.cell? p3 = some x3 :=
  have k : ∀ {p : Addr} {x : Value}, W.cell? p = some x → w1.cell? p = some x := fun {p x} hp => (hb.cell (World.block_lt_of_cell? W p hp)).trans hp
  ⟨k h.1, k h.2.1, k h.2.2⟩
theorem keepG2 {W w' : World} {gV g1 g2 : Nat} {x y : Value} (h : W.grownBy w' (some gV)) (h1 : g1 ≠ gV) (h2 : g2 ≠ gV) (hc : W.cell? ⟨g1, 1, none⟩ = some x ∧ W.cell? ⟨g2, 1, none⟩ = some y) : w'.cell? ⟨g1, 1, none⟩ = some x ∧ w'.cell? ⟨g2, 1, none⟩ = some y :=
  ⟨keepG h h1 hc.1, keepG h h2 hc.2⟩

end Go.Proofs.YtbanegjmapgkdaaDoor.Sh
-- MoCopyL
namespace Go.Proofs.YtbanegjmapgkdaaDoor.Sh
open Go.RowKit
set_option linter.unusedVariables false


end Go.Proofs.YtbanegjmapgkdaaDoor.Sh
-- MoCopyE
namespace Go.Proofs.YtbanegjmapgkdaaDoor.Sh
open Go.RowKit
set_option linter.unusedVariables false

end Go.Proofs.YtbanegjmapgkdaaDoor.Sh
