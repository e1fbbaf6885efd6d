/-
  Layer 17, token: rifflelaw17.TokenRises. Condition: the two tables of unicode/utf8 hold what their text lays.
-/
import Derived.Test.YtdhpplbopciijaaDoorTkLives
set_option maxRecDepth 100000
namespace Go.Proofs.YtdhpplbopciijaaDoor.Tk
open Go.Proofs.YtdhpplbopciijaaDoor.Sh Go.Proofs.YtdhpplbopciijaaDoor.St
open Go.RowKit
set_option linter.unusedVariables false

theorem tok_cells {w : World} {base : Nat} {V : Value} {qs : List Qt} (h : Live base w V qs) {k : Nat} {q : Qt} (hq : qs[k]? = some q) : ∃ b c, V = .slice (some ⟨b, 0, none⟩) qs.length c ∧ b < w.heap.size ∧ qs.length ≤ c ∧ ∀ (k : Nat) (q : Qt), qs[k]? = some q → w.cell? ⟨b, k * 5, none⟩ = some (.int .i64 (q.1.kind : Nat)) ∧ w.cell? ⟨b, k * 5 + 1, none⟩ = some (.int .i64 (q.1.pos : Nat)) ∧ w.cell? ⟨b, k * 5 + 2, none⟩ = some (.int .i64 (q.1.code : Nat)) ∧ w.cell? ⟨b, k * 5 + 3, none⟩ = some (vq q) ∧ w.cell? ⟨b, k * 5 + 4, none⟩ = some (.string (nm q.1.name)) := by
  have hl : ∀ {k : Nat} {q : Qt}, qs[k]? = some q → k < qs.length := fun h => (List.getElem?_eq_some_iff.1 h).1
  have h0 := hl hq
  obtain ⟨b, c, cur, hV, -, hn, -, hB, hc, -⟩ := own_putN (i := 0) h.1 (by omega)
  refine ⟨b, c, hV, hB.lt, hn, fun k q hq => ?_⟩
  have hk := hl hq
  obtain ⟨f0, f1, f2, f3, f4⟩ := flat5_at qs k q hq
  exact ⟨(hc _ (by omega)).trans f0, (hc _ (by omega)).trans f1, (hc _ (by omega)).trans f2, (hc _ (by omega)).trans f3, (hc _ (by omega)).trans f4⟩
end Go.Proofs.YtdhpplbopciijaaDoor.Tk
