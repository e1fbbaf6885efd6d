/-
  What cell.Stack answers of cells that may be stacked: the cell of all their numbers, in order; nothing that was there is written. Condition: at most 70 cells, of at most 10 axes and 200 numbers.
-/
import Derived.Test.YthabimjmdnhomaaCellCopy
import Derived.Test.YthabimjmdnhomaaCellRItem
import Derived.Deep.DeepCutAuto
namespace Go.Proofs.Ythabimjmdnhomaa.Sh
open Go.RowKit
set_option linter.unusedVariables false

def catV (L : List Two) : List Int := (L.map (·.2)).flatten
theorem catV_take (L : List Two) (k : Nat) (h : k < L.length) : catV (L.take (k + 1)) = catV (L.take k) ++ L[k].2 := by
  unfold catV
  rw [List.take_succ_eq_append_getElem h, List.map_append, List.flatten_append]
  simp
theorem catV_len {L : List Two} {s : Nat} (h : ∀ x ∈ L, x.2.length = s) : (catV L).length = L.length * s := by
  unfold catV
  induction L with
  | nil => simp
  | cons x L ih =>
    rw [List.map_cons, List.flatten_cons, List.length_append, ih (fun y hy => h y (List.mem_cons_of_mem _ hy)), h x (by simp), List.length_cons, Nat.add_mul, Nat.one_mul]
    omega
/-- The row behind k copies. -/
def rowK (L : List Two) (s k : Nat) : List Int := catV (L.take k) ++ List.replicate ((L.length - k) * s) 0
theorem rowK_0 (L : List Two) (s : Nat) : rowK L s 0 = List.replicate (L.length * s) 0 := by simp [rowK, catV]
theorem rowK_n (L : List Two) (s : Nat) : rowK L s L.length = catV L := by simp [rowK]
theorem catV_take_len {L : List Two} {s k : Nat} (h : ∀ x ∈ L, x.2.length = s) (hk : k ≤ L.length) : (catV (L.take k)).length = k * s := by
  rw [catV_len (L := L.take k) (s := s) (fun x hx => h x (List.mem_of_mem_take hx)), List.length_take, Nat.min_eq_left hk]
theorem rowK_len {L : List Two} {s k : Nat} (h : ∀ x ∈ L, x.2.length = s) (hk : k ≤ L.length) : (rowK L s k).length = L.length * s := by
  unfold rowK
  rw [List.length_append, catV_take_len h hk, List.length_replicate, ← Nat.add_mul, Nat.add_sub_cancel' hk]
theorem rowK_succ {L : List Two} {s k : Nat} (h : ∀ x ∈ L, x.2.length = s) (hk : k < L.length) : splice (rowK L s k) (k * s) L[k].2 = rowK L s (k + 1) := by
  have hl := catV_take_len h (Nat.le_of_lt hk)
  have hv : L[k].2.length = s := h _ (List.getElem_mem hk)
  unfold splice
  rw [hv]
  unfold rowK
  rw [catV_take L k hk, List.take_append_of_le_length (by omega), List.take_of_length_le (by omega), List.drop_append, List.drop_of_length_le (by omega), List.nil_append, hl, List.append_assoc]
  congr 2
  rw [List.drop_replicate]
  congr 1
  have : L.length - k = (L.length - (k + 1)) + 1 := by omega
  rw [this, Nat.add_mul, Nat.one_mul]
  omega

section
variable {A : Option Addr} {c : Nat} {L : List Two} {w : World}
end
theorem keepG {W w' : World} {gV g : Nat} {x : Value} (h : W.grownBy w' (some gV)) (hg : g ≠ gV) (hc : W.cell? ⟨g, 1, none⟩ = some x) : w'.cell? ⟨g, 1, none⟩ = some x :=
  (World.cell?_of_block (h.block g (World.block_lt_of_cell? W ⟨g, 1, none⟩ hc) (fun e => hg (by injection e)))).trans hc
theorem mine_turned {t : TypeId} {w w' : World} {base gV : Nat} {v : Value} {xs ys : List Int} (h : MineT t w base v xs) (hg : w.heap[gV]? = some (.cells (cellsI ys) 2 (0, 0))) (ht : t ≠ 2) (hr : w.grownBy w' (some gV)) : MineT t w' base v xs := by
  refine h.keep fun g hv => hr.block g (h.lt g hv) (fun e => ?_)
  injection e with e
  subst e
  rcases h.2 with ⟨rfl, _⟩ | ⟨g', cap, cur, rfl, _, hh, _⟩
  · simp [Value.ownBlock] at hv
  · simp [Value.ownBlock] at hv
    subst hv
    rw [hg] at hh
    injection hh with hh
    injection hh with _ hh
    exact ht hh.symm
theorem mine_block {w : World} {base gV : Nat} {xs : List Int} (hg : w.heap[gV]? = some (.cells (cellsI xs) 2 (0, 0))) (hb : base ≤ gV) (hl : xs.length ≤ maxLen) : MineT 2 w base (.slice (some ⟨gV, 0, none⟩) xs.length xs.length) xs :=
  ⟨by simp, .inr ⟨gV, xs.length, cellsI xs, rfl, hb, hg, Nat.le_refl _, hl, by simp [cellsI], by simp [cellsI, ← List.map_take]⟩⟩

end Go.Proofs.Ythabimjmdnhomaa.Sh
