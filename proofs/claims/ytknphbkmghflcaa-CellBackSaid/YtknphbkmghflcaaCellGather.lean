/-
  The Items of a cell, gathered in a row of cells: what the row holds, and the search of the law through them. Conditions: as told in each.
-/
import Derived.Test.YtknphbkmghflcaaCellStack
import Derived.Test.YtknphbkmghflcaaCellLives
import Derived.Test.YtknphbkmghflcaaCellTells1
namespace Go.Proofs.Ytknphbkmghflcaa.Sh
open Go.RowKit
set_option linter.unusedVariables false

/-- A slice of numbers, nil let in, that does not lie in this block. -/
def Av (w : World) (vb : Option Nat) (A : Option Addr) (l : List Int) : Prop :=
  0 < l.length → ∃ b off, A = some ⟨b, off, none⟩ ∧ b < w.heap.size ∧ some b ≠ vb ∧ ∀ i, i < l.length → w.cell? ⟨b, off + i, none⟩ = some (.int .i64 (l.getD i 0))
section
variable {w w' : World} {vb : Option Nat} {A : Option Addr} {l : List Int}
theorem Av.ints (h : Av w vb A l) : Ints w A l := fun hp => by obtain ⟨b, off, e, h1, _, h2⟩ := h hp; exact ⟨b, off, e, h1, h2⟩
theorem Av.below (h : Av w vb A l) (hb : Below w.heap.size w w') : Av w' vb A l := fun hp => by
  obtain ⟨b, off, e, hlt, hne, hc⟩ := h hp
  exact ⟨b, off, e, Nat.lt_of_lt_of_le hlt hb.size, hne, fun i hi => (hb.cell (p := ⟨b, off + i, none⟩) hlt).trans (hc i hi)⟩
theorem Fr.av {base : Nat} (h : Fr w base A l) (hv : ∀ g, vb = some g → g < base) : Av w vb A l := fun hp => by
  obtain ⟨b, off, e, hle, hlt, hc⟩ := h hp
  exact ⟨b, off, e, hlt, fun e1 => by have := hv b e1.symm; omega, hc⟩
theorem Av.grown {vb' : Option Nat} (h : Av w vb A l) (hg : w.grownBy w' vb) (hv : vb' = vb ∨ vb' = some w.heap.size) : Av w' vb' A l := fun hp => by
  obtain ⟨b, off, e, hlt, hne, hc⟩ := h hp
  refine ⟨b, off, e, Nat.lt_of_lt_of_le hlt hg.size, ?_, fun i hi => (World.cell?_of_block (hg.block b hlt hne)).trans (hc i hi)⟩
  rcases hv with hv | hv
  · rw [hv]; exact hne
  · rw [hv]; intro e1; injection e1 with e1; omega
end
/-- A row of cells of the call's own: all have the axes t, the j-th the numbers P j. -/
def CRow (w : World) (base : Nat) (v : Value) (n : Nat) (t : List Int) (P : Nat → List Int) : Prop :=
  ∃ vs : List Value, w.ownsRow base 25 2 v n vs ∧ ∀ j, j < n → ∃ A c B c2, vs[2 * j]? = some (.slice A t.length c) ∧ vs[2 * j + 1]? = some (.slice B (P j).length c2) ∧ Av w v.ownBlock A t ∧ Av w v.ownBlock B (P j)
section
variable {w w' : World} {base : Nat} {v : Value} {n : Nat} {t : List Int} {P : Nat → List Int}
theorem CRow.nil (w : World) (base : Nat) (t : List Int) (P : Nat → List Int) : CRow w base (.slice none 0 0) 0 t P := ⟨[], World.ownsRow_nil _ _ _ _, fun j hj => absurd hj (by omega)⟩
theorem CRow.below (h : CRow w base v n t P) (hb : Below w.heap.size w w') : CRow w' base v n t P := by
  obtain ⟨vs, h1, h2⟩ := h
  refine ⟨vs, own_below h1 hb, fun j hj => ?_⟩
  obtain ⟨A, c, B, c2, e1, e2, e3, e4⟩ := h2 j hj
  exact ⟨A, c, B, c2, e1, e2, e3.below hb, e4.below hb⟩
theorem CRow.lt (h : CRow w base v n t P) : ∀ g, v.ownBlock = some g → g < w.heap.size := by
  obtain ⟨vs, h1, _⟩ := h
  exact own_lt h1
theorem CRow.block (h : CRow w base v n t P) : ∀ g, v.ownBlock = some g → base ≤ g := by
  obtain ⟨vs, h1, _⟩ := h
  intro k hk
  rcases h1.2 with ⟨rfl, _⟩ | ⟨g, cap, cur, rfl, hb, _⟩
  · simp [Value.ownBlock] at hk
  · simp [Value.ownBlock] at hk; omega
/-- The row as a slice of cells. -/
theorem CRow.cells (h : CRow w base v n t P) : ∃ A c, v = .slice A n c ∧ Cells w A ((List.range n).map fun j => (t, P j)) := by
  obtain ⟨vs, h1, h2⟩ := h
  rcases h1.2 with ⟨rfl, h0⟩ | ⟨g, cap, cur, rfl, hb, hh, _⟩
  · exact ⟨none, 0, by rw [h0], fun hp => absurd hp (by simp; omega)⟩
  · refine ⟨some ⟨g, 0, none⟩, cap, rfl, fun hp => ⟨g, 0, rfl, own_lt h1 g rfl, fun i hi => ?_⟩⟩
    have hin : i < n := by simpa using hi
    obtain ⟨A, c, B, c2, e1, e2, e3, e4⟩ := h2 i hin
    have k1 := h1.cells (g := g) rfl (2 * i) _ e1
    have k2 := h1.cells (g := g) rfl (2 * i + 1) _ e2
    rw [Go.WideShapes.add_plain] at k1 k2
    refine ⟨A, c, B, c2, ?_, ?_, ?_, ?_⟩
    · simpa using k1
    · simpa [Nat.add_assoc] using k2
    · simpa using e3.ints
    · simpa using e4.ints
end
theorem infoCell : (Try.prog.info? 25).map (fun i => (i.zero, i.size, i.bytes)) = some (some (.agg #[.slice none 0 0, .slice none 0 0]), 2, 48) := by kernel_rfl
/-- A cell appended to the row. -/
theorem wpList_appC {ops : Array Oper} {rest : List Oper} {o : Oper} {a : Act} {Q : Exit → Act → World → Prop} {w : World} (hgd : o.guard = none) (s x : Operand)
    (ho : o.op = .call { callee := .builtin .append, args := #[s, x], argTypes := #[43, 43] })
    (base : Nat) (v : Value) (n : Nat) (t : List Int) (P : Nat → List Int) (A : Option Addr) (c : Nat) (B : Option Addr) (c2 : Nat) (hs : a.eval s = v) (hx : a.eval x = .slice (some ⟨w.heap.size, 0, none⟩) 1 1) (hrow : CRow w base v n t P)
    (hA : Av w v.ownBlock A t) (hB : Av w v.ownBlock B (P n)) (hlen : n ≤ 100) (hbase : base ≤ w.heap.size)
    (h : ∀ v' w', CRow w' base v' (n + 1) t P → Below base w w' → wpList Try.prog ops Q rest (a.put o.dst v') w') :
    wpList Try.prog ops Q (o :: rest) a (w.alloc (.cells #[.slice A t.length c, .slice B (P n).length c2] 25)) := by
  obtain ⟨i0, hi, hz0, hz1, hz2⟩ := info_parts infoCell
  have hblk := hrow.block
  have hrl := hrow.lt
  obtain ⟨vs, h1, h2⟩ := hrow
  have hb0 : Below w.heap.size w (w.alloc (.cells #[.slice A t.length c, .slice B (P n).length c2] 25)) := below_box (Below.refl _ _)
  refine wpList_append_own_at _ hgd s x 43 ho base 25 i0 (.agg #[.slice none 0 0, .slice none 0 0]) 2 48 Try.underlying43 hi hz0 hz1 hz2 rfl (by decide) v n vs hs (World.ownsRow.alloc h1 _)
    ⟨w.heap.size, 0, none⟩ 1 1 [.slice A t.length c, .slice B (P n).length c2] hx rfl ?_ ?_ (by unfold maxLen; omega) (by omega) (by simp; omega) ?_
  · intro j u hj
    rw [Go.WideShapes.add_plain]
    match j, hj with
    | 0, hj => simp at hj; subst hj; rw [World.cell?_alloc_at _ _ _ _ (by simp)]; rfl
    | 1, hj => simp at hj; subst hj; rw [World.cell?_alloc_at _ _ _ _ (by simp)]; rfl
  · intro u hu; simp at hu; rcases hu with rfl | rfl <;> rfl
  · intro v' w' k1 k2 _ k4
    have hlv : vs.length = 2 * n := by have := h1.1; omega
    have k4' : v'.ownBlock = v.ownBlock ∨ v'.ownBlock = some (w.alloc (.cells #[.slice A t.length c, .slice B (P n).length c2] 25)).heap.size := k4
    refine h v' w' ⟨vs ++ [.slice A t.length c, .slice B (P n).length c2], k1, fun j hj => ?_⟩ ((hb0.mono hbase).grown k2 (by simp; omega) hblk)
    rcases Nat.lt_or_ge j n with hlt | hge
    · obtain ⟨A', c', B', c2', e1, e2, e3, e4⟩ := h2 j hlt
      exact ⟨A', c', B', c2', by rw [List.getElem?_append_left (by omega)]; exact e1, by rw [List.getElem?_append_left (by omega)]; exact e2, (e3.below hb0).grown k2 k4', (e4.below hb0).grown k2 k4'⟩
    · obtain rfl : j = n := by omega
      exact ⟨A, c, B, c2, by rw [List.getElem?_append_right (by omega), hlv]; simp, by rw [List.getElem?_append_right (by omega), hlv]; simp, (hA.below hb0).grown k2 k4', (hB.below hb0).grown k2 k4'⟩
end Go.Proofs.Ytknphbkmghflcaa.Sh
