/-
  Layer 18, tree: High, and what rifflelaw18.lives answers: true. Conditions: as told in each.
-/
import Derived.Test.YtjmpilmmgfjpmaaDoorTrHigh
set_option maxRecDepth 100000
namespace Go.Proofs.YtjmpilmmgfjpmaaDoor.Tr
open Go.Proofs.YtjmpilmmgfjpmaaDoor.Sh Go.Proofs.YtjmpilmmgfjpmaaDoor.St
open Go.RowKit
set_option linter.unusedVariables false

theorem ahead_ord {qs : List Nq} {t : List Int} (h : ordTo qs qs.length = some t) : Ahead qs := by
  intro k q hq x hx
  have hk : k < qs.length := (List.getElem?_eq_some_iff.1 hq).1
  cases hs : ordTo qs (k + 1) with
  | none => rw [ordTo_none hs qs.length (by omega)] at h; cases h
  | some t2 =>
    cases ht : ordTo qs k with
    | none => rw [ordTo_none ht (k + 1) (by omega)] at hs; cases hs
    | some tops =>
      rw [ordTo_succ ht hq] at hs
      have hin := (ordTo_in k tops ht).1
      unfold ordStep at hs
      repeat' split at hs
      all_goals first
        | cases hs
        | skip
      rename_i h1 h2 h3 h4
      simp at h2
      rw [← h2] at hx
      have := hin x (List.mem_of_mem_drop hx)
      exact ⟨this.1, this.2⟩
theorem ahead_right {p : Pq} (h : rightT p = true) : Ahead p.nodes := by
  unfold rightT at h
  simp only [Bool.and_eq_true] at h
  obtain ⟨-, -, -, -, h⟩ := h
  split at h
  · rename_i t ht; exact ahead_ord ht
  · cases h
/-- How high the nodes below one stand, of a program that may be. -/
def highN (p : Pq) (i : Int) : Nat := if thereB p.nodes.length i = true ∧ rightT p = true then hgt p.nodes i else 0
def RetI (n : Nat) (w : World) (e : Ending) (w' : World) : Prop := e = .returned (.int .i64 (n : Int)) ∧ Below w.heap.size w w'
/-- The program +x, its parts' slice at a block. -/
def plusQ (g : Nat) : List Nq := [⟨⟨5, 0, 1, [], [], ⟨#[]⟩⟩, none, 0, none, 0⟩, ⟨⟨2, 0, 0, [], [], ⟨#[120]⟩⟩, none, 0, none, 0⟩, ⟨⟨3, 0, 0, [0, 1], [], ⟨#[]⟩⟩, some ⟨g, 0, none⟩, 2, none, 0⟩]
def plusP (g : Nat) : Pq := ⟨⟨#[120]⟩, none, 0, [], some ⟨g + 1, 0, none⟩, 3, plusQ g, none, 0, [], 2⟩
theorem plus_right (g : Nat) : rightT (plusP g) = true := by kernel_rfl
theorem plus_fit (g : Nat) : FitP (plusP g) := ⟨by show (3 : Nat) ≤ 320; omega, by show (0 : Nat) ≤ 320; omega, by show (0 : Nat) ≤ 20; omega, fun q hq => by
  simp [plusP, plusQ] at hq
  rcases hq with rfl | rfl | rfl <;> simp, fun q hq => by
  simp [plusP, plusQ] at hq
  rcases hq with rfl | rfl | rfl <;> simp⟩
theorem plus_high (g : Nat) : highN (plusP g) 2 = 2 := by
  unfold highN
  rw [if_pos ⟨rfl, plus_right g⟩]
  rfl
theorem res_prog {fn : Func} {W : World} {g : Nat} {v0 v1 v2 v3 v4 : Value} (h : fn.results = #[.cell 0 26]) (tmps : Array Value) (h0 : tmps.getD 0 undef = .pointer (some ⟨g, 0, none⟩))
    (b : Bk 26 W g [v0, v1, v2, v3, v4]) : (results fn tmps).run Tryd.prog W = .ok (.agg #[v0, v1, v2, v3, v4]) W := by
  have a0 : W.cell? ⟨g, 0, none⟩ = some v0 := b.c 0
  have a1 : W.cell? ⟨g, 1, none⟩ = some v1 := b.c 1
  have a2 : W.cell? ⟨g, 2, none⟩ = some v2 := b.c 2
  have a3 : W.cell? ⟨g, 3, none⟩ = some v3 := b.c 3
  have a4 : W.cell? ⟨g, 4, none⟩ = some v4 := b.c 4
  rw [Array.getD_eq_getD_getElem?] at h0
  simp [results, h, h0, go_sem, a0, a1, a2, a3, a4]
end Go.Proofs.YtjmpilmmgfjpmaaDoor.Tr
