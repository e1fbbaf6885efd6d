/-
  Layer 18, tree: what Walk and down hand back. No condition.
-/
import Derived.Test.YtffccemipkhjnaaTrLives
import Derived.Test.YtffccemipkhjnaaTrNode
import Derived.Laws.MakeOwn
set_option maxRecDepth 100000
namespace Go.Proofs.Ytffccemipkhjnaa.Tr
open Go.Proofs.Ytffccemipkhjnaa.Sh Go.Proofs.Ytffccemipkhjnaa.St
open Go.RowKit
set_option linter.unusedVariables false

/-- The function that goes the nodes below one, with the two boxes that it holds. -/
def downV (bi bn : Nat) : Value := .func (.func 36) #[] #[.pointer (some ⟨bi, 0, none⟩), .pointer (some ⟨bn, 0, none⟩)]
def RetDo (V : Value) (i : Int) (w : World) (e : Ending) (w' : World) : Prop := ∃ bi bn, e = .returned (downV bi bn) ∧ w.heap.size ≤ bi ∧ w.heap.size ≤ bn ∧ Bk 3 w' bi [.int .i64 i] ∧ Bk 23 w' bn [V] ∧ Below w.heap.size w w'
theorem down_any (A : Option Addr) (n c : Nat) (i : Int) (w : World) : Calls Try.prog 23 #[.slice A n c, .int .i64 i] w (RetDo (.slice A n c) i w) := by
  have e1 : (w.alloc (.cells #[.slice A n c] 23)).heap.size = w.heap.size + 1 := by simp
  have B1 := Lib.hid (Bk.new 23 w [.slice A n c])
  have B2 := Bk.new 3 (w.alloc (.cells #[.slice A n c] 23)) [.int .i64 i]
  rw [e1] at B2
  have C2 := Lib.hid B2
  have L2 := Lib.hid (show Below w.heap.size w ((w.alloc (.cells #[.slice A n c] 23)).alloc (.cells #[.int .i64 i] 3)) from ((Below.refl _ w).alloc (Nat.le_refl _) _).alloc (by simp) _)
  clear e1 B2
  go_enter Try.func23, Try.ntmps23
  go_wp2
  go_ret
  exact ⟨w.heap.size + 1, w.heap.size, rfl, by omega, Nat.le_refl _, C2.out, B1.out.alloc _, L2.out⟩
theorem infoNode : (Try.prog.info? 37).map (fun i => (i.zero, i.size, i.bytes)) = some (some (.agg #[.int .i64 0, .int .i64 0, .int .i64 0, .slice none 0 0, .slice none 0 0, .string ⟨#[]⟩]), 6, 88) := by kernel_rfl
theorem make_nodes (n : Nat) (hn : n ≤ 1000) (w : World) : (Instr.makeSlice 23 (.int .i64 (n : Int)) (.int .i64 (n : Int))).run Try.prog w = .ok (.slice (some ⟨w.heap.size, 0, none⟩) n n) (w.alloc (.cells (madeCells #[.int .i64 0, .int .i64 0, .int .i64 0, .slice none 0 0, .slice none 0 0, .string ⟨#[]⟩] (n * 6)) 37)) := by
  obtain ⟨i, hi, hzz⟩ := Option.map_eq_some_iff.1 infoNode
  simp only [Prod.mk.injEq] at hzz
  obtain ⟨hz, hs, hb⟩ := hzz
  have hr := run_make (P := Try.prog) w 23 37 i _ Try.underlying23 hi hz .i64 .i64 n n (by omega) (Int.le_refl _) (by rw [hb]; omega) (by omega)
  simp only [Int.toNat_natCast, hs] at hr
  exact hr
/-- The made row, of which the first ones are copies. -/
structure MdSt (w0 : World) (b g : Nat) (N : Nat) (src : List Nq) (j : Nat) (wr : World) (cs : List Nq) (xs : List Value) : Prop where
  bel : Below b w0 wr
  bk : Bk 37 wr g xs
  room : xs.length = N * 6
  len : cs.length = j
  same : cs.map (·.n) = (src.take j).map (·.n)
  at_ : ∀ (m : Nat) (q : Nq), cs[m]? = some q → ∀ t, t < 6 → xs[m * 6 + t]? = (cqN q)[t]?
  kids : ∀ q ∈ cs, MineT 3 wr (g + 1) (.slice q.ka q.n.kids.length q.kc) q.n.kids
  nums : ∀ q ∈ cs, MineT 2 wr (g + 1) (.slice q.na q.n.nums.length q.nc) q.n.nums
def set6 (xs : List Value) (j : Nat) (q : Nq) : List Value := (((((xs.set (j * 6) (.int .i64 q.n.kind)).set (j * 6 + 1) (.int .i64 q.n.pos)).set (j * 6 + 2) (.int .i64 q.n.code)).set (j * 6 + 3) (.slice q.ka q.n.kids.length q.kc)).set (j * 6 + 4) (.slice q.na q.n.nums.length q.nc)).set (j * 6 + 5) (.string q.n.name)
theorem set6_length (xs : List Value) (j : Nat) (q : Nq) : (set6 xs j q).length = xs.length := by simp [set6]
theorem set6_old {xs : List Value} {j : Nat} {q : Nq} {i : Nat} (h : i < j * 6) : (set6 xs j q)[i]? = xs[i]? := by
  unfold set6
  rw [List.getElem?_set_ne (by omega), List.getElem?_set_ne (by omega), List.getElem?_set_ne (by omega), List.getElem?_set_ne (by omega), List.getElem?_set_ne (by omega), List.getElem?_set_ne (by omega)]
theorem set6_new {xs : List Value} {j N : Nat} {q : Nq} (hl : xs.length = N * 6) (hj : j < N) : ∀ t, t < 6 → (set6 xs j q)[j * 6 + t]? = (cqN q)[t]? := by
  intro t ht
  have h6 : j * 6 + 6 ≤ xs.length := by omega
  unfold set6 cqN
  rcases (show t = 0 ∨ t = 1 ∨ t = 2 ∨ t = 3 ∨ t = 4 ∨ t = 5 by omega) with rfl | rfl | rfl | rfl | rfl | rfl
  · rw [List.getElem?_set_ne (by omega), List.getElem?_set_ne (by omega), List.getElem?_set_ne (by omega), List.getElem?_set_ne (by omega), List.getElem?_set_ne (by omega), Nat.add_zero, List.getElem?_set_self (by omega)]; rfl
  · rw [List.getElem?_set_ne (by omega), List.getElem?_set_ne (by omega), List.getElem?_set_ne (by omega), List.getElem?_set_ne (by omega), List.getElem?_set_self (by simp; omega)]; rfl
  · rw [List.getElem?_set_ne (by omega), List.getElem?_set_ne (by omega), List.getElem?_set_ne (by omega), List.getElem?_set_self (by simp; omega)]; rfl
  · rw [List.getElem?_set_ne (by omega), List.getElem?_set_ne (by omega), List.getElem?_set_self (by simp; omega)]; rfl
  · rw [List.getElem?_set_ne (by omega), List.getElem?_set_self (by simp; omega)]; rfl
  · rw [List.getElem?_set_self (by simp; omega)]; rfl
end Go.Proofs.Ytffccemipkhjnaa.Tr
