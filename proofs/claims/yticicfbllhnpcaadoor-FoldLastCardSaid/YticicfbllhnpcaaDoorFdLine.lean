/-
  What fold.line and fold.along and fold.fitting answer; nothing that was there is written. Conditions: the numbers of the line are there; the table of traits holds what its text lays.
-/
import Derived.Test.YticicfbllhnpcaaDoorFdRow
import Derived.Test.YticicfbllhnpcaaDoorPkC
set_option maxRecDepth 100000
namespace Go.Proofs.YticicfbllhnpcaaDoor.Fd
open Go.Proofs.YticicfbllhnpcaaDoor.Sh
open Go.RowKit
set_option linter.unusedVariables false

/-- So many numbers, each a stride behind the one ahead. -/
def lineL (v : List Int) (f st n : Nat) : List Int := (List.range n).map fun k => v.getD (f + k * st) 0
theorem lineL_len (v : List Int) (f st n : Nat) : (lineL v f st n).length = n := by simp [lineL]
theorem lineL_R {v : List Int} (h : AllR v) (f st n : Nat) : AllR (lineL v f st n) := by
  intro x hx
  simp only [lineL, List.mem_map] at hx
  obtain ⟨k, _, rfl⟩ := hx
  exact h.at _
theorem Row64.made (w : World) (n : Nat) : Row64 (w.alloc (.cells (madeCells #[Value.int .i64 0] n) 2)) w.heap.size (List.replicate n 0) := by
  unfold Row64; rw [← cells_made]; exact heap_alloc_new w _
set_option maxHeartbeats 2000000 in
theorem line_any (A : Option Addr) (c : Nat) (v : List Int) (f st n : Nat) (w : World) (hn : n ≤ 64) (hf : f ≤ 100000) (hs : st ≤ 1000) (hk : ∀ k, k < n → f + k * st < v.length) (hv : v.length ≤ 1000) (iv : Ints w A v) :
    Calls Tryd.prog 57 #[.slice A v.length c, .int .i64 (f : Int), .int .i64 (st : Int), .int .i64 (n : Int)] w fun e w' => ∃ A' c', e = .returned (.slice A' n c') ∧ Ints w' A' (lineL v f st n) ∧ Below w.heap.size w w' := by
  have hmk := fun W => run_make_row' (P := Tryd.prog) 25 2 (.int .i64 0) 8 Tryd.underlying25 numL rfl .i64 .i64 n (by omega) (by omega) W
  have hL := Lib.hid (show Below w.heap.size w (w.alloc (.cells (madeCells #[Value.int .i64 0] n) 2)) from below_new _ _)
  have hO := Lib.hid (Row64.made w n)
  have IV := Lib.hid iv
  have HK := Lib.hid hk
  clear iv hk
  obtain ⟨F, hF⟩ : ∃ F : Nat → Int, (fun k => v.getD (f + k * st) 0) = F := ⟨_, rfl⟩
  have HL := Lib.hid (show lineL v f st n = (List.range n).map F by unfold lineL; rw [hF])
  rw [HL.out]
  have HF := Lib.hid hF
  clear hF
  go_enter Tryd.func57, Tryd.ntmps57
  go_wp2
  go_loopw [15] (fun j wr => ∃ k : Nat, k ≤ n ∧ j = .int .i64 (k : Int) ∧ Row64 wr w.heap.size (fillK F n k) ∧ Below w.heap.size w wr) (fun j _ => n - (intOf j).toNat)
  case atStart => exact ⟨0, Nat.zero_le _, rfl, by rw [fillK_0]; exact hO.out, hL.out⟩
  case round =>
    obtain ⟨k, hk, rfl, hOw, hB⟩ := hrel
    have OW := Lib.hid hOw
    have LB := Lib.hid hB
    clear hOw hB
    by_cases hlt : k < n
    · have hkv := HK.out k hlt
      obtain ⟨b, off, rfl, hb, hcs⟩ := IV.out.below LB.out (by omega)
      obtain ⟨q, hq⟩ : ∃ q : Nat, f + k * st = q := ⟨_, rfl⟩
      have hqi : (f : Int) + (k : Int) * (st : Int) = (q : Int) := by rw [← hq]; simp
      have hkm : 0 ≤ (k : Int) * (st : Int) ∧ (k : Int) * (st : Int) ≤ 64000 := by
        refine ⟨Int.mul_nonneg (by omega) (by omega), Int.le_trans (Int.mul_le_mul (show (k : Int) ≤ 64 by omega) (show (st : Int) ≤ 1000 by omega) (by omega) (by omega)) (by omega)⟩
      rw [hq] at hkv
      have hck := hcs q hkv
      have HKK := Lib.hid (show v.getD q 0 = F k by rw [← HF.out, ← hq])
      rw [HKK.out] at hck
      have i0 : (0 : Int) ≤ (q : Int) := by omega
      have i1 : (q : Int) < (v.length : Int) := by omega
      have j0 : (0 : Int) ≤ (k : Int) := by omega
      have j1 : (k : Int) < (n : Int) := by omega
      have q0 := OW.out.cell (i := k) (by rw [fillK_length]; exact hlt)
      have q1 := OW.out.frozen k
      have HS := Lib.hid (fillK_succ F n k hlt)
      clear hcs hmk hq
      go_wp2
      go_roundw
      case rel => exact ⟨k + 1, by omega, by go_num, by rw [← HS.out]; exact OW.out.set_ k _, LB.out.setCell (Nat.le_refl _) _⟩
      case measure => simp [intOf]; omega
    · obtain rfl : k = n := by omega
      have hw := OW.out
      rw [fillK_n] at hw
      have HW := Lib.hid hw
      clear hw hmk
      go_wp2
      go_ret
      exact ⟨some ⟨w.heap.size, 0, none⟩, k, rfl, HW.out.ints, LB.out⟩
set_option maxHeartbeats 1000000 in
theorem along_any (A : Option Addr) (n c : Nat) (b : Bool) (w : World) (hn : n ≤ 1000) : Calls Tryd.prog 51 #[.slice A n c, .bool b] w fun e w' => e = .returned (.int .i64 (if b = true then 0 else (n : Int) - 1)) ∧ w = w' := by
  cases b
  · go_enter Tryd.func51, Tryd.ntmps51
    go_wp2
    go_ret
    exact ⟨rfl, rfl⟩
  · go_enter Tryd.func51, Tryd.ntmps51
    go_wp2
    go_ret
    exact ⟨rfl, rfl⟩
/-- May a function be put to a cell? -/
def fitE (c : Int) (d : List Int) (n : Nat) : Int := if cellB d n = true then (if Sc.hasB c 2 = true then 0 else 14) else 1
end Go.Proofs.YticicfbllhnpcaaDoor.Fd
