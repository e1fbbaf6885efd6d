/-
  A window of int64 by two stacks: what its join tells, and (*twin.Agg[int64]).meet of two sums that are there. Conditions: as told in each.
-/
import Derived.Test.YtogbemdoimhndaaStBase
import Derived.Tactics
import Derived.Tactics2
import Derived.Defers
import Derived.Recover
import Derived.Laws.Pointers
import Derived.Deep.RegionHeld3
import Derived.IntWalk
set_option maxRecDepth 100000
namespace Go.Proofs.Ytogbemdoimhndaa.Twi
open Go.Proofs.Ytogbemdoimhndaa.Sh Go.Proofs.Ytogbemdoimhndaa.St
open Go.RowKit
set_option linter.unusedVariables false

/-- Joined. -/
def jn (a b : Int) : Int := wrap64 (a + b)
/-- How much room a value takes. -/
def wt (a : Int) : Nat := 0
/-- The window's join as a value. -/
def jv : Value := .func (.func 21) #[] #[]
theorem join_any (a b : Int) (w : World) (h : wt a + wt b ≤ 1000000) : Calls Try.prog 21 #[Value.int .i64 a, Value.int .i64 b] w fun e w' => e = .returned (Value.int .i64 (jn a b)) ∧ w = w' := by
  go_enter Try.func21, Try.ntmps21
  go_wp2
  go_ret
  exact ⟨rfl, rfl⟩
theorem catch_idle (w : World) : CallsD Try.prog 55 #[] .returning w fun e u' w' => e = .returned (.tuple #[]) ∧ u' = .returning ∧ w' = w := by
  refine callsD_of_wpS Try.func55 rfl fun c₀ cs hu => ?_
  apply wpS_region
  simp [wpOpsS, go_sem, recoverD, hu, Try.ntmps55, bodyPostS, results, Try.results55]
  cases c₀
  simp_all
/-- A sum as a value. -/
def sv (a : Int) : Value := .agg #[Value.int .i64 a, .bool true]
set_option maxHeartbeats 2000000 in
theorem meet_any (g : Nat) (a b : Int) (w : World) (hj : w.cell? ⟨g, 1, none⟩ = some jv) (h : wt a + wt b ≤ 1000000) :
    Calls Try.prog 43 #[.pointer (some ⟨g, 0, none⟩), .agg #[Value.int .i64 a, .bool true], .agg #[Value.int .i64 b, .bool true]] w fun e w' => e = .returned (.agg #[Value.int .i64 (jn a b), .bool true]) ∧ Below w.heap.size w w' := by
  have hg := World.block_lt_of_cell? w _ hj
  have JA := Lib.hid (fun W => join_any a b W h)
  have LB : ∀ x y : Value, Below w.heap.size w (((w.alloc (.cells #[Value.int .i64 a, .bool true] 80)).alloc (.cells #[Value.int .i64 b, .bool true] 80)).alloc (.cells #[x, y] 80)) := fun x y => below_next (below_next (below_new w _) (below_new _ _)) (below_new _ _)
  have LB := Lib.hid LB
  unfold jv at hj
  have kj := fun x y => ((LB.out x y).cell (p := ⟨g, 1, none⟩) hg).trans hj
  clear h
  go_enter_defers Try.func43, Try.ntmps43
  go_wp2
  go_region_held3 (fun w' => w'.cell? ⟨g, 1, none⟩ = some (.func (.func 21) #[] #[]) ∧ w'.cell? ⟨w.heap.size, 0, none⟩ = some (Value.int .i64 a) ∧ w'.cell? ⟨w.heap.size + 1, 0, none⟩ = some (Value.int .i64 b))
    (first
      | go_keep)
    (first
      | (go_at_call 21; (with_reducible refine (JA.out _).mono ?_); rintro r w5 ⟨rfl, rfl⟩))
  all_goals
    go_wp2
    refine leaves_cons (f := 55) (args := #[]) (by simp) (by simp [go_sem]) ?_
    refine (catch_idle _).mono ?_
    rintro e u' w'' ⟨rfl, rfl, rfl⟩
    have hb := (LB.out (Value.int .i64 (jn a b)) (.bool true)).drew
    simp [Leaves, settle, results, Try.results43, go_sem]
    exact hb
end Go.Proofs.Ytogbemdoimhndaa.Twi
