/-
  A window of string by two stacks: what its join tells, and (*twin.Agg[string]).meet of two sums that are there. Conditions: as told in each.
-/
import Derived.Test.YtogbemdoimhndaaStBase
import Derived.Tactics
import Derived.Tactics2
import Derived.Defers
import Derived.Recover
import Derived.Laws.Pointers
import Derived.Deep.RegionHeld3
import Derived.IntWalk
set_option maxRecDepth 100000
namespace Go.Proofs.Ytogbemdoimhndaa.Tws
open Go.Proofs.Ytogbemdoimhndaa.Sh Go.Proofs.Ytogbemdoimhndaa.St
open Go.RowKit
set_option linter.unusedVariables false

/-- Joined. -/
def jn (a b : ByteArray) : ByteArray := a ++ b
/-- How much room a value takes. -/
def wt (a : ByteArray) : Nat := a.size
/-- The window's join as a value. -/
def jv : Value := .func (.func 10) #[] #[]
theorem join_any (a b : ByteArray) (w : World) (h : wt a + wt b ≤ 1000000) : Calls Try.prog 10 #[Value.string a, Value.string b] w fun e w' => e = .returned (Value.string (jn a b)) ∧ w = w' := by
  have hsum : ¬ (a.size + b.size > 9223372036854775807) := by unfold wt at h; omega
  go_enter Try.func10, Try.ntmps10
  go_wp2
  go_ret
  exact ⟨rfl, rfl⟩
theorem catch_idle (w : World) : CallsD Try.prog 52 #[] .returning w fun e u' w' => e = .returned (.tuple #[]) ∧ u' = .returning ∧ w' = w := by
  refine callsD_of_wpS Try.func52 rfl fun c₀ cs hu => ?_
  apply wpS_region
  simp [wpOpsS, go_sem, recoverD, hu, Try.ntmps52, bodyPostS, results, Try.results52]
  cases c₀
  simp_all
/-- A sum as a value. -/
def sv (a : ByteArray) : Value := .agg #[Value.string a, .bool true]
set_option maxHeartbeats 2000000 in
theorem meet_any (g : Nat) (a b : ByteArray) (w : World) (hj : w.cell? ⟨g, 1, none⟩ = some jv) (h : wt a + wt b ≤ 1000000) :
    Calls Try.prog 38 #[.pointer (some ⟨g, 0, none⟩), .agg #[Value.string a, .bool true], .agg #[Value.string b, .bool true]] w fun e w' => e = .returned (.agg #[Value.string (jn a b), .bool true]) ∧ Below w.heap.size w w' := by
  have hg := World.block_lt_of_cell? w _ hj
  have JA := Lib.hid (fun W => join_any a b W h)
  have LB : ∀ x y : Value, Below w.heap.size w (((w.alloc (.cells #[Value.string a, .bool true] 69)).alloc (.cells #[Value.string b, .bool true] 69)).alloc (.cells #[x, y] 69)) := fun x y => below_next (below_next (below_new w _) (below_new _ _)) (below_new _ _)
  have LB := Lib.hid LB
  unfold jv at hj
  have kj := fun x y => ((LB.out x y).cell (p := ⟨g, 1, none⟩) hg).trans hj
  clear h
  go_enter_defers Try.func38, Try.ntmps38
  go_wp2
  go_region_held3 (fun w' => w'.cell? ⟨g, 1, none⟩ = some (.func (.func 10) #[] #[]) ∧ w'.cell? ⟨w.heap.size, 0, none⟩ = some (Value.string a) ∧ w'.cell? ⟨w.heap.size + 1, 0, none⟩ = some (Value.string b))
    (first
      | go_keep)
    (first
      | (go_at_call 10; (with_reducible refine (JA.out _).mono ?_); rintro r w5 ⟨rfl, rfl⟩))
  all_goals
    go_wp2
    refine leaves_cons (f := 52) (args := #[]) (by simp) (by simp [go_sem]) ?_
    refine (catch_idle _).mono ?_
    rintro e u' w'' ⟨rfl, rfl, rfl⟩
    have hb := (LB.out (Value.string (jn a b)) (.bool true)).drew
    simp [Leaves, settle, results, Try.results38, go_sem]
    exact hb
end Go.Proofs.Ytogbemdoimhndaa.Tws
