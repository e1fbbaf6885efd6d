/-
  What riffleref04.Two answers of the codes 1, 2, 3, 4, 5 and any numbers; nothing that was there is written. Condition: the numbers have 64 bits.
-/
import Derived.Test.YthabimjmdnhomaaDoorScRTwo0
namespace Go.Proofs.YthabimjmdnhomaaDoor.Sc
open Go.RowKit
set_option linter.unusedVariables false

set_option maxHeartbeats 2000000 in
set_option maxRecDepth 100000 in
theorem rtwo_1 (a b : Int) (w : World) (ha : InR a) (hb : InR b) : Calls Tryd.prog 41 #[.int .i64 1, .int .i64 a, .int .i64 b] w fun e w' => e = .returned (.tuple #[.int .i64 (wrap64 (a + b)), .bool true]) ∧ Below w.heap.size w w' := by
  go_enter Tryd.func41, Tryd.ntmps41
  go_wp2_with fail
  refine (rhas_b 1 2 true _ (by decide)).mono ?_
  rintro e w1 ⟨rfl, rfl⟩
  go_wp2_with (first
    | (go_at_call 47; (with_reducible refine (rover_any a b _ ha).mono ?_); rintro e w' ⟨rfl, rfl⟩)
    | (go_at_call 47; (with_reducible refine (rover_any b a _ hb).mono ?_); rintro e w' ⟨rfl, rfl⟩)
    | (go_at_call 48; (with_reducible refine (rpower_any a b _ hb).mono ?_); rintro e w2 ⟨rfl, hb2⟩)
    | (go_at_call 46; (with_reducible refine (truth_t _ _).mono ?_); rintro e w' ⟨rfl, rfl⟩))
  go_ret2
  exact ⟨rfl, hb2.alloc hb2.size _⟩
set_option maxHeartbeats 2000000 in
set_option maxRecDepth 100000 in
theorem rtwo_2 (a b : Int) (w : World) (ha : InR a) (hb : InR b) : Calls Tryd.prog 41 #[.int .i64 2, .int .i64 a, .int .i64 b] w fun e w' => e = .returned (.tuple #[.int .i64 (wrap64 (a - b)), .bool true]) ∧ Below w.heap.size w w' := by
  go_enter Tryd.func41, Tryd.ntmps41
  go_wp2_with fail
  refine (rhas_b 2 2 true _ (by decide)).mono ?_
  rintro e w1 ⟨rfl, rfl⟩
  go_wp2_with (first
    | (go_at_call 47; (with_reducible refine (rover_any a b _ ha).mono ?_); rintro e w' ⟨rfl, rfl⟩)
    | (go_at_call 47; (with_reducible refine (rover_any b a _ hb).mono ?_); rintro e w' ⟨rfl, rfl⟩)
    | (go_at_call 48; (with_reducible refine (rpower_any a b _ hb).mono ?_); rintro e w2 ⟨rfl, hb2⟩)
    | (go_at_call 46; (with_reducible refine (truth_t _ _).mono ?_); rintro e w' ⟨rfl, rfl⟩))
  go_ret2
  exact ⟨rfl, hb2.alloc hb2.size _⟩
set_option maxHeartbeats 2000000 in
set_option maxRecDepth 100000 in
theorem rtwo_3 (a b : Int) (w : World) (ha : InR a) (hb : InR b) : Calls Tryd.prog 41 #[.int .i64 3, .int .i64 a, .int .i64 b] w fun e w' => e = .returned (.tuple #[.int .i64 (wrap64 (a * b)), .bool true]) ∧ Below w.heap.size w w' := by
  go_enter Tryd.func41, Tryd.ntmps41
  go_wp2_with fail
  refine (rhas_b 3 2 true _ (by decide)).mono ?_
  rintro e w1 ⟨rfl, rfl⟩
  go_wp2_with (first
    | (go_at_call 47; (with_reducible refine (rover_any a b _ ha).mono ?_); rintro e w' ⟨rfl, rfl⟩)
    | (go_at_call 47; (with_reducible refine (rover_any b a _ hb).mono ?_); rintro e w' ⟨rfl, rfl⟩)
    | (go_at_call 48; (with_reducible refine (rpower_any a b _ hb).mono ?_); rintro e w2 ⟨rfl, hb2⟩)
    | (go_at_call 46; (with_reducible refine (truth_t _ _).mono ?_); rintro e w' ⟨rfl, rfl⟩))
  go_ret2
  exact ⟨rfl, hb2.alloc hb2.size _⟩
set_option maxHeartbeats 2000000 in
set_option maxRecDepth 100000 in
theorem rtwo_4 (a b : Int) (w : World) (ha : InR a) (hb : InR b) : Calls Tryd.prog 41 #[.int .i64 4, .int .i64 a, .int .i64 b] w fun e w' => e = .returned (.tuple #[.int .i64 (overI a b), .bool true]) ∧ Below w.heap.size w w' := by
  go_enter Tryd.func41, Tryd.ntmps41
  go_wp2_with fail
  refine (rhas_b 4 2 true _ (by decide)).mono ?_
  rintro e w1 ⟨rfl, rfl⟩
  go_wp2_with (first
    | (go_at_call 47; (with_reducible refine (rover_any a b _ ha).mono ?_); rintro e w' ⟨rfl, rfl⟩)
    | (go_at_call 47; (with_reducible refine (rover_any b a _ hb).mono ?_); rintro e w' ⟨rfl, rfl⟩)
    | (go_at_call 48; (with_reducible refine (rpower_any a b _ hb).mono ?_); rintro e w2 ⟨rfl, hb2⟩)
    | (go_at_call 46; (with_reducible refine (truth_t _ _).mono ?_); rintro e w' ⟨rfl, rfl⟩))
  go_ret2
  exact ⟨rfl, hb2.alloc hb2.size _⟩
set_option maxHeartbeats 2000000 in
set_option maxRecDepth 100000 in
theorem rtwo_5 (a b : Int) (w : World) (ha : InR a) (hb : InR b) : Calls Tryd.prog 41 #[.int .i64 5, .int .i64 a, .int .i64 b] w fun e w' => e = .returned (.tuple #[.int .i64 (powI a b), .bool true]) ∧ Below w.heap.size w w' := by
  go_enter Tryd.func41, Tryd.ntmps41
  go_wp2_with fail
  refine (rhas_b 5 2 true _ (by decide)).mono ?_
  rintro e w1 ⟨rfl, rfl⟩
  go_wp2_with (first
    | (go_at_call 47; (with_reducible refine (rover_any a b _ ha).mono ?_); rintro e w' ⟨rfl, rfl⟩)
    | (go_at_call 47; (with_reducible refine (rover_any b a _ hb).mono ?_); rintro e w' ⟨rfl, rfl⟩)
    | (go_at_call 48; (with_reducible refine (rpower_any a b _ hb).mono ?_); rintro e w2 ⟨rfl, hb2⟩)
    | (go_at_call 46; (with_reducible refine (truth_t _ _).mono ?_); rintro e w' ⟨rfl, rfl⟩))
  go_ret2
  exact ⟨rfl, hb2.alloc hb2.size _⟩
end Go.Proofs.YthabimjmdnhomaaDoor.Sc
