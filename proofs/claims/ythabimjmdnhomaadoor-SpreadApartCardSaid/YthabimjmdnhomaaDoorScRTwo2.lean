/-
  What riffleref04.Two answers of the codes 6n, 6z, 7l, 7g, 8l and any numbers; nothing that was there is written. Condition: the numbers have 64 bits.
-/
import Derived.Test.YthabimjmdnhomaaDoorScRTwo0
namespace Go.Proofs.YthabimjmdnhomaaDoor.Sc
open Go.RowKit
set_option linter.unusedVariables false

set_option maxHeartbeats 2000000 in
set_option maxRecDepth 100000 in
theorem rtwo_6n (a b : Int) (w : World) (ha : InR a) (hb : InR b) (h : (a != 0) = true) : Calls Tryd.prog 41 #[.int .i64 6, .int .i64 a, .int .i64 b] w fun e w' => e = .returned (.tuple #[.int .i64 (wrap64 (b - wrap64 (a * overI b a))), .bool true]) ∧ Below w.heap.size w w' := by
  go_enter Tryd.func41, Tryd.ntmps41
  go_wp2_with fail
  refine (rhas_b 6 2 true _ (by decide)).mono ?_
  rintro e w1 ⟨rfl, rfl⟩
  go_wp2_with (first
    | (go_at_call 47; (with_reducible refine (rover_any a b _ ha).mono ?_); rintro e w' ⟨rfl, rfl⟩)
    | (go_at_call 47; (with_reducible refine (rover_any b a _ hb).mono ?_); rintro e w' ⟨rfl, rfl⟩)
    | (go_at_call 48; (with_reducible refine (rpower_any a b _ hb).mono ?_); rintro e w2 ⟨rfl, hb2⟩)
    | (go_at_call 46; (with_reducible refine (truth_t _ _).mono ?_); rintro e w' ⟨rfl, rfl⟩))
  go_ret2
  exact ⟨rfl, hb2.alloc hb2.size _⟩
set_option maxHeartbeats 2000000 in
set_option maxRecDepth 100000 in
theorem rtwo_6z (a b : Int) (w : World) (ha : InR a) (hb : InR b) (h : a = 0) : Calls Tryd.prog 41 #[.int .i64 6, .int .i64 a, .int .i64 b] w fun e w' => e = .returned (.tuple #[.int .i64 (b), .bool true]) ∧ Below w.heap.size w w' := by
  subst h
  go_enter Tryd.func41, Tryd.ntmps41
  go_wp2_with fail
  refine (rhas_b 6 2 true _ (by decide)).mono ?_
  rintro e w1 ⟨rfl, rfl⟩
  go_wp2_with (first
    | (go_at_call 47; (with_reducible refine (rover_any 0 b _ ha).mono ?_); rintro e w' ⟨rfl, rfl⟩)
    | (go_at_call 47; (with_reducible refine (rover_any b 0 _ hb).mono ?_); rintro e w' ⟨rfl, rfl⟩)
    | (go_at_call 48; (with_reducible refine (rpower_any 0 b _ hb).mono ?_); rintro e w2 ⟨rfl, hb2⟩)
    | (go_at_call 46; (with_reducible refine (truth_t _ _).mono ?_); rintro e w' ⟨rfl, rfl⟩))
  go_ret2
  exact ⟨rfl, hb2.alloc hb2.size _⟩
set_option maxHeartbeats 2000000 in
set_option maxRecDepth 100000 in
theorem rtwo_7l (a b : Int) (w : World) (ha : InR a) (hb : InR b) (h : a < b) : Calls Tryd.prog 41 #[.int .i64 7, .int .i64 a, .int .i64 b] w fun e w' => e = .returned (.tuple #[.int .i64 (b), .bool true]) ∧ Below w.heap.size w w' := by
  go_enter Tryd.func41, Tryd.ntmps41
  go_wp2_with fail
  refine (rhas_b 7 2 true _ (by decide)).mono ?_
  rintro e w1 ⟨rfl, rfl⟩
  go_wp2_with (first
    | (go_at_call 47; (with_reducible refine (rover_any a b _ ha).mono ?_); rintro e w' ⟨rfl, rfl⟩)
    | (go_at_call 47; (with_reducible refine (rover_any b a _ hb).mono ?_); rintro e w' ⟨rfl, rfl⟩)
    | (go_at_call 48; (with_reducible refine (rpower_any a b _ hb).mono ?_); rintro e w2 ⟨rfl, hb2⟩)
    | (go_at_call 46; (with_reducible refine (truth_t _ _).mono ?_); rintro e w' ⟨rfl, rfl⟩))
  go_ret2
  exact ⟨rfl, hb2.alloc hb2.size _⟩
set_option maxHeartbeats 2000000 in
set_option maxRecDepth 100000 in
theorem rtwo_7g (a b : Int) (w : World) (ha : InR a) (hb : InR b) (h : b ≤ a) : Calls Tryd.prog 41 #[.int .i64 7, .int .i64 a, .int .i64 b] w fun e w' => e = .returned (.tuple #[.int .i64 (a), .bool true]) ∧ Below w.heap.size w w' := by
  go_enter Tryd.func41, Tryd.ntmps41
  go_wp2_with fail
  refine (rhas_b 7 2 true _ (by decide)).mono ?_
  rintro e w1 ⟨rfl, rfl⟩
  go_wp2_with (first
    | (go_at_call 47; (with_reducible refine (rover_any a b _ ha).mono ?_); rintro e w' ⟨rfl, rfl⟩)
    | (go_at_call 47; (with_reducible refine (rover_any b a _ hb).mono ?_); rintro e w' ⟨rfl, rfl⟩)
    | (go_at_call 48; (with_reducible refine (rpower_any a b _ hb).mono ?_); rintro e w2 ⟨rfl, hb2⟩)
    | (go_at_call 46; (with_reducible refine (truth_t _ _).mono ?_); rintro e w' ⟨rfl, rfl⟩))
  go_ret2
  exact ⟨rfl, hb2.alloc hb2.size _⟩
set_option maxHeartbeats 2000000 in
set_option maxRecDepth 100000 in
theorem rtwo_8l (a b : Int) (w : World) (ha : InR a) (hb : InR b) (h : b < a) : Calls Tryd.prog 41 #[.int .i64 8, .int .i64 a, .int .i64 b] w fun e w' => e = .returned (.tuple #[.int .i64 (b), .bool true]) ∧ Below w.heap.size w w' := by
  go_enter Tryd.func41, Tryd.ntmps41
  go_wp2_with fail
  refine (rhas_b 8 2 true _ (by decide)).mono ?_
  rintro e w1 ⟨rfl, rfl⟩
  go_wp2_with (first
    | (go_at_call 47; (with_reducible refine (rover_any a b _ ha).mono ?_); rintro e w' ⟨rfl, rfl⟩)
    | (go_at_call 47; (with_reducible refine (rover_any b a _ hb).mono ?_); rintro e w' ⟨rfl, rfl⟩)
    | (go_at_call 48; (with_reducible refine (rpower_any a b _ hb).mono ?_); rintro e w2 ⟨rfl, hb2⟩)
    | (go_at_call 46; (with_reducible refine (truth_t _ _).mono ?_); rintro e w' ⟨rfl, rfl⟩))
  go_ret2
  exact ⟨rfl, hb2.alloc hb2.size _⟩
end Go.Proofs.YthabimjmdnhomaaDoor.Sc
