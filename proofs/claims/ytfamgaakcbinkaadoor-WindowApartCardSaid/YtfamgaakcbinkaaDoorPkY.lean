/-
  What riffleref04.Two and riffleref04.Do answer of any code and any numbers: the same; nothing that was there is written. Condition: the numbers have 64 bits. What riffleref04.Two answers of the codes 1, 2, 3, 4, 5 and any numbers; nothing that was there is written. Condition: the numbers have 64 bits. What riffleref04.Two answers of the codes 6n, 6z, 7l, 7g, 8l and any numbers; nothing that was there is written. Condition: the numbers have 64 bits. What riffleref04.Two answers of the codes 8g, 9, 10, 11, 12 and any numbers; nothing that was there is written. Condition: the numbers have 64 bits. What riffleref04.Two answers of the codes 13, 14, 15, 16, 17, 18 and any numbers; nothing that was there is written. Condition: the numbers have 64 bits. What riffleref04.Two and riffleref04.Do answer of any code and any numbers: the same as scalar.Two and scalar.Do; nothing that was there is written. Condition: the numbers have 64 bits.
-/
import Derived.Test.YtfamgaakcbinkaaDoorPkX
set_option maxRecDepth 100000
-- ScRTwo0
namespace Go.Proofs.YtfamgaakcbinkaaDoor.Sc
open Go.RowKit
set_option linter.unusedVariables false

/-- 1, if it is so, else 0. -/
def tB (b : Bool) : Int := if b = true then 1 else 0
theorem truth_t (b : Bool) (w : World) : Calls Tryd.prog 101 #[.bool b] w fun e w' => e = .returned (.int .i64 (tB b)) ∧ w = w' := truth_any b w
theorem rhas_b (c v : Int) (b : Bool) (w : World) (h : hasB c v = b) : Calls Tryd.prog 50 #[.int .i64 c, .int .i64 v] w fun e w' => e = .returned (.bool b) ∧ w = w' := by
  subst h; exact rhas_any c v w
end Go.Proofs.YtfamgaakcbinkaaDoor.Sc
-- ScRTwo1
namespace Go.Proofs.YtfamgaakcbinkaaDoor.Sc
open Go.RowKit
set_option linter.unusedVariables false

set_option maxHeartbeats 2000000 in
set_option maxRecDepth 100000 in
theorem rtwo_1 (a b : Int) (w : World) (ha : InR a) (hb : InR b) : Calls Tryd.prog 87 #[.int .i64 1, .int .i64 a, .int .i64 b] w fun e w' => e = .returned (.tuple #[.int .i64 (wrap64 (a + b)), .bool true]) ∧ Below w.heap.size w w' := by
  go_enter Tryd.func87, Tryd.ntmps87
  go_wp2_with fail
  refine (rhas_b 1 2 true _ (by decide)).mono ?_
  rintro e w1 ⟨rfl, rfl⟩
  go_wp2_with (first
    | (go_at_call 99; (with_reducible refine (rover_any a b _ ha).mono ?_); rintro e w' ⟨rfl, rfl⟩)
    | (go_at_call 99; (with_reducible refine (rover_any b a _ hb).mono ?_); rintro e w' ⟨rfl, rfl⟩)
    | (go_at_call 100; (with_reducible refine (rpower_any a b _ hb).mono ?_); rintro e w2 ⟨rfl, hb2⟩)
    | (go_at_call 101; (with_reducible refine (truth_t _ _).mono ?_); rintro e w' ⟨rfl, rfl⟩))
  go_ret2
  exact ⟨rfl, hb2.alloc hb2.size _⟩
set_option maxHeartbeats 2000000 in
set_option maxRecDepth 100000 in
theorem rtwo_2 (a b : Int) (w : World) (ha : InR a) (hb : InR b) : Calls Tryd.prog 87 #[.int .i64 2, .int .i64 a, .int .i64 b] w fun e w' => e = .returned (.tuple #[.int .i64 (wrap64 (a - b)), .bool true]) ∧ Below w.heap.size w w' := by
  go_enter Tryd.func87, Tryd.ntmps87
  go_wp2_with fail
  refine (rhas_b 2 2 true _ (by decide)).mono ?_
  rintro e w1 ⟨rfl, rfl⟩
  go_wp2_with (first
    | (go_at_call 99; (with_reducible refine (rover_any a b _ ha).mono ?_); rintro e w' ⟨rfl, rfl⟩)
    | (go_at_call 99; (with_reducible refine (rover_any b a _ hb).mono ?_); rintro e w' ⟨rfl, rfl⟩)
    | (go_at_call 100; (with_reducible refine (rpower_any a b _ hb).mono ?_); rintro e w2 ⟨rfl, hb2⟩)
    | (go_at_call 101; (with_reducible refine (truth_t _ _).mono ?_); rintro e w' ⟨rfl, rfl⟩))
  go_ret2
  exact ⟨rfl, hb2.alloc hb2.size _⟩
set_option maxHeartbeats 2000000 in
set_option maxRecDepth 100000 in
theorem rtwo_3 (a b : Int) (w : World) (ha : InR a) (hb : InR b) : Calls Tryd.prog 87 #[.int .i64 3, .int .i64 a, .int .i64 b] w fun e w' => e = .returned (.tuple #[.int .i64 (wrap64 (a * b)), .bool true]) ∧ Below w.heap.size w w' := by
  go_enter Tryd.func87, Tryd.ntmps87
  go_wp2_with fail
  refine (rhas_b 3 2 true _ (by decide)).mono ?_
  rintro e w1 ⟨rfl, rfl⟩
  go_wp2_with (first
    | (go_at_call 99; (with_reducible refine (rover_any a b _ ha).mono ?_); rintro e w' ⟨rfl, rfl⟩)
    | (go_at_call 99; (with_reducible refine (rover_any b a _ hb).mono ?_); rintro e w' ⟨rfl, rfl⟩)
    | (go_at_call 100; (with_reducible refine (rpower_any a b _ hb).mono ?_); rintro e w2 ⟨rfl, hb2⟩)
    | (go_at_call 101; (with_reducible refine (truth_t _ _).mono ?_); rintro e w' ⟨rfl, rfl⟩))
  go_ret2
  exact ⟨rfl, hb2.alloc hb2.size _⟩
set_option maxHeartbeats 2000000 in
set_option maxRecDepth 100000 in
theorem rtwo_4 (a b : Int) (w : World) (ha : InR a) (hb : InR b) : Calls Tryd.prog 87 #[.int .i64 4, .int .i64 a, .int .i64 b] w fun e w' => e = .returned (.tuple #[.int .i64 (overI a b), .bool true]) ∧ Below w.heap.size w w' := by
  go_enter Tryd.func87, Tryd.ntmps87
  go_wp2_with fail
  refine (rhas_b 4 2 true _ (by decide)).mono ?_
  rintro e w1 ⟨rfl, rfl⟩
  go_wp2_with (first
    | (go_at_call 99; (with_reducible refine (rover_any a b _ ha).mono ?_); rintro e w' ⟨rfl, rfl⟩)
    | (go_at_call 99; (with_reducible refine (rover_any b a _ hb).mono ?_); rintro e w' ⟨rfl, rfl⟩)
    | (go_at_call 100; (with_reducible refine (rpower_any a b _ hb).mono ?_); rintro e w2 ⟨rfl, hb2⟩)
    | (go_at_call 101; (with_reducible refine (truth_t _ _).mono ?_); rintro e w' ⟨rfl, rfl⟩))
  go_ret2
  exact ⟨rfl, hb2.alloc hb2.size _⟩
set_option maxHeartbeats 2000000 in
set_option maxRecDepth 100000 in
theorem rtwo_5 (a b : Int) (w : World) (ha : InR a) (hb : InR b) : Calls Tryd.prog 87 #[.int .i64 5, .int .i64 a, .int .i64 b] w fun e w' => e = .returned (.tuple #[.int .i64 (powI a b), .bool true]) ∧ Below w.heap.size w w' := by
  go_enter Tryd.func87, Tryd.ntmps87
  go_wp2_with fail
  refine (rhas_b 5 2 true _ (by decide)).mono ?_
  rintro e w1 ⟨rfl, rfl⟩
  go_wp2_with (first
    | (go_at_call 99; (with_reducible refine (rover_any a b _ ha).mono ?_); rintro e w' ⟨rfl, rfl⟩)
    | (go_at_call 99; (with_reducible refine (rover_any b a _ hb).mono ?_); rintro e w' ⟨rfl, rfl⟩)
    | (go_at_call 100; (with_reducible refine (rpower_any a b _ hb).mono ?_); rintro e w2 ⟨rfl, hb2⟩)
    | (go_at_call 101; (with_reducible refine (truth_t _ _).mono ?_); rintro e w' ⟨rfl, rfl⟩))
  go_ret2
  exact ⟨rfl, hb2.alloc hb2.size _⟩
end Go.Proofs.YtfamgaakcbinkaaDoor.Sc
-- ScRTwo2
namespace Go.Proofs.YtfamgaakcbinkaaDoor.Sc
open Go.RowKit
set_option linter.unusedVariables false

set_option maxHeartbeats 2000000 in
set_option maxRecDepth 100000 in
theorem rtwo_6n (a b : Int) (w : World) (ha : InR a) (hb : InR b) (h : (a != 0) = true) : Calls Tryd.prog 87 #[.int .i64 6, .int .i64 a, .int .i64 b] w fun e w' => e = .returned (.tuple #[.int .i64 (wrap64 (b - wrap64 (a * overI b a))), .bool true]) ∧ Below w.heap.size w w' := by
  go_enter Tryd.func87, Tryd.ntmps87
  go_wp2_with fail
  refine (rhas_b 6 2 true _ (by decide)).mono ?_
  rintro e w1 ⟨rfl, rfl⟩
  go_wp2_with (first
    | (go_at_call 99; (with_reducible refine (rover_any a b _ ha).mono ?_); rintro e w' ⟨rfl, rfl⟩)
    | (go_at_call 99; (with_reducible refine (rover_any b a _ hb).mono ?_); rintro e w' ⟨rfl, rfl⟩)
    | (go_at_call 100; (with_reducible refine (rpower_any a b _ hb).mono ?_); rintro e w2 ⟨rfl, hb2⟩)
    | (go_at_call 101; (with_reducible refine (truth_t _ _).mono ?_); rintro e w' ⟨rfl, rfl⟩))
  go_ret2
  exact ⟨rfl, hb2.alloc hb2.size _⟩
set_option maxHeartbeats 2000000 in
set_option maxRecDepth 100000 in
theorem rtwo_6z (a b : Int) (w : World) (ha : InR a) (hb : InR b) (h : a = 0) : Calls Tryd.prog 87 #[.int .i64 6, .int .i64 a, .int .i64 b] w fun e w' => e = .returned (.tuple #[.int .i64 (b), .bool true]) ∧ Below w.heap.size w w' := by
  subst h
  go_enter Tryd.func87, Tryd.ntmps87
  go_wp2_with fail
  refine (rhas_b 6 2 true _ (by decide)).mono ?_
  rintro e w1 ⟨rfl, rfl⟩
  go_wp2_with (first
    | (go_at_call 99; (with_reducible refine (rover_any 0 b _ ha).mono ?_); rintro e w' ⟨rfl, rfl⟩)
    | (go_at_call 99; (with_reducible refine (rover_any b 0 _ hb).mono ?_); rintro e w' ⟨rfl, rfl⟩)
    | (go_at_call 100; (with_reducible refine (rpower_any 0 b _ hb).mono ?_); rintro e w2 ⟨rfl, hb2⟩)
    | (go_at_call 101; (with_reducible refine (truth_t _ _).mono ?_); rintro e w' ⟨rfl, rfl⟩))
  go_ret2
  exact ⟨rfl, hb2.alloc hb2.size _⟩
set_option maxHeartbeats 2000000 in
set_option maxRecDepth 100000 in
theorem rtwo_7l (a b : Int) (w : World) (ha : InR a) (hb : InR b) (h : a < b) : Calls Tryd.prog 87 #[.int .i64 7, .int .i64 a, .int .i64 b] w fun e w' => e = .returned (.tuple #[.int .i64 (b), .bool true]) ∧ Below w.heap.size w w' := by
  go_enter Tryd.func87, Tryd.ntmps87
  go_wp2_with fail
  refine (rhas_b 7 2 true _ (by decide)).mono ?_
  rintro e w1 ⟨rfl, rfl⟩
  go_wp2_with (first
    | (go_at_call 99; (with_reducible refine (rover_any a b _ ha).mono ?_); rintro e w' ⟨rfl, rfl⟩)
    | (go_at_call 99; (with_reducible refine (rover_any b a _ hb).mono ?_); rintro e w' ⟨rfl, rfl⟩)
    | (go_at_call 100; (with_reducible refine (rpower_any a b _ hb).mono ?_); rintro e w2 ⟨rfl, hb2⟩)
    | (go_at_call 101; (with_reducible refine (truth_t _ _).mono ?_); rintro e w' ⟨rfl, rfl⟩))
  go_ret2
  exact ⟨rfl, hb2.alloc hb2.size _⟩
set_option maxHeartbeats 2000000 in
set_option maxRecDepth 100000 in
theorem rtwo_7g (a b : Int) (w : World) (ha : InR a) (hb : InR b) (h : b ≤ a) : Calls Tryd.prog 87 #[.int .i64 7, .int .i64 a, .int .i64 b] w fun e w' => e = .returned (.tuple #[.int .i64 (a), .bool true]) ∧ Below w.heap.size w w' := by
  go_enter Tryd.func87, Tryd.ntmps87
  go_wp2_with fail
  refine (rhas_b 7 2 true _ (by decide)).mono ?_
  rintro e w1 ⟨rfl, rfl⟩
  go_wp2_with (first
    | (go_at_call 99; (with_reducible refine (rover_any a b _ ha).mono ?_); rintro e w' ⟨rfl, rfl⟩)
    | (go_at_call 99; (with_reducible refine (rover_any b a _ hb).mono ?_); rintro e w' ⟨rfl, rfl⟩)
    | (go_at_call 100; (with_reducible refine (rpower_any a b _ hb).mono ?_); rintro e w2 ⟨rfl, hb2⟩)
    | (go_at_call 101; (with_reducible refine (truth_t _ _).mono ?_); rintro e w' ⟨rfl, rfl⟩))
  go_ret2
  exact ⟨rfl, hb2.alloc hb2.size _⟩
set_option maxHeartbeats 2000000 in
set_option maxRecDepth 100000 in
theorem rtwo_8l (a b : Int) (w : World) (ha : InR a) (hb : InR b) (h : b < a) : Calls Tryd.prog 87 #[.int .i64 8, .int .i64 a, .int .i64 b] w fun e w' => e = .returned (.tuple #[.int .i64 (b), .bool true]) ∧ Below w.heap.size w w' := by
  go_enter Tryd.func87, Tryd.ntmps87
  go_wp2_with fail
  refine (rhas_b 8 2 true _ (by decide)).mono ?_
  rintro e w1 ⟨rfl, rfl⟩
  go_wp2_with (first
    | (go_at_call 99; (with_reducible refine (rover_any a b _ ha).mono ?_); rintro e w' ⟨rfl, rfl⟩)
    | (go_at_call 99; (with_reducible refine (rover_any b a _ hb).mono ?_); rintro e w' ⟨rfl, rfl⟩)
    | (go_at_call 100; (with_reducible refine (rpower_any a b _ hb).mono ?_); rintro e w2 ⟨rfl, hb2⟩)
    | (go_at_call 101; (with_reducible refine (truth_t _ _).mono ?_); rintro e w' ⟨rfl, rfl⟩))
  go_ret2
  exact ⟨rfl, hb2.alloc hb2.size _⟩
end Go.Proofs.YtfamgaakcbinkaaDoor.Sc
-- ScRTwo3
namespace Go.Proofs.YtfamgaakcbinkaaDoor.Sc
open Go.RowKit
set_option linter.unusedVariables false

set_option maxHeartbeats 2000000 in
set_option maxRecDepth 100000 in
theorem rtwo_8g (a b : Int) (w : World) (ha : InR a) (hb : InR b) (h : a ≤ b) : Calls Tryd.prog 87 #[.int .i64 8, .int .i64 a, .int .i64 b] w fun e w' => e = .returned (.tuple #[.int .i64 (a), .bool true]) ∧ Below w.heap.size w w' := by
  go_enter Tryd.func87, Tryd.ntmps87
  go_wp2_with fail
  refine (rhas_b 8 2 true _ (by decide)).mono ?_
  rintro e w1 ⟨rfl, rfl⟩
  go_wp2_with (first
    | (go_at_call 99; (with_reducible refine (rover_any a b _ ha).mono ?_); rintro e w' ⟨rfl, rfl⟩)
    | (go_at_call 99; (with_reducible refine (rover_any b a _ hb).mono ?_); rintro e w' ⟨rfl, rfl⟩)
    | (go_at_call 100; (with_reducible refine (rpower_any a b _ hb).mono ?_); rintro e w2 ⟨rfl, hb2⟩)
    | (go_at_call 101; (with_reducible refine (truth_t _ _).mono ?_); rintro e w' ⟨rfl, rfl⟩))
  go_ret2
  exact ⟨rfl, hb2.alloc hb2.size _⟩
set_option maxHeartbeats 2000000 in
set_option maxRecDepth 100000 in
theorem rtwo_9 (a b : Int) (w : World) (ha : InR a) (hb : InR b) : Calls Tryd.prog 87 #[.int .i64 9, .int .i64 a, .int .i64 b] w fun e w' => e = .returned (.tuple #[.int .i64 (tB (a == b)), .bool true]) ∧ Below w.heap.size w w' := by
  go_enter Tryd.func87, Tryd.ntmps87
  go_wp2_with fail
  refine (rhas_b 9 2 true _ (by decide)).mono ?_
  rintro e w1 ⟨rfl, rfl⟩
  go_wp2_with (first
    | (go_at_call 99; (with_reducible refine (rover_any a b _ ha).mono ?_); rintro e w' ⟨rfl, rfl⟩)
    | (go_at_call 99; (with_reducible refine (rover_any b a _ hb).mono ?_); rintro e w' ⟨rfl, rfl⟩)
    | (go_at_call 100; (with_reducible refine (rpower_any a b _ hb).mono ?_); rintro e w2 ⟨rfl, hb2⟩)
    | (go_at_call 101; (with_reducible refine (truth_t _ _).mono ?_); rintro e w' ⟨rfl, rfl⟩))
  go_ret2
  exact ⟨rfl, hb2.alloc hb2.size _⟩
set_option maxHeartbeats 2000000 in
set_option maxRecDepth 100000 in
theorem rtwo_10 (a b : Int) (w : World) (ha : InR a) (hb : InR b) : Calls Tryd.prog 87 #[.int .i64 10, .int .i64 a, .int .i64 b] w fun e w' => e = .returned (.tuple #[.int .i64 (tB (a != b)), .bool true]) ∧ Below w.heap.size w w' := by
  go_enter Tryd.func87, Tryd.ntmps87
  go_wp2_with fail
  refine (rhas_b 10 2 true _ (by decide)).mono ?_
  rintro e w1 ⟨rfl, rfl⟩
  go_wp2_with (first
    | (go_at_call 99; (with_reducible refine (rover_any a b _ ha).mono ?_); rintro e w' ⟨rfl, rfl⟩)
    | (go_at_call 99; (with_reducible refine (rover_any b a _ hb).mono ?_); rintro e w' ⟨rfl, rfl⟩)
    | (go_at_call 100; (with_reducible refine (rpower_any a b _ hb).mono ?_); rintro e w2 ⟨rfl, hb2⟩)
    | (go_at_call 101; (with_reducible refine (truth_t _ _).mono ?_); rintro e w' ⟨rfl, rfl⟩))
  go_ret2
  exact ⟨rfl, hb2.alloc hb2.size _⟩
set_option maxHeartbeats 2000000 in
set_option maxRecDepth 100000 in
theorem rtwo_11 (a b : Int) (w : World) (ha : InR a) (hb : InR b) : Calls Tryd.prog 87 #[.int .i64 11, .int .i64 a, .int .i64 b] w fun e w' => e = .returned (.tuple #[.int .i64 (tB (decide (a < b))), .bool true]) ∧ Below w.heap.size w w' := by
  go_enter Tryd.func87, Tryd.ntmps87
  go_wp2_with fail
  refine (rhas_b 11 2 true _ (by decide)).mono ?_
  rintro e w1 ⟨rfl, rfl⟩
  go_wp2_with (first
    | (go_at_call 99; (with_reducible refine (rover_any a b _ ha).mono ?_); rintro e w' ⟨rfl, rfl⟩)
    | (go_at_call 99; (with_reducible refine (rover_any b a _ hb).mono ?_); rintro e w' ⟨rfl, rfl⟩)
    | (go_at_call 100; (with_reducible refine (rpower_any a b _ hb).mono ?_); rintro e w2 ⟨rfl, hb2⟩)
    | (go_at_call 101; (with_reducible refine (truth_t _ _).mono ?_); rintro e w' ⟨rfl, rfl⟩))
  go_ret2
  exact ⟨rfl, hb2.alloc hb2.size _⟩
set_option maxHeartbeats 2000000 in
set_option maxRecDepth 100000 in
theorem rtwo_12 (a b : Int) (w : World) (ha : InR a) (hb : InR b) : Calls Tryd.prog 87 #[.int .i64 12, .int .i64 a, .int .i64 b] w fun e w' => e = .returned (.tuple #[.int .i64 (tB (decide (a ≤ b))), .bool true]) ∧ Below w.heap.size w w' := by
  go_enter Tryd.func87, Tryd.ntmps87
  go_wp2_with fail
  refine (rhas_b 12 2 true _ (by decide)).mono ?_
  rintro e w1 ⟨rfl, rfl⟩
  go_wp2_with (first
    | (go_at_call 99; (with_reducible refine (rover_any a b _ ha).mono ?_); rintro e w' ⟨rfl, rfl⟩)
    | (go_at_call 99; (with_reducible refine (rover_any b a _ hb).mono ?_); rintro e w' ⟨rfl, rfl⟩)
    | (go_at_call 100; (with_reducible refine (rpower_any a b _ hb).mono ?_); rintro e w2 ⟨rfl, hb2⟩)
    | (go_at_call 101; (with_reducible refine (truth_t _ _).mono ?_); rintro e w' ⟨rfl, rfl⟩))
  go_ret2
  exact ⟨rfl, hb2.alloc hb2.size _⟩
end Go.Proofs.YtfamgaakcbinkaaDoor.Sc
-- ScRTwo4
namespace Go.Proofs.YtfamgaakcbinkaaDoor.Sc
open Go.RowKit
set_option linter.unusedVariables false

set_option maxHeartbeats 2000000 in
set_option maxRecDepth 100000 in
theorem rtwo_13 (a b : Int) (w : World) (ha : InR a) (hb : InR b) : Calls Tryd.prog 87 #[.int .i64 13, .int .i64 a, .int .i64 b] w fun e w' => e = .returned (.tuple #[.int .i64 (tB (decide (b < a))), .bool true]) ∧ Below w.heap.size w w' := by
  go_enter Tryd.func87, Tryd.ntmps87
  go_wp2_with fail
  refine (rhas_b 13 2 true _ (by decide)).mono ?_
  rintro e w1 ⟨rfl, rfl⟩
  go_wp2_with (first
    | (go_at_call 99; (with_reducible refine (rover_any a b _ ha).mono ?_); rintro e w' ⟨rfl, rfl⟩)
    | (go_at_call 99; (with_reducible refine (rover_any b a _ hb).mono ?_); rintro e w' ⟨rfl, rfl⟩)
    | (go_at_call 100; (with_reducible refine (rpower_any a b _ hb).mono ?_); rintro e w2 ⟨rfl, hb2⟩)
    | (go_at_call 101; (with_reducible refine (truth_t _ _).mono ?_); rintro e w' ⟨rfl, rfl⟩))
  go_ret2
  exact ⟨rfl, hb2.alloc hb2.size _⟩
set_option maxHeartbeats 2000000 in
set_option maxRecDepth 100000 in
theorem rtwo_14 (a b : Int) (w : World) (ha : InR a) (hb : InR b) : Calls Tryd.prog 87 #[.int .i64 14, .int .i64 a, .int .i64 b] w fun e w' => e = .returned (.tuple #[.int .i64 (tB (decide (b ≤ a))), .bool true]) ∧ Below w.heap.size w w' := by
  go_enter Tryd.func87, Tryd.ntmps87
  go_wp2_with fail
  refine (rhas_b 14 2 true _ (by decide)).mono ?_
  rintro e w1 ⟨rfl, rfl⟩
  go_wp2_with (first
    | (go_at_call 99; (with_reducible refine (rover_any a b _ ha).mono ?_); rintro e w' ⟨rfl, rfl⟩)
    | (go_at_call 99; (with_reducible refine (rover_any b a _ hb).mono ?_); rintro e w' ⟨rfl, rfl⟩)
    | (go_at_call 100; (with_reducible refine (rpower_any a b _ hb).mono ?_); rintro e w2 ⟨rfl, hb2⟩)
    | (go_at_call 101; (with_reducible refine (truth_t _ _).mono ?_); rintro e w' ⟨rfl, rfl⟩))
  go_ret2
  exact ⟨rfl, hb2.alloc hb2.size _⟩
set_option maxHeartbeats 2000000 in
set_option maxRecDepth 100000 in
theorem rtwo_15 (a b : Int) (w : World) (ha : InR a) (hb : InR b) : Calls Tryd.prog 87 #[.int .i64 15, .int .i64 a, .int .i64 b] w fun e w' => e = .returned (.tuple #[.int .i64 (bits .and .i64 a b), .bool true]) ∧ Below w.heap.size w w' := by
  go_enter Tryd.func87, Tryd.ntmps87
  go_wp2_with fail
  refine (rhas_b 15 2 true _ (by decide)).mono ?_
  rintro e w1 ⟨rfl, rfl⟩
  go_wp2_with (first
    | (go_at_call 99; (with_reducible refine (rover_any a b _ ha).mono ?_); rintro e w' ⟨rfl, rfl⟩)
    | (go_at_call 99; (with_reducible refine (rover_any b a _ hb).mono ?_); rintro e w' ⟨rfl, rfl⟩)
    | (go_at_call 100; (with_reducible refine (rpower_any a b _ hb).mono ?_); rintro e w2 ⟨rfl, hb2⟩)
    | (go_at_call 101; (with_reducible refine (truth_t _ _).mono ?_); rintro e w' ⟨rfl, rfl⟩))
  go_ret2
  exact ⟨rfl, hb2.alloc hb2.size _⟩
set_option maxHeartbeats 2000000 in
set_option maxRecDepth 100000 in
theorem rtwo_16 (a b : Int) (w : World) (ha : InR a) (hb : InR b) : Calls Tryd.prog 87 #[.int .i64 16, .int .i64 a, .int .i64 b] w fun e w' => e = .returned (.tuple #[.int .i64 (bits .or .i64 a b), .bool true]) ∧ Below w.heap.size w w' := by
  go_enter Tryd.func87, Tryd.ntmps87
  go_wp2_with fail
  refine (rhas_b 16 2 true _ (by decide)).mono ?_
  rintro e w1 ⟨rfl, rfl⟩
  go_wp2_with (first
    | (go_at_call 99; (with_reducible refine (rover_any a b _ ha).mono ?_); rintro e w' ⟨rfl, rfl⟩)
    | (go_at_call 99; (with_reducible refine (rover_any b a _ hb).mono ?_); rintro e w' ⟨rfl, rfl⟩)
    | (go_at_call 100; (with_reducible refine (rpower_any a b _ hb).mono ?_); rintro e w2 ⟨rfl, hb2⟩)
    | (go_at_call 101; (with_reducible refine (truth_t _ _).mono ?_); rintro e w' ⟨rfl, rfl⟩))
  go_ret2
  exact ⟨rfl, hb2.alloc hb2.size _⟩
set_option maxHeartbeats 2000000 in
set_option maxRecDepth 100000 in
theorem rtwo_17 (a b : Int) (w : World) (ha : InR a) (hb : InR b) : Calls Tryd.prog 87 #[.int .i64 17, .int .i64 a, .int .i64 b] w fun e w' => e = .returned (.tuple #[.int .i64 (a), .bool true]) ∧ Below w.heap.size w w' := by
  go_enter Tryd.func87, Tryd.ntmps87
  go_wp2_with fail
  refine (rhas_b 17 2 true _ (by decide)).mono ?_
  rintro e w1 ⟨rfl, rfl⟩
  go_wp2_with (first
    | (go_at_call 99; (with_reducible refine (rover_any a b _ ha).mono ?_); rintro e w' ⟨rfl, rfl⟩)
    | (go_at_call 99; (with_reducible refine (rover_any b a _ hb).mono ?_); rintro e w' ⟨rfl, rfl⟩)
    | (go_at_call 100; (with_reducible refine (rpower_any a b _ hb).mono ?_); rintro e w2 ⟨rfl, hb2⟩)
    | (go_at_call 101; (with_reducible refine (truth_t _ _).mono ?_); rintro e w' ⟨rfl, rfl⟩))
  go_ret2
  exact ⟨rfl, hb2.alloc hb2.size _⟩
set_option maxHeartbeats 2000000 in
set_option maxRecDepth 100000 in
theorem rtwo_18 (a b : Int) (w : World) (ha : InR a) (hb : InR b) : Calls Tryd.prog 87 #[.int .i64 18, .int .i64 a, .int .i64 b] w fun e w' => e = .returned (.tuple #[.int .i64 (b), .bool true]) ∧ Below w.heap.size w w' := by
  go_enter Tryd.func87, Tryd.ntmps87
  go_wp2_with fail
  refine (rhas_b 18 2 true _ (by decide)).mono ?_
  rintro e w1 ⟨rfl, rfl⟩
  go_wp2_with (first
    | (go_at_call 99; (with_reducible refine (rover_any a b _ ha).mono ?_); rintro e w' ⟨rfl, rfl⟩)
    | (go_at_call 99; (with_reducible refine (rover_any b a _ hb).mono ?_); rintro e w' ⟨rfl, rfl⟩)
    | (go_at_call 100; (with_reducible refine (rpower_any a b _ hb).mono ?_); rintro e w2 ⟨rfl, hb2⟩)
    | (go_at_call 101; (with_reducible refine (truth_t _ _).mono ?_); rintro e w' ⟨rfl, rfl⟩))
  go_ret2
  exact ⟨rfl, hb2.alloc hb2.size _⟩
end Go.Proofs.YtfamgaakcbinkaaDoor.Sc
-- ScRTwo
namespace Go.Proofs.YtfamgaakcbinkaaDoor.Sc
open Go.RowKit
set_option linter.unusedVariables false

set_option maxHeartbeats 1000000 in
theorem rtwo_out (c a b : Int) (w : World) (h : c < 1 ∨ 18 < c) : Calls Tryd.prog 87 #[.int .i64 c, .int .i64 a, .int .i64 b] w fun e w' => e = .returned (.tuple #[.int .i64 0, .bool false]) ∧ Below w.heap.size w w' := by
  have H := Lib.hid (has2_out h)
  clear h
  go_enter Tryd.func87, Tryd.ntmps87
  go_wp2_with fail
  refine (rhas_b c 2 false _ H.out).mono ?_
  rintro e w1 ⟨rfl, rfl⟩
  go_wp2
  go_ret2
  exact ⟨rfl, Below.refl _ _⟩
theorem tB_eq (p : Prop) [Decidable p] (b : Bool) (h : b = true ↔ p) : tB b = if p then 1 else 0 := by
  unfold tB
  by_cases hp : p
  · rw [if_pos (h.2 hp), if_pos hp]
  · rw [if_neg (fun e => hp (h.1 e)), if_neg hp]
/-- A contract with another number, which is the same. -/
theorem val_eq {k : Int} {a b x y : Int} {w : World} (h : x = y) (hc : Calls Tryd.prog 87 #[.int .i64 k, .int .i64 a, .int .i64 b] w fun e w' => e = .returned (.tuple #[.int .i64 x, .bool true]) ∧ Below w.heap.size w w') :
    Calls Tryd.prog 87 #[.int .i64 k, .int .i64 a, .int .i64 b] w fun e w' => e = .returned (.tuple #[.int .i64 y, .bool true]) ∧ Below w.heap.size w w' := by
  subst h; exact hc
theorem rtwo_any (c a b : Int) (w : World) (ha : InR a) (hb : InR b) : Calls Tryd.prog 87 #[.int .i64 c, .int .i64 a, .int .i64 b] w fun e w' => e = .returned (.tuple #[.int .i64 (twoI c a b), .bool (twoB c)]) ∧ Below w.heap.size w w' := by
  by_cases h : 1 ≤ c ∧ c ≤ 18
  · have hB : twoB c = true := by simp [twoB, h]
    rw [hB]
    obtain ⟨k, rfl⟩ : ∃ k : Nat, c = k := ⟨c.toNat, by omega⟩
    have hk : k < 19 := by omega
    have hk1 : 1 ≤ k := by omega
    match k, hk, hk1 with
    | 1, _, _ => exact rtwo_1 a b w ha hb
    | 2, _, _ => exact rtwo_2 a b w ha hb
    | 3, _, _ => exact rtwo_3 a b w ha hb
    | 4, _, _ => exact rtwo_4 a b w ha hb
    | 5, _, _ => exact rtwo_5 a b w ha hb
    | 6, _, _ =>
      by_cases h0 : a = 0
      · exact val_eq (by subst h0; exact (rest_0 hb).symm) (rtwo_6z a b w ha hb h0)
      · exact rtwo_6n a b w ha hb (by simpa using h0)
    | 7, _, _ =>
      by_cases h0 : a < b
      · exact val_eq (show b = max a b by omega) (rtwo_7l a b w ha hb h0)
      · exact val_eq (show a = max a b by omega) (rtwo_7g a b w ha hb (by omega))
    | 8, _, _ =>
      by_cases h0 : b < a
      · exact val_eq (show b = min a b by omega) (rtwo_8l a b w ha hb h0)
      · exact val_eq (show a = min a b by omega) (rtwo_8g a b w ha hb (by omega))
    | 9, _, _ => exact val_eq (tB_eq (a = b) _ (by simp)) (rtwo_9 a b w ha hb)
    | 10, _, _ => exact val_eq (tB_eq (¬ a = b) _ (by simp)) (rtwo_10 a b w ha hb)
    | 11, _, _ => exact val_eq (tB_eq (a < b) _ (by simp)) (rtwo_11 a b w ha hb)
    | 12, _, _ => exact val_eq (tB_eq (a ≤ b) _ (by simp)) (rtwo_12 a b w ha hb)
    | 13, _, _ => exact val_eq (tB_eq (b < a) _ (by simp)) (rtwo_13 a b w ha hb)
    | 14, _, _ => exact val_eq (tB_eq (b ≤ a) _ (by simp)) (rtwo_14 a b w ha hb)
    | 15, _, _ => exact rtwo_15 a b w ha hb
    | 16, _, _ => exact rtwo_16 a b w ha hb
    | 17, _, _ => exact rtwo_17 a b w ha hb
    | 18, _, _ => exact rtwo_18 a b w ha hb
  · have hB : twoB c = false := by simp [twoB]; omega
    have h0 : twoI c a b = 0 := by
      unfold twoI
      rw [if_neg (by omega), if_neg (by omega), if_neg (by omega), if_neg (by omega), if_neg (by omega), if_neg (by omega), if_neg (by omega), if_neg (by omega), if_neg (by omega), if_neg (by omega), if_neg (by omega), if_neg (by omega), if_neg (by omega), if_neg (by omega), if_neg (by omega), if_neg (by omega), if_neg (by omega), if_neg (by omega)]
    rw [hB, h0]
    exact rtwo_out c a b w (by omega)
set_option maxHeartbeats 1000000 in
theorem rdo_any (c : Int) (s : Bool) (a b : Int) (w : World) (ha : InR a) (hb : InR b) : Calls Tryd.prog 55 #[.int .i64 c, .bool s, .int .i64 a, .int .i64 b] w fun e w' => e = .returned (.tuple #[.int .i64 (doI c s a b), .bool (twoB c)]) ∧ Below w.heap.size w w' := by
  cases s
  · go_enter Tryd.func55, Tryd.ntmps55
    go_wp2_with fail
    refine (rtwo_any _ _ _ _ ha hb).mono ?_
    rintro e w1 ⟨rfl, hb1⟩
    go_wp2
    go_ret2
    exact ⟨rfl, hb1⟩
  · go_enter Tryd.func55, Tryd.ntmps55
    go_wp2_with fail
    refine (rtwo_any _ _ _ _ hb ha).mono ?_
    rintro e w1 ⟨rfl, hb1⟩
    go_wp2
    go_ret2
    exact ⟨rfl, hb1⟩
end Go.Proofs.YtfamgaakcbinkaaDoor.Sc
