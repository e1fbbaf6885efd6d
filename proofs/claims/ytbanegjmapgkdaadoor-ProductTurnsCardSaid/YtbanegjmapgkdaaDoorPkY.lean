/-
  What riffleref04.Two and riffleref04.Do answer of any code and any numbers: the same; nothing that was there is written. Condition: the numbers have 64 bits. What scalar.One and riffleref04.One answer of any code and any number; nothing that was there is written. Conditions: the table of traits holds what its text lays; the number has 64 bits. What riffleref04.Two answers of the codes 1, 2, 3, 4, 5 and any numbers; nothing that was there is written. Condition: the numbers have 64 bits. What riffleref04.Two answers of the codes 6n, 6z, 7l, 7g, 8l and any numbers; nothing that was there is written. Condition: the numbers have 64 bits. What riffleref04.Two answers of the codes 8g, 9, 10, 11, 12 and any numbers; nothing that was there is written. Condition: the numbers have 64 bits. What riffleref04.Two answers of the codes 13, 14, 15, 16, 17, 18 and any numbers; nothing that was there is written. Condition: the numbers have 64 bits. What riffleref04.Two and riffleref04.Do answer of any code and any numbers: the same as scalar.Two and scalar.Do; nothing that was there is written. Condition: the numbers have 64 bits.
-/
import Derived.Test.YtbanegjmapgkdaaDoorPkX
set_option maxRecDepth 100000
-- ScRTwo0
namespace Go.Proofs.YtbanegjmapgkdaaDoor.Sc
open Go.RowKit
set_option linter.unusedVariables false

/-- 1, if it is so, else 0. -/
def tB (b : Bool) : Int := if b = true then 1 else 0
theorem truth_t (b : Bool) (w : World) : Calls Tryd.prog 96 #[.bool b] w fun e w' => e = .returned (.int .i64 (tB b)) ∧ w = w' := truth_any b w
theorem rhas_b (c v : Int) (b : Bool) (w : World) (h : hasB c v = b) : Calls Tryd.prog 41 #[.int .i64 c, .int .i64 v] w fun e w' => e = .returned (.bool b) ∧ w = w' := by
  subst h; exact rhas_any c v w
end Go.Proofs.YtbanegjmapgkdaaDoor.Sc
-- ScOne
namespace Go.Proofs.YtbanegjmapgkdaaDoor.Sc
open Go.RowKit
set_option linter.unusedVariables false

theorem compare_9t (a : Int) (w : World) : Calls Tryd.prog 101 #[.int .i64 9, .int .i64 a, .int .i64 0] w fun e w' => e = .returned (.int .i64 (tB (a == 0))) ∧ w = w' :=
  (compare_9 a 0 w).mono fun _ _ ⟨e, q⟩ => ⟨by rw [e]; unfold tB; by_cases h : a = 0 <;> simp [h], q⟩
theorem sign_tB (a : Int) : wrap64 (tB (decide (0 < a)) - tB (decide (a < 0))) = signI a := by
  have h : tB (decide (0 < a)) - tB (decide (a < 0)) = signI a := by unfold tB signI; by_cases h : 0 < a <;> by_cases h2 : a < 0 <;> simp [h, h2]
  rw [h]
  apply wrap_in
  unfold InR signI
  by_cases h : 0 < a <;> by_cases h2 : a < 0 <;> simp [h, h2]
theorem abs_neg {a : Int} (h : a < 0) : wrap64 (-a) = wrap64 (a * signI a) := by
  have e : signI a = -1 := by unfold signI; rw [if_neg (by omega), if_pos h]; rfl
  rw [e]; congr 1; omega
theorem abs_pos {a : Int} (ha : InR a) (h : 0 ≤ a) : a = wrap64 (a * signI a) := by
  by_cases h0 : a = 0
  · subst h0; rw [Int.zero_mul, wrap_0]
  · have e : signI a = 1 := by unfold signI; rw [if_pos (by omega), if_neg (by omega)]; rfl
    rw [e, Int.mul_one, wrap_in ha]
/-- What a function makes of one number. -/
def oneI (c a : Int) : Int :=
  if c = 1 then a
  else if c = 2 then wrap64 (-a)
  else if c = 3 then signI a
  else if c = 4 then overI 1 a
  else if c = 5 then powI 2 a
  else if c = 6 then wrap64 (a * signI a)
  else if c = 17 then a
  else if c = 18 then a
  else if c = 19 then tB (a == 0)
  else 0
def oneB (c : Int) : Bool := hasB c 1
theorem one_cases (c : Int) : (c = 1 ∨ c = 2 ∨ c = 3 ∨ c = 4 ∨ c = 5 ∨ c = 6 ∨ c = 17 ∨ c = 18 ∨ c = 19) ∨ (hasB c 1 = false ∧ ∀ a, oneI c a = 0) := by
  by_cases h : c = 1 ∨ c = 2 ∨ c = 3 ∨ c = 4 ∨ c = 5 ∨ c = 6 ∨ c = 17 ∨ c = 18 ∨ c = 19
  · exact .inl h
  · refine .inr ⟨?_, fun a => ?_⟩
    · by_cases h1 : 1 ≤ c ∧ c ≤ 19
      · obtain ⟨k, rfl⟩ : ∃ k : Nat, c = k := ⟨c.toNat, by omega⟩
        have hk : ∀ k : Nat, k < 20 → 7 ≤ k → k ≤ 16 → (trL.getD k noTr).one = false := by decide
        have e : trOf (k : Int) = trL.getD k noTr := trOf_in h1.1 h1.2
        simp only [hasB, e]
        simpa using hk k (by omega) (by omega) (by omega)
      · have e : trOf c = noTr := trOf_out (by omega)
        simp [hasB, e, noTr]
    · unfold oneI
      rw [if_neg (by omega), if_neg (by omega), if_neg (by omega), if_neg (by omega), if_neg (by omega), if_neg (by omega), if_neg (by omega), if_neg (by omega), if_neg (by omega)]
theorem oneI_1 (a : Int) : oneI 1 a = a := by
  unfold oneI
  rw [if_pos rfl]
theorem has1_1 : hasB 1 1 = true := by decide
theorem oneI_2 (a : Int) : oneI 2 a = wrap64 (-a) := by
  unfold oneI
  rw [if_neg (by decide), if_pos rfl]
theorem has1_2 : hasB 2 1 = true := by decide
theorem oneI_3 (a : Int) : oneI 3 a = signI a := by
  unfold oneI
  rw [if_neg (by decide), if_neg (by decide), if_pos rfl]
theorem has1_3 : hasB 3 1 = true := by decide
theorem oneI_4 (a : Int) : oneI 4 a = overI 1 a := by
  unfold oneI
  rw [if_neg (by decide), if_neg (by decide), if_neg (by decide), if_pos rfl]
theorem has1_4 : hasB 4 1 = true := by decide
theorem oneI_5 (a : Int) : oneI 5 a = powI 2 a := by
  unfold oneI
  rw [if_neg (by decide), if_neg (by decide), if_neg (by decide), if_neg (by decide), if_pos rfl]
theorem has1_5 : hasB 5 1 = true := by decide
theorem oneI_6 (a : Int) : oneI 6 a = wrap64 (a * signI a) := by
  unfold oneI
  rw [if_neg (by decide), if_neg (by decide), if_neg (by decide), if_neg (by decide), if_neg (by decide), if_pos rfl]
theorem has1_6 : hasB 6 1 = true := by decide
theorem oneI_17 (a : Int) : oneI 17 a = a := by
  unfold oneI
  rw [if_neg (by decide), if_neg (by decide), if_neg (by decide), if_neg (by decide), if_neg (by decide), if_neg (by decide), if_pos rfl]
theorem has1_17 : hasB 17 1 = true := by decide
theorem oneI_18 (a : Int) : oneI 18 a = a := by
  unfold oneI
  rw [if_neg (by decide), if_neg (by decide), if_neg (by decide), if_neg (by decide), if_neg (by decide), if_neg (by decide), if_neg (by decide), if_pos rfl]
theorem has1_18 : hasB 18 1 = true := by decide
theorem oneI_19 (a : Int) : oneI 19 a = tB (a == 0) := by
  unfold oneI
  rw [if_neg (by decide), if_neg (by decide), if_neg (by decide), if_neg (by decide), if_neg (by decide), if_neg (by decide), if_neg (by decide), if_neg (by decide), if_pos rfl]
theorem has1_19 : hasB 19 1 = true := by decide
end Go.Proofs.YtbanegjmapgkdaaDoor.Sc
-- ScRTwo1
namespace Go.Proofs.YtbanegjmapgkdaaDoor.Sc
open Go.RowKit
set_option linter.unusedVariables false

set_option maxHeartbeats 2000000 in
set_option maxRecDepth 100000 in
theorem rtwo_1 (a b : Int) (w : World) (ha : InR a) (hb : InR b) : Calls Tryd.prog 79 #[.int .i64 1, .int .i64 a, .int .i64 b] w fun e w' => e = .returned (.tuple #[.int .i64 (wrap64 (a + b)), .bool true]) ∧ Below w.heap.size w w' := by
  go_enter Tryd.func79, Tryd.ntmps79
  go_wp2_with fail
  refine (rhas_b 1 2 true _ (by decide)).mono ?_
  rintro e w1 ⟨rfl, rfl⟩
  go_wp2_with (first
    | (go_at_call 94; (with_reducible refine (rover_any a b _ ha).mono ?_); rintro e w' ⟨rfl, rfl⟩)
    | (go_at_call 94; (with_reducible refine (rover_any b a _ hb).mono ?_); rintro e w' ⟨rfl, rfl⟩)
    | (go_at_call 95; (with_reducible refine (rpower_any a b _ hb).mono ?_); rintro e w2 ⟨rfl, hb2⟩)
    | (go_at_call 96; (with_reducible refine (truth_t _ _).mono ?_); rintro e w' ⟨rfl, rfl⟩))
  go_ret2
  exact ⟨rfl, hb2.alloc hb2.size _⟩
set_option maxHeartbeats 2000000 in
set_option maxRecDepth 100000 in
theorem rtwo_2 (a b : Int) (w : World) (ha : InR a) (hb : InR b) : Calls Tryd.prog 79 #[.int .i64 2, .int .i64 a, .int .i64 b] w fun e w' => e = .returned (.tuple #[.int .i64 (wrap64 (a - b)), .bool true]) ∧ Below w.heap.size w w' := by
  go_enter Tryd.func79, Tryd.ntmps79
  go_wp2_with fail
  refine (rhas_b 2 2 true _ (by decide)).mono ?_
  rintro e w1 ⟨rfl, rfl⟩
  go_wp2_with (first
    | (go_at_call 94; (with_reducible refine (rover_any a b _ ha).mono ?_); rintro e w' ⟨rfl, rfl⟩)
    | (go_at_call 94; (with_reducible refine (rover_any b a _ hb).mono ?_); rintro e w' ⟨rfl, rfl⟩)
    | (go_at_call 95; (with_reducible refine (rpower_any a b _ hb).mono ?_); rintro e w2 ⟨rfl, hb2⟩)
    | (go_at_call 96; (with_reducible refine (truth_t _ _).mono ?_); rintro e w' ⟨rfl, rfl⟩))
  go_ret2
  exact ⟨rfl, hb2.alloc hb2.size _⟩
set_option maxHeartbeats 2000000 in
set_option maxRecDepth 100000 in
theorem rtwo_3 (a b : Int) (w : World) (ha : InR a) (hb : InR b) : Calls Tryd.prog 79 #[.int .i64 3, .int .i64 a, .int .i64 b] w fun e w' => e = .returned (.tuple #[.int .i64 (wrap64 (a * b)), .bool true]) ∧ Below w.heap.size w w' := by
  go_enter Tryd.func79, Tryd.ntmps79
  go_wp2_with fail
  refine (rhas_b 3 2 true _ (by decide)).mono ?_
  rintro e w1 ⟨rfl, rfl⟩
  go_wp2_with (first
    | (go_at_call 94; (with_reducible refine (rover_any a b _ ha).mono ?_); rintro e w' ⟨rfl, rfl⟩)
    | (go_at_call 94; (with_reducible refine (rover_any b a _ hb).mono ?_); rintro e w' ⟨rfl, rfl⟩)
    | (go_at_call 95; (with_reducible refine (rpower_any a b _ hb).mono ?_); rintro e w2 ⟨rfl, hb2⟩)
    | (go_at_call 96; (with_reducible refine (truth_t _ _).mono ?_); rintro e w' ⟨rfl, rfl⟩))
  go_ret2
  exact ⟨rfl, hb2.alloc hb2.size _⟩
set_option maxHeartbeats 2000000 in
set_option maxRecDepth 100000 in
theorem rtwo_4 (a b : Int) (w : World) (ha : InR a) (hb : InR b) : Calls Tryd.prog 79 #[.int .i64 4, .int .i64 a, .int .i64 b] w fun e w' => e = .returned (.tuple #[.int .i64 (overI a b), .bool true]) ∧ Below w.heap.size w w' := by
  go_enter Tryd.func79, Tryd.ntmps79
  go_wp2_with fail
  refine (rhas_b 4 2 true _ (by decide)).mono ?_
  rintro e w1 ⟨rfl, rfl⟩
  go_wp2_with (first
    | (go_at_call 94; (with_reducible refine (rover_any a b _ ha).mono ?_); rintro e w' ⟨rfl, rfl⟩)
    | (go_at_call 94; (with_reducible refine (rover_any b a _ hb).mono ?_); rintro e w' ⟨rfl, rfl⟩)
    | (go_at_call 95; (with_reducible refine (rpower_any a b _ hb).mono ?_); rintro e w2 ⟨rfl, hb2⟩)
    | (go_at_call 96; (with_reducible refine (truth_t _ _).mono ?_); rintro e w' ⟨rfl, rfl⟩))
  go_ret2
  exact ⟨rfl, hb2.alloc hb2.size _⟩
set_option maxHeartbeats 2000000 in
set_option maxRecDepth 100000 in
theorem rtwo_5 (a b : Int) (w : World) (ha : InR a) (hb : InR b) : Calls Tryd.prog 79 #[.int .i64 5, .int .i64 a, .int .i64 b] w fun e w' => e = .returned (.tuple #[.int .i64 (powI a b), .bool true]) ∧ Below w.heap.size w w' := by
  go_enter Tryd.func79, Tryd.ntmps79
  go_wp2_with fail
  refine (rhas_b 5 2 true _ (by decide)).mono ?_
  rintro e w1 ⟨rfl, rfl⟩
  go_wp2_with (first
    | (go_at_call 94; (with_reducible refine (rover_any a b _ ha).mono ?_); rintro e w' ⟨rfl, rfl⟩)
    | (go_at_call 94; (with_reducible refine (rover_any b a _ hb).mono ?_); rintro e w' ⟨rfl, rfl⟩)
    | (go_at_call 95; (with_reducible refine (rpower_any a b _ hb).mono ?_); rintro e w2 ⟨rfl, hb2⟩)
    | (go_at_call 96; (with_reducible refine (truth_t _ _).mono ?_); rintro e w' ⟨rfl, rfl⟩))
  go_ret2
  exact ⟨rfl, hb2.alloc hb2.size _⟩
end Go.Proofs.YtbanegjmapgkdaaDoor.Sc
-- ScRTwo2
namespace Go.Proofs.YtbanegjmapgkdaaDoor.Sc
open Go.RowKit
set_option linter.unusedVariables false

set_option maxHeartbeats 2000000 in
set_option maxRecDepth 100000 in
theorem rtwo_6n (a b : Int) (w : World) (ha : InR a) (hb : InR b) (h : (a != 0) = true) : Calls Tryd.prog 79 #[.int .i64 6, .int .i64 a, .int .i64 b] w fun e w' => e = .returned (.tuple #[.int .i64 (wrap64 (b - wrap64 (a * overI b a))), .bool true]) ∧ Below w.heap.size w w' := by
  go_enter Tryd.func79, Tryd.ntmps79
  go_wp2_with fail
  refine (rhas_b 6 2 true _ (by decide)).mono ?_
  rintro e w1 ⟨rfl, rfl⟩
  go_wp2_with (first
    | (go_at_call 94; (with_reducible refine (rover_any a b _ ha).mono ?_); rintro e w' ⟨rfl, rfl⟩)
    | (go_at_call 94; (with_reducible refine (rover_any b a _ hb).mono ?_); rintro e w' ⟨rfl, rfl⟩)
    | (go_at_call 95; (with_reducible refine (rpower_any a b _ hb).mono ?_); rintro e w2 ⟨rfl, hb2⟩)
    | (go_at_call 96; (with_reducible refine (truth_t _ _).mono ?_); rintro e w' ⟨rfl, rfl⟩))
  go_ret2
  exact ⟨rfl, hb2.alloc hb2.size _⟩
set_option maxHeartbeats 2000000 in
set_option maxRecDepth 100000 in
theorem rtwo_6z (a b : Int) (w : World) (ha : InR a) (hb : InR b) (h : a = 0) : Calls Tryd.prog 79 #[.int .i64 6, .int .i64 a, .int .i64 b] w fun e w' => e = .returned (.tuple #[.int .i64 (b), .bool true]) ∧ Below w.heap.size w w' := by
  subst h
  go_enter Tryd.func79, Tryd.ntmps79
  go_wp2_with fail
  refine (rhas_b 6 2 true _ (by decide)).mono ?_
  rintro e w1 ⟨rfl, rfl⟩
  go_wp2_with (first
    | (go_at_call 94; (with_reducible refine (rover_any 0 b _ ha).mono ?_); rintro e w' ⟨rfl, rfl⟩)
    | (go_at_call 94; (with_reducible refine (rover_any b 0 _ hb).mono ?_); rintro e w' ⟨rfl, rfl⟩)
    | (go_at_call 95; (with_reducible refine (rpower_any 0 b _ hb).mono ?_); rintro e w2 ⟨rfl, hb2⟩)
    | (go_at_call 96; (with_reducible refine (truth_t _ _).mono ?_); rintro e w' ⟨rfl, rfl⟩))
  go_ret2
  exact ⟨rfl, hb2.alloc hb2.size _⟩
set_option maxHeartbeats 2000000 in
set_option maxRecDepth 100000 in
theorem rtwo_7l (a b : Int) (w : World) (ha : InR a) (hb : InR b) (h : a < b) : Calls Tryd.prog 79 #[.int .i64 7, .int .i64 a, .int .i64 b] w fun e w' => e = .returned (.tuple #[.int .i64 (b), .bool true]) ∧ Below w.heap.size w w' := by
  go_enter Tryd.func79, Tryd.ntmps79
  go_wp2_with fail
  refine (rhas_b 7 2 true _ (by decide)).mono ?_
  rintro e w1 ⟨rfl, rfl⟩
  go_wp2_with (first
    | (go_at_call 94; (with_reducible refine (rover_any a b _ ha).mono ?_); rintro e w' ⟨rfl, rfl⟩)
    | (go_at_call 94; (with_reducible refine (rover_any b a _ hb).mono ?_); rintro e w' ⟨rfl, rfl⟩)
    | (go_at_call 95; (with_reducible refine (rpower_any a b _ hb).mono ?_); rintro e w2 ⟨rfl, hb2⟩)
    | (go_at_call 96; (with_reducible refine (truth_t _ _).mono ?_); rintro e w' ⟨rfl, rfl⟩))
  go_ret2
  exact ⟨rfl, hb2.alloc hb2.size _⟩
set_option maxHeartbeats 2000000 in
set_option maxRecDepth 100000 in
theorem rtwo_7g (a b : Int) (w : World) (ha : InR a) (hb : InR b) (h : b ≤ a) : Calls Tryd.prog 79 #[.int .i64 7, .int .i64 a, .int .i64 b] w fun e w' => e = .returned (.tuple #[.int .i64 (a), .bool true]) ∧ Below w.heap.size w w' := by
  go_enter Tryd.func79, Tryd.ntmps79
  go_wp2_with fail
  refine (rhas_b 7 2 true _ (by decide)).mono ?_
  rintro e w1 ⟨rfl, rfl⟩
  go_wp2_with (first
    | (go_at_call 94; (with_reducible refine (rover_any a b _ ha).mono ?_); rintro e w' ⟨rfl, rfl⟩)
    | (go_at_call 94; (with_reducible refine (rover_any b a _ hb).mono ?_); rintro e w' ⟨rfl, rfl⟩)
    | (go_at_call 95; (with_reducible refine (rpower_any a b _ hb).mono ?_); rintro e w2 ⟨rfl, hb2⟩)
    | (go_at_call 96; (with_reducible refine (truth_t _ _).mono ?_); rintro e w' ⟨rfl, rfl⟩))
  go_ret2
  exact ⟨rfl, hb2.alloc hb2.size _⟩
set_option maxHeartbeats 2000000 in
set_option maxRecDepth 100000 in
theorem rtwo_8l (a b : Int) (w : World) (ha : InR a) (hb : InR b) (h : b < a) : Calls Tryd.prog 79 #[.int .i64 8, .int .i64 a, .int .i64 b] w fun e w' => e = .returned (.tuple #[.int .i64 (b), .bool true]) ∧ Below w.heap.size w w' := by
  go_enter Tryd.func79, Tryd.ntmps79
  go_wp2_with fail
  refine (rhas_b 8 2 true _ (by decide)).mono ?_
  rintro e w1 ⟨rfl, rfl⟩
  go_wp2_with (first
    | (go_at_call 94; (with_reducible refine (rover_any a b _ ha).mono ?_); rintro e w' ⟨rfl, rfl⟩)
    | (go_at_call 94; (with_reducible refine (rover_any b a _ hb).mono ?_); rintro e w' ⟨rfl, rfl⟩)
    | (go_at_call 95; (with_reducible refine (rpower_any a b _ hb).mono ?_); rintro e w2 ⟨rfl, hb2⟩)
    | (go_at_call 96; (with_reducible refine (truth_t _ _).mono ?_); rintro e w' ⟨rfl, rfl⟩))
  go_ret2
  exact ⟨rfl, hb2.alloc hb2.size _⟩
end Go.Proofs.YtbanegjmapgkdaaDoor.Sc
-- ScRTwo3
namespace Go.Proofs.YtbanegjmapgkdaaDoor.Sc
open Go.RowKit
set_option linter.unusedVariables false

set_option maxHeartbeats 2000000 in
set_option maxRecDepth 100000 in
theorem rtwo_8g (a b : Int) (w : World) (ha : InR a) (hb : InR b) (h : a ≤ b) : Calls Tryd.prog 79 #[.int .i64 8, .int .i64 a, .int .i64 b] w fun e w' => e = .returned (.tuple #[.int .i64 (a), .bool true]) ∧ Below w.heap.size w w' := by
  go_enter Tryd.func79, Tryd.ntmps79
  go_wp2_with fail
  refine (rhas_b 8 2 true _ (by decide)).mono ?_
  rintro e w1 ⟨rfl, rfl⟩
  go_wp2_with (first
    | (go_at_call 94; (with_reducible refine (rover_any a b _ ha).mono ?_); rintro e w' ⟨rfl, rfl⟩)
    | (go_at_call 94; (with_reducible refine (rover_any b a _ hb).mono ?_); rintro e w' ⟨rfl, rfl⟩)
    | (go_at_call 95; (with_reducible refine (rpower_any a b _ hb).mono ?_); rintro e w2 ⟨rfl, hb2⟩)
    | (go_at_call 96; (with_reducible refine (truth_t _ _).mono ?_); rintro e w' ⟨rfl, rfl⟩))
  go_ret2
  exact ⟨rfl, hb2.alloc hb2.size _⟩
set_option maxHeartbeats 2000000 in
set_option maxRecDepth 100000 in
theorem rtwo_9 (a b : Int) (w : World) (ha : InR a) (hb : InR b) : Calls Tryd.prog 79 #[.int .i64 9, .int .i64 a, .int .i64 b] w fun e w' => e = .returned (.tuple #[.int .i64 (tB (a == b)), .bool true]) ∧ Below w.heap.size w w' := by
  go_enter Tryd.func79, Tryd.ntmps79
  go_wp2_with fail
  refine (rhas_b 9 2 true _ (by decide)).mono ?_
  rintro e w1 ⟨rfl, rfl⟩
  go_wp2_with (first
    | (go_at_call 94; (with_reducible refine (rover_any a b _ ha).mono ?_); rintro e w' ⟨rfl, rfl⟩)
    | (go_at_call 94; (with_reducible refine (rover_any b a _ hb).mono ?_); rintro e w' ⟨rfl, rfl⟩)
    | (go_at_call 95; (with_reducible refine (rpower_any a b _ hb).mono ?_); rintro e w2 ⟨rfl, hb2⟩)
    | (go_at_call 96; (with_reducible refine (truth_t _ _).mono ?_); rintro e w' ⟨rfl, rfl⟩))
  go_ret2
  exact ⟨rfl, hb2.alloc hb2.size _⟩
set_option maxHeartbeats 2000000 in
set_option maxRecDepth 100000 in
theorem rtwo_10 (a b : Int) (w : World) (ha : InR a) (hb : InR b) : Calls Tryd.prog 79 #[.int .i64 10, .int .i64 a, .int .i64 b] w fun e w' => e = .returned (.tuple #[.int .i64 (tB (a != b)), .bool true]) ∧ Below w.heap.size w w' := by
  go_enter Tryd.func79, Tryd.ntmps79
  go_wp2_with fail
  refine (rhas_b 10 2 true _ (by decide)).mono ?_
  rintro e w1 ⟨rfl, rfl⟩
  go_wp2_with (first
    | (go_at_call 94; (with_reducible refine (rover_any a b _ ha).mono ?_); rintro e w' ⟨rfl, rfl⟩)
    | (go_at_call 94; (with_reducible refine (rover_any b a _ hb).mono ?_); rintro e w' ⟨rfl, rfl⟩)
    | (go_at_call 95; (with_reducible refine (rpower_any a b _ hb).mono ?_); rintro e w2 ⟨rfl, hb2⟩)
    | (go_at_call 96; (with_reducible refine (truth_t _ _).mono ?_); rintro e w' ⟨rfl, rfl⟩))
  go_ret2
  exact ⟨rfl, hb2.alloc hb2.size _⟩
set_option maxHeartbeats 2000000 in
set_option maxRecDepth 100000 in
theorem rtwo_11 (a b : Int) (w : World) (ha : InR a) (hb : InR b) : Calls Tryd.prog 79 #[.int .i64 11, .int .i64 a, .int .i64 b] w fun e w' => e = .returned (.tuple #[.int .i64 (tB (decide (a < b))), .bool true]) ∧ Below w.heap.size w w' := by
  go_enter Tryd.func79, Tryd.ntmps79
  go_wp2_with fail
  refine (rhas_b 11 2 true _ (by decide)).mono ?_
  rintro e w1 ⟨rfl, rfl⟩
  go_wp2_with (first
    | (go_at_call 94; (with_reducible refine (rover_any a b _ ha).mono ?_); rintro e w' ⟨rfl, rfl⟩)
    | (go_at_call 94; (with_reducible refine (rover_any b a _ hb).mono ?_); rintro e w' ⟨rfl, rfl⟩)
    | (go_at_call 95; (with_reducible refine (rpower_any a b _ hb).mono ?_); rintro e w2 ⟨rfl, hb2⟩)
    | (go_at_call 96; (with_reducible refine (truth_t _ _).mono ?_); rintro e w' ⟨rfl, rfl⟩))
  go_ret2
  exact ⟨rfl, hb2.alloc hb2.size _⟩
set_option maxHeartbeats 2000000 in
set_option maxRecDepth 100000 in
theorem rtwo_12 (a b : Int) (w : World) (ha : InR a) (hb : InR b) : Calls Tryd.prog 79 #[.int .i64 12, .int .i64 a, .int .i64 b] w fun e w' => e = .returned (.tuple #[.int .i64 (tB (decide (a ≤ b))), .bool true]) ∧ Below w.heap.size w w' := by
  go_enter Tryd.func79, Tryd.ntmps79
  go_wp2_with fail
  refine (rhas_b 12 2 true _ (by decide)).mono ?_
  rintro e w1 ⟨rfl, rfl⟩
  go_wp2_with (first
    | (go_at_call 94; (with_reducible refine (rover_any a b _ ha).mono ?_); rintro e w' ⟨rfl, rfl⟩)
    | (go_at_call 94; (with_reducible refine (rover_any b a _ hb).mono ?_); rintro e w' ⟨rfl, rfl⟩)
    | (go_at_call 95; (with_reducible refine (rpower_any a b _ hb).mono ?_); rintro e w2 ⟨rfl, hb2⟩)
    | (go_at_call 96; (with_reducible refine (truth_t _ _).mono ?_); rintro e w' ⟨rfl, rfl⟩))
  go_ret2
  exact ⟨rfl, hb2.alloc hb2.size _⟩
end Go.Proofs.YtbanegjmapgkdaaDoor.Sc
-- ScRTwo4
namespace Go.Proofs.YtbanegjmapgkdaaDoor.Sc
open Go.RowKit
set_option linter.unusedVariables false

set_option maxHeartbeats 2000000 in
set_option maxRecDepth 100000 in
theorem rtwo_13 (a b : Int) (w : World) (ha : InR a) (hb : InR b) : Calls Tryd.prog 79 #[.int .i64 13, .int .i64 a, .int .i64 b] w fun e w' => e = .returned (.tuple #[.int .i64 (tB (decide (b < a))), .bool true]) ∧ Below w.heap.size w w' := by
  go_enter Tryd.func79, Tryd.ntmps79
  go_wp2_with fail
  refine (rhas_b 13 2 true _ (by decide)).mono ?_
  rintro e w1 ⟨rfl, rfl⟩
  go_wp2_with (first
    | (go_at_call 94; (with_reducible refine (rover_any a b _ ha).mono ?_); rintro e w' ⟨rfl, rfl⟩)
    | (go_at_call 94; (with_reducible refine (rover_any b a _ hb).mono ?_); rintro e w' ⟨rfl, rfl⟩)
    | (go_at_call 95; (with_reducible refine (rpower_any a b _ hb).mono ?_); rintro e w2 ⟨rfl, hb2⟩)
    | (go_at_call 96; (with_reducible refine (truth_t _ _).mono ?_); rintro e w' ⟨rfl, rfl⟩))
  go_ret2
  exact ⟨rfl, hb2.alloc hb2.size _⟩
set_option maxHeartbeats 2000000 in
set_option maxRecDepth 100000 in
theorem rtwo_14 (a b : Int) (w : World) (ha : InR a) (hb : InR b) : Calls Tryd.prog 79 #[.int .i64 14, .int .i64 a, .int .i64 b] w fun e w' => e = .returned (.tuple #[.int .i64 (tB (decide (b ≤ a))), .bool true]) ∧ Below w.heap.size w w' := by
  go_enter Tryd.func79, Tryd.ntmps79
  go_wp2_with fail
  refine (rhas_b 14 2 true _ (by decide)).mono ?_
  rintro e w1 ⟨rfl, rfl⟩
  go_wp2_with (first
    | (go_at_call 94; (with_reducible refine (rover_any a b _ ha).mono ?_); rintro e w' ⟨rfl, rfl⟩)
    | (go_at_call 94; (with_reducible refine (rover_any b a _ hb).mono ?_); rintro e w' ⟨rfl, rfl⟩)
    | (go_at_call 95; (with_reducible refine (rpower_any a b _ hb).mono ?_); rintro e w2 ⟨rfl, hb2⟩)
    | (go_at_call 96; (with_reducible refine (truth_t _ _).mono ?_); rintro e w' ⟨rfl, rfl⟩))
  go_ret2
  exact ⟨rfl, hb2.alloc hb2.size _⟩
set_option maxHeartbeats 2000000 in
set_option maxRecDepth 100000 in
theorem rtwo_15 (a b : Int) (w : World) (ha : InR a) (hb : InR b) : Calls Tryd.prog 79 #[.int .i64 15, .int .i64 a, .int .i64 b] w fun e w' => e = .returned (.tuple #[.int .i64 (bits .and .i64 a b), .bool true]) ∧ Below w.heap.size w w' := by
  go_enter Tryd.func79, Tryd.ntmps79
  go_wp2_with fail
  refine (rhas_b 15 2 true _ (by decide)).mono ?_
  rintro e w1 ⟨rfl, rfl⟩
  go_wp2_with (first
    | (go_at_call 94; (with_reducible refine (rover_any a b _ ha).mono ?_); rintro e w' ⟨rfl, rfl⟩)
    | (go_at_call 94; (with_reducible refine (rover_any b a _ hb).mono ?_); rintro e w' ⟨rfl, rfl⟩)
    | (go_at_call 95; (with_reducible refine (rpower_any a b _ hb).mono ?_); rintro e w2 ⟨rfl, hb2⟩)
    | (go_at_call 96; (with_reducible refine (truth_t _ _).mono ?_); rintro e w' ⟨rfl, rfl⟩))
  go_ret2
  exact ⟨rfl, hb2.alloc hb2.size _⟩
set_option maxHeartbeats 2000000 in
set_option maxRecDepth 100000 in
theorem rtwo_16 (a b : Int) (w : World) (ha : InR a) (hb : InR b) : Calls Tryd.prog 79 #[.int .i64 16, .int .i64 a, .int .i64 b] w fun e w' => e = .returned (.tuple #[.int .i64 (bits .or .i64 a b), .bool true]) ∧ Below w.heap.size w w' := by
  go_enter Tryd.func79, Tryd.ntmps79
  go_wp2_with fail
  refine (rhas_b 16 2 true _ (by decide)).mono ?_
  rintro e w1 ⟨rfl, rfl⟩
  go_wp2_with (first
    | (go_at_call 94; (with_reducible refine (rover_any a b _ ha).mono ?_); rintro e w' ⟨rfl, rfl⟩)
    | (go_at_call 94; (with_reducible refine (rover_any b a _ hb).mono ?_); rintro e w' ⟨rfl, rfl⟩)
    | (go_at_call 95; (with_reducible refine (rpower_any a b _ hb).mono ?_); rintro e w2 ⟨rfl, hb2⟩)
    | (go_at_call 96; (with_reducible refine (truth_t _ _).mono ?_); rintro e w' ⟨rfl, rfl⟩))
  go_ret2
  exact ⟨rfl, hb2.alloc hb2.size _⟩
set_option maxHeartbeats 2000000 in
set_option maxRecDepth 100000 in
theorem rtwo_17 (a b : Int) (w : World) (ha : InR a) (hb : InR b) : Calls Tryd.prog 79 #[.int .i64 17, .int .i64 a, .int .i64 b] w fun e w' => e = .returned (.tuple #[.int .i64 (a), .bool true]) ∧ Below w.heap.size w w' := by
  go_enter Tryd.func79, Tryd.ntmps79
  go_wp2_with fail
  refine (rhas_b 17 2 true _ (by decide)).mono ?_
  rintro e w1 ⟨rfl, rfl⟩
  go_wp2_with (first
    | (go_at_call 94; (with_reducible refine (rover_any a b _ ha).mono ?_); rintro e w' ⟨rfl, rfl⟩)
    | (go_at_call 94; (with_reducible refine (rover_any b a _ hb).mono ?_); rintro e w' ⟨rfl, rfl⟩)
    | (go_at_call 95; (with_reducible refine (rpower_any a b _ hb).mono ?_); rintro e w2 ⟨rfl, hb2⟩)
    | (go_at_call 96; (with_reducible refine (truth_t _ _).mono ?_); rintro e w' ⟨rfl, rfl⟩))
  go_ret2
  exact ⟨rfl, hb2.alloc hb2.size _⟩
set_option maxHeartbeats 2000000 in
set_option maxRecDepth 100000 in
theorem rtwo_18 (a b : Int) (w : World) (ha : InR a) (hb : InR b) : Calls Tryd.prog 79 #[.int .i64 18, .int .i64 a, .int .i64 b] w fun e w' => e = .returned (.tuple #[.int .i64 (b), .bool true]) ∧ Below w.heap.size w w' := by
  go_enter Tryd.func79, Tryd.ntmps79
  go_wp2_with fail
  refine (rhas_b 18 2 true _ (by decide)).mono ?_
  rintro e w1 ⟨rfl, rfl⟩
  go_wp2_with (first
    | (go_at_call 94; (with_reducible refine (rover_any a b _ ha).mono ?_); rintro e w' ⟨rfl, rfl⟩)
    | (go_at_call 94; (with_reducible refine (rover_any b a _ hb).mono ?_); rintro e w' ⟨rfl, rfl⟩)
    | (go_at_call 95; (with_reducible refine (rpower_any a b _ hb).mono ?_); rintro e w2 ⟨rfl, hb2⟩)
    | (go_at_call 96; (with_reducible refine (truth_t _ _).mono ?_); rintro e w' ⟨rfl, rfl⟩))
  go_ret2
  exact ⟨rfl, hb2.alloc hb2.size _⟩
end Go.Proofs.YtbanegjmapgkdaaDoor.Sc
-- ScRTwo
namespace Go.Proofs.YtbanegjmapgkdaaDoor.Sc
open Go.RowKit
set_option linter.unusedVariables false

set_option maxHeartbeats 1000000 in
theorem rtwo_out (c a b : Int) (w : World) (h : c < 1 ∨ 18 < c) : Calls Tryd.prog 79 #[.int .i64 c, .int .i64 a, .int .i64 b] w fun e w' => e = .returned (.tuple #[.int .i64 0, .bool false]) ∧ Below w.heap.size w w' := by
  have H := Lib.hid (has2_out h)
  clear h
  go_enter Tryd.func79, Tryd.ntmps79
  go_wp2_with fail
  refine (rhas_b c 2 false _ H.out).mono ?_
  rintro e w1 ⟨rfl, rfl⟩
  go_wp2
  go_ret2
  exact ⟨rfl, Below.refl _ _⟩
theorem tB_eq (p : Prop) [Decidable p] (b : Bool) (h : b = true ↔ p) : tB b = if p then 1 else 0 := by
  unfold tB
  by_cases hp : p
  · rw [if_pos (h.2 hp), if_pos hp]
  · rw [if_neg (fun e => hp (h.1 e)), if_neg hp]
/-- A contract with another number, which is the same. -/
theorem val_eq {k : Int} {a b x y : Int} {w : World} (h : x = y) (hc : Calls Tryd.prog 79 #[.int .i64 k, .int .i64 a, .int .i64 b] w fun e w' => e = .returned (.tuple #[.int .i64 x, .bool true]) ∧ Below w.heap.size w w') :
    Calls Tryd.prog 79 #[.int .i64 k, .int .i64 a, .int .i64 b] w fun e w' => e = .returned (.tuple #[.int .i64 y, .bool true]) ∧ Below w.heap.size w w' := by
  subst h; exact hc
theorem rtwo_any (c a b : Int) (w : World) (ha : InR a) (hb : InR b) : Calls Tryd.prog 79 #[.int .i64 c, .int .i64 a, .int .i64 b] w fun e w' => e = .returned (.tuple #[.int .i64 (twoI c a b), .bool (twoB c)]) ∧ Below w.heap.size w w' := by
  by_cases h : 1 ≤ c ∧ c ≤ 18
  · have hB : twoB c = true := by simp [twoB, h]
    rw [hB]
    obtain ⟨k, rfl⟩ : ∃ k : Nat, c = k := ⟨c.toNat, by omega⟩
    have hk : k < 19 := by omega
    have hk1 : 1 ≤ k := by omega
    match k, hk, hk1 with
    | 1, _, _ => exact rtwo_1 a b w ha hb
    | 2, _, _ => exact rtwo_2 a b w ha hb
    | 3, _, _ => exact rtwo_3 a b w ha hb
    | 4, _, _ => exact rtwo_4 a b w ha hb
    | 5, _, _ => exact rtwo_5 a b w ha hb
    | 6, _, _ =>
      by_cases h0 : a = 0
      · exact val_eq (by subst h0; exact (rest_0 hb).symm) (rtwo_6z a b w ha hb h0)
      · exact rtwo_6n a b w ha hb (by simpa using h0)
    | 7, _, _ =>
      by_cases h0 : a < b
      · exact val_eq (show b = max a b by omega) (rtwo_7l a b w ha hb h0)
      · exact val_eq (show a = max a b by omega) (rtwo_7g a b w ha hb (by omega))
    | 8, _, _ =>
      by_cases h0 : b < a
      · exact val_eq (show b = min a b by omega) (rtwo_8l a b w ha hb h0)
      · exact val_eq (show a = min a b by omega) (rtwo_8g a b w ha hb (by omega))
    | 9, _, _ => exact val_eq (tB_eq (a = b) _ (by simp)) (rtwo_9 a b w ha hb)
    | 10, _, _ => exact val_eq (tB_eq (¬ a = b) _ (by simp)) (rtwo_10 a b w ha hb)
    | 11, _, _ => exact val_eq (tB_eq (a < b) _ (by simp)) (rtwo_11 a b w ha hb)
    | 12, _, _ => exact val_eq (tB_eq (a ≤ b) _ (by simp)) (rtwo_12 a b w ha hb)
    | 13, _, _ => exact val_eq (tB_eq (b < a) _ (by simp)) (rtwo_13 a b w ha hb)
    | 14, _, _ => exact val_eq (tB_eq (b ≤ a) _ (by simp)) (rtwo_14 a b w ha hb)
    | 15, _, _ => exact rtwo_15 a b w ha hb
    | 16, _, _ => exact rtwo_16 a b w ha hb
    | 17, _, _ => exact rtwo_17 a b w ha hb
    | 18, _, _ => exact rtwo_18 a b w ha hb
  · have hB : twoB c = false := by simp [twoB]; omega
    have h0 : twoI c a b = 0 := by
      unfold twoI
      rw [if_neg (by omega), if_neg (by omega), if_neg (by omega), if_neg (by omega), if_neg (by omega), if_neg (by omega), if_neg (by omega), if_neg (by omega), if_neg (by omega), if_neg (by omega), if_neg (by omega), if_neg (by omega), if_neg (by omega), if_neg (by omega), if_neg (by omega), if_neg (by omega), if_neg (by omega), if_neg (by omega)]
    rw [hB, h0]
    exact rtwo_out c a b w (by omega)
set_option maxHeartbeats 1000000 in
theorem rdo_any (c : Int) (s : Bool) (a b : Int) (w : World) (ha : InR a) (hb : InR b) : Calls Tryd.prog 46 #[.int .i64 c, .bool s, .int .i64 a, .int .i64 b] w fun e w' => e = .returned (.tuple #[.int .i64 (doI c s a b), .bool (twoB c)]) ∧ Below w.heap.size w w' := by
  cases s
  · go_enter Tryd.func46, Tryd.ntmps46
    go_wp2_with fail
    refine (rtwo_any _ _ _ _ ha hb).mono ?_
    rintro e w1 ⟨rfl, hb1⟩
    go_wp2
    go_ret2
    exact ⟨rfl, hb1⟩
  · go_enter Tryd.func46, Tryd.ntmps46
    go_wp2_with fail
    refine (rtwo_any _ _ _ _ hb ha).mono ?_
    rintro e w1 ⟨rfl, hb1⟩
    go_wp2
    go_ret2
    exact ⟨rfl, hb1⟩
end Go.Proofs.YtbanegjmapgkdaaDoor.Sc
