/-
  What scalar.Two and scalar.Do answer of any code and any numbers; nothing that was there is written. Conditions: the table of traits holds what its text lays; the numbers have 64 bits.
-/
import Derived.Test.YthabimjmdnhomaaDoorScLook
namespace Go.Proofs.YthabimjmdnhomaaDoor.Sc
open Go.RowKit
set_option linter.unusedVariables false

/-- What a function makes of two numbers. -/
def twoI (c a b : Int) : Int :=
  if c = 1 then wrap64 (a + b)
  else if c = 2 then wrap64 (a - b)
  else if c = 3 then wrap64 (a * b)
  else if c = 4 then overI a b
  else if c = 5 then powI a b
  else if c = 6 then restI a b
  else if c = 7 then max a b
  else if c = 8 then min a b
  else if c = 9 then (if a = b then 1 else 0)
  else if c = 10 then (if ¬ a = b then 1 else 0)
  else if c = 11 then (if a < b then 1 else 0)
  else if c = 12 then (if a ≤ b then 1 else 0)
  else if c = 13 then (if b < a then 1 else 0)
  else if c = 14 then (if b ≤ a then 1 else 0)
  else if c = 15 then bits .and .i64 a b
  else if c = 16 then bits .or .i64 a b
  else if c = 17 then a
  else if c = 18 then b
  else 0
theorem compare_9x (a b x : Int) (w : World) (h : (if a = b then (1 : Int) else 0) = x) : Calls Tryd.prog 45 #[.int .i64 9, .int .i64 a, .int .i64 b] w fun e w' => e = .returned (.int .i64 x) ∧ w = w' := by
  subst h; exact compare_9 a b w
theorem compare_10x (a b x : Int) (w : World) (h : (if ¬ a = b then (1 : Int) else 0) = x) : Calls Tryd.prog 45 #[.int .i64 10, .int .i64 a, .int .i64 b] w fun e w' => e = .returned (.int .i64 x) ∧ w = w' := by
  subst h; exact compare_10 a b w
theorem compare_11x (a b x : Int) (w : World) (h : (if a < b then (1 : Int) else 0) = x) : Calls Tryd.prog 45 #[.int .i64 11, .int .i64 a, .int .i64 b] w fun e w' => e = .returned (.int .i64 x) ∧ w = w' := by
  subst h; exact compare_11 a b w
theorem compare_12x (a b x : Int) (w : World) (h : (if a ≤ b then (1 : Int) else 0) = x) : Calls Tryd.prog 45 #[.int .i64 12, .int .i64 a, .int .i64 b] w fun e w' => e = .returned (.int .i64 x) ∧ w = w' := by
  subst h; exact compare_12 a b w
theorem compare_13x (a b x : Int) (w : World) (h : (if b < a then (1 : Int) else 0) = x) : Calls Tryd.prog 45 #[.int .i64 13, .int .i64 a, .int .i64 b] w fun e w' => e = .returned (.int .i64 x) ∧ w = w' := by
  subst h; exact compare_13 a b w
theorem compare_14x (a b x : Int) (w : World) (h : (if b ≤ a then (1 : Int) else 0) = x) : Calls Tryd.prog 45 #[.int .i64 14, .int .i64 a, .int .i64 b] w fun e w' => e = .returned (.int .i64 x) ∧ w = w' := by
  subst h; exact compare_14 a b w
theorem has2_in {c : Int} (h1 : 1 ≤ c) (h2 : c ≤ 18) : hasB c 2 = true := by
  obtain ⟨k, rfl⟩ : ∃ k : Nat, c = k := ⟨c.toNat, by omega⟩
  have hk : ∀ k : Nat, k < 19 → 1 ≤ k → (trL.getD k noTr).two = true := by decide
  have e : trOf (k : Int) = trL.getD k noTr := trOf_in h1 (by omega)
  simp only [hasB, e]
  simpa using hk k (by omega) (by omega)
theorem has2_out {c : Int} (h : c < 1 ∨ 18 < c) : hasB c 2 = false := by
  by_cases h1 : c = 19
  · subst h1; decide
  · have e : trOf c = noTr := trOf_out (by omega)
    simp [hasB, e, noTr]
theorem has_b (c v : Int) (b : Bool) (w : World) (h : hasB c v = b) (hT : Tab w) : Calls Tryd.prog 22 #[.int .i64 c, .int .i64 v] w fun e w' => e = .returned (.bool b) ∧ Below w.heap.size w w' := by
  subst h; exact has_any c v w hT
set_option maxHeartbeats 1000000 in
theorem two_1 (a b : Int) (w : World) (hT : Tab w) (ha : InR a) (hb : InR b) : Calls Tryd.prog 40 #[.int .i64 1, .int .i64 a, .int .i64 b] w fun e w' => e = .returned (.tuple #[.int .i64 (wrap64 (a + b)), .bool true]) ∧ Below w.heap.size w w' := by
  have HT := Lib.hid hT
  clear hT
  go_enter Tryd.func40, Tryd.ntmps40
  go_wp2_with fail
  refine (has_b 1 2 true _ (by decide) HT.out).mono ?_
  rintro e w1 ⟨rfl, hb1⟩
  go_wp2
  go_ret2
  exact ⟨rfl, hb1⟩
set_option maxHeartbeats 1000000 in
theorem two_2 (a b : Int) (w : World) (hT : Tab w) (ha : InR a) (hb : InR b) : Calls Tryd.prog 40 #[.int .i64 2, .int .i64 a, .int .i64 b] w fun e w' => e = .returned (.tuple #[.int .i64 (wrap64 (a - b)), .bool true]) ∧ Below w.heap.size w w' := by
  have HT := Lib.hid hT
  clear hT
  go_enter Tryd.func40, Tryd.ntmps40
  go_wp2_with fail
  refine (has_b 2 2 true _ (by decide) HT.out).mono ?_
  rintro e w1 ⟨rfl, hb1⟩
  go_wp2
  go_ret2
  exact ⟨rfl, hb1⟩
set_option maxHeartbeats 1000000 in
theorem two_3 (a b : Int) (w : World) (hT : Tab w) (ha : InR a) (hb : InR b) : Calls Tryd.prog 40 #[.int .i64 3, .int .i64 a, .int .i64 b] w fun e w' => e = .returned (.tuple #[.int .i64 (wrap64 (a * b)), .bool true]) ∧ Below w.heap.size w w' := by
  have HT := Lib.hid hT
  clear hT
  go_enter Tryd.func40, Tryd.ntmps40
  go_wp2_with fail
  refine (has_b 3 2 true _ (by decide) HT.out).mono ?_
  rintro e w1 ⟨rfl, hb1⟩
  go_wp2
  go_ret2
  exact ⟨rfl, hb1⟩
set_option maxHeartbeats 1000000 in
theorem two_4 (a b : Int) (w : World) (hT : Tab w) (ha : InR a) (hb : InR b) : Calls Tryd.prog 40 #[.int .i64 4, .int .i64 a, .int .i64 b] w fun e w' => e = .returned (.tuple #[.int .i64 (overI a b), .bool true]) ∧ Below w.heap.size w w' := by
  have HT := Lib.hid hT
  clear hT
  go_enter Tryd.func40, Tryd.ntmps40
  go_wp2_with fail
  refine (has_b 4 2 true _ (by decide) HT.out).mono ?_
  rintro e w1 ⟨rfl, hb1⟩
  go_wp2_with (go_at_call 43; refine (over_any _ _ _).mono ?_; rintro e w' ⟨rfl, rfl⟩)
  go_ret2
  exact ⟨rfl, hb1⟩
set_option maxHeartbeats 1000000 in
theorem two_5 (a b : Int) (w : World) (hT : Tab w) (ha : InR a) (hb : InR b) : Calls Tryd.prog 40 #[.int .i64 5, .int .i64 a, .int .i64 b] w fun e w' => e = .returned (.tuple #[.int .i64 (powI a b), .bool true]) ∧ Below w.heap.size w w' := by
  have HT := Lib.hid hT
  clear hT
  go_enter Tryd.func40, Tryd.ntmps40
  go_wp2_with fail
  refine (has_b 5 2 true _ (by decide) HT.out).mono ?_
  rintro e w1 ⟨rfl, hb1⟩
  go_wp2_with (go_at_call 44; refine (power_any _ _ _ ha hb).mono ?_; rintro e w' ⟨rfl, rfl⟩)
  go_ret2
  exact ⟨rfl, hb1⟩
set_option maxHeartbeats 1000000 in
theorem two_6 (a b : Int) (w : World) (hT : Tab w) (ha : InR a) (hb : InR b) : Calls Tryd.prog 40 #[.int .i64 6, .int .i64 a, .int .i64 b] w fun e w' => e = .returned (.tuple #[.int .i64 (restI a b), .bool true]) ∧ Below w.heap.size w w' := by
  have HT := Lib.hid hT
  clear hT
  go_enter Tryd.func40, Tryd.ntmps40
  go_wp2_with fail
  refine (has_b 6 2 true _ (by decide) HT.out).mono ?_
  rintro e w1 ⟨rfl, hb1⟩
  go_wp2_with (go_at_call 51; refine (rest_any _ _ _).mono ?_; rintro e w' ⟨rfl, rfl⟩)
  go_ret2
  exact ⟨rfl, hb1⟩
set_option maxHeartbeats 1000000 in
theorem two_7 (a b : Int) (w : World) (hT : Tab w) (ha : InR a) (hb : InR b) : Calls Tryd.prog 40 #[.int .i64 7, .int .i64 a, .int .i64 b] w fun e w' => e = .returned (.tuple #[.int .i64 (max a b), .bool true]) ∧ Below w.heap.size w w' := by
  have HT := Lib.hid hT
  clear hT
  go_enter Tryd.func40, Tryd.ntmps40
  go_wp2_with fail
  refine (has_b 7 2 true _ (by decide) HT.out).mono ?_
  rintro e w1 ⟨rfl, hb1⟩
  go_wp2
  go_ret2
  exact ⟨rfl, hb1⟩
set_option maxHeartbeats 1000000 in
theorem two_8 (a b : Int) (w : World) (hT : Tab w) (ha : InR a) (hb : InR b) : Calls Tryd.prog 40 #[.int .i64 8, .int .i64 a, .int .i64 b] w fun e w' => e = .returned (.tuple #[.int .i64 (min a b), .bool true]) ∧ Below w.heap.size w w' := by
  have HT := Lib.hid hT
  clear hT
  go_enter Tryd.func40, Tryd.ntmps40
  go_wp2_with fail
  refine (has_b 8 2 true _ (by decide) HT.out).mono ?_
  rintro e w1 ⟨rfl, hb1⟩
  go_wp2
  go_ret2
  exact ⟨rfl, hb1⟩
set_option maxHeartbeats 1000000 in
theorem two_9 (a b : Int) (w : World) (hT : Tab w) (ha : InR a) (hb : InR b) : Calls Tryd.prog 40 #[.int .i64 9, .int .i64 a, .int .i64 b] w fun e w' => e = .returned (.tuple #[.int .i64 (if a = b then 1 else 0), .bool true]) ∧ Below w.heap.size w w' := by
  obtain ⟨x, hx⟩ : ∃ x, (if a = b then (1 : Int) else 0) = x := ⟨_, rfl⟩
  rw [hx]
  have HX := Lib.hid hx
  clear hx
  have HT := Lib.hid hT
  clear hT
  go_enter Tryd.func40, Tryd.ntmps40
  go_wp2_with fail
  refine (has_b 9 2 true _ (by decide) HT.out).mono ?_
  rintro e w1 ⟨rfl, hb1⟩
  go_wp2_with (go_at_call 45; refine (compare_9x _ _ x _ HX.out).mono ?_; rintro e w' ⟨rfl, rfl⟩)
  go_ret2
  exact ⟨rfl, hb1⟩
set_option maxHeartbeats 1000000 in
theorem two_10 (a b : Int) (w : World) (hT : Tab w) (ha : InR a) (hb : InR b) : Calls Tryd.prog 40 #[.int .i64 10, .int .i64 a, .int .i64 b] w fun e w' => e = .returned (.tuple #[.int .i64 (if ¬ a = b then 1 else 0), .bool true]) ∧ Below w.heap.size w w' := by
  obtain ⟨x, hx⟩ : ∃ x, (if ¬ a = b then (1 : Int) else 0) = x := ⟨_, rfl⟩
  rw [hx]
  have HX := Lib.hid hx
  clear hx
  have HT := Lib.hid hT
  clear hT
  go_enter Tryd.func40, Tryd.ntmps40
  go_wp2_with fail
  refine (has_b 10 2 true _ (by decide) HT.out).mono ?_
  rintro e w1 ⟨rfl, hb1⟩
  go_wp2_with (go_at_call 45; refine (compare_10x _ _ x _ HX.out).mono ?_; rintro e w' ⟨rfl, rfl⟩)
  go_ret2
  exact ⟨rfl, hb1⟩
set_option maxHeartbeats 1000000 in
theorem two_11 (a b : Int) (w : World) (hT : Tab w) (ha : InR a) (hb : InR b) : Calls Tryd.prog 40 #[.int .i64 11, .int .i64 a, .int .i64 b] w fun e w' => e = .returned (.tuple #[.int .i64 (if a < b then 1 else 0), .bool true]) ∧ Below w.heap.size w w' := by
  obtain ⟨x, hx⟩ : ∃ x, (if a < b then (1 : Int) else 0) = x := ⟨_, rfl⟩
  rw [hx]
  have HX := Lib.hid hx
  clear hx
  have HT := Lib.hid hT
  clear hT
  go_enter Tryd.func40, Tryd.ntmps40
  go_wp2_with fail
  refine (has_b 11 2 true _ (by decide) HT.out).mono ?_
  rintro e w1 ⟨rfl, hb1⟩
  go_wp2_with (go_at_call 45; refine (compare_11x _ _ x _ HX.out).mono ?_; rintro e w' ⟨rfl, rfl⟩)
  go_ret2
  exact ⟨rfl, hb1⟩
set_option maxHeartbeats 1000000 in
theorem two_12 (a b : Int) (w : World) (hT : Tab w) (ha : InR a) (hb : InR b) : Calls Tryd.prog 40 #[.int .i64 12, .int .i64 a, .int .i64 b] w fun e w' => e = .returned (.tuple #[.int .i64 (if a ≤ b then 1 else 0), .bool true]) ∧ Below w.heap.size w w' := by
  obtain ⟨x, hx⟩ : ∃ x, (if a ≤ b then (1 : Int) else 0) = x := ⟨_, rfl⟩
  rw [hx]
  have HX := Lib.hid hx
  clear hx
  have HT := Lib.hid hT
  clear hT
  go_enter Tryd.func40, Tryd.ntmps40
  go_wp2_with fail
  refine (has_b 12 2 true _ (by decide) HT.out).mono ?_
  rintro e w1 ⟨rfl, hb1⟩
  go_wp2_with (go_at_call 45; refine (compare_12x _ _ x _ HX.out).mono ?_; rintro e w' ⟨rfl, rfl⟩)
  go_ret2
  exact ⟨rfl, hb1⟩
set_option maxHeartbeats 1000000 in
theorem two_13 (a b : Int) (w : World) (hT : Tab w) (ha : InR a) (hb : InR b) : Calls Tryd.prog 40 #[.int .i64 13, .int .i64 a, .int .i64 b] w fun e w' => e = .returned (.tuple #[.int .i64 (if b < a then 1 else 0), .bool true]) ∧ Below w.heap.size w w' := by
  obtain ⟨x, hx⟩ : ∃ x, (if b < a then (1 : Int) else 0) = x := ⟨_, rfl⟩
  rw [hx]
  have HX := Lib.hid hx
  clear hx
  have HT := Lib.hid hT
  clear hT
  go_enter Tryd.func40, Tryd.ntmps40
  go_wp2_with fail
  refine (has_b 13 2 true _ (by decide) HT.out).mono ?_
  rintro e w1 ⟨rfl, hb1⟩
  go_wp2_with (go_at_call 45; refine (compare_13x _ _ x _ HX.out).mono ?_; rintro e w' ⟨rfl, rfl⟩)
  go_ret2
  exact ⟨rfl, hb1⟩
set_option maxHeartbeats 1000000 in
theorem two_14 (a b : Int) (w : World) (hT : Tab w) (ha : InR a) (hb : InR b) : Calls Tryd.prog 40 #[.int .i64 14, .int .i64 a, .int .i64 b] w fun e w' => e = .returned (.tuple #[.int .i64 (if b ≤ a then 1 else 0), .bool true]) ∧ Below w.heap.size w w' := by
  obtain ⟨x, hx⟩ : ∃ x, (if b ≤ a then (1 : Int) else 0) = x := ⟨_, rfl⟩
  rw [hx]
  have HX := Lib.hid hx
  clear hx
  have HT := Lib.hid hT
  clear hT
  go_enter Tryd.func40, Tryd.ntmps40
  go_wp2_with fail
  refine (has_b 14 2 true _ (by decide) HT.out).mono ?_
  rintro e w1 ⟨rfl, hb1⟩
  go_wp2_with (go_at_call 45; refine (compare_14x _ _ x _ HX.out).mono ?_; rintro e w' ⟨rfl, rfl⟩)
  go_ret2
  exact ⟨rfl, hb1⟩
set_option maxHeartbeats 1000000 in
theorem two_15 (a b : Int) (w : World) (hT : Tab w) (ha : InR a) (hb : InR b) : Calls Tryd.prog 40 #[.int .i64 15, .int .i64 a, .int .i64 b] w fun e w' => e = .returned (.tuple #[.int .i64 (bits .and .i64 a b), .bool true]) ∧ Below w.heap.size w w' := by
  have HT := Lib.hid hT
  clear hT
  go_enter Tryd.func40, Tryd.ntmps40
  go_wp2_with fail
  refine (has_b 15 2 true _ (by decide) HT.out).mono ?_
  rintro e w1 ⟨rfl, hb1⟩
  go_wp2
  go_ret2
  exact ⟨rfl, hb1⟩
set_option maxHeartbeats 1000000 in
theorem two_16 (a b : Int) (w : World) (hT : Tab w) (ha : InR a) (hb : InR b) : Calls Tryd.prog 40 #[.int .i64 16, .int .i64 a, .int .i64 b] w fun e w' => e = .returned (.tuple #[.int .i64 (bits .or .i64 a b), .bool true]) ∧ Below w.heap.size w w' := by
  have HT := Lib.hid hT
  clear hT
  go_enter Tryd.func40, Tryd.ntmps40
  go_wp2_with fail
  refine (has_b 16 2 true _ (by decide) HT.out).mono ?_
  rintro e w1 ⟨rfl, hb1⟩
  go_wp2
  go_ret2
  exact ⟨rfl, hb1⟩
set_option maxHeartbeats 1000000 in
theorem two_17 (a b : Int) (w : World) (hT : Tab w) (ha : InR a) (hb : InR b) : Calls Tryd.prog 40 #[.int .i64 17, .int .i64 a, .int .i64 b] w fun e w' => e = .returned (.tuple #[.int .i64 (a), .bool true]) ∧ Below w.heap.size w w' := by
  have HT := Lib.hid hT
  clear hT
  go_enter Tryd.func40, Tryd.ntmps40
  go_wp2_with fail
  refine (has_b 17 2 true _ (by decide) HT.out).mono ?_
  rintro e w1 ⟨rfl, hb1⟩
  go_wp2
  go_ret2
  exact ⟨rfl, hb1⟩
set_option maxHeartbeats 1000000 in
theorem two_18 (a b : Int) (w : World) (hT : Tab w) (ha : InR a) (hb : InR b) : Calls Tryd.prog 40 #[.int .i64 18, .int .i64 a, .int .i64 b] w fun e w' => e = .returned (.tuple #[.int .i64 (b), .bool true]) ∧ Below w.heap.size w w' := by
  have HT := Lib.hid hT
  clear hT
  go_enter Tryd.func40, Tryd.ntmps40
  go_wp2_with fail
  refine (has_b 18 2 true _ (by decide) HT.out).mono ?_
  rintro e w1 ⟨rfl, hb1⟩
  go_wp2
  go_ret2
  exact ⟨rfl, hb1⟩
set_option maxHeartbeats 1000000 in
theorem two_out (c a b : Int) (w : World) (hT : Tab w) (h : c < 1 ∨ 18 < c) : Calls Tryd.prog 40 #[.int .i64 c, .int .i64 a, .int .i64 b] w fun e w' => e = .returned (.tuple #[.int .i64 0, .bool false]) ∧ Below w.heap.size w w' := by
  have HT := Lib.hid hT
  have H := Lib.hid (has2_out h)
  clear hT h
  go_enter Tryd.func40, Tryd.ntmps40
  go_wp2_with fail
  refine (has_b c 2 false _ H.out HT.out).mono ?_
  rintro e w1 ⟨rfl, hb1⟩
  go_wp2
  go_ret2
  exact ⟨rfl, hb1⟩
def twoB (c : Int) : Bool := decide (1 ≤ c) && decide (c ≤ 18)
theorem two_any (c a b : Int) (w : World) (hT : Tab w) (ha : InR a) (hb : InR b) : Calls Tryd.prog 40 #[.int .i64 c, .int .i64 a, .int .i64 b] w fun e w' => e = .returned (.tuple #[.int .i64 (twoI c a b), .bool (twoB c)]) ∧ Below w.heap.size w w' := by
  by_cases h : 1 ≤ c ∧ c ≤ 18
  · have hB : twoB c = true := by simp [twoB, h]
    rw [hB]
    obtain ⟨k, rfl⟩ : ∃ k : Nat, c = k := ⟨c.toNat, by omega⟩
    have hk : k < 19 := by omega
    have hk1 : 1 ≤ k := by omega
    match k, hk, hk1 with
    | 1, _, _ => exact two_1 a b w hT ha hb
    | 2, _, _ => exact two_2 a b w hT ha hb
    | 3, _, _ => exact two_3 a b w hT ha hb
    | 4, _, _ => exact two_4 a b w hT ha hb
    | 5, _, _ => exact two_5 a b w hT ha hb
    | 6, _, _ => exact two_6 a b w hT ha hb
    | 7, _, _ => exact two_7 a b w hT ha hb
    | 8, _, _ => exact two_8 a b w hT ha hb
    | 9, _, _ => exact two_9 a b w hT ha hb
    | 10, _, _ => exact two_10 a b w hT ha hb
    | 11, _, _ => exact two_11 a b w hT ha hb
    | 12, _, _ => exact two_12 a b w hT ha hb
    | 13, _, _ => exact two_13 a b w hT ha hb
    | 14, _, _ => exact two_14 a b w hT ha hb
    | 15, _, _ => exact two_15 a b w hT ha hb
    | 16, _, _ => exact two_16 a b w hT ha hb
    | 17, _, _ => exact two_17 a b w hT ha hb
    | 18, _, _ => exact two_18 a b w hT ha hb
  · have hB : twoB c = false := by simp [twoB]; omega
    have h0 : twoI c a b = 0 := by
      unfold twoI
      rw [if_neg (by omega), if_neg (by omega), if_neg (by omega), if_neg (by omega), if_neg (by omega), if_neg (by omega), if_neg (by omega), if_neg (by omega), if_neg (by omega), if_neg (by omega), if_neg (by omega), if_neg (by omega), if_neg (by omega), if_neg (by omega), if_neg (by omega), if_neg (by omega), if_neg (by omega), if_neg (by omega)]
    rw [hB, h0]
    exact two_out c a b w hT (by omega)
theorem truth_R (p : Prop) [Decidable p] : InR (if p then 1 else 0) := by
  by_cases h : p
  · rw [if_pos h]; unfold InR; omega
  · rw [if_neg h]; unfold InR; omega
theorem two_R (c a b : Int) (ha : InR a) (hb : InR b) : InR (twoI c a b) := by
  unfold twoI
  by_cases h1 : c = 1
  · rw [if_pos h1]
    exact wrap_R _
  rw [if_neg h1]
  by_cases h2 : c = 2
  · rw [if_pos h2]
    exact wrap_R _
  rw [if_neg h2]
  by_cases h3 : c = 3
  · rw [if_pos h3]
    exact wrap_R _
  rw [if_neg h3]
  by_cases h4 : c = 4
  · rw [if_pos h4]
    exact over_R _ _
  rw [if_neg h4]
  by_cases h5 : c = 5
  · rw [if_pos h5]
    exact pow_R _ _
  rw [if_neg h5]
  by_cases h6 : c = 6
  · rw [if_pos h6]
    exact wrap_R _
  rw [if_neg h6]
  by_cases h7 : c = 7
  · rw [if_pos h7]
    unfold InR at *; omega
  rw [if_neg h7]
  by_cases h8 : c = 8
  · rw [if_pos h8]
    unfold InR at *; omega
  rw [if_neg h8]
  by_cases h9 : c = 9
  · rw [if_pos h9]
    exact truth_R _
  rw [if_neg h9]
  by_cases h10 : c = 10
  · rw [if_pos h10]
    exact truth_R _
  rw [if_neg h10]
  by_cases h11 : c = 11
  · rw [if_pos h11]
    exact truth_R _
  rw [if_neg h11]
  by_cases h12 : c = 12
  · rw [if_pos h12]
    exact truth_R _
  rw [if_neg h12]
  by_cases h13 : c = 13
  · rw [if_pos h13]
    exact truth_R _
  rw [if_neg h13]
  by_cases h14 : c = 14
  · rw [if_pos h14]
    exact truth_R _
  rw [if_neg h14]
  by_cases h15 : c = 15
  · rw [if_pos h15]
    exact and_R _ _
  rw [if_neg h15]
  by_cases h16 : c = 16
  · rw [if_pos h16]
    exact or_R _ _
  rw [if_neg h16]
  by_cases h17 : c = 17
  · rw [if_pos h17]
    exact ha
  rw [if_neg h17]
  by_cases h18 : c = 18
  · rw [if_pos h18]
    exact hb
  rw [if_neg h18]
  unfold InR; omega

/-- As Two, or the other way round. -/
def doI (c : Int) (s : Bool) (a b : Int) : Int := if s = true then twoI c b a else twoI c a b
theorem do_R (c : Int) (s : Bool) (a b : Int) (ha : InR a) (hb : InR b) : InR (doI c s a b) := by
  unfold doI
  split
  · exact two_R _ _ _ hb ha
  · exact two_R _ _ _ ha hb
set_option maxHeartbeats 1000000 in
theorem do_any (c : Int) (s : Bool) (a b : Int) (w : World) (hT : Tab w) (ha : InR a) (hb : InR b) : Calls Tryd.prog 25 #[.agg #[.int .i64 c, .bool s], .int .i64 a, .int .i64 b] w fun e w' => e = .returned (.tuple #[.int .i64 (doI c s a b), .bool (twoB c)]) ∧ Below w.heap.size w w' := by
  have hB : Below w.heap.size w (w.alloc (.cells #[.int .i64 c, .bool s] 29)) := (Below.refl _ w).alloc (Nat.le_refl _) _
  have HT := Lib.hid (hT.below hB)
  clear hT
  cases s
  · go_enter Tryd.func25, Tryd.ntmps25
    go_wp2_with fail
    refine (two_any _ _ _ _ HT.out ha hb).mono ?_
    rintro e w1 ⟨rfl, hb1⟩
    go_wp2
    go_ret2
    exact ⟨rfl, hB.trans (hb1.mono (by simp))⟩
  · go_enter Tryd.func25, Tryd.ntmps25
    go_wp2_with fail
    refine (two_any _ _ _ _ HT.out hb ha).mono ?_
    rintro e w1 ⟨rfl, hb1⟩
    go_wp2
    go_ret2
    exact ⟨rfl, hB.trans (hb1.mono (by simp))⟩
end Go.Proofs.YthabimjmdnhomaaDoor.Sc
