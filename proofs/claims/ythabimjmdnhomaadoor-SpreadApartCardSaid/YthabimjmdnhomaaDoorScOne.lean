/-
  What scalar.One and riffleref04.One answer of any code and any number; nothing that was there is written. Conditions: the table of traits holds what its text lays; the number has 64 bits.
-/
import Derived.Test.YthabimjmdnhomaaDoorScRTwo0
namespace Go.Proofs.YthabimjmdnhomaaDoor.Sc
open Go.RowKit
set_option linter.unusedVariables false

theorem compare_9t (a : Int) (w : World) : Calls Tryd.prog 45 #[.int .i64 9, .int .i64 a, .int .i64 0] w fun e w' => e = .returned (.int .i64 (tB (a == 0))) ∧ w = w' :=
  (compare_9 a 0 w).mono fun _ _ ⟨e, q⟩ => ⟨by rw [e]; unfold tB; by_cases h : a = 0 <;> simp [h], q⟩
theorem sign_tB (a : Int) : wrap64 (tB (decide (0 < a)) - tB (decide (a < 0))) = signI a := by
  have h : tB (decide (0 < a)) - tB (decide (a < 0)) = signI a := by unfold tB signI; by_cases h : 0 < a <;> by_cases h2 : a < 0 <;> simp [h, h2]
  rw [h]
  apply wrap_in
  unfold InR signI
  by_cases h : 0 < a <;> by_cases h2 : a < 0 <;> simp [h, h2]
theorem abs_neg {a : Int} (h : a < 0) : wrap64 (-a) = wrap64 (a * signI a) := by
  have e : signI a = -1 := by unfold signI; rw [if_neg (by omega), if_pos h]; rfl
  rw [e]; congr 1; omega
theorem abs_pos {a : Int} (ha : InR a) (h : 0 ≤ a) : a = wrap64 (a * signI a) := by
  by_cases h0 : a = 0
  · subst h0; rw [Int.zero_mul, wrap_0]
  · have e : signI a = 1 := by unfold signI; rw [if_pos (by omega), if_neg (by omega)]; rfl
    rw [e, Int.mul_one, wrap_in ha]
/-- What a function makes of one number. -/
def oneI (c a : Int) : Int :=
  if c = 1 then a
  else if c = 2 then wrap64 (-a)
  else if c = 3 then signI a
  else if c = 4 then overI 1 a
  else if c = 5 then powI 2 a
  else if c = 6 then wrap64 (a * signI a)
  else if c = 17 then a
  else if c = 18 then a
  else if c = 19 then tB (a == 0)
  else 0
set_option maxHeartbeats 1000000 in
theorem one_1 (a : Int) (w : World) (hT : Tab w) (ha : InR a) : Calls Tryd.prog 33 #[.int .i64 1, .int .i64 a] w fun e w' => e = .returned (.tuple #[.int .i64 (a), .bool true]) ∧ Below w.heap.size w w' := by
  have HT := Lib.hid hT
  clear hT
  go_enter Tryd.func33, Tryd.ntmps33
  go_wp2_with fail
  refine (has_b 1 1 true _ (by decide) HT.out).mono ?_
  rintro e w1 ⟨rfl, hb1⟩
  go_wp2
  go_ret2
  exact ⟨rfl, hb1⟩
set_option maxHeartbeats 1000000 in
theorem rone_1 (a : Int) (w : World) (ha : InR a) : Calls Tryd.prog 34 #[.int .i64 1, .int .i64 a] w fun e w' => e = .returned (.tuple #[.int .i64 (a), .bool true]) ∧ Below w.heap.size w w' := by
  go_enter Tryd.func34, Tryd.ntmps34
  go_wp2_with fail
  refine (rhas_b 1 1 true _ (by decide)).mono ?_
  rintro e w1 ⟨rfl, rfl⟩
  go_wp2
  go_ret2
  exact ⟨rfl, Below.refl _ _⟩
set_option maxHeartbeats 1000000 in
theorem one_2 (a : Int) (w : World) (hT : Tab w) (ha : InR a) : Calls Tryd.prog 33 #[.int .i64 2, .int .i64 a] w fun e w' => e = .returned (.tuple #[.int .i64 (wrap64 (-a)), .bool true]) ∧ Below w.heap.size w w' := by
  have HT := Lib.hid hT
  clear hT
  go_enter Tryd.func33, Tryd.ntmps33
  go_wp2_with fail
  refine (has_b 2 1 true _ (by decide) HT.out).mono ?_
  rintro e w1 ⟨rfl, hb1⟩
  go_wp2
  go_ret2
  exact ⟨rfl, hb1⟩
set_option maxHeartbeats 1000000 in
theorem rone_2 (a : Int) (w : World) (ha : InR a) : Calls Tryd.prog 34 #[.int .i64 2, .int .i64 a] w fun e w' => e = .returned (.tuple #[.int .i64 (wrap64 (-a)), .bool true]) ∧ Below w.heap.size w w' := by
  go_enter Tryd.func34, Tryd.ntmps34
  go_wp2_with fail
  refine (rhas_b 2 1 true _ (by decide)).mono ?_
  rintro e w1 ⟨rfl, rfl⟩
  go_wp2
  go_ret2
  exact ⟨rfl, Below.refl _ _⟩
set_option maxHeartbeats 1000000 in
theorem one_3 (a : Int) (w : World) (hT : Tab w) (ha : InR a) : Calls Tryd.prog 33 #[.int .i64 3, .int .i64 a] w fun e w' => e = .returned (.tuple #[.int .i64 (signI a), .bool true]) ∧ Below w.heap.size w w' := by
  have HT := Lib.hid hT
  clear hT
  go_enter Tryd.func33, Tryd.ntmps33
  go_wp2_with fail
  refine (has_b 3 1 true _ (by decide) HT.out).mono ?_
  rintro e w1 ⟨rfl, hb1⟩
  go_wp2_with (go_at_call 42; (with_reducible refine (sign_any a _).mono ?_); rintro e w' ⟨rfl, rfl⟩)
  go_ret2
  exact ⟨rfl, hb1⟩
set_option maxHeartbeats 1000000 in
theorem rone_3 (a : Int) (w : World) (ha : InR a) : Calls Tryd.prog 34 #[.int .i64 3, .int .i64 a] w fun e w' => e = .returned (.tuple #[.int .i64 (wrap64 (tB (decide (0 < a)) - tB (decide (a < 0)))), .bool true]) ∧ Below w.heap.size w w' := by
  go_enter Tryd.func34, Tryd.ntmps34
  go_wp2_with fail
  refine (rhas_b 3 1 true _ (by decide)).mono ?_
  rintro e w1 ⟨rfl, rfl⟩
  go_wp2_with (go_at_call 46; (with_reducible refine (truth_t _ _).mono ?_); rintro e w' ⟨rfl, rfl⟩)
  go_ret2
  exact ⟨rfl, Below.refl _ _⟩
set_option maxHeartbeats 1000000 in
theorem one_4 (a : Int) (w : World) (hT : Tab w) (ha : InR a) : Calls Tryd.prog 33 #[.int .i64 4, .int .i64 a] w fun e w' => e = .returned (.tuple #[.int .i64 (overI 1 a), .bool true]) ∧ Below w.heap.size w w' := by
  have HT := Lib.hid hT
  clear hT
  go_enter Tryd.func33, Tryd.ntmps33
  go_wp2_with fail
  refine (has_b 4 1 true _ (by decide) HT.out).mono ?_
  rintro e w1 ⟨rfl, hb1⟩
  go_wp2_with (go_at_call 43; (with_reducible refine (over_any 1 a _).mono ?_); rintro e w' ⟨rfl, rfl⟩)
  go_ret2
  exact ⟨rfl, hb1⟩
set_option maxHeartbeats 1000000 in
theorem rone_4 (a : Int) (w : World) (ha : InR a) : Calls Tryd.prog 34 #[.int .i64 4, .int .i64 a] w fun e w' => e = .returned (.tuple #[.int .i64 (overI 1 a), .bool true]) ∧ Below w.heap.size w w' := by
  go_enter Tryd.func34, Tryd.ntmps34
  go_wp2_with fail
  refine (rhas_b 4 1 true _ (by decide)).mono ?_
  rintro e w1 ⟨rfl, rfl⟩
  go_wp2_with (go_at_call 47; (with_reducible refine (rover_any 1 a _ (by unfold InR; omega)).mono ?_); rintro e w' ⟨rfl, rfl⟩)
  go_ret2
  exact ⟨rfl, Below.refl _ _⟩
set_option maxHeartbeats 1000000 in
theorem one_5 (a : Int) (w : World) (hT : Tab w) (ha : InR a) : Calls Tryd.prog 33 #[.int .i64 5, .int .i64 a] w fun e w' => e = .returned (.tuple #[.int .i64 (powI 2 a), .bool true]) ∧ Below w.heap.size w w' := by
  have HT := Lib.hid hT
  clear hT
  go_enter Tryd.func33, Tryd.ntmps33
  go_wp2_with fail
  refine (has_b 5 1 true _ (by decide) HT.out).mono ?_
  rintro e w1 ⟨rfl, hb1⟩
  go_wp2_with (go_at_call 44; (with_reducible refine (power_any 2 a _ (by unfold InR; omega) ha).mono ?_); rintro e w' ⟨rfl, rfl⟩)
  go_ret2
  exact ⟨rfl, hb1⟩
set_option maxHeartbeats 1000000 in
theorem rone_5 (a : Int) (w : World) (ha : InR a) : Calls Tryd.prog 34 #[.int .i64 5, .int .i64 a] w fun e w' => e = .returned (.tuple #[.int .i64 (powI 2 a), .bool true]) ∧ Below w.heap.size w w' := by
  go_enter Tryd.func34, Tryd.ntmps34
  go_wp2_with fail
  refine (rhas_b 5 1 true _ (by decide)).mono ?_
  rintro e w1 ⟨rfl, rfl⟩
  go_wp2_with fail
  refine (rpower_any 2 a _ ha).mono ?_
  rintro e w1 ⟨rfl, hb1⟩
  go_wp2
  go_ret2
  exact ⟨rfl, hb1⟩
set_option maxHeartbeats 1000000 in
theorem one_6 (a : Int) (w : World) (hT : Tab w) (ha : InR a) : Calls Tryd.prog 33 #[.int .i64 6, .int .i64 a] w fun e w' => e = .returned (.tuple #[.int .i64 (wrap64 (a * signI a)), .bool true]) ∧ Below w.heap.size w w' := by
  have HT := Lib.hid hT
  clear hT
  go_enter Tryd.func33, Tryd.ntmps33
  go_wp2_with fail
  refine (has_b 6 1 true _ (by decide) HT.out).mono ?_
  rintro e w1 ⟨rfl, hb1⟩
  go_wp2_with (go_at_call 42; (with_reducible refine (sign_any a _).mono ?_); rintro e w' ⟨rfl, rfl⟩)
  go_ret2
  exact ⟨rfl, hb1⟩
set_option maxHeartbeats 1000000 in
theorem rone_6n (a : Int) (w : World) (ha : InR a) (h : a < 0) : Calls Tryd.prog 34 #[.int .i64 6, .int .i64 a] w fun e w' => e = .returned (.tuple #[.int .i64 (wrap64 (-a)), .bool true]) ∧ Below w.heap.size w w' := by
  go_enter Tryd.func34, Tryd.ntmps34
  go_wp2_with fail
  refine (rhas_b 6 1 true _ (by decide)).mono ?_
  rintro e w1 ⟨rfl, rfl⟩
  go_wp2
  go_ret2
  exact ⟨rfl, Below.refl _ _⟩
set_option maxHeartbeats 1000000 in
theorem rone_6p (a : Int) (w : World) (ha : InR a) (h : 0 ≤ a) : Calls Tryd.prog 34 #[.int .i64 6, .int .i64 a] w fun e w' => e = .returned (.tuple #[.int .i64 (a), .bool true]) ∧ Below w.heap.size w w' := by
  go_enter Tryd.func34, Tryd.ntmps34
  go_wp2_with fail
  refine (rhas_b 6 1 true _ (by decide)).mono ?_
  rintro e w1 ⟨rfl, rfl⟩
  go_wp2
  go_ret2
  exact ⟨rfl, Below.refl _ _⟩
set_option maxHeartbeats 1000000 in
theorem one_17 (a : Int) (w : World) (hT : Tab w) (ha : InR a) : Calls Tryd.prog 33 #[.int .i64 17, .int .i64 a] w fun e w' => e = .returned (.tuple #[.int .i64 (a), .bool true]) ∧ Below w.heap.size w w' := by
  have HT := Lib.hid hT
  clear hT
  go_enter Tryd.func33, Tryd.ntmps33
  go_wp2_with fail
  refine (has_b 17 1 true _ (by decide) HT.out).mono ?_
  rintro e w1 ⟨rfl, hb1⟩
  go_wp2
  go_ret2
  exact ⟨rfl, hb1⟩
set_option maxHeartbeats 1000000 in
theorem rone_17 (a : Int) (w : World) (ha : InR a) : Calls Tryd.prog 34 #[.int .i64 17, .int .i64 a] w fun e w' => e = .returned (.tuple #[.int .i64 (a), .bool true]) ∧ Below w.heap.size w w' := by
  go_enter Tryd.func34, Tryd.ntmps34
  go_wp2_with fail
  refine (rhas_b 17 1 true _ (by decide)).mono ?_
  rintro e w1 ⟨rfl, rfl⟩
  go_wp2
  go_ret2
  exact ⟨rfl, Below.refl _ _⟩
set_option maxHeartbeats 1000000 in
theorem one_18 (a : Int) (w : World) (hT : Tab w) (ha : InR a) : Calls Tryd.prog 33 #[.int .i64 18, .int .i64 a] w fun e w' => e = .returned (.tuple #[.int .i64 (a), .bool true]) ∧ Below w.heap.size w w' := by
  have HT := Lib.hid hT
  clear hT
  go_enter Tryd.func33, Tryd.ntmps33
  go_wp2_with fail
  refine (has_b 18 1 true _ (by decide) HT.out).mono ?_
  rintro e w1 ⟨rfl, hb1⟩
  go_wp2
  go_ret2
  exact ⟨rfl, hb1⟩
set_option maxHeartbeats 1000000 in
theorem rone_18 (a : Int) (w : World) (ha : InR a) : Calls Tryd.prog 34 #[.int .i64 18, .int .i64 a] w fun e w' => e = .returned (.tuple #[.int .i64 (a), .bool true]) ∧ Below w.heap.size w w' := by
  go_enter Tryd.func34, Tryd.ntmps34
  go_wp2_with fail
  refine (rhas_b 18 1 true _ (by decide)).mono ?_
  rintro e w1 ⟨rfl, rfl⟩
  go_wp2
  go_ret2
  exact ⟨rfl, Below.refl _ _⟩
set_option maxHeartbeats 1000000 in
theorem one_19 (a : Int) (w : World) (hT : Tab w) (ha : InR a) : Calls Tryd.prog 33 #[.int .i64 19, .int .i64 a] w fun e w' => e = .returned (.tuple #[.int .i64 (tB (a == 0)), .bool true]) ∧ Below w.heap.size w w' := by
  have HT := Lib.hid hT
  clear hT
  go_enter Tryd.func33, Tryd.ntmps33
  go_wp2_with fail
  refine (has_b 19 1 true _ (by decide) HT.out).mono ?_
  rintro e w1 ⟨rfl, hb1⟩
  go_wp2_with (go_at_call 45; (with_reducible refine (compare_9t a _).mono ?_); rintro e w' ⟨rfl, rfl⟩)
  go_ret2
  exact ⟨rfl, hb1⟩
set_option maxHeartbeats 1000000 in
theorem rone_19 (a : Int) (w : World) (ha : InR a) : Calls Tryd.prog 34 #[.int .i64 19, .int .i64 a] w fun e w' => e = .returned (.tuple #[.int .i64 (tB (a == 0)), .bool true]) ∧ Below w.heap.size w w' := by
  go_enter Tryd.func34, Tryd.ntmps34
  go_wp2_with fail
  refine (rhas_b 19 1 true _ (by decide)).mono ?_
  rintro e w1 ⟨rfl, rfl⟩
  go_wp2_with (go_at_call 46; (with_reducible refine (truth_t _ _).mono ?_); rintro e w' ⟨rfl, rfl⟩)
  go_ret2
  exact ⟨rfl, Below.refl _ _⟩
def oneB (c : Int) : Bool := hasB c 1
theorem one_cases (c : Int) : (c = 1 ∨ c = 2 ∨ c = 3 ∨ c = 4 ∨ c = 5 ∨ c = 6 ∨ c = 17 ∨ c = 18 ∨ c = 19) ∨ (hasB c 1 = false ∧ ∀ a, oneI c a = 0) := by
  by_cases h : c = 1 ∨ c = 2 ∨ c = 3 ∨ c = 4 ∨ c = 5 ∨ c = 6 ∨ c = 17 ∨ c = 18 ∨ c = 19
  · exact .inl h
  · refine .inr ⟨?_, fun a => ?_⟩
    · by_cases h1 : 1 ≤ c ∧ c ≤ 19
      · obtain ⟨k, rfl⟩ : ∃ k : Nat, c = k := ⟨c.toNat, by omega⟩
        have hk : ∀ k : Nat, k < 20 → 7 ≤ k → k ≤ 16 → (trL.getD k noTr).one = false := by decide
        have e : trOf (k : Int) = trL.getD k noTr := trOf_in h1.1 h1.2
        simp only [hasB, e]
        simpa using hk k (by omega) (by omega) (by omega)
      · have e : trOf c = noTr := trOf_out (by omega)
        simp [hasB, e, noTr]
    · unfold oneI
      rw [if_neg (by omega), if_neg (by omega), if_neg (by omega), if_neg (by omega), if_neg (by omega), if_neg (by omega), if_neg (by omega), if_neg (by omega), if_neg (by omega)]
set_option maxHeartbeats 1000000 in
theorem one_out (c a : Int) (w : World) (hT : Tab w) (h : hasB c 1 = false) : Calls Tryd.prog 33 #[.int .i64 c, .int .i64 a] w fun e w' => e = .returned (.tuple #[.int .i64 0, .bool false]) ∧ Below w.heap.size w w' := by
  have HT := Lib.hid hT
  have H := Lib.hid h
  clear hT h
  go_enter Tryd.func33, Tryd.ntmps33
  go_wp2_with fail
  refine (has_b c 1 false _ H.out HT.out).mono ?_
  rintro e w1 ⟨rfl, hb1⟩
  go_wp2
  go_ret2
  exact ⟨rfl, hb1⟩
set_option maxHeartbeats 1000000 in
theorem rone_out (c a : Int) (w : World) (h : hasB c 1 = false) : Calls Tryd.prog 34 #[.int .i64 c, .int .i64 a] w fun e w' => e = .returned (.tuple #[.int .i64 0, .bool false]) ∧ Below w.heap.size w w' := by
  have H := Lib.hid h
  clear h
  go_enter Tryd.func34, Tryd.ntmps34
  go_wp2_with fail
  refine (rhas_b c 1 false _ H.out).mono ?_
  rintro e w1 ⟨rfl, rfl⟩
  go_wp2
  go_ret2
  exact ⟨rfl, Below.refl _ _⟩
theorem oneI_1 (a : Int) : oneI 1 a = a := by
  unfold oneI
  rw [if_pos rfl]
theorem has1_1 : hasB 1 1 = true := by decide
theorem oneI_2 (a : Int) : oneI 2 a = wrap64 (-a) := by
  unfold oneI
  rw [if_neg (by decide), if_pos rfl]
theorem has1_2 : hasB 2 1 = true := by decide
theorem oneI_3 (a : Int) : oneI 3 a = signI a := by
  unfold oneI
  rw [if_neg (by decide), if_neg (by decide), if_pos rfl]
theorem has1_3 : hasB 3 1 = true := by decide
theorem oneI_4 (a : Int) : oneI 4 a = overI 1 a := by
  unfold oneI
  rw [if_neg (by decide), if_neg (by decide), if_neg (by decide), if_pos rfl]
theorem has1_4 : hasB 4 1 = true := by decide
theorem oneI_5 (a : Int) : oneI 5 a = powI 2 a := by
  unfold oneI
  rw [if_neg (by decide), if_neg (by decide), if_neg (by decide), if_neg (by decide), if_pos rfl]
theorem has1_5 : hasB 5 1 = true := by decide
theorem oneI_6 (a : Int) : oneI 6 a = wrap64 (a * signI a) := by
  unfold oneI
  rw [if_neg (by decide), if_neg (by decide), if_neg (by decide), if_neg (by decide), if_neg (by decide), if_pos rfl]
theorem has1_6 : hasB 6 1 = true := by decide
theorem oneI_17 (a : Int) : oneI 17 a = a := by
  unfold oneI
  rw [if_neg (by decide), if_neg (by decide), if_neg (by decide), if_neg (by decide), if_neg (by decide), if_neg (by decide), if_pos rfl]
theorem has1_17 : hasB 17 1 = true := by decide
theorem oneI_18 (a : Int) : oneI 18 a = a := by
  unfold oneI
  rw [if_neg (by decide), if_neg (by decide), if_neg (by decide), if_neg (by decide), if_neg (by decide), if_neg (by decide), if_neg (by decide), if_pos rfl]
theorem has1_18 : hasB 18 1 = true := by decide
theorem oneI_19 (a : Int) : oneI 19 a = tB (a == 0) := by
  unfold oneI
  rw [if_neg (by decide), if_neg (by decide), if_neg (by decide), if_neg (by decide), if_neg (by decide), if_neg (by decide), if_neg (by decide), if_neg (by decide), if_pos rfl]
theorem has1_19 : hasB 19 1 = true := by decide
theorem one_any (c a : Int) (w : World) (hT : Tab w) (ha : InR a) : Calls Tryd.prog 33 #[.int .i64 c, .int .i64 a] w fun e w' => e = .returned (.tuple #[.int .i64 (oneI c a), .bool (hasB c 1)]) ∧ Below w.heap.size w w' := by
  rcases one_cases c with (h | h | h | h | h | h | h | h | h) | ⟨h, h0⟩
  · subst h; rw [oneI_1, has1_1]; exact one_1 a w hT ha
  · subst h; rw [oneI_2, has1_2]; exact one_2 a w hT ha
  · subst h; rw [oneI_3, has1_3]; exact one_3 a w hT ha
  · subst h; rw [oneI_4, has1_4]; exact one_4 a w hT ha
  · subst h; rw [oneI_5, has1_5]; exact one_5 a w hT ha
  · subst h; rw [oneI_6, has1_6]; exact one_6 a w hT ha
  · subst h; rw [oneI_17, has1_17]; exact one_17 a w hT ha
  · subst h; rw [oneI_18, has1_18]; exact one_18 a w hT ha
  · subst h; rw [oneI_19, has1_19]; exact one_19 a w hT ha
  · rw [h, h0]; exact one_out c a w hT h
theorem one_eq {k a x y : Int} {w : World} (h : x = y) (hc : Calls Tryd.prog 34 #[.int .i64 k, .int .i64 a] w fun e w' => e = .returned (.tuple #[.int .i64 x, .bool true]) ∧ Below w.heap.size w w') :
    Calls Tryd.prog 34 #[.int .i64 k, .int .i64 a] w fun e w' => e = .returned (.tuple #[.int .i64 y, .bool true]) ∧ Below w.heap.size w w' := by
  subst h; exact hc
theorem rone_any (c a : Int) (w : World) (ha : InR a) : Calls Tryd.prog 34 #[.int .i64 c, .int .i64 a] w fun e w' => e = .returned (.tuple #[.int .i64 (oneI c a), .bool (hasB c 1)]) ∧ Below w.heap.size w w' := by
  rcases one_cases c with (h | h | h | h | h | h | h | h | h) | ⟨h, h0⟩
  · subst h; rw [oneI_1, has1_1]; exact rone_1 a w ha
  · subst h; rw [oneI_2, has1_2]; exact rone_2 a w ha
  · subst h; rw [oneI_3, has1_3]; exact one_eq (sign_tB a) (rone_3 a w ha)
  · subst h; rw [oneI_4, has1_4]; exact rone_4 a w ha
  · subst h; rw [oneI_5, has1_5]; exact rone_5 a w ha
  · subst h
    rw [oneI_6, has1_6]
    by_cases hn : a < 0
    · exact one_eq (abs_neg hn) (rone_6n a w ha hn)
    · exact one_eq (abs_pos ha (by omega)) (rone_6p a w ha (by omega))
  · subst h; rw [oneI_17, has1_17]; exact rone_17 a w ha
  · subst h; rw [oneI_18, has1_18]; exact rone_18 a w ha
  · subst h; rw [oneI_19, has1_19]; exact rone_19 a w ha
  · rw [h, h0]; exact rone_out c a w h
end Go.Proofs.YthabimjmdnhomaaDoor.Sc
