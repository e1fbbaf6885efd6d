/-
  What scalar.over, rest, odd, fraction, power, compare and sign, and riffleref04.over, truth answer for any numbers; the world is as it was. Condition: the numbers have 64 bits.
-/
import Derived.Test.YthabimjmdnhomaaDoorProg
import Derived.Test.YthabimjmdnhomaaDoorScMath
import Derived.WalkKit
import Derived.WalkSpells
import Derived.Lib.Hide
namespace Go.Proofs.YthabimjmdnhomaaDoor.Sc
open Go.RowKit
set_option linter.unusedVariables false

theorem ret_int {k : IntKind} {a b : Int} (h : a = b) : Ending.returned (.int k a) = .returned (.int k b) := by rw [h]
theorem ret_bool {a b : Bool} (h : a = b) : Ending.returned (.bool a) = .returned (.bool b) := by rw [h]
theorem ret_two {k : IntKind} {a b : Int} {c d : Bool} (h : a = b) (h' : c = d) : Ending.returned (.tuple #[.int k a, .bool c]) = .returned (.tuple #[.int k b, .bool d]) := by rw [h, h']
theorem below_drewN {B : Nat} {a w : World} (h : Below B a w) (n : Nat) : Below B a (w.drewN n) := ⟨h.os, h.tape, h.output, h.size, h.block⟩
theorem below_next {a b c : World} (h : Below a.heap.size a b) (k : Below b.heap.size b c) : Below a.heap.size a c := h.trans (k.mono h.size)

set_option maxHeartbeats 1000000 in
theorem over_any (a b : Int) (w : World) : Calls Tryd.prog 43 #[.int .i64 a, .int .i64 b] w fun e w' => e = .returned (.int .i64 (overI a b)) ∧ w = w' := by
  by_cases hb : b = 0
  · subst hb
    go_enter Tryd.func43, Tryd.ntmps43
    go_wp2
    go_ret
    exact ⟨ret_int (by simp [overI]), rfl⟩
  · have hb0 : (b == 0) = false := by simpa using hb
    by_cases hc : ¬ a.tmod b = 0 ∧ ¬ ((a < 0) ↔ (b < 0))
    · have HV : Hid (overI a b = wrap64 (wrap64 (a.tdiv b) - 1)) := Lib.hid (by unfold overI; rw [if_neg hb, if_pos hc])
      have h1 : (a.tmod b != 0) = true := by simpa using hc.1
      have h2 : (!decide (a < 0) == decide (b < 0)) = true := by
        have := hc.2
        by_cases h3 : a < 0 <;> by_cases h4 : b < 0 <;> simp [h3, h4] at this ⊢
      have h3 : (decide (a < 0) != decide (b < 0)) = true := h2
      have h4 : ¬ a.tmod b = 0 := hc.1
      clear hc hb
      go_enter Tryd.func43, Tryd.ntmps43
      go_wp2
      all_goals first | (go_ret; exact ⟨ret_int HV.out.symm, rfl⟩) | simp_all
    · have HV : Hid (overI a b = wrap64 (a.tdiv b)) := Lib.hid (by unfold overI; rw [if_neg hb, if_neg hc])
      by_cases h4 : a.tmod b = 0
      · clear hc hb
        go_enter Tryd.func43, Tryd.ntmps43
        go_wp2
        all_goals first | (go_ret; exact ⟨ret_int HV.out.symm, rfl⟩) | simp_all
      · have h1 : (a.tmod b != 0) = true := by simpa using h4
        have h2 : (!decide (a < 0) == decide (b < 0)) = false := by
          have hd : (a < 0) ↔ (b < 0) := Classical.not_not.1 (fun h => hc ⟨h4, h⟩)
          by_cases h3 : a < 0 <;> by_cases h5 : b < 0 <;> simp [h3, h5] at hd ⊢
        have h3 : (decide (a < 0) != decide (b < 0)) = false := h2
        clear hc hb
        go_enter Tryd.func43, Tryd.ntmps43
        go_wp2
        all_goals first | (go_ret; exact ⟨ret_int HV.out.symm, rfl⟩) | simp_all

set_option maxHeartbeats 1000000 in
theorem rover_any (a b : Int) (w : World) (ha : InR a) : Calls Tryd.prog 47 #[.int .i64 a, .int .i64 b] w fun e w' => e = .returned (.int .i64 (overI a b)) ∧ w = w' := by
  by_cases hb : b = 0
  · subst hb
    clear ha
    go_enter Tryd.func47, Tryd.ntmps47
    go_wp2
    go_ret
    exact ⟨ret_int (by simp [overI]), rfl⟩
  · have hb0 : (b == 0) = false := by simpa using hb
    by_cases hb1 : b = -1
    · subst hb1
      have HV := Lib.hid (over_m1 a)
      clear ha
      go_enter Tryd.func47, Tryd.ntmps47
      go_wp2
      go_ret
      exact ⟨ret_int (by rw [HV.out]; first | rfl | simp), rfl⟩
    · have hb2 : (b == -1) = false := by simpa using hb1
      obtain ⟨e1, e2⟩ := over_ref ha hb hb1
      rw [e1] at e2
      have hp := fun h => tmod_pos (a := a) (b := b) h
      have hv1 : ¬ a.tmod b = 0 → ¬ ((a < 0) ↔ (b < 0)) → overI a b = wrap64 (a.tdiv b - 1) := fun h1 h2 => by unfold overI; rw [if_neg hb, if_pos ⟨h1, h2⟩, e1]
      have hv2 : ¬ (¬ a.tmod b = 0 ∧ ¬ ((a < 0) ↔ (b < 0))) → overI a b = a.tdiv b := fun h1 => by unfold overI; rw [if_neg hb, if_neg h1, e1]
      by_cases h4 : a.tmod b = 0
      · have HV := Lib.hid (hv2 (fun h => h.1 h4))
        rw [h4] at e2
        clear hp hv1 hv2 ha h4
        go_enter Tryd.func47, Tryd.ntmps47
        go_wp2
        go_ret
        exact ⟨ret_int (by first | exact HV.out.symm | (rw [HV.out]; exact e1)), rfl⟩
      · have h1 : (a.tmod b != 0) = true := by simpa using h4
        have hpp := hp h4
        by_cases h5 : (a < 0) ↔ (b < 0)
        · have HV := Lib.hid (hv2 (fun h => h.2 h5))
          have h2 : (decide (0 < a.tmod b) != decide (0 < b)) = false := by
            by_cases h6 : 0 < a.tmod b <;> by_cases h7 : 0 < b <;> simp [h6, h7] <;> omega
          have h3 : (!decide (0 < a.tmod b) == decide (0 < b)) = false := h2
          clear hp hv1 hv2 ha hpp h5
          go_enter Tryd.func47, Tryd.ntmps47
          go_wp2
          go_ret
          exact ⟨ret_int (by first | exact HV.out.symm | (rw [HV.out]; exact e1)), rfl⟩
        · have HV := Lib.hid (hv1 h4 h5)
          have h2 : (decide (0 < a.tmod b) != decide (0 < b)) = true := by
            by_cases h6 : 0 < a.tmod b <;> by_cases h7 : 0 < b <;> simp [h6, h7] <;> omega
          have h3 : (!decide (0 < a.tmod b) == decide (0 < b)) = true := h2
          clear hp hv1 hv2 ha hpp h5
          go_enter Tryd.func47, Tryd.ntmps47
          go_wp2
          go_ret
          exact ⟨ret_int (by first | exact HV.out.symm | (rw [HV.out]; exact e1)), rfl⟩

set_option maxHeartbeats 400000 in
theorem rest_any (a b : Int) (w : World) : Calls Tryd.prog 51 #[.int .i64 a, .int .i64 b] w fun e w' => e = .returned (.int .i64 (restI a b)) ∧ w = w' := by
  go_enter Tryd.func51, Tryd.ntmps51
  go_wp2_with (go_at_call 43; refine (over_any _ _ _).mono ?_; rintro e w' ⟨rfl, rfl⟩)
  go_ret
  exact ⟨rfl, rfl⟩

set_option maxHeartbeats 400000 in
theorem odd_any (a : Int) (w : World) : Calls Tryd.prog 53 #[.int .i64 a] w fun e w' => e = .returned (.bool (decide (a % 2 = 1))) ∧ w = w' := by
  go_enter Tryd.func53, Tryd.ntmps53
  go_wp2
  go_ret
  exact ⟨ret_bool (by rw [bits_one]; by_cases h : a % 2 = 1 <;> simp [h]), rfl⟩
theorem odd_yes (a : Int) (w : World) (h : a % 2 = 1) : Calls Tryd.prog 53 #[.int .i64 a] w fun e w' => e = .returned (.bool true) ∧ w = w' :=
  (odd_any a w).mono fun _ _ ⟨e, q⟩ => ⟨by rw [e, decide_eq_true h], q⟩
theorem odd_no (a : Int) (w : World) (h : ¬ a % 2 = 1) : Calls Tryd.prog 53 #[.int .i64 a] w fun e w' => e = .returned (.bool false) ∧ w = w' :=
  (odd_any a w).mono fun _ _ ⟨e, q⟩ => ⟨by rw [e, decide_eq_false h], q⟩

set_option maxHeartbeats 1000000 in
theorem fraction_any (a b : Int) (w : World) (hb : b < 0) : Calls Tryd.prog 52 #[.int .i64 a, .int .i64 b] w fun e w' => e = .returned (.int .i64 (powI a b)) ∧ w = w' := by
  by_cases h1 : a = 1
  · subst h1
    have HV : Hid (powI 1 b = 1) := Lib.hid (by simp [powI, hb])
    go_enter Tryd.func52, Tryd.ntmps52
    go_wp2
    go_ret
    exact ⟨ret_int HV.out.symm, rfl⟩
  · have h1b : (a == 1) = false := by simpa using h1
    by_cases h2 : a = -1
    · subst h2
      by_cases h3 : b % 2 = 1
      · have H3 := Lib.hid h3
        have HV : Hid (powI (-1) b = -1) := Lib.hid (by simp [powI, hb, h3])
        clear h3
        go_enter Tryd.func52, Tryd.ntmps52
        go_wp2_with (go_at_call 53; refine (odd_yes _ _ H3.out).mono ?_; rintro e w' ⟨rfl, rfl⟩)
        go_ret
        exact ⟨ret_int HV.out.symm, rfl⟩
      · have H3 := Lib.hid h3
        have HV : Hid (powI (-1) b = 1) := Lib.hid (by have : b % 2 = 0 := by omega
                                                       simp [powI, hb, this])
        clear h3
        go_enter Tryd.func52, Tryd.ntmps52
        go_wp2_with (go_at_call 53; refine (odd_no _ _ H3.out).mono ?_; rintro e w' ⟨rfl, rfl⟩)
        go_ret
        exact ⟨ret_int HV.out.symm, rfl⟩
    · have h2b : (a == -1) = false := by simpa using h2
      have HV : Hid (powI a b = 0) := Lib.hid (by simp [powI, hb, h1, h2])
      clear h1 h2
      go_enter Tryd.func52, Tryd.ntmps52
      go_wp2
      go_ret
      exact ⟨ret_int HV.out.symm, rfl⟩

set_option maxHeartbeats 1000000 in
theorem power_any (a b : Int) (w : World) (ha : InR a) (hbR : InR b) : Calls Tryd.prog 44 #[.int .i64 a, .int .i64 b] w fun e w' => e = .returned (.int .i64 (powI a b)) ∧ w = w' := by
  by_cases hb : b < 0
  · go_enter Tryd.func44, Tryd.ntmps44
    go_wp2_with (go_at_call 52; refine (fraction_any _ _ _ hb).mono ?_; rintro e w' ⟨rfl, rfl⟩)
    go_ret
    exact ⟨rfl, rfl⟩
  · have hb0 : 0 ≤ b := by omega
    have hb1 : b ≤ 9223372036854775807 := hbR.2
    have HV : Hid (powI a b = wrap64 (a ^ b.toNat)) := Lib.hid (by unfold powI; rw [if_neg hb])
    clear hb
    go_enter Tryd.func44, Tryd.ntmps44
    go_wp2
    go_loop [1, 5, 6] (fun n p s => ∃ k x y : Int, 0 ≤ k ∧ k ≤ 9223372036854775807 ∧ n = .int .i64 k ∧ p = .int .i64 x ∧ s = .int .i64 y ∧ InR x ∧ wrap64 (x * y ^ k.toNat) = wrap64 (a ^ b.toNat)) (fun n _ _ => (intOf n).toNat)
    case atStart => exact ⟨b, 1, a, hb0, hb1, rfl, rfl, rfl, by unfold InR; omega, by rw [Int.one_mul]⟩
    case round =>
      obtain ⟨k, x, y, hk, hk1, rfl, rfl, rfl, hx, hinv⟩ := hrel
      have HX := Lib.hid hx
      have HI := Lib.hid hinv
      clear hx hinv
      by_cases hlt : 0 < k
      · by_cases ho : k % 2 = 1
        · have HO := Lib.hid ho
          have hs := Lib.hid (sq_odd x y k.toNat (by omega))
          clear ho
          go_wp2_with (go_at_call 53; refine (odd_yes _ _ HO.out).mono ?_; rintro e w' ⟨rfl, rfl⟩)
          go_round
          case rel => exact ⟨k / 2, wrap64 (x * y), wrap64 (y * y), by omega, by omega, rfl, rfl, rfl, wrap_R _, by rw [show (k / 2).toNat = k.toNat / 2 from by omega, hs.out]; exact HI.out⟩
          case measure => simp [intOf]; omega
        · have HO := Lib.hid ho
          have hs := Lib.hid (sq_even x y k.toNat (by omega))
          clear ho
          go_wp2_with (go_at_call 53; refine (odd_no _ _ HO.out).mono ?_; rintro e w' ⟨rfl, rfl⟩)
          go_round
          case rel => exact ⟨k / 2, x, wrap64 (y * y), by omega, by omega, rfl, rfl, rfl, HX.out, by rw [show (k / 2).toNat = k.toNat / 2 from by omega, hs.out]; exact HI.out⟩
          case measure => simp [intOf]; omega
      · obtain rfl : k = 0 := by omega
        go_wp2
        go_ret
        exact ⟨ret_int (by rw [HV.out, ← HI.out]; simp [wrap_in HX.out]), rfl⟩

set_option maxHeartbeats 400000 in
theorem truth_any (b : Bool) (w : World) : Calls Tryd.prog 46 #[.bool b] w fun e w' => e = .returned (.int .i64 (if b = true then 1 else 0)) ∧ w = w' := by
  cases b
  · go_enter Tryd.func46, Tryd.ntmps46
    go_wp2
    go_ret
    exact ⟨rfl, rfl⟩
  · go_enter Tryd.func46, Tryd.ntmps46
    go_wp2
    go_ret
    exact ⟨rfl, rfl⟩

set_option maxHeartbeats 1000000 in
theorem compare_9 (a b : Int) (w : World) : Calls Tryd.prog 45 #[.int .i64 9, .int .i64 a, .int .i64 b] w fun e w' => e = .returned (.int .i64 (if a = b then 1 else 0)) ∧ w = w' := by
  by_cases h : a = b
  · subst h
    rw [if_pos rfl]
    go_enter Tryd.func45, Tryd.ntmps45
    go_wp2
    go_ret
    exact ⟨rfl, rfl⟩
  · rw [if_neg h]
    have h1 : (a == b) = false := by simpa using h
    have h2 : (a != b) = true := by simpa using h
    clear h
    go_enter Tryd.func45, Tryd.ntmps45
    go_wp2
    go_ret
    exact ⟨rfl, rfl⟩
set_option maxHeartbeats 1000000 in
theorem compare_10 (a b : Int) (w : World) : Calls Tryd.prog 45 #[.int .i64 10, .int .i64 a, .int .i64 b] w fun e w' => e = .returned (.int .i64 (if ¬ a = b then 1 else 0)) ∧ w = w' := by
  by_cases h : a = b
  · subst h
    rw [if_neg (by simp)]
    go_enter Tryd.func45, Tryd.ntmps45
    go_wp2
    go_ret
    exact ⟨rfl, rfl⟩
  · rw [if_pos h]
    have h1 : (a == b) = false := by simpa using h
    have h2 : (a != b) = true := by simpa using h
    clear h
    go_enter Tryd.func45, Tryd.ntmps45
    go_wp2
    go_ret
    exact ⟨rfl, rfl⟩
set_option maxHeartbeats 1000000 in
theorem compare_11 (a b : Int) (w : World) : Calls Tryd.prog 45 #[.int .i64 11, .int .i64 a, .int .i64 b] w fun e w' => e = .returned (.int .i64 (if a < b then 1 else 0)) ∧ w = w' := by
  by_cases h : a < b
  · rw [if_pos h]
    go_enter Tryd.func45, Tryd.ntmps45
    go_wp2
    go_ret
    exact ⟨rfl, rfl⟩
  · rw [if_neg h]
    have h1 : b ≤ a := by omega
    have h2 : decide (a < b) = false := by simpa using h
    clear h
    go_enter Tryd.func45, Tryd.ntmps45
    go_wp2
    go_ret
    exact ⟨rfl, rfl⟩
set_option maxHeartbeats 1000000 in
theorem compare_12 (a b : Int) (w : World) : Calls Tryd.prog 45 #[.int .i64 12, .int .i64 a, .int .i64 b] w fun e w' => e = .returned (.int .i64 (if a ≤ b then 1 else 0)) ∧ w = w' := by
  by_cases h : a ≤ b
  · rw [if_pos h]
    go_enter Tryd.func45, Tryd.ntmps45
    go_wp2
    go_ret
    exact ⟨rfl, rfl⟩
  · rw [if_neg h]
    have h1 : b < a := by omega
    have h2 : decide (a ≤ b) = false := by simpa using h
    clear h
    go_enter Tryd.func45, Tryd.ntmps45
    go_wp2
    go_ret
    exact ⟨rfl, rfl⟩
set_option maxHeartbeats 1000000 in
theorem compare_13 (a b : Int) (w : World) : Calls Tryd.prog 45 #[.int .i64 13, .int .i64 a, .int .i64 b] w fun e w' => e = .returned (.int .i64 (if b < a then 1 else 0)) ∧ w = w' := by
  by_cases h : b < a
  · rw [if_pos h]
    go_enter Tryd.func45, Tryd.ntmps45
    go_wp2
    go_ret
    exact ⟨rfl, rfl⟩
  · rw [if_neg h]
    have h1 : a ≤ b := by omega
    have h2 : decide (b < a) = false := by simpa using h
    clear h
    go_enter Tryd.func45, Tryd.ntmps45
    go_wp2
    go_ret
    exact ⟨rfl, rfl⟩
set_option maxHeartbeats 1000000 in
theorem compare_14 (a b : Int) (w : World) : Calls Tryd.prog 45 #[.int .i64 14, .int .i64 a, .int .i64 b] w fun e w' => e = .returned (.int .i64 (if b ≤ a then 1 else 0)) ∧ w = w' := by
  by_cases h : b ≤ a
  · rw [if_pos h]
    go_enter Tryd.func45, Tryd.ntmps45
    go_wp2
    go_ret
    exact ⟨rfl, rfl⟩
  · rw [if_neg h]
    have h1 : a < b := by omega
    have h2 : decide (b ≤ a) = false := by simpa using h
    clear h
    go_enter Tryd.func45, Tryd.ntmps45
    go_wp2
    go_ret
    exact ⟨rfl, rfl⟩

/-- 1, 0 or -1. -/
def signI (a : Int) : Int := (if 0 < a then 1 else 0) - (if a < 0 then 1 else 0)
set_option maxHeartbeats 400000 in
theorem sign_any (a : Int) (w : World) : Calls Tryd.prog 42 #[.int .i64 a] w fun e w' => e = .returned (.int .i64 (signI a)) ∧ w = w' := by
  have HV : Hid (wrap64 ((if 0 < a then 1 else 0) - (if a < 0 then 1 else 0)) = signI a) := Lib.hid (wrap_in (by unfold InR; split <;> split <;> omega))
  go_enter Tryd.func42, Tryd.ntmps42
  go_wp2_with fail
  refine (compare_13 _ _ _).mono ?_
  rintro e w1 ⟨rfl, rfl⟩
  generalize hx : (if 0 < a then (1 : Int) else 0) = x at *
  go_wp2_with fail
  refine (compare_11 _ _ _).mono ?_
  rintro e w1 ⟨rfl, rfl⟩
  generalize hy : (if a < 0 then (1 : Int) else 0) = y at *
  have HX := Lib.hid hx
  have HY := Lib.hid hy
  clear hx hy
  go_wp2
  go_ret
  exact ⟨ret_int HV.out, rfl⟩
end Go.Proofs.YthabimjmdnhomaaDoor.Sc
