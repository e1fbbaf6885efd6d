/-
  Plain facts on numbers of 64 bits that go round, for layer 4: division rounded down, powers by squares, bits. No condition; nothing of the program stands here. What scalar.over, rest, odd, fraction, power, compare and sign, and riffleref04.over, truth answer for any numbers; the world is as it was. Condition: the numbers have 64 bits. What riffleref04.power answers for any numbers: the same as powers by squares; nothing that was there is written. Condition: the numbers have 64 bits. The table of what is known of scalar functions (scalar.traits), out of what the row lists; what glyph.Class and scalar.lookUp answer of any code. Condition: the table holds what its text lays. What glyph.Class, scalar.lookUp, Has, Unit, Joins and Picks, and riffleref04.Has, Unit and Joins answer of any code; nothing that was there is written. Condition: the table of traits holds what its text lays. What scalar.Two and scalar.Do answer of any code and any numbers; nothing that was there is written. Conditions: the table of traits holds what its text lays; the numbers have 64 bits. What riffleref04.Unit and riffleref04.Joins answer of any code; nothing that was there is written. No condition.
-/
import Derived.WalkKit
import Derived.Deep.Draws
import Derived.Laws.BitsAllLaws
import Derived.Laws.BitsLemmas
import Derived.Test.YtbanegjmapgkdaaDoorProg
import Derived.WalkSpells
import Derived.Lib.Hide
import Derived.Test.YtbanegjmapgkdaaDoorPkC
import Derived.Test.YtbanegjmapgkdaaDoorRows
import Derived.Lib.LaidU8
import Derived.OpenShut
set_option maxRecDepth 100000
-- ScMath
namespace Go.Proofs.YtbanegjmapgkdaaDoor.Sc
open Go.RowKit
set_option linter.unusedVariables false

/-- A number of 64 bits, with a sign. -/
def InR (a : Int) : Prop := -9223372036854775808 ≤ a ∧ a ≤ 9223372036854775807
theorem wrap_def (x : Int) : wrap64 x = (x + 9223372036854775808) % 18446744073709551616 - 9223372036854775808 := by unfold wrap64; rfl
theorem wrap_in {x : Int} (h : InR x) : wrap64 x = x := by rw [wrap_def]; unfold InR at h; omega
theorem wrap_0 : wrap64 0 = 0 := wrap_in (by unfold InR; omega)
theorem wrap_R (x : Int) : InR (wrap64 x) := by rw [wrap_def]; unfold InR; omega
theorem wrap_mod (x : Int) : wrap64 x % 18446744073709551616 = x % 18446744073709551616 := by rw [wrap_def]; omega
theorem wrap_iff {x y : Int} : wrap64 x = wrap64 y ↔ x % 18446744073709551616 = y % 18446744073709551616 := by rw [wrap_def, wrap_def]; omega
theorem wrap_wrap (x : Int) : wrap64 (wrap64 x) = wrap64 x := wrap_in (wrap_R x)
theorem wrap_add_l (x y : Int) : wrap64 (wrap64 x + y) = wrap64 (x + y) := by rw [wrap_iff, Int.add_emod, wrap_mod, ← Int.add_emod]
theorem wrap_add_r (x y : Int) : wrap64 (x + wrap64 y) = wrap64 (x + y) := by rw [wrap_iff, Int.add_emod, wrap_mod, ← Int.add_emod]
theorem wrap_sub_r (x y : Int) : wrap64 (x - wrap64 y) = wrap64 (x - y) := by rw [wrap_iff, Int.sub_emod, wrap_mod, ← Int.sub_emod]
theorem wrap_sub_l (x y : Int) : wrap64 (wrap64 x - y) = wrap64 (x - y) := by rw [wrap_iff, Int.sub_emod, wrap_mod, ← Int.sub_emod]
theorem wrap_mul_l (x y : Int) : wrap64 (wrap64 x * y) = wrap64 (x * y) := by rw [wrap_iff, Int.mul_emod, wrap_mod, ← Int.mul_emod]
theorem wrap_mul_r (x y : Int) : wrap64 (x * wrap64 y) = wrap64 (x * y) := by rw [wrap_iff, Int.mul_emod, wrap_mod, ← Int.mul_emod]
theorem pow_mod (x : Int) (n : Nat) : (wrap64 x) ^ n % 18446744073709551616 = x ^ n % 18446744073709551616 := by
  induction n with
  | zero => rw [Int.pow_zero, Int.pow_zero]
  | succ n ih => rw [Int.pow_succ, Int.pow_succ, Int.mul_emod, ih, wrap_mod, ← Int.mul_emod]
theorem wrap_pow (x y : Int) (n : Nat) : wrap64 (y * wrap64 x ^ n) = wrap64 (y * x ^ n) := by rw [wrap_iff, Int.mul_emod, pow_mod, ← Int.mul_emod]

/-- Divided, rounded down, as it goes round. -/
def overI (a b : Int) : Int :=
  if b = 0 then 0 else if ¬ a.tmod b = 0 ∧ ¬ ((a < 0) ↔ (b < 0)) then wrap64 (wrap64 (a.tdiv b) - 1) else wrap64 (a.tdiv b)
theorem over_R (a b : Int) : InR (overI a b) := by
  unfold overI
  split
  · unfold InR; omega
  · split <;> exact wrap_R _

theorem tdiv_bd {a b : Int} (ha : InR a) (hb : ¬ b = 0) (hb1 : ¬ b = -1) : InR (a.tdiv b) := by
  unfold InR at *
  have h1 := Int.natAbs_tdiv a b
  have h2 : a.natAbs / b.natAbs ≤ a.natAbs := Nat.div_le_self _ _
  by_cases hb2 : b = 1
  · subst hb2; rw [Int.tdiv_one]; exact ha
  · have h3 : a.natAbs / b.natAbs ≤ a.natAbs / 2 := Nat.div_le_div_left (by omega) (by omega)
    have h4 : (a.tdiv b).natAbs ≤ a.natAbs / 2 := by rw [h1]; exact h3
    omega
theorem tmod_eq (a b : Int) : a - a.tdiv b * b = a.tmod b := by have := Int.mul_tdiv_add_tmod a b; rw [Int.mul_comm] at this; omega
theorem tmod_R {a b : Int} (ha : InR a) : InR (a.tmod b) := by
  unfold InR at *
  have h1 := Int.natAbs_tmod a b
  have h2 : a.natAbs % b.natAbs ≤ a.natAbs := Nat.mod_le _ _
  rcases Int.le_total 0 a with h | h
  · have := Int.tmod_nonneg b h; omega
  · have h3 : 0 ≤ (-a).tmod b := Int.tmod_nonneg b (by omega)
    rw [Int.neg_tmod] at h3
    omega
theorem tmod_pos {a b : Int} (h : ¬ a.tmod b = 0) : (0 < a.tmod b ↔ ¬ a < 0) := by
  rcases Int.lt_or_le a 0 with h0 | h0
  · have h3 : 0 ≤ (-a).tmod b := Int.tmod_nonneg b (by omega)
    rw [Int.neg_tmod] at h3
    omega
  · have := Int.tmod_nonneg b h0
    omega
/-- Rounded down: what is left has the sign of b, or is nought. -/
theorem over_rest {a b : Int} (ha : InR a) (hbR : InR b) (hb : ¬ b = 0) :
    wrap64 (b * overI a b + wrap64 (a - wrap64 (b * overI a b))) = a ∧ (wrap64 (a - wrap64 (b * overI a b)) = 0 ∨ (wrap64 (a - wrap64 (b * overI a b)) < 0 ↔ b < 0)) := by
  refine ⟨by rw [wrap_sub_r, wrap_add_r, show b * overI a b + (a - b * overI a b) = a from by omega, wrap_in ha], ?_⟩
  rw [wrap_sub_r]
  by_cases hb1 : b = -1
  · left
    subst hb1
    have e : overI a (-1) = wrap64 (-a) := by
      unfold overI
      rw [if_neg (by decide), if_neg (by simp), show a.tdiv (-1) = -a from by rw [Int.tdiv_neg, Int.tdiv_one]]
    rw [e, ← wrap_sub_r, wrap_mul_r, wrap_sub_r, show a - (-1) * -a = 0 from by omega]; exact wrap_0
  · have hq := tdiv_bd ha hb hb1
    have he := tmod_eq a b
    have hr := tmod_R (b := b) ha
    have hlt : (a.tmod b).natAbs < b.natAbs := by rw [Int.natAbs_tmod]; exact Nat.mod_lt _ (by omega)
    have hp := fun h => tmod_pos (a := a) (b := b) h
    have key : ∀ q, a - b * wrap64 q = a - b * q ∨ True := fun _ => .inr trivial
    unfold overI
    rw [if_neg hb]
    split
    · rename_i hc
      rw [wrap_sub_l, ← wrap_sub_r, wrap_mul_r, wrap_sub_r]
      have hx : a - b * (a.tdiv b - 1) = a.tmod b + b := by rw [Int.mul_sub, Int.mul_comm b (a.tdiv b)]; omega
      rw [hx]
      have h0 := hp hc.1
      have hR : InR (a.tmod b + b) := by unfold InR at *; omega
      rw [wrap_in hR]
      omega
    · rename_i hc
      rw [← wrap_sub_r, wrap_mul_r, wrap_sub_r, Int.mul_comm b, he, wrap_in hr]
      by_cases h0 : a.tmod b = 0
      · exact .inl h0
      · have := hp h0
        right
        omega
/-- The document's way: what is left of a decides. -/
theorem over_ref {a b : Int} (ha : InR a) (hb : ¬ b = 0) (hb1 : ¬ b = -1) :
    wrap64 (a.tdiv b) = a.tdiv b ∧ wrap64 (a - wrap64 (wrap64 (a.tdiv b) * b)) = a.tmod b := by
  have hq := tdiv_bd ha hb hb1
  refine ⟨wrap_in hq, ?_⟩
  rw [wrap_in hq, wrap_sub_r, tmod_eq, wrap_in (tmod_R ha)]
theorem over_m1 (a : Int) : overI a (-1) = wrap64 (0 - a) := by
  unfold overI
  rw [if_neg (by decide), if_neg (by simp), show a.tdiv (-1) = 0 - a from by rw [Int.tdiv_neg, Int.tdiv_one]; omega]

/-- What is left. -/
def restI (a b : Int) : Int := wrap64 (b - wrap64 (a * overI b a))
theorem rest_0 {b : Int} (hb : InR b) : restI 0 b = b := by
  unfold restI
  rw [Int.zero_mul, wrap_0, Int.sub_zero, wrap_in hb]

/-- Powers. -/
def powI (a b : Int) : Int :=
  if b < 0 then (if a = 1 then 1 else if a = -1 then (if b % 2 = 0 then 1 else -1) else 0) else wrap64 (a ^ b.toNat)
theorem pow_R (a b : Int) : InR (powI a b) := by
  unfold powI
  split
  · split
    · unfold InR; omega
    · split
      · split <;> (unfold InR; omega)
      · unfold InR; omega
  · exact wrap_R _
theorem pow_half (s : Int) (k : Nat) : s ^ k = (s * s) ^ (k / 2) * (if k % 2 = 1 then s else 1) := by
  have h : k = 2 * (k / 2) + k % 2 := by omega
  have e : s ^ (2 * (k / 2)) = (s * s) ^ (k / 2) := by rw [Int.pow_mul, Int.pow_succ, Int.pow_succ, Int.pow_zero, Int.one_mul]
  conv => lhs; rw [h]
  rw [Int.pow_add, e]
  rcases (show k % 2 = 0 ∨ k % 2 = 1 from by omega) with h0 | h0 <;> rw [h0] <;> simp [Int.pow_succ]
theorem sq_odd (p s : Int) (k : Nat) (h : k % 2 = 1) : wrap64 (wrap64 (p * s) * wrap64 (s * s) ^ (k / 2)) = wrap64 (p * s ^ k) := by
  rw [wrap_pow, wrap_mul_l, pow_half s k, if_pos h, Int.mul_assoc, Int.mul_comm s]
theorem sq_even (p s : Int) (k : Nat) (h : ¬ k % 2 = 1) : wrap64 (p * wrap64 (s * s) ^ (k / 2)) = wrap64 (p * s ^ k) := by
  rw [wrap_pow, pow_half s k, if_neg h, Int.mul_one]
/-- From the highest bit down. -/
theorem down_odd (a : Int) (m : Nat) (h : m % 2 = 1) : wrap64 (wrap64 (wrap64 (a ^ (m / 2)) * wrap64 (a ^ (m / 2))) * a) = wrap64 (a ^ m) := by
  rw [wrap_mul_l, ← wrap_mul_l, wrap_mul_l (a ^ (m / 2)), wrap_mul_r, wrap_mul_l]
  congr 1
  have h1 : m = m / 2 + m / 2 + 1 := by omega
  conv => rhs; rw [h1]
  rw [Int.pow_succ, Int.pow_add]
theorem down_even (a : Int) (m : Nat) (h : ¬ m % 2 = 1) : wrap64 (wrap64 (a ^ (m / 2)) * wrap64 (a ^ (m / 2))) = wrap64 (a ^ m) := by
  rw [wrap_mul_l, wrap_mul_r]
  congr 1
  have h1 : m = m / 2 + m / 2 := by omega
  conv => rhs; rw [h1]
  rw [Int.pow_add]

/-! Bits. -/
theorem toInt_wrap (x : BitVec 64) : IntKind.i64.wrap (x.toNat : Int) = x.toInt := by
  have h := x.isLt
  rw [IntKind.wrap_i64, BitVec.toInt_eq_toNat_cond]
  split <;> omega
theorem and_bits (a b : Int) : bits .and .i64 a b = (BitVec.ofInt 64 a &&& BitVec.ofInt 64 b).toInt := toInt_wrap _
theorem or_bits (a b : Int) : bits .or .i64 a b = (BitVec.ofInt 64 a ||| BitVec.ofInt 64 b).toInt := toInt_wrap _
theorem bits_one (a : Int) : bits .and .i64 a 1 = a % 2 := by
  show IntKind.i64.wrap ((BitVec.ofInt 64 a &&& BitVec.ofInt 64 1).toNat : Int) = _
  rw [BitVec.toNat_and, show (BitVec.ofInt 64 1).toNat = 1 from rfl, Nat.and_one_is_mod, BitVec.toNat_ofInt, IntKind.wrap_i64]
  omega
theorem of_to (x : BitVec 64) : BitVec.ofInt 64 x.toInt = x := BitVec.ofInt_toInt
theorem to_of {a : Int} (h : InR a) : (BitVec.ofInt 64 a).toInt = a := by
  rw [BitVec.toInt_ofInt, Int.bmod_def]
  unfold InR at h
  split <;> omega
theorem toInt_R (x : BitVec 64) : InR x.toInt := by
  have h := x.isLt
  unfold InR
  rw [BitVec.toInt_eq_toNat_cond]
  split <;> omega
theorem and_R (a b : Int) : InR (bits .and .i64 a b) := by rw [and_bits]; exact toInt_R _
theorem or_R (a b : Int) : InR (bits .or .i64 a b) := by rw [or_bits]; exact toInt_R _
theorem and_assoc (a b c : Int) : bits .and .i64 a (bits .and .i64 b c) = bits .and .i64 (bits .and .i64 a b) c := by
  rw [and_bits, and_bits, and_bits, and_bits, of_to, of_to, BitVec.and_assoc]
theorem or_assoc (a b c : Int) : bits .or .i64 a (bits .or .i64 b c) = bits .or .i64 (bits .or .i64 a b) c := by
  rw [or_bits, or_bits, or_bits, or_bits, of_to, of_to, BitVec.or_assoc]
theorem and_unit {a : Int} (h : InR a) : bits .and .i64 (-1) a = a ∧ bits .and .i64 a (-1) = a := by
  rw [and_bits, and_bits, show BitVec.ofInt 64 (-1) = BitVec.allOnes 64 from rfl, BitVec.allOnes_and, BitVec.and_allOnes]
  exact ⟨to_of h, to_of h⟩
theorem or_unit {a : Int} (h : InR a) : bits .or .i64 0 a = a ∧ bits .or .i64 a 0 = a := by
  rw [or_bits, or_bits, show BitVec.ofInt 64 0 = 0#64 from rfl, BitVec.zero_or, BitVec.or_zero]
  exact ⟨to_of h, to_of h⟩
end Go.Proofs.YtbanegjmapgkdaaDoor.Sc
-- ScFn
namespace Go.Proofs.YtbanegjmapgkdaaDoor.Sc
open Go.RowKit
set_option linter.unusedVariables false

theorem ret_int {k : IntKind} {a b : Int} (h : a = b) : Ending.returned (.int k a) = .returned (.int k b) := by rw [h]
theorem ret_bool {a b : Bool} (h : a = b) : Ending.returned (.bool a) = .returned (.bool b) := by rw [h]
theorem ret_two {k : IntKind} {a b : Int} {c d : Bool} (h : a = b) (h' : c = d) : Ending.returned (.tuple #[.int k a, .bool c]) = .returned (.tuple #[.int k b, .bool d]) := by rw [h, h']
theorem below_drewN {B : Nat} {a w : World} (h : Below B a w) (n : Nat) : Below B a (w.drewN n) := ⟨h.os, h.tape, h.output, h.size, h.block⟩
theorem below_next {a b c : World} (h : Below a.heap.size a b) (k : Below b.heap.size b c) : Below a.heap.size a c := h.trans (k.mono h.size)

set_option maxHeartbeats 1000000 in
theorem over_any (a b : Int) (w : World) : Calls Tryd.prog 98 #[.int .i64 a, .int .i64 b] w fun e w' => e = .returned (.int .i64 (overI a b)) ∧ w = w' := by
  by_cases hb : b = 0
  · subst hb
    go_enter Tryd.func98, Tryd.ntmps98
    go_wp2
    go_ret
    exact ⟨ret_int (by simp [overI]), rfl⟩
  · have hb0 : (b == 0) = false := by simpa using hb
    by_cases hc : ¬ a.tmod b = 0 ∧ ¬ ((a < 0) ↔ (b < 0))
    · have HV : Hid (overI a b = wrap64 (wrap64 (a.tdiv b) - 1)) := Lib.hid (by unfold overI; rw [if_neg hb, if_pos hc])
      have h1 : (a.tmod b != 0) = true := by simpa using hc.1
      have h2 : (!decide (a < 0) == decide (b < 0)) = true := by
        have := hc.2
        by_cases h3 : a < 0 <;> by_cases h4 : b < 0 <;> simp [h3, h4] at this ⊢
      have h3 : (decide (a < 0) != decide (b < 0)) = true := h2
      have h4 : ¬ a.tmod b = 0 := hc.1
      clear hc hb
      go_enter Tryd.func98, Tryd.ntmps98
      go_wp2
      all_goals first | (go_ret; exact ⟨ret_int HV.out.symm, rfl⟩) | simp_all
    · have HV : Hid (overI a b = wrap64 (a.tdiv b)) := Lib.hid (by unfold overI; rw [if_neg hb, if_neg hc])
      by_cases h4 : a.tmod b = 0
      · clear hc hb
        go_enter Tryd.func98, Tryd.ntmps98
        go_wp2
        all_goals first | (go_ret; exact ⟨ret_int HV.out.symm, rfl⟩) | simp_all
      · have h1 : (a.tmod b != 0) = true := by simpa using h4
        have h2 : (!decide (a < 0) == decide (b < 0)) = false := by
          have hd : (a < 0) ↔ (b < 0) := Classical.not_not.1 (fun h => hc ⟨h4, h⟩)
          by_cases h3 : a < 0 <;> by_cases h5 : b < 0 <;> simp [h3, h5] at hd ⊢
        have h3 : (decide (a < 0) != decide (b < 0)) = false := h2
        clear hc hb
        go_enter Tryd.func98, Tryd.ntmps98
        go_wp2
        all_goals first | (go_ret; exact ⟨ret_int HV.out.symm, rfl⟩) | simp_all

set_option maxHeartbeats 1000000 in
theorem rover_any (a b : Int) (w : World) (ha : InR a) : Calls Tryd.prog 94 #[.int .i64 a, .int .i64 b] w fun e w' => e = .returned (.int .i64 (overI a b)) ∧ w = w' := by
  by_cases hb : b = 0
  · subst hb
    clear ha
    go_enter Tryd.func94, Tryd.ntmps94
    go_wp2
    go_ret
    exact ⟨ret_int (by simp [overI]), rfl⟩
  · have hb0 : (b == 0) = false := by simpa using hb
    by_cases hb1 : b = -1
    · subst hb1
      have HV := Lib.hid (over_m1 a)
      clear ha
      go_enter Tryd.func94, Tryd.ntmps94
      go_wp2
      go_ret
      exact ⟨ret_int (by rw [HV.out]; first | rfl | simp), rfl⟩
    · have hb2 : (b == -1) = false := by simpa using hb1
      obtain ⟨e1, e2⟩ := over_ref ha hb hb1
      rw [e1] at e2
      have hp := fun h => tmod_pos (a := a) (b := b) h
      have hv1 : ¬ a.tmod b = 0 → ¬ ((a < 0) ↔ (b < 0)) → overI a b = wrap64 (a.tdiv b - 1) := fun h1 h2 => by unfold overI; rw [if_neg hb, if_pos ⟨h1, h2⟩, e1]
      have hv2 : ¬ (¬ a.tmod b = 0 ∧ ¬ ((a < 0) ↔ (b < 0))) → overI a b = a.tdiv b := fun h1 => by unfold overI; rw [if_neg hb, if_neg h1, e1]
      by_cases h4 : a.tmod b = 0
      · have HV := Lib.hid (hv2 (fun h => h.1 h4))
        rw [h4] at e2
        clear hp hv1 hv2 ha h4
        go_enter Tryd.func94, Tryd.ntmps94
        go_wp2
        go_ret
        exact ⟨ret_int (by first | exact HV.out.symm | (rw [HV.out]; exact e1)), rfl⟩
      · have h1 : (a.tmod b != 0) = true := by simpa using h4
        have hpp := hp h4
        by_cases h5 : (a < 0) ↔ (b < 0)
        · have HV := Lib.hid (hv2 (fun h => h.2 h5))
          have h2 : (decide (0 < a.tmod b) != decide (0 < b)) = false := by
            by_cases h6 : 0 < a.tmod b <;> by_cases h7 : 0 < b <;> simp [h6, h7] <;> omega
          have h3 : (!decide (0 < a.tmod b) == decide (0 < b)) = false := h2
          clear hp hv1 hv2 ha hpp h5
          go_enter Tryd.func94, Tryd.ntmps94
          go_wp2
          go_ret
          exact ⟨ret_int (by first | exact HV.out.symm | (rw [HV.out]; exact e1)), rfl⟩
        · have HV := Lib.hid (hv1 h4 h5)
          have h2 : (decide (0 < a.tmod b) != decide (0 < b)) = true := by
            by_cases h6 : 0 < a.tmod b <;> by_cases h7 : 0 < b <;> simp [h6, h7] <;> omega
          have h3 : (!decide (0 < a.tmod b) == decide (0 < b)) = true := h2
          clear hp hv1 hv2 ha hpp h5
          go_enter Tryd.func94, Tryd.ntmps94
          go_wp2
          go_ret
          exact ⟨ret_int (by first | exact HV.out.symm | (rw [HV.out]; exact e1)), rfl⟩

set_option maxHeartbeats 400000 in
theorem rest_any (a b : Int) (w : World) : Calls Tryd.prog 100 #[.int .i64 a, .int .i64 b] w fun e w' => e = .returned (.int .i64 (restI a b)) ∧ w = w' := by
  go_enter Tryd.func100, Tryd.ntmps100
  go_wp2_with (go_at_call 98; refine (over_any _ _ _).mono ?_; rintro e w' ⟨rfl, rfl⟩)
  go_ret
  exact ⟨rfl, rfl⟩

set_option maxHeartbeats 400000 in
theorem odd_any (a : Int) (w : World) : Calls Tryd.prog 117 #[.int .i64 a] w fun e w' => e = .returned (.bool (decide (a % 2 = 1))) ∧ w = w' := by
  go_enter Tryd.func117, Tryd.ntmps117
  go_wp2
  go_ret
  exact ⟨ret_bool (by rw [bits_one]; by_cases h : a % 2 = 1 <;> simp [h]), rfl⟩
theorem odd_yes (a : Int) (w : World) (h : a % 2 = 1) : Calls Tryd.prog 117 #[.int .i64 a] w fun e w' => e = .returned (.bool true) ∧ w = w' :=
  (odd_any a w).mono fun _ _ ⟨e, q⟩ => ⟨by rw [e, decide_eq_true h], q⟩
theorem odd_no (a : Int) (w : World) (h : ¬ a % 2 = 1) : Calls Tryd.prog 117 #[.int .i64 a] w fun e w' => e = .returned (.bool false) ∧ w = w' :=
  (odd_any a w).mono fun _ _ ⟨e, q⟩ => ⟨by rw [e, decide_eq_false h], q⟩

set_option maxHeartbeats 1000000 in
theorem fraction_any (a b : Int) (w : World) (hb : b < 0) : Calls Tryd.prog 116 #[.int .i64 a, .int .i64 b] w fun e w' => e = .returned (.int .i64 (powI a b)) ∧ w = w' := by
  by_cases h1 : a = 1
  · subst h1
    have HV : Hid (powI 1 b = 1) := Lib.hid (by simp [powI, hb])
    go_enter Tryd.func116, Tryd.ntmps116
    go_wp2
    go_ret
    exact ⟨ret_int HV.out.symm, rfl⟩
  · have h1b : (a == 1) = false := by simpa using h1
    by_cases h2 : a = -1
    · subst h2
      by_cases h3 : b % 2 = 1
      · have H3 := Lib.hid h3
        have HV : Hid (powI (-1) b = -1) := Lib.hid (by simp [powI, hb, h3])
        clear h3
        go_enter Tryd.func116, Tryd.ntmps116
        go_wp2_with (go_at_call 117; refine (odd_yes _ _ H3.out).mono ?_; rintro e w' ⟨rfl, rfl⟩)
        go_ret
        exact ⟨ret_int HV.out.symm, rfl⟩
      · have H3 := Lib.hid h3
        have HV : Hid (powI (-1) b = 1) := Lib.hid (by have : b % 2 = 0 := by omega
                                                       simp [powI, hb, this])
        clear h3
        go_enter Tryd.func116, Tryd.ntmps116
        go_wp2_with (go_at_call 117; refine (odd_no _ _ H3.out).mono ?_; rintro e w' ⟨rfl, rfl⟩)
        go_ret
        exact ⟨ret_int HV.out.symm, rfl⟩
    · have h2b : (a == -1) = false := by simpa using h2
      have HV : Hid (powI a b = 0) := Lib.hid (by simp [powI, hb, h1, h2])
      clear h1 h2
      go_enter Tryd.func116, Tryd.ntmps116
      go_wp2
      go_ret
      exact ⟨ret_int HV.out.symm, rfl⟩

set_option maxHeartbeats 1000000 in
theorem power_any (a b : Int) (w : World) (ha : InR a) (hbR : InR b) : Calls Tryd.prog 99 #[.int .i64 a, .int .i64 b] w fun e w' => e = .returned (.int .i64 (powI a b)) ∧ w = w' := by
  by_cases hb : b < 0
  · go_enter Tryd.func99, Tryd.ntmps99
    go_wp2_with (go_at_call 116; refine (fraction_any _ _ _ hb).mono ?_; rintro e w' ⟨rfl, rfl⟩)
    go_ret
    exact ⟨rfl, rfl⟩
  · have hb0 : 0 ≤ b := by omega
    have hb1 : b ≤ 9223372036854775807 := hbR.2
    have HV : Hid (powI a b = wrap64 (a ^ b.toNat)) := Lib.hid (by unfold powI; rw [if_neg hb])
    clear hb
    go_enter Tryd.func99, Tryd.ntmps99
    go_wp2
    go_loop [1, 5, 6] (fun n p s => ∃ k x y : Int, 0 ≤ k ∧ k ≤ 9223372036854775807 ∧ n = .int .i64 k ∧ p = .int .i64 x ∧ s = .int .i64 y ∧ InR x ∧ wrap64 (x * y ^ k.toNat) = wrap64 (a ^ b.toNat)) (fun n _ _ => (intOf n).toNat)
    case atStart => exact ⟨b, 1, a, hb0, hb1, rfl, rfl, rfl, by unfold InR; omega, by rw [Int.one_mul]⟩
    case round =>
      obtain ⟨k, x, y, hk, hk1, rfl, rfl, rfl, hx, hinv⟩ := hrel
      have HX := Lib.hid hx
      have HI := Lib.hid hinv
      clear hx hinv
      by_cases hlt : 0 < k
      · by_cases ho : k % 2 = 1
        · have HO := Lib.hid ho
          have hs := Lib.hid (sq_odd x y k.toNat (by omega))
          clear ho
          go_wp2_with (go_at_call 117; refine (odd_yes _ _ HO.out).mono ?_; rintro e w' ⟨rfl, rfl⟩)
          go_round
          case rel => exact ⟨k / 2, wrap64 (x * y), wrap64 (y * y), by omega, by omega, rfl, rfl, rfl, wrap_R _, by rw [show (k / 2).toNat = k.toNat / 2 from by omega, hs.out]; exact HI.out⟩
          case measure => simp [intOf]; omega
        · have HO := Lib.hid ho
          have hs := Lib.hid (sq_even x y k.toNat (by omega))
          clear ho
          go_wp2_with (go_at_call 117; refine (odd_no _ _ HO.out).mono ?_; rintro e w' ⟨rfl, rfl⟩)
          go_round
          case rel => exact ⟨k / 2, x, wrap64 (y * y), by omega, by omega, rfl, rfl, rfl, HX.out, by rw [show (k / 2).toNat = k.toNat / 2 from by omega, hs.out]; exact HI.out⟩
          case measure => simp [intOf]; omega
      · obtain rfl : k = 0 := by omega
        go_wp2
        go_ret
        exact ⟨ret_int (by rw [HV.out, ← HI.out]; simp [wrap_in HX.out]), rfl⟩

set_option maxHeartbeats 400000 in
theorem truth_any (b : Bool) (w : World) : Calls Tryd.prog 96 #[.bool b] w fun e w' => e = .returned (.int .i64 (if b = true then 1 else 0)) ∧ w = w' := by
  cases b
  · go_enter Tryd.func96, Tryd.ntmps96
    go_wp2
    go_ret
    exact ⟨rfl, rfl⟩
  · go_enter Tryd.func96, Tryd.ntmps96
    go_wp2
    go_ret
    exact ⟨rfl, rfl⟩

set_option maxHeartbeats 1000000 in
theorem compare_9 (a b : Int) (w : World) : Calls Tryd.prog 101 #[.int .i64 9, .int .i64 a, .int .i64 b] w fun e w' => e = .returned (.int .i64 (if a = b then 1 else 0)) ∧ w = w' := by
  by_cases h : a = b
  · subst h
    rw [if_pos rfl]
    go_enter Tryd.func101, Tryd.ntmps101
    go_wp2
    go_ret
    exact ⟨rfl, rfl⟩
  · rw [if_neg h]
    have h1 : (a == b) = false := by simpa using h
    have h2 : (a != b) = true := by simpa using h
    clear h
    go_enter Tryd.func101, Tryd.ntmps101
    go_wp2
    go_ret
    exact ⟨rfl, rfl⟩
set_option maxHeartbeats 1000000 in
theorem compare_10 (a b : Int) (w : World) : Calls Tryd.prog 101 #[.int .i64 10, .int .i64 a, .int .i64 b] w fun e w' => e = .returned (.int .i64 (if ¬ a = b then 1 else 0)) ∧ w = w' := by
  by_cases h : a = b
  · subst h
    rw [if_neg (by simp)]
    go_enter Tryd.func101, Tryd.ntmps101
    go_wp2
    go_ret
    exact ⟨rfl, rfl⟩
  · rw [if_pos h]
    have h1 : (a == b) = false := by simpa using h
    have h2 : (a != b) = true := by simpa using h
    clear h
    go_enter Tryd.func101, Tryd.ntmps101
    go_wp2
    go_ret
    exact ⟨rfl, rfl⟩
set_option maxHeartbeats 1000000 in
theorem compare_11 (a b : Int) (w : World) : Calls Tryd.prog 101 #[.int .i64 11, .int .i64 a, .int .i64 b] w fun e w' => e = .returned (.int .i64 (if a < b then 1 else 0)) ∧ w = w' := by
  by_cases h : a < b
  · rw [if_pos h]
    go_enter Tryd.func101, Tryd.ntmps101
    go_wp2
    go_ret
    exact ⟨rfl, rfl⟩
  · rw [if_neg h]
    have h1 : b ≤ a := by omega
    have h2 : decide (a < b) = false := by simpa using h
    clear h
    go_enter Tryd.func101, Tryd.ntmps101
    go_wp2
    go_ret
    exact ⟨rfl, rfl⟩
set_option maxHeartbeats 1000000 in
theorem compare_12 (a b : Int) (w : World) : Calls Tryd.prog 101 #[.int .i64 12, .int .i64 a, .int .i64 b] w fun e w' => e = .returned (.int .i64 (if a ≤ b then 1 else 0)) ∧ w = w' := by
  by_cases h : a ≤ b
  · rw [if_pos h]
    go_enter Tryd.func101, Tryd.ntmps101
    go_wp2
    go_ret
    exact ⟨rfl, rfl⟩
  · rw [if_neg h]
    have h1 : b < a := by omega
    have h2 : decide (a ≤ b) = false := by simpa using h
    clear h
    go_enter Tryd.func101, Tryd.ntmps101
    go_wp2
    go_ret
    exact ⟨rfl, rfl⟩
set_option maxHeartbeats 1000000 in
theorem compare_13 (a b : Int) (w : World) : Calls Tryd.prog 101 #[.int .i64 13, .int .i64 a, .int .i64 b] w fun e w' => e = .returned (.int .i64 (if b < a then 1 else 0)) ∧ w = w' := by
  by_cases h : b < a
  · rw [if_pos h]
    go_enter Tryd.func101, Tryd.ntmps101
    go_wp2
    go_ret
    exact ⟨rfl, rfl⟩
  · rw [if_neg h]
    have h1 : a ≤ b := by omega
    have h2 : decide (b < a) = false := by simpa using h
    clear h
    go_enter Tryd.func101, Tryd.ntmps101
    go_wp2
    go_ret
    exact ⟨rfl, rfl⟩
set_option maxHeartbeats 1000000 in
theorem compare_14 (a b : Int) (w : World) : Calls Tryd.prog 101 #[.int .i64 14, .int .i64 a, .int .i64 b] w fun e w' => e = .returned (.int .i64 (if b ≤ a then 1 else 0)) ∧ w = w' := by
  by_cases h : b ≤ a
  · rw [if_pos h]
    go_enter Tryd.func101, Tryd.ntmps101
    go_wp2
    go_ret
    exact ⟨rfl, rfl⟩
  · rw [if_neg h]
    have h1 : a < b := by omega
    have h2 : decide (b ≤ a) = false := by simpa using h
    clear h
    go_enter Tryd.func101, Tryd.ntmps101
    go_wp2
    go_ret
    exact ⟨rfl, rfl⟩

/-- 1, 0 or -1. -/
def signI (a : Int) : Int := (if 0 < a then 1 else 0) - (if a < 0 then 1 else 0)
end Go.Proofs.YtbanegjmapgkdaaDoor.Sc
-- ScPow
namespace Go.Proofs.YtbanegjmapgkdaaDoor.Sc
open Go.RowKit
open Go.Proofs.YtbanegjmapgkdaaDoor.Sh (MineT Ints NumT numL wpList_appI)
set_option linter.unusedVariables false

theorem ints_new (t : TypeId) (w : World) (y : Int) : Ints (w.alloc (.cells #[.int .i64 y] t)) (some ⟨w.heap.size, 0, none⟩) [y] := fun _ =>
  ⟨w.heap.size, 0, rfl, by simp, fun i hi => by
    have : i = 0 := by simp at hi; omega
    subst this
    rw [World.cell?_alloc_at _ _ _ _ (by simp)]; rfl⟩
def bitsL (B j : Nat) : List Int := (List.range j).map fun i => (((B / 2 ^ i) % 2 : Nat) : Int)
theorem bitsL_length (B j : Nat) : (bitsL B j).length = j := by simp [bitsL]
theorem bitsL_succ (B j : Nat) : bitsL B (j + 1) = bitsL B j ++ [((B / 2 ^ j : Nat) : Int) % 2] := by
  simp [bitsL, List.range_succ]
theorem bitsL_at (B n j : Nat) (h : j < n) : (bitsL B n).getD j 0 = (((B / 2 ^ j) % 2 : Nat) : Int) := by
  simp [bitsL, List.getD, h]
theorem div_half (B j : Nat) : B / 2 ^ (j + 1) = B / 2 ^ j / 2 := by rw [Nat.pow_succ, Nat.div_div_eq_div_mul]
theorem div_lt63 {B j : Nat} (hB : B < 9223372036854775808) (h : 0 < B / 2 ^ j) : j < 63 := by
  rcases Nat.lt_or_ge j 63 with h1 | h1
  · exact h1
  · exfalso
    have h2 : 2 ^ 63 ≤ 2 ^ j := Nat.pow_le_pow_right (by decide) h1
    rw [Nat.div_eq_of_lt (Nat.lt_of_lt_of_le hB h2)] at h
    omega

set_option maxHeartbeats 2000000 in
theorem rpower_any (a b : Int) (w : World) (hbR : InR b) : Calls Tryd.prog 95 #[.int .i64 a, .int .i64 b] w fun e w' => e = .returned (.int .i64 (powI a b)) ∧ Below w.heap.size w w' := by
  by_cases hb : b < 0
  · by_cases h1 : a = 1
    · subst h1
      have HV : Hid (powI 1 b = 1) := Lib.hid (by simp [powI, hb])
      go_enter Tryd.func95, Tryd.ntmps95
      go_wp2
      go_ret
      exact ⟨ret_int HV.out.symm, Below.refl _ _⟩
    · have h1b : (a == 1) = false := by simpa using h1
      by_cases h2 : a = -1
      · subst h2
        by_cases h3 : b.tmod 2 = 0
        · have h4 : b % 2 = 0 := by rw [Int.tmod_eq_emod] at h3; split at h3 <;> omega
          have HV : Hid (powI (-1) b = 1) := Lib.hid (by simp [powI, hb, h4])
          clear h4
          go_enter Tryd.func95, Tryd.ntmps95
          go_wp2
          go_ret
          exact ⟨ret_int HV.out.symm, Below.refl _ _⟩
        · have h4 : ¬ b % 2 = 0 := by intro h; apply h3; rw [Int.tmod_eq_emod]; split <;> omega
          have h5 : (b.tmod 2 == 0) = false := by simpa using h3
          have HV : Hid (powI (-1) b = -1) := Lib.hid (by simp [powI, hb, h4])
          clear h4
          go_enter Tryd.func95, Tryd.ntmps95
          go_wp2
          go_ret
          exact ⟨ret_int HV.out.symm, Below.refl _ _⟩
      · have h2b : (a == -1) = false := by simpa using h2
        have h2c : (a != -1) = true := by simpa using h2
        have HV : Hid (powI a b = 0) := Lib.hid (by simp [powI, hb, h1, h2])
        clear h1 h2
        go_enter Tryd.func95, Tryd.ntmps95
        go_wp2
        go_ret
        exact ⟨ret_int HV.out.symm, Below.refl _ _⟩
  · obtain ⟨B, rfl⟩ : ∃ B : Nat, b = B := ⟨b.toNat, by omega⟩
    have hB : B < 9223372036854775808 := by unfold InR at hbR; omega
    have HV : Hid (powI a B = wrap64 (a ^ B)) := Lib.hid (by unfold powI; rw [if_neg hb, Int.toNat_natCast])
    clear hb hbR
    go_enter Tryd.func95, Tryd.ntmps95
    go_wp2
    go_loopw [1, 5] (fun n v wr => ∃ j x : Nat, j ≤ 64 ∧ x = B / 2 ^ j ∧ n = .int .i64 (x : Int) ∧ MineT 2 wr w.heap.size v (bitsL B j) ∧ Below w.heap.size w wr) (fun n _ _ => (intOf n).toNat)
    case atStart => exact ⟨0, B, by omega, by simp, rfl, MineT.nil _ _ _, Below.refl _ _⟩
    case round =>
      obtain ⟨j, x, hj64, hx, rfl, hm, hbel⟩ := hrel
      have hxB : x ≤ B := by rw [hx]; exact Nat.div_le_self _ _
      have HX := Lib.hid hx
      have HM := Lib.hid hm
      have HB := Lib.hid hbel
      have hsz := hbel.size
      clear hx hm hbel
      by_cases hlt : 0 < x
      · have hj : j < 63 := div_lt63 hB (by rw [← HX.out]; exact hlt)
        go_wp2_with (at_builtin; refine wpList_appI numL Tryd.underlying27 rfl (.tmp 19) (.tmp 22) rfl w.heap.size _ (bitsL B j) rfl (HM.out.alloc _) _ 1 [(x : Int) % 2] rfl (ints_new _ _ _) (by rw [bitsL_length]; simp; omega) (by simp; omega) ?_; intro v' w2 hm2 hg2 ha2)
        go_roundw
        case rel => exact ⟨j + 1, x / 2, by omega, by rw [div_half, ← HX.out], by go_num, by rw [bitsL_succ, ← HX.out]; exact hm2, (HB.out.alloc HB.out.size _).grown hg2 (by simp; omega) HM.out.block⟩
        case measure => simp [intOf]; omega
      · obtain rfl : x = 0 := by omega
        obtain ⟨AV, cV, rfl, hi⟩ := HM.out.ints
        have HI := Lib.hid hi
        clear hi
        rw [bitsL_length]
        go_wp2
        go_loop [6, 7] (fun o i => ∃ m : Nat, m ≤ j ∧ i = .int .i64 ((m : Int) - 1) ∧ o = .int .i64 (wrap64 (a ^ (B / 2 ^ m)))) (fun _ i => (intOf i + 1).toNat)
        case atStart => exact ⟨j, Nat.le_refl _, rfl, by rw [← HX.out, Int.pow_zero, wrap_in (by unfold InR; omega)]⟩
        case round =>
          obtain ⟨m, hm, rfl, rfl⟩ := hrel
          by_cases hmp : 0 < m
          · obtain ⟨q, rfl⟩ : ∃ q, m = q + 1 := ⟨m - 1, by omega⟩
            rw [show (((q + 1 : Nat) : Int) - 1) = (q : Int) from by omega, div_half]
            obtain ⟨bb, off, rfl, hbb, hcs⟩ := HI.out (by rw [bitsL_length]; omega)
            have hcq := hcs q (by rw [bitsL_length]; omega)
            rw [bitsL_at B j q (by omega)] at hcq
            have i0 : (0 : Int) ≤ (q : Int) := by omega
            have i1 : (q : Int) < (j : Int) := by omega
            clear hcs
            generalize hy : B / 2 ^ q = y at *
            have HY := Lib.hid hy
            clear hy
            by_cases ho : y % 2 = 1
            · have HD := Lib.hid (down_odd a y ho)
              rw [ho] at hcq
              clear ho
              generalize wrap64 (a ^ (y / 2)) = z at *
              go_wp2
              go_round
              case rel => exact ⟨q, by omega, by go_num, by rw [HY.out, ← HD.out]⟩
              case measure => first | (simp [intOf]; done) | (simp [intOf]; omega)
            · have HD := Lib.hid (down_even a y ho)
              have ho2 : y % 2 = 0 := by omega
              rw [ho2] at hcq
              clear ho ho2
              generalize wrap64 (a ^ (y / 2)) = z at *
              go_wp2
              go_round
              case rel => exact ⟨q, by omega, by go_num, by rw [HY.out, ← HD.out]⟩
              case measure => first | (simp [intOf]; done) | (simp [intOf]; omega)
          · obtain rfl : m = 0 := by omega
            go_wp2
            go_ret
            exact ⟨ret_int (by simp [HV.out]), HB.out⟩
end Go.Proofs.YtbanegjmapgkdaaDoor.Sc
-- ScTab
namespace Go.Proofs.YtbanegjmapgkdaaDoor.Sc
open Go.RowKit
set_option linter.unusedVariables false

/-- What is known of a function: used with one, with two, whether a fold has a start, which, whether it joins, or picks. -/
structure Tr where
  one : Bool
  two : Bool
  starts : Bool
  unit : Int
  joins : Bool
  picks : Bool
def trL : List Tr :=
  [⟨false, false, false, 0, false, false⟩,
   ⟨true, true, true, 0, true, false⟩, ⟨true, true, true, 0, false, false⟩, ⟨true, true, true, 1, true, false⟩, ⟨true, true, true, 1, false, false⟩, ⟨true, true, true, 1, false, false⟩, ⟨true, true, true, 0, false, false⟩,
   ⟨false, true, true, -9223372036854775808, true, true⟩, ⟨false, true, true, 9223372036854775807, true, true⟩,
   ⟨false, true, true, 1, false, false⟩, ⟨false, true, true, 0, false, false⟩, ⟨false, true, true, 0, false, false⟩, ⟨false, true, true, 1, false, false⟩, ⟨false, true, true, 0, false, false⟩, ⟨false, true, true, 1, false, false⟩,
   ⟨false, true, true, -1, true, false⟩, ⟨false, true, true, 0, true, false⟩, ⟨true, true, false, 0, true, false⟩, ⟨true, true, false, 0, true, false⟩, ⟨true, false, false, 0, false, false⟩]
def noTr : Tr := ⟨false, false, false, 0, false, false⟩
def trOf (c : Int) : Tr := if 1 ≤ c ∧ c ≤ 19 then trL.getD c.toNat noTr else noTr
def Tr.vals (t : Tr) : List Value := [.bool t.one, .bool t.two, .bool t.starts, .int .i64 t.unit, .bool t.joins, .bool t.picks]
def Tr.data {H : Type} (t : Tr) : DataW H := .agg [.lit (.bool t.one), .lit (.bool t.two), .lit (.bool t.starts), .lit (.int .i64 t.unit), .lit (.bool t.joins), .lit (.bool t.picks)]
theorem laidEq : (Rows.laid_riffle_scalar_traits : DataW Unit) = .agg (trL.map Tr.data) := rfl
/-- The table lies in its variable. -/
def Tab (w : World) : Prop := ∀ k, k < 20 → ∀ j, j < 6 → w.cell? ⟨0, 6 * k + j, none⟩ = (trL.getD k noTr).vals[j]?
theorem Tab.below {w w' : World} (h : Tab w) (hb : Below w.heap.size w w') : Tab w' := by
  intro k hk j hj
  have h0 := h k hk j hj
  have hlt : 0 < w.heap.size := by
    have : (w.cell? ⟨0, 6 * k + j, none⟩).isSome := by
      rw [h0]
      match j, hj with
      | 0, _ => rfl
      | 1, _ => rfl
      | 2, _ => rfl
      | 3, _ => rfl
      | 4, _ => rfl
      | 5, _ => rfl
    obtain ⟨v, hv⟩ := Option.isSome_iff_exists.1 this
    exact World.block_lt_of_cell? w ⟨0, 6 * k + j, none⟩ hv
  rw [← h0]
  exact hb.cell (p := ⟨0, 6 * k + j, none⟩) hlt

theorem vals_of {H : Type} {enc : TypeId × Value → H} {w : World} {base : Nat} {sp : Nat → Bool} {held : Bool} {fuel : Nat} {cs : List Value} {t : Tr} {p : List MemPlace}
    (h : DataW.trod enc Tryd.prog w base sp held fuel 99 cs = some (t.data, p)) : cs = t.vals := by
  obtain ⟨xs, n, rfl, hx, hl, hxl, hall⟩ := DataW.trod_struct Tryd.underlying99 h
  have hc : Tryd.prog.cellsOf 99 = 6 := by kernel_rfl
  have hcb : Tryd.prog.cellsOf 4 = 1 := by kernel_rfl
  have hci : Tryd.prog.cellsOf 2 = 1 := by kernel_rfl
  rw [hc] at hl
  match xs, hxl, cs, hl with
  | [x0, x1, x2, x3, x4, x5], _, [c0, c1, c2, c3, c4, c5], _ =>
    have hd := congrArg Prod.fst hx
    simp only [Tr.data, List.map_cons, List.map_nil, DataW.agg.injEq, List.cons.injEq, and_true] at hd
    obtain ⟨d0, d1, d2, d3, d4, d5⟩ := hd
    have b0 : DataW.trod enc Tryd.prog w base sp held n 4 (([c0, c1, c2, c3, c4, c5].drop 0).take (Tryd.prog.cellsOf 4)) = some x0 := hall 0 _ rfl
    rw [hcb] at b0
    have b1 : DataW.trod enc Tryd.prog w base sp held n 4 (([c0, c1, c2, c3, c4, c5].drop 1).take (Tryd.prog.cellsOf 4)) = some x1 := hall 1 _ rfl
    rw [hcb] at b1
    have b2 : DataW.trod enc Tryd.prog w base sp held n 4 (([c0, c1, c2, c3, c4, c5].drop 2).take (Tryd.prog.cellsOf 4)) = some x2 := hall 2 _ rfl
    rw [hcb] at b2
    have b3 : DataW.trod enc Tryd.prog w base sp held n 2 (([c0, c1, c2, c3, c4, c5].drop 3).take (Tryd.prog.cellsOf 2)) = some x3 := hall 3 _ rfl
    rw [hci] at b3
    have b4 : DataW.trod enc Tryd.prog w base sp held n 4 (([c0, c1, c2, c3, c4, c5].drop 4).take (Tryd.prog.cellsOf 4)) = some x4 := hall 4 _ rfl
    rw [hcb] at b4
    have b5 : DataW.trod enc Tryd.prog w base sp held n 4 (([c0, c1, c2, c3, c4, c5].drop 5).take (Tryd.prog.cellsOf 4)) = some x5 := hall 5 _ rfl
    rw [hcb] at b5
    obtain ⟨v0, e0, rfl⟩ := DataW.trod_bool Tryd.underlying4 b0
    obtain ⟨v1, e1, rfl⟩ := DataW.trod_bool Tryd.underlying4 b1
    obtain ⟨v2, e2, rfl⟩ := DataW.trod_bool Tryd.underlying4 b2
    obtain ⟨v3, e3, rfl, _⟩ := DataW.trod_int Tryd.underlying2 b3
    obtain ⟨v4, e4, rfl⟩ := DataW.trod_bool Tryd.underlying4 b4
    obtain ⟨v5, e5, rfl⟩ := DataW.trod_bool Tryd.underlying4 b5
    replace e0 : [c0] = [Value.bool v0] := e0
    replace e1 : [c1] = [Value.bool v1] := e1
    replace e2 : [c2] = [Value.bool v2] := e2
    replace e3 : [c3] = [Value.int .i64 v3] := e3
    replace e4 : [c4] = [Value.bool v4] := e4
    replace e5 : [c5] = [Value.bool v5] := e5
    simp only [List.cons.injEq, and_true] at e0 e1 e2 e3 e4 e5
    simp only [DataW.lit.injEq, Lit.bool.injEq, Lit.int.injEq, true_and] at d0 d1 d2 d3 d4 d5
    subst e0 e1 e2 e3 e4 e5
    simp [Tr.vals, d0, d1, d2, d3, d4, d5]
theorem tab_of {w : World} (h : Lib.VarReads Tryd.prog w "riffle/scalar.traits" (.agg (trL.map Tr.data))) : Tab w := by
  obtain ⟨g, t, cs, fuel, p, hg, hty, hvar, hd⟩ := h
  obtain rfl := Option.some.inj ((show Tryd.prog.globalNamed "riffle/scalar.traits" = some 0 by kernel_rfl).symm.trans hg)
  obtain rfl := Option.some.inj ((show (Tryd.prog.globals[0]?).map (·.type) = some 120 by kernel_rfl).symm.trans hty)
  have hc : Tryd.prog.cellsOf 99 = 6 := by kernel_rfl
  intro k hk j hj
  obtain ⟨fuel', d, q, hdi, he⟩ := Lib.array_elem Tryd.underlying120 hd k hk
  have hk' : k < trL.length := hk
  rw [List.getElem?_map, List.getElem?_eq_getElem hk', Option.map_some, Option.some.injEq] at hdi
  subst hdi
  rw [hc] at he
  have hv := vals_of he
  have e := congrArg (·[j]?) hv
  simp only [List.getElem?_take, List.getElem?_drop] at e
  rw [if_pos hj] at e
  rw [World.var?_cell hg hvar (6 * k + j), ← Array.getElem?_toList, Nat.mul_comm, e]
  simp [List.getD, hk']
end Go.Proofs.YtbanegjmapgkdaaDoor.Sc
-- ScLook
namespace Go.Proofs.YtbanegjmapgkdaaDoor.Sc
open Go.RowKit
set_option linter.unusedVariables false

set_option maxHeartbeats 1000000 in
theorem class_in (c : Int) (w : World) (h1 : 1 ≤ c) (h2 : c ≤ 19) : Calls Tryd.prog 91 #[.int .i64 c] w fun e w' => e = .returned (.int .i64 1) ∧ w = w' := by
  go_enter Tryd.func91, Tryd.ntmps91
  go_wp2
  go_ret
  exact ⟨rfl, rfl⟩
def NotOne (w : World) (e : Ending) (w' : World) : Prop := ∃ v : Int, e = .returned (.int .i64 v) ∧ (v != 1) = true ∧ w = w'
set_option maxHeartbeats 1000000 in
theorem class_out (c : Int) (w : World) (h : c < 1 ∨ 19 < c) : Calls Tryd.prog 91 #[.int .i64 c] w (NotOne w) := by
  rcases h with h | h
  · go_enter Tryd.func91, Tryd.ntmps91
    go_wp2
    go_ret
    exact ⟨0, rfl, rfl, rfl⟩
  · have h1 : ¬ c < 1 := by omega
    have h2 : ¬ c ≤ 19 := by omega
    go_enter Tryd.func91, Tryd.ntmps91
    go_wp2
    all_goals (go_ret; exact ⟨_, rfl, rfl, rfl⟩)
theorem trOf_out {c : Int} (h : c < 1 ∨ 19 < c) : trOf c = noTr := by unfold trOf; rw [if_neg (by omega)]
theorem trOf_in {c : Int} (h1 : 1 ≤ c) (h2 : c ≤ 19) : trOf c = trL.getD c.toNat noTr := by unfold trOf; rw [if_pos ⟨h1, h2⟩]
/-- The value of what is known. -/
def Tr.val (t : Tr) : Value := .agg #[.bool t.one, .bool t.two, .bool t.starts, .int .i64 t.unit, .bool t.joins, .bool t.picks]

set_option maxHeartbeats 2000000 in
theorem lookUp_any (c : Int) (w : World) (hT : Tab w) : Calls Tryd.prog 69 #[.int .i64 c] w fun e w' => e = .returned (trOf c).val ∧ Below w.heap.size w w' := by
  by_cases h : 1 ≤ c ∧ c ≤ 19
  · obtain ⟨h1, h2⟩ := h
    obtain ⟨k, rfl⟩ : ∃ k : Nat, c = k := ⟨c.toNat, by omega⟩
    have e : trOf (k : Int) = trL.getD k noTr := trOf_in h1 h2
    rw [e]
    have h0 := hT k (by omega) 0 (by omega)
    have hg : 0 < w.heap.size := World.block_lt_of_cell? w ⟨0, 6 * k + 0, none⟩ h0
    have f0 := h0
    have f1 := hT k (by omega) 1 (by omega)
    have f2 := hT k (by omega) 2 (by omega)
    have f3 := hT k (by omega) 3 (by omega)
    have f4 := hT k (by omega) 4 (by omega)
    have f5 := hT k (by omega) 5 (by omega)
    simp only [Tr.vals, List.getElem?_cons_zero, List.getElem?_cons_succ, Nat.add_zero] at f0 f1 f2 f3 f4 f5
    rw [Nat.mul_comm 6 k] at f0 f1 f2 f3 f4 f5
    unfold Tr.val
    generalize trL.getD k noTr = t at *
    clear hT e h0
    go_enter Tryd.func69, Tryd.ntmps69
    go_wp2_with fail
    refine (class_in _ _ h1 h2).mono ?_
    rintro e w1 ⟨rfl, rfl⟩
    go_wp2
    refine bodyPost_ret (v := .agg #[.bool t.one, .bool t.two, .bool t.starts, .int .i64 t.unit, .bool t.joins, .bool t.picks]) (by simp [results, Tryd.results69, go_sem]) rfl ?_
    exact ⟨rfl, (Below.refl _ _).alloc (Nat.le_refl _) _⟩
  · have h' : c < 1 ∨ 19 < c := by omega
    rw [trOf_out h']
    clear h hT
    go_enter Tryd.func69, Tryd.ntmps69
    go_wp2_with fail
    refine (class_out _ _ h').mono ?_
    rintro e w1 ⟨v, rfl, hv, rfl⟩
    go_wp2
    refine bodyPost_ret (v := .agg #[.bool false, .bool false, .bool false, .int .i64 0, .bool false, .bool false]) (by simp [results, Tryd.results69, go_sem]) rfl ?_
    exact ⟨rfl, (Below.refl _ _).alloc (Nat.le_refl _) _⟩
theorem lookUp_v (c : Int) (t : Tr) (w : World) (ht : trOf c = t) (hT : Tab w) : Calls Tryd.prog 69 #[.int .i64 c] w fun e w' => e = .returned (.agg #[.bool t.one, .bool t.two, .bool t.starts, .int .i64 t.unit, .bool t.joins, .bool t.picks]) ∧ Below w.heap.size w w' := by
  subst ht; exact lookUp_any c w hT

theorem field0 (t : Tr) (w : World) : (Instr.field 99 (.agg #[.bool t.one, .bool t.two, .bool t.starts, .int .i64 t.unit, .bool t.joins, .bool t.picks]) 0).run Tryd.prog w = .ok (.bool t.one) w := by kernel_rfl
theorem field1 (t : Tr) (w : World) : (Instr.field 99 (.agg #[.bool t.one, .bool t.two, .bool t.starts, .int .i64 t.unit, .bool t.joins, .bool t.picks]) 1).run Tryd.prog w = .ok (.bool t.two) w := by kernel_rfl
theorem field4 (t : Tr) (w : World) : (Instr.field 99 (.agg #[.bool t.one, .bool t.two, .bool t.starts, .int .i64 t.unit, .bool t.joins, .bool t.picks]) 4).run Tryd.prog w = .ok (.bool t.joins) w := by kernel_rfl
theorem field5 (t : Tr) (w : World) : (Instr.field 99 (.agg #[.bool t.one, .bool t.two, .bool t.starts, .int .i64 t.unit, .bool t.joins, .bool t.picks]) 5).run Tryd.prog w = .ok (.bool t.picks) w := by kernel_rfl

/-- Has a function a use with that many arguments? -/
def hasB (c v : Int) : Bool := if v = 1 then (trOf c).one else if v = 2 then (trOf c).two else false
set_option maxHeartbeats 1000000 in
theorem has_any (c v : Int) (w : World) (hT : Tab w) : Calls Tryd.prog 52 #[.int .i64 c, .int .i64 v] w fun e w' => e = .returned (.bool (hasB c v)) ∧ Below w.heap.size w w' := by
  have HT := Lib.hid hT
  obtain ⟨t, ht⟩ : ∃ t, trOf c = t := ⟨_, rfl⟩
  have H := Lib.hid ht
  have hf0 := field0 t
  have hf1 := field1 t
  clear hT
  by_cases h1 : v = 1
  · subst h1
    have HV : Hid (hasB c 1 = t.one) := Lib.hid (by simp [hasB, ht])
    clear ht
    go_enter Tryd.func52, Tryd.ntmps52
    go_wp2_with fail
    refine (lookUp_v _ t _ H.out HT.out).mono ?_
    rintro e w1 ⟨rfl, hb1⟩
    go_wp2
    go_ret
    exact ⟨ret_bool HV.out.symm, hb1⟩
  · have h1b : (v == 1) = false := by simpa using h1
    by_cases h2 : v = 2
    · subst h2
      have HV : Hid (hasB c 2 = t.two) := Lib.hid (by simp [hasB, ht])
      clear ht h1 h1b
      go_enter Tryd.func52, Tryd.ntmps52
      go_wp2_with (go_at_call 69; refine (lookUp_v _ t _ H.out HT.out).mono ?_; rintro e w1 ⟨rfl, hb1⟩)
      go_ret
      exact ⟨ret_bool HV.out.symm, hb1⟩
    · have h2b : (v == 2) = false := by simpa using h2
      have HV : Hid (hasB c v = false) := Lib.hid (by simp [hasB, h1, h2])
      clear ht h1 h2
      go_enter Tryd.func52, Tryd.ntmps52
      go_wp2
      go_ret
      exact ⟨ret_bool HV.out.symm, Below.refl _ _⟩
set_option maxHeartbeats 1000000 in
theorem unit_any (c : Int) (w : World) (hT : Tab w) : Calls Tryd.prog 31 #[.int .i64 c] w fun e w' => e = .returned (.tuple #[.int .i64 (trOf c).unit, .bool (trOf c).starts]) ∧ Below w.heap.size w w' := by
  obtain ⟨t, ht⟩ : ∃ t, trOf c = t := ⟨_, rfl⟩
  rw [ht]
  have H := Lib.hid ht
  have HT := Lib.hid hT
  clear ht hT
  go_enter Tryd.func31, Tryd.ntmps31
  go_wp2_with fail
  refine (lookUp_v _ t _ H.out HT.out).mono ?_
  rintro e w1 ⟨rfl, hb1⟩
  go_wp2_with fail
  go_quiet (fail)
  go_wp2
  go_ret2
  exact ⟨rfl, below_drewN (hb1.alloc hb1.size _) _⟩

set_option maxHeartbeats 1000000 in
theorem rhas_any (c v : Int) (w : World) : Calls Tryd.prog 41 #[.int .i64 c, .int .i64 v] w fun e w' => e = .returned (.bool (hasB c v)) ∧ w = w' := by
  obtain ⟨b, hb⟩ : ∃ b, hasB c v = b := ⟨_, rfl⟩
  rw [hb]
  have HB := Lib.hid hb
  clear hb
  have hin1 : ∀ k : Nat, k < 20 → (trL.getD k noTr).one = (decide (1 ≤ k) && decide (k ≤ 6) || decide (17 ≤ k) && decide (k ≤ 19)) := by decide
  have hin2 : ∀ k : Nat, k < 20 → (trL.getD k noTr).two = (decide (1 ≤ k) && decide (k ≤ 18)) := by decide
  have key : b = (if v = 2 then decide (1 ≤ c) && decide (c ≤ 18) else decide (v = 1) && (decide (1 ≤ c) && decide (c ≤ 6) || decide (17 ≤ c) && decide (c ≤ 19))) := by
    rw [← HB.out]
    by_cases h : 1 ≤ c ∧ c ≤ 19
    · obtain ⟨k, rfl⟩ : ∃ k : Nat, c = k := ⟨c.toNat, by omega⟩
      have e : trOf (k : Int) = trL.getD k noTr := trOf_in h.1 h.2
      have g1 := hin1 k (by omega)
      have g2 := hin2 k (by omega)
      unfold hasB
      rw [e, g1, g2]
      by_cases h2 : v = 2
      · subst h2; simp; rw [Bool.eq_iff_iff]; simp; omega
      · by_cases h1 : v = 1
        · subst h1; simp; rw [Bool.eq_iff_iff]; simp; omega
        · simp [h1, h2]
    · have e : trOf c = noTr := trOf_out (by omega)
      unfold hasB
      rw [e]
      by_cases h2 : v = 2
      · subst h2; simp [noTr]; omega
      · by_cases h1 : v = 1
        · subst h1; simp [noTr]; omega
        · simp [h1, h2]
  clear hin1 hin2
  by_cases h2 : v = 2
  · subst h2
    rw [if_pos rfl] at key
    rcases (show c < 1 ∨ (1 ≤ c ∧ c ≤ 18) ∨ 18 < c from by omega) with h | ⟨h, h'⟩ | h
    · have hb' : b = false := by rw [key]; simp; omega
      subst hb'
      clear key HB
      go_enter Tryd.func41, Tryd.ntmps41
      go_wp2
      go_ret
      exact ⟨rfl, rfl⟩
    · have hb' : b = true := by rw [key]; simp; omega
      subst hb'
      clear key HB
      go_enter Tryd.func41, Tryd.ntmps41
      go_wp2
      go_ret
      exact ⟨ret_bool (by first | rfl | (simp; done) | (simp; omega)), rfl⟩
    · have hb' : b = false := by rw [key]; simp; omega
      have h1 : 1 ≤ c := by omega
      subst hb'
      clear key HB
      go_enter Tryd.func41, Tryd.ntmps41
      go_wp2
      go_ret
      exact ⟨ret_bool (by first | rfl | (simp; done) | (simp; omega)), rfl⟩
  · rw [if_neg h2] at key
    by_cases h1 : v = 1
    · subst h1
      rcases (show c < 1 ∨ (1 ≤ c ∧ c ≤ 6) ∨ (6 < c ∧ c < 17) ∨ (17 ≤ c ∧ c ≤ 19) ∨ 19 < c from by omega) with h | ⟨h, h'⟩ | ⟨h, h'⟩ | ⟨h, h'⟩ | h
      · have hb' : b = false := by rw [key]; simp; omega
        have g1 : c < 17 := by omega
        subst hb'
        clear key HB h2
        go_enter Tryd.func41, Tryd.ntmps41
        go_wp2
        go_ret
        exact ⟨ret_bool (by first | rfl | (simp; done) | (simp; omega)), rfl⟩
      · have hb' : b = true := by rw [key]; simp; omega
        subst hb'
        clear key HB h2
        go_enter Tryd.func41, Tryd.ntmps41
        go_wp2
        go_ret
        exact ⟨ret_bool (by first | rfl | (simp; done) | (simp; omega)), rfl⟩
      · have hb' : b = false := by rw [key]; simp; omega
        have g1 : 1 ≤ c := by omega
        subst hb'
        clear key HB h2
        go_enter Tryd.func41, Tryd.ntmps41
        go_wp2
        go_ret
        exact ⟨ret_bool (by first | rfl | (simp; done) | (simp; omega)), rfl⟩
      · have hb' : b = true := by rw [key]; simp; omega
        have g1 : 1 ≤ c := by omega
        have g2 : 6 < c := by omega
        subst hb'
        clear key HB h2
        go_enter Tryd.func41, Tryd.ntmps41
        go_wp2
        go_ret
        exact ⟨ret_bool (by first | rfl | (simp; done) | (simp; omega)), rfl⟩
      · have hb' : b = false := by rw [key]; simp; omega
        have g1 : 1 ≤ c := by omega
        have g2 : 6 < c := by omega
        have g3 : 17 ≤ c := by omega
        subst hb'
        clear key HB h2
        go_enter Tryd.func41, Tryd.ntmps41
        go_wp2
        go_ret
        exact ⟨ret_bool (by first | rfl | (simp; done) | (simp; omega)), rfl⟩
    · have hb' : b = false := by rw [key]; simp [h1]
      have g1 : (v == 1) = false := by simpa using h1
      have g2 : (v == 2) = false := by simpa using h2
      subst hb'
      clear key HB h1 h2
      go_enter Tryd.func41, Tryd.ntmps41
      go_wp2
      go_ret
      exact ⟨rfl, rfl⟩
end Go.Proofs.YtbanegjmapgkdaaDoor.Sc
-- ScTwo
namespace Go.Proofs.YtbanegjmapgkdaaDoor.Sc
open Go.RowKit
set_option linter.unusedVariables false

/-- What a function makes of two numbers. -/
def twoI (c a b : Int) : Int :=
  if c = 1 then wrap64 (a + b)
  else if c = 2 then wrap64 (a - b)
  else if c = 3 then wrap64 (a * b)
  else if c = 4 then overI a b
  else if c = 5 then powI a b
  else if c = 6 then restI a b
  else if c = 7 then max a b
  else if c = 8 then min a b
  else if c = 9 then (if a = b then 1 else 0)
  else if c = 10 then (if ¬ a = b then 1 else 0)
  else if c = 11 then (if a < b then 1 else 0)
  else if c = 12 then (if a ≤ b then 1 else 0)
  else if c = 13 then (if b < a then 1 else 0)
  else if c = 14 then (if b ≤ a then 1 else 0)
  else if c = 15 then bits .and .i64 a b
  else if c = 16 then bits .or .i64 a b
  else if c = 17 then a
  else if c = 18 then b
  else 0
theorem compare_9x (a b x : Int) (w : World) (h : (if a = b then (1 : Int) else 0) = x) : Calls Tryd.prog 101 #[.int .i64 9, .int .i64 a, .int .i64 b] w fun e w' => e = .returned (.int .i64 x) ∧ w = w' := by
  subst h; exact compare_9 a b w
theorem compare_10x (a b x : Int) (w : World) (h : (if ¬ a = b then (1 : Int) else 0) = x) : Calls Tryd.prog 101 #[.int .i64 10, .int .i64 a, .int .i64 b] w fun e w' => e = .returned (.int .i64 x) ∧ w = w' := by
  subst h; exact compare_10 a b w
theorem compare_11x (a b x : Int) (w : World) (h : (if a < b then (1 : Int) else 0) = x) : Calls Tryd.prog 101 #[.int .i64 11, .int .i64 a, .int .i64 b] w fun e w' => e = .returned (.int .i64 x) ∧ w = w' := by
  subst h; exact compare_11 a b w
theorem compare_12x (a b x : Int) (w : World) (h : (if a ≤ b then (1 : Int) else 0) = x) : Calls Tryd.prog 101 #[.int .i64 12, .int .i64 a, .int .i64 b] w fun e w' => e = .returned (.int .i64 x) ∧ w = w' := by
  subst h; exact compare_12 a b w
theorem compare_13x (a b x : Int) (w : World) (h : (if b < a then (1 : Int) else 0) = x) : Calls Tryd.prog 101 #[.int .i64 13, .int .i64 a, .int .i64 b] w fun e w' => e = .returned (.int .i64 x) ∧ w = w' := by
  subst h; exact compare_13 a b w
theorem compare_14x (a b x : Int) (w : World) (h : (if b ≤ a then (1 : Int) else 0) = x) : Calls Tryd.prog 101 #[.int .i64 14, .int .i64 a, .int .i64 b] w fun e w' => e = .returned (.int .i64 x) ∧ w = w' := by
  subst h; exact compare_14 a b w
theorem has2_in {c : Int} (h1 : 1 ≤ c) (h2 : c ≤ 18) : hasB c 2 = true := by
  obtain ⟨k, rfl⟩ : ∃ k : Nat, c = k := ⟨c.toNat, by omega⟩
  have hk : ∀ k : Nat, k < 19 → 1 ≤ k → (trL.getD k noTr).two = true := by decide
  have e : trOf (k : Int) = trL.getD k noTr := trOf_in h1 (by omega)
  simp only [hasB, e]
  simpa using hk k (by omega) (by omega)
theorem has2_out {c : Int} (h : c < 1 ∨ 18 < c) : hasB c 2 = false := by
  by_cases h1 : c = 19
  · subst h1; decide
  · have e : trOf c = noTr := trOf_out (by omega)
    simp [hasB, e, noTr]
theorem has_b (c v : Int) (b : Bool) (w : World) (h : hasB c v = b) (hT : Tab w) : Calls Tryd.prog 52 #[.int .i64 c, .int .i64 v] w fun e w' => e = .returned (.bool b) ∧ Below w.heap.size w w' := by
  subst h; exact has_any c v w hT
set_option maxHeartbeats 1000000 in
theorem two_1 (a b : Int) (w : World) (hT : Tab w) (ha : InR a) (hb : InR b) : Calls Tryd.prog 81 #[.int .i64 1, .int .i64 a, .int .i64 b] w fun e w' => e = .returned (.tuple #[.int .i64 (wrap64 (a + b)), .bool true]) ∧ Below w.heap.size w w' := by
  have HT := Lib.hid hT
  clear hT
  go_enter Tryd.func81, Tryd.ntmps81
  go_wp2_with fail
  refine (has_b 1 2 true _ (by decide) HT.out).mono ?_
  rintro e w1 ⟨rfl, hb1⟩
  go_wp2
  go_ret2
  exact ⟨rfl, hb1⟩
set_option maxHeartbeats 1000000 in
theorem two_2 (a b : Int) (w : World) (hT : Tab w) (ha : InR a) (hb : InR b) : Calls Tryd.prog 81 #[.int .i64 2, .int .i64 a, .int .i64 b] w fun e w' => e = .returned (.tuple #[.int .i64 (wrap64 (a - b)), .bool true]) ∧ Below w.heap.size w w' := by
  have HT := Lib.hid hT
  clear hT
  go_enter Tryd.func81, Tryd.ntmps81
  go_wp2_with fail
  refine (has_b 2 2 true _ (by decide) HT.out).mono ?_
  rintro e w1 ⟨rfl, hb1⟩
  go_wp2
  go_ret2
  exact ⟨rfl, hb1⟩
set_option maxHeartbeats 1000000 in
theorem two_3 (a b : Int) (w : World) (hT : Tab w) (ha : InR a) (hb : InR b) : Calls Tryd.prog 81 #[.int .i64 3, .int .i64 a, .int .i64 b] w fun e w' => e = .returned (.tuple #[.int .i64 (wrap64 (a * b)), .bool true]) ∧ Below w.heap.size w w' := by
  have HT := Lib.hid hT
  clear hT
  go_enter Tryd.func81, Tryd.ntmps81
  go_wp2_with fail
  refine (has_b 3 2 true _ (by decide) HT.out).mono ?_
  rintro e w1 ⟨rfl, hb1⟩
  go_wp2
  go_ret2
  exact ⟨rfl, hb1⟩
set_option maxHeartbeats 1000000 in
theorem two_4 (a b : Int) (w : World) (hT : Tab w) (ha : InR a) (hb : InR b) : Calls Tryd.prog 81 #[.int .i64 4, .int .i64 a, .int .i64 b] w fun e w' => e = .returned (.tuple #[.int .i64 (overI a b), .bool true]) ∧ Below w.heap.size w w' := by
  have HT := Lib.hid hT
  clear hT
  go_enter Tryd.func81, Tryd.ntmps81
  go_wp2_with fail
  refine (has_b 4 2 true _ (by decide) HT.out).mono ?_
  rintro e w1 ⟨rfl, hb1⟩
  go_wp2_with (go_at_call 98; refine (over_any _ _ _).mono ?_; rintro e w' ⟨rfl, rfl⟩)
  go_ret2
  exact ⟨rfl, hb1⟩
set_option maxHeartbeats 1000000 in
theorem two_5 (a b : Int) (w : World) (hT : Tab w) (ha : InR a) (hb : InR b) : Calls Tryd.prog 81 #[.int .i64 5, .int .i64 a, .int .i64 b] w fun e w' => e = .returned (.tuple #[.int .i64 (powI a b), .bool true]) ∧ Below w.heap.size w w' := by
  have HT := Lib.hid hT
  clear hT
  go_enter Tryd.func81, Tryd.ntmps81
  go_wp2_with fail
  refine (has_b 5 2 true _ (by decide) HT.out).mono ?_
  rintro e w1 ⟨rfl, hb1⟩
  go_wp2_with (go_at_call 99; refine (power_any _ _ _ ha hb).mono ?_; rintro e w' ⟨rfl, rfl⟩)
  go_ret2
  exact ⟨rfl, hb1⟩
set_option maxHeartbeats 1000000 in
theorem two_6 (a b : Int) (w : World) (hT : Tab w) (ha : InR a) (hb : InR b) : Calls Tryd.prog 81 #[.int .i64 6, .int .i64 a, .int .i64 b] w fun e w' => e = .returned (.tuple #[.int .i64 (restI a b), .bool true]) ∧ Below w.heap.size w w' := by
  have HT := Lib.hid hT
  clear hT
  go_enter Tryd.func81, Tryd.ntmps81
  go_wp2_with fail
  refine (has_b 6 2 true _ (by decide) HT.out).mono ?_
  rintro e w1 ⟨rfl, hb1⟩
  go_wp2_with (go_at_call 100; refine (rest_any _ _ _).mono ?_; rintro e w' ⟨rfl, rfl⟩)
  go_ret2
  exact ⟨rfl, hb1⟩
set_option maxHeartbeats 1000000 in
theorem two_7 (a b : Int) (w : World) (hT : Tab w) (ha : InR a) (hb : InR b) : Calls Tryd.prog 81 #[.int .i64 7, .int .i64 a, .int .i64 b] w fun e w' => e = .returned (.tuple #[.int .i64 (max a b), .bool true]) ∧ Below w.heap.size w w' := by
  have HT := Lib.hid hT
  clear hT
  go_enter Tryd.func81, Tryd.ntmps81
  go_wp2_with fail
  refine (has_b 7 2 true _ (by decide) HT.out).mono ?_
  rintro e w1 ⟨rfl, hb1⟩
  go_wp2
  go_ret2
  exact ⟨rfl, hb1⟩
set_option maxHeartbeats 1000000 in
theorem two_8 (a b : Int) (w : World) (hT : Tab w) (ha : InR a) (hb : InR b) : Calls Tryd.prog 81 #[.int .i64 8, .int .i64 a, .int .i64 b] w fun e w' => e = .returned (.tuple #[.int .i64 (min a b), .bool true]) ∧ Below w.heap.size w w' := by
  have HT := Lib.hid hT
  clear hT
  go_enter Tryd.func81, Tryd.ntmps81
  go_wp2_with fail
  refine (has_b 8 2 true _ (by decide) HT.out).mono ?_
  rintro e w1 ⟨rfl, hb1⟩
  go_wp2
  go_ret2
  exact ⟨rfl, hb1⟩
set_option maxHeartbeats 1000000 in
theorem two_9 (a b : Int) (w : World) (hT : Tab w) (ha : InR a) (hb : InR b) : Calls Tryd.prog 81 #[.int .i64 9, .int .i64 a, .int .i64 b] w fun e w' => e = .returned (.tuple #[.int .i64 (if a = b then 1 else 0), .bool true]) ∧ Below w.heap.size w w' := by
  obtain ⟨x, hx⟩ : ∃ x, (if a = b then (1 : Int) else 0) = x := ⟨_, rfl⟩
  rw [hx]
  have HX := Lib.hid hx
  clear hx
  have HT := Lib.hid hT
  clear hT
  go_enter Tryd.func81, Tryd.ntmps81
  go_wp2_with fail
  refine (has_b 9 2 true _ (by decide) HT.out).mono ?_
  rintro e w1 ⟨rfl, hb1⟩
  go_wp2_with (go_at_call 101; refine (compare_9x _ _ x _ HX.out).mono ?_; rintro e w' ⟨rfl, rfl⟩)
  go_ret2
  exact ⟨rfl, hb1⟩
set_option maxHeartbeats 1000000 in
theorem two_10 (a b : Int) (w : World) (hT : Tab w) (ha : InR a) (hb : InR b) : Calls Tryd.prog 81 #[.int .i64 10, .int .i64 a, .int .i64 b] w fun e w' => e = .returned (.tuple #[.int .i64 (if ¬ a = b then 1 else 0), .bool true]) ∧ Below w.heap.size w w' := by
  obtain ⟨x, hx⟩ : ∃ x, (if ¬ a = b then (1 : Int) else 0) = x := ⟨_, rfl⟩
  rw [hx]
  have HX := Lib.hid hx
  clear hx
  have HT := Lib.hid hT
  clear hT
  go_enter Tryd.func81, Tryd.ntmps81
  go_wp2_with fail
  refine (has_b 10 2 true _ (by decide) HT.out).mono ?_
  rintro e w1 ⟨rfl, hb1⟩
  go_wp2_with (go_at_call 101; refine (compare_10x _ _ x _ HX.out).mono ?_; rintro e w' ⟨rfl, rfl⟩)
  go_ret2
  exact ⟨rfl, hb1⟩
set_option maxHeartbeats 1000000 in
theorem two_11 (a b : Int) (w : World) (hT : Tab w) (ha : InR a) (hb : InR b) : Calls Tryd.prog 81 #[.int .i64 11, .int .i64 a, .int .i64 b] w fun e w' => e = .returned (.tuple #[.int .i64 (if a < b then 1 else 0), .bool true]) ∧ Below w.heap.size w w' := by
  obtain ⟨x, hx⟩ : ∃ x, (if a < b then (1 : Int) else 0) = x := ⟨_, rfl⟩
  rw [hx]
  have HX := Lib.hid hx
  clear hx
  have HT := Lib.hid hT
  clear hT
  go_enter Tryd.func81, Tryd.ntmps81
  go_wp2_with fail
  refine (has_b 11 2 true _ (by decide) HT.out).mono ?_
  rintro e w1 ⟨rfl, hb1⟩
  go_wp2_with (go_at_call 101; refine (compare_11x _ _ x _ HX.out).mono ?_; rintro e w' ⟨rfl, rfl⟩)
  go_ret2
  exact ⟨rfl, hb1⟩
set_option maxHeartbeats 1000000 in
theorem two_12 (a b : Int) (w : World) (hT : Tab w) (ha : InR a) (hb : InR b) : Calls Tryd.prog 81 #[.int .i64 12, .int .i64 a, .int .i64 b] w fun e w' => e = .returned (.tuple #[.int .i64 (if a ≤ b then 1 else 0), .bool true]) ∧ Below w.heap.size w w' := by
  obtain ⟨x, hx⟩ : ∃ x, (if a ≤ b then (1 : Int) else 0) = x := ⟨_, rfl⟩
  rw [hx]
  have HX := Lib.hid hx
  clear hx
  have HT := Lib.hid hT
  clear hT
  go_enter Tryd.func81, Tryd.ntmps81
  go_wp2_with fail
  refine (has_b 12 2 true _ (by decide) HT.out).mono ?_
  rintro e w1 ⟨rfl, hb1⟩
  go_wp2_with (go_at_call 101; refine (compare_12x _ _ x _ HX.out).mono ?_; rintro e w' ⟨rfl, rfl⟩)
  go_ret2
  exact ⟨rfl, hb1⟩
set_option maxHeartbeats 1000000 in
theorem two_13 (a b : Int) (w : World) (hT : Tab w) (ha : InR a) (hb : InR b) : Calls Tryd.prog 81 #[.int .i64 13, .int .i64 a, .int .i64 b] w fun e w' => e = .returned (.tuple #[.int .i64 (if b < a then 1 else 0), .bool true]) ∧ Below w.heap.size w w' := by
  obtain ⟨x, hx⟩ : ∃ x, (if b < a then (1 : Int) else 0) = x := ⟨_, rfl⟩
  rw [hx]
  have HX := Lib.hid hx
  clear hx
  have HT := Lib.hid hT
  clear hT
  go_enter Tryd.func81, Tryd.ntmps81
  go_wp2_with fail
  refine (has_b 13 2 true _ (by decide) HT.out).mono ?_
  rintro e w1 ⟨rfl, hb1⟩
  go_wp2_with (go_at_call 101; refine (compare_13x _ _ x _ HX.out).mono ?_; rintro e w' ⟨rfl, rfl⟩)
  go_ret2
  exact ⟨rfl, hb1⟩
set_option maxHeartbeats 1000000 in
theorem two_14 (a b : Int) (w : World) (hT : Tab w) (ha : InR a) (hb : InR b) : Calls Tryd.prog 81 #[.int .i64 14, .int .i64 a, .int .i64 b] w fun e w' => e = .returned (.tuple #[.int .i64 (if b ≤ a then 1 else 0), .bool true]) ∧ Below w.heap.size w w' := by
  obtain ⟨x, hx⟩ : ∃ x, (if b ≤ a then (1 : Int) else 0) = x := ⟨_, rfl⟩
  rw [hx]
  have HX := Lib.hid hx
  clear hx
  have HT := Lib.hid hT
  clear hT
  go_enter Tryd.func81, Tryd.ntmps81
  go_wp2_with fail
  refine (has_b 14 2 true _ (by decide) HT.out).mono ?_
  rintro e w1 ⟨rfl, hb1⟩
  go_wp2_with (go_at_call 101; refine (compare_14x _ _ x _ HX.out).mono ?_; rintro e w' ⟨rfl, rfl⟩)
  go_ret2
  exact ⟨rfl, hb1⟩
set_option maxHeartbeats 1000000 in
theorem two_15 (a b : Int) (w : World) (hT : Tab w) (ha : InR a) (hb : InR b) : Calls Tryd.prog 81 #[.int .i64 15, .int .i64 a, .int .i64 b] w fun e w' => e = .returned (.tuple #[.int .i64 (bits .and .i64 a b), .bool true]) ∧ Below w.heap.size w w' := by
  have HT := Lib.hid hT
  clear hT
  go_enter Tryd.func81, Tryd.ntmps81
  go_wp2_with fail
  refine (has_b 15 2 true _ (by decide) HT.out).mono ?_
  rintro e w1 ⟨rfl, hb1⟩
  go_wp2
  go_ret2
  exact ⟨rfl, hb1⟩
set_option maxHeartbeats 1000000 in
theorem two_16 (a b : Int) (w : World) (hT : Tab w) (ha : InR a) (hb : InR b) : Calls Tryd.prog 81 #[.int .i64 16, .int .i64 a, .int .i64 b] w fun e w' => e = .returned (.tuple #[.int .i64 (bits .or .i64 a b), .bool true]) ∧ Below w.heap.size w w' := by
  have HT := Lib.hid hT
  clear hT
  go_enter Tryd.func81, Tryd.ntmps81
  go_wp2_with fail
  refine (has_b 16 2 true _ (by decide) HT.out).mono ?_
  rintro e w1 ⟨rfl, hb1⟩
  go_wp2
  go_ret2
  exact ⟨rfl, hb1⟩
set_option maxHeartbeats 1000000 in
theorem two_17 (a b : Int) (w : World) (hT : Tab w) (ha : InR a) (hb : InR b) : Calls Tryd.prog 81 #[.int .i64 17, .int .i64 a, .int .i64 b] w fun e w' => e = .returned (.tuple #[.int .i64 (a), .bool true]) ∧ Below w.heap.size w w' := by
  have HT := Lib.hid hT
  clear hT
  go_enter Tryd.func81, Tryd.ntmps81
  go_wp2_with fail
  refine (has_b 17 2 true _ (by decide) HT.out).mono ?_
  rintro e w1 ⟨rfl, hb1⟩
  go_wp2
  go_ret2
  exact ⟨rfl, hb1⟩
set_option maxHeartbeats 1000000 in
theorem two_18 (a b : Int) (w : World) (hT : Tab w) (ha : InR a) (hb : InR b) : Calls Tryd.prog 81 #[.int .i64 18, .int .i64 a, .int .i64 b] w fun e w' => e = .returned (.tuple #[.int .i64 (b), .bool true]) ∧ Below w.heap.size w w' := by
  have HT := Lib.hid hT
  clear hT
  go_enter Tryd.func81, Tryd.ntmps81
  go_wp2_with fail
  refine (has_b 18 2 true _ (by decide) HT.out).mono ?_
  rintro e w1 ⟨rfl, hb1⟩
  go_wp2
  go_ret2
  exact ⟨rfl, hb1⟩
set_option maxHeartbeats 1000000 in
theorem two_out (c a b : Int) (w : World) (hT : Tab w) (h : c < 1 ∨ 18 < c) : Calls Tryd.prog 81 #[.int .i64 c, .int .i64 a, .int .i64 b] w fun e w' => e = .returned (.tuple #[.int .i64 0, .bool false]) ∧ Below w.heap.size w w' := by
  have HT := Lib.hid hT
  have H := Lib.hid (has2_out h)
  clear hT h
  go_enter Tryd.func81, Tryd.ntmps81
  go_wp2_with fail
  refine (has_b c 2 false _ H.out HT.out).mono ?_
  rintro e w1 ⟨rfl, hb1⟩
  go_wp2
  go_ret2
  exact ⟨rfl, hb1⟩
def twoB (c : Int) : Bool := decide (1 ≤ c) && decide (c ≤ 18)
theorem two_any (c a b : Int) (w : World) (hT : Tab w) (ha : InR a) (hb : InR b) : Calls Tryd.prog 81 #[.int .i64 c, .int .i64 a, .int .i64 b] w fun e w' => e = .returned (.tuple #[.int .i64 (twoI c a b), .bool (twoB c)]) ∧ Below w.heap.size w w' := by
  by_cases h : 1 ≤ c ∧ c ≤ 18
  · have hB : twoB c = true := by simp [twoB, h]
    rw [hB]
    obtain ⟨k, rfl⟩ : ∃ k : Nat, c = k := ⟨c.toNat, by omega⟩
    have hk : k < 19 := by omega
    have hk1 : 1 ≤ k := by omega
    match k, hk, hk1 with
    | 1, _, _ => exact two_1 a b w hT ha hb
    | 2, _, _ => exact two_2 a b w hT ha hb
    | 3, _, _ => exact two_3 a b w hT ha hb
    | 4, _, _ => exact two_4 a b w hT ha hb
    | 5, _, _ => exact two_5 a b w hT ha hb
    | 6, _, _ => exact two_6 a b w hT ha hb
    | 7, _, _ => exact two_7 a b w hT ha hb
    | 8, _, _ => exact two_8 a b w hT ha hb
    | 9, _, _ => exact two_9 a b w hT ha hb
    | 10, _, _ => exact two_10 a b w hT ha hb
    | 11, _, _ => exact two_11 a b w hT ha hb
    | 12, _, _ => exact two_12 a b w hT ha hb
    | 13, _, _ => exact two_13 a b w hT ha hb
    | 14, _, _ => exact two_14 a b w hT ha hb
    | 15, _, _ => exact two_15 a b w hT ha hb
    | 16, _, _ => exact two_16 a b w hT ha hb
    | 17, _, _ => exact two_17 a b w hT ha hb
    | 18, _, _ => exact two_18 a b w hT ha hb
  · have hB : twoB c = false := by simp [twoB]; omega
    have h0 : twoI c a b = 0 := by
      unfold twoI
      rw [if_neg (by omega), if_neg (by omega), if_neg (by omega), if_neg (by omega), if_neg (by omega), if_neg (by omega), if_neg (by omega), if_neg (by omega), if_neg (by omega), if_neg (by omega), if_neg (by omega), if_neg (by omega), if_neg (by omega), if_neg (by omega), if_neg (by omega), if_neg (by omega), if_neg (by omega), if_neg (by omega)]
    rw [hB, h0]
    exact two_out c a b w hT (by omega)
theorem truth_R (p : Prop) [Decidable p] : InR (if p then 1 else 0) := by
  by_cases h : p
  · rw [if_pos h]; unfold InR; omega
  · rw [if_neg h]; unfold InR; omega
theorem two_R (c a b : Int) (ha : InR a) (hb : InR b) : InR (twoI c a b) := by
  unfold twoI
  by_cases h1 : c = 1
  · rw [if_pos h1]
    exact wrap_R _
  rw [if_neg h1]
  by_cases h2 : c = 2
  · rw [if_pos h2]
    exact wrap_R _
  rw [if_neg h2]
  by_cases h3 : c = 3
  · rw [if_pos h3]
    exact wrap_R _
  rw [if_neg h3]
  by_cases h4 : c = 4
  · rw [if_pos h4]
    exact over_R _ _
  rw [if_neg h4]
  by_cases h5 : c = 5
  · rw [if_pos h5]
    exact pow_R _ _
  rw [if_neg h5]
  by_cases h6 : c = 6
  · rw [if_pos h6]
    exact wrap_R _
  rw [if_neg h6]
  by_cases h7 : c = 7
  · rw [if_pos h7]
    unfold InR at *; omega
  rw [if_neg h7]
  by_cases h8 : c = 8
  · rw [if_pos h8]
    unfold InR at *; omega
  rw [if_neg h8]
  by_cases h9 : c = 9
  · rw [if_pos h9]
    exact truth_R _
  rw [if_neg h9]
  by_cases h10 : c = 10
  · rw [if_pos h10]
    exact truth_R _
  rw [if_neg h10]
  by_cases h11 : c = 11
  · rw [if_pos h11]
    exact truth_R _
  rw [if_neg h11]
  by_cases h12 : c = 12
  · rw [if_pos h12]
    exact truth_R _
  rw [if_neg h12]
  by_cases h13 : c = 13
  · rw [if_pos h13]
    exact truth_R _
  rw [if_neg h13]
  by_cases h14 : c = 14
  · rw [if_pos h14]
    exact truth_R _
  rw [if_neg h14]
  by_cases h15 : c = 15
  · rw [if_pos h15]
    exact and_R _ _
  rw [if_neg h15]
  by_cases h16 : c = 16
  · rw [if_pos h16]
    exact or_R _ _
  rw [if_neg h16]
  by_cases h17 : c = 17
  · rw [if_pos h17]
    exact ha
  rw [if_neg h17]
  by_cases h18 : c = 18
  · rw [if_pos h18]
    exact hb
  rw [if_neg h18]
  unfold InR; omega

/-- As Two, or the other way round. -/
def doI (c : Int) (s : Bool) (a b : Int) : Int := if s = true then twoI c b a else twoI c a b
theorem do_R (c : Int) (s : Bool) (a b : Int) (ha : InR a) (hb : InR b) : InR (doI c s a b) := by
  unfold doI
  split
  · exact two_R _ _ _ hb ha
  · exact two_R _ _ _ ha hb
set_option maxHeartbeats 1000000 in
theorem do_any (c : Int) (s : Bool) (a b : Int) (w : World) (hT : Tab w) (ha : InR a) (hb : InR b) : Calls Tryd.prog 56 #[.agg #[.int .i64 c, .bool s], .int .i64 a, .int .i64 b] w fun e w' => e = .returned (.tuple #[.int .i64 (doI c s a b), .bool (twoB c)]) ∧ Below w.heap.size w w' := by
  have hB : Below w.heap.size w (w.alloc (.cells #[.int .i64 c, .bool s] 23)) := (Below.refl _ w).alloc (Nat.le_refl _) _
  have HT := Lib.hid (hT.below hB)
  clear hT
  cases s
  · go_enter Tryd.func56, Tryd.ntmps56
    go_wp2_with fail
    refine (two_any _ _ _ _ HT.out ha hb).mono ?_
    rintro e w1 ⟨rfl, hb1⟩
    go_wp2
    go_ret2
    exact ⟨rfl, hB.trans (hb1.mono (by simp))⟩
  · go_enter Tryd.func56, Tryd.ntmps56
    go_wp2_with fail
    refine (two_any _ _ _ _ HT.out hb ha).mono ?_
    rintro e w1 ⟨rfl, hb1⟩
    go_wp2
    go_ret2
    exact ⟨rfl, hB.trans (hb1.mono (by simp))⟩
end Go.Proofs.YtbanegjmapgkdaaDoor.Sc
-- ScKind
namespace Go.Proofs.YtbanegjmapgkdaaDoor.Sc
open Go.RowKit
set_option linter.unusedVariables false

set_option maxHeartbeats 1000000 in
theorem runit_1 (w : World) : Calls Tryd.prog 42 #[.int .i64 1] w fun e w' => e = .returned (.tuple #[.int .i64 (0), .bool true]) ∧ Below w.heap.size w w' := by
  go_enter Tryd.func42, Tryd.ntmps42
  go_wp2
  go_ret2
  exact ⟨rfl, (Below.refl _ _).alloc (Nat.le_refl _) _⟩
set_option maxHeartbeats 1000000 in
theorem runit_2 (w : World) : Calls Tryd.prog 42 #[.int .i64 2] w fun e w' => e = .returned (.tuple #[.int .i64 (0), .bool true]) ∧ Below w.heap.size w w' := by
  go_enter Tryd.func42, Tryd.ntmps42
  go_wp2
  go_ret2
  exact ⟨rfl, (Below.refl _ _).alloc (Nat.le_refl _) _⟩
set_option maxHeartbeats 1000000 in
theorem runit_3 (w : World) : Calls Tryd.prog 42 #[.int .i64 3] w fun e w' => e = .returned (.tuple #[.int .i64 (1), .bool true]) ∧ Below w.heap.size w w' := by
  go_enter Tryd.func42, Tryd.ntmps42
  go_wp2
  go_ret2
  exact ⟨rfl, (Below.refl _ _).alloc (Nat.le_refl _) _⟩
set_option maxHeartbeats 1000000 in
theorem runit_4 (w : World) : Calls Tryd.prog 42 #[.int .i64 4] w fun e w' => e = .returned (.tuple #[.int .i64 (1), .bool true]) ∧ Below w.heap.size w w' := by
  go_enter Tryd.func42, Tryd.ntmps42
  go_wp2
  go_ret2
  exact ⟨rfl, (Below.refl _ _).alloc (Nat.le_refl _) _⟩
set_option maxHeartbeats 1000000 in
theorem runit_5 (w : World) : Calls Tryd.prog 42 #[.int .i64 5] w fun e w' => e = .returned (.tuple #[.int .i64 (1), .bool true]) ∧ Below w.heap.size w w' := by
  go_enter Tryd.func42, Tryd.ntmps42
  go_wp2
  go_ret2
  exact ⟨rfl, (Below.refl _ _).alloc (Nat.le_refl _) _⟩
set_option maxHeartbeats 1000000 in
theorem runit_6 (w : World) : Calls Tryd.prog 42 #[.int .i64 6] w fun e w' => e = .returned (.tuple #[.int .i64 (0), .bool true]) ∧ Below w.heap.size w w' := by
  go_enter Tryd.func42, Tryd.ntmps42
  go_wp2
  go_ret2
  exact ⟨rfl, (Below.refl _ _).alloc (Nat.le_refl _) _⟩
set_option maxHeartbeats 1000000 in
theorem runit_7 (w : World) : Calls Tryd.prog 42 #[.int .i64 7] w fun e w' => e = .returned (.tuple #[.int .i64 (-9223372036854775808), .bool true]) ∧ Below w.heap.size w w' := by
  go_enter Tryd.func42, Tryd.ntmps42
  go_wp2
  go_ret2
  exact ⟨rfl, (Below.refl _ _).alloc (Nat.le_refl _) _⟩
set_option maxHeartbeats 1000000 in
theorem runit_8 (w : World) : Calls Tryd.prog 42 #[.int .i64 8] w fun e w' => e = .returned (.tuple #[.int .i64 (9223372036854775807), .bool true]) ∧ Below w.heap.size w w' := by
  go_enter Tryd.func42, Tryd.ntmps42
  go_wp2
  go_ret2
  exact ⟨rfl, (Below.refl _ _).alloc (Nat.le_refl _) _⟩
set_option maxHeartbeats 1000000 in
theorem runit_9 (w : World) : Calls Tryd.prog 42 #[.int .i64 9] w fun e w' => e = .returned (.tuple #[.int .i64 (1), .bool true]) ∧ Below w.heap.size w w' := by
  go_enter Tryd.func42, Tryd.ntmps42
  go_wp2
  go_ret2
  exact ⟨rfl, (Below.refl _ _).alloc (Nat.le_refl _) _⟩
set_option maxHeartbeats 1000000 in
theorem runit_10 (w : World) : Calls Tryd.prog 42 #[.int .i64 10] w fun e w' => e = .returned (.tuple #[.int .i64 (0), .bool true]) ∧ Below w.heap.size w w' := by
  go_enter Tryd.func42, Tryd.ntmps42
  go_wp2
  go_ret2
  exact ⟨rfl, (Below.refl _ _).alloc (Nat.le_refl _) _⟩
set_option maxHeartbeats 1000000 in
theorem runit_11 (w : World) : Calls Tryd.prog 42 #[.int .i64 11] w fun e w' => e = .returned (.tuple #[.int .i64 (0), .bool true]) ∧ Below w.heap.size w w' := by
  go_enter Tryd.func42, Tryd.ntmps42
  go_wp2
  go_ret2
  exact ⟨rfl, (Below.refl _ _).alloc (Nat.le_refl _) _⟩
set_option maxHeartbeats 1000000 in
theorem runit_12 (w : World) : Calls Tryd.prog 42 #[.int .i64 12] w fun e w' => e = .returned (.tuple #[.int .i64 (1), .bool true]) ∧ Below w.heap.size w w' := by
  go_enter Tryd.func42, Tryd.ntmps42
  go_wp2
  go_ret2
  exact ⟨rfl, (Below.refl _ _).alloc (Nat.le_refl _) _⟩
set_option maxHeartbeats 1000000 in
theorem runit_13 (w : World) : Calls Tryd.prog 42 #[.int .i64 13] w fun e w' => e = .returned (.tuple #[.int .i64 (0), .bool true]) ∧ Below w.heap.size w w' := by
  go_enter Tryd.func42, Tryd.ntmps42
  go_wp2
  go_ret2
  exact ⟨rfl, (Below.refl _ _).alloc (Nat.le_refl _) _⟩
set_option maxHeartbeats 1000000 in
theorem runit_14 (w : World) : Calls Tryd.prog 42 #[.int .i64 14] w fun e w' => e = .returned (.tuple #[.int .i64 (1), .bool true]) ∧ Below w.heap.size w w' := by
  go_enter Tryd.func42, Tryd.ntmps42
  go_wp2
  go_ret2
  exact ⟨rfl, (Below.refl _ _).alloc (Nat.le_refl _) _⟩
set_option maxHeartbeats 1000000 in
theorem runit_15 (w : World) : Calls Tryd.prog 42 #[.int .i64 15] w fun e w' => e = .returned (.tuple #[.int .i64 (-1), .bool true]) ∧ Below w.heap.size w w' := by
  go_enter Tryd.func42, Tryd.ntmps42
  go_wp2
  go_ret2
  exact ⟨rfl, (Below.refl _ _).alloc (Nat.le_refl _) _⟩
set_option maxHeartbeats 1000000 in
theorem runit_16 (w : World) : Calls Tryd.prog 42 #[.int .i64 16] w fun e w' => e = .returned (.tuple #[.int .i64 (0), .bool true]) ∧ Below w.heap.size w w' := by
  go_enter Tryd.func42, Tryd.ntmps42
  go_wp2
  go_ret2
  exact ⟨rfl, (Below.refl _ _).alloc (Nat.le_refl _) _⟩
set_option maxHeartbeats 1000000 in
theorem runit_out (c : Int) (w : World) (h : c < 1 ∨ 16 < c) : Calls Tryd.prog 42 #[.int .i64 c] w fun e w' => e = .returned (.tuple #[.int .i64 0, .bool false]) ∧ Below w.heap.size w w' := by
  rcases h with h | h
  · go_enter Tryd.func42, Tryd.ntmps42
    go_wp2
    go_ret2
    exact ⟨rfl, Below.refl _ _⟩
  · have h1 : ¬ c < 1 := by omega
    have h2 : decide (c < 1) = false := by simpa using h1
    go_enter Tryd.func42, Tryd.ntmps42
    go_wp2
    go_ret2
    exact ⟨rfl, Below.refl _ _⟩
theorem runit_any (c : Int) (w : World) : Calls Tryd.prog 42 #[.int .i64 c] w fun e w' => e = .returned (.tuple #[.int .i64 (trOf c).unit, .bool (trOf c).starts]) ∧ Below w.heap.size w w' := by
  by_cases h : 1 ≤ c ∧ c ≤ 16
  · obtain ⟨k, rfl⟩ : ∃ k : Nat, c = k := ⟨c.toNat, by omega⟩
    have hk : k < 17 := by omega
    have hk1 : 1 ≤ k := by omega
    match k, hk, hk1 with
    | 1, _, _ => exact runit_1 w
    | 2, _, _ => exact runit_2 w
    | 3, _, _ => exact runit_3 w
    | 4, _, _ => exact runit_4 w
    | 5, _, _ => exact runit_5 w
    | 6, _, _ => exact runit_6 w
    | 7, _, _ => exact runit_7 w
    | 8, _, _ => exact runit_8 w
    | 9, _, _ => exact runit_9 w
    | 10, _, _ => exact runit_10 w
    | 11, _, _ => exact runit_11 w
    | 12, _, _ => exact runit_12 w
    | 13, _, _ => exact runit_13 w
    | 14, _, _ => exact runit_14 w
    | 15, _, _ => exact runit_15 w
    | 16, _, _ => exact runit_16 w
  · have e : (trOf c).unit = 0 ∧ (trOf c).starts = false := by
      rcases (show c = 17 ∨ c = 18 ∨ c = 19 ∨ (c < 1 ∨ 19 < c) from by omega) with h | h | h | h
      · subst h; decide
      · subst h; decide
      · subst h; decide
      · rw [trOf_out h]; decide
    rw [e.1, e.2]
    exact runit_out c w (by omega)
theorem picks_not {c : Int} (h7 : ¬ c = 7) (h8 : ¬ c = 8) : (trOf c).picks = false := by
  by_cases h : 1 ≤ c ∧ c ≤ 19
  · obtain ⟨k, rfl⟩ : ∃ k : Nat, c = k := ⟨c.toNat, by omega⟩
    have hk : ∀ k : Nat, k < 20 → k ≠ 7 → k ≠ 8 → (trL.getD k noTr).picks = false := by decide
    have e : trOf (k : Int) = trL.getD k noTr := trOf_in h.1 h.2
    rw [e]
    exact hk k (by omega) (by omega) (by omega)
  · rw [trOf_out (c := c) (by omega)]; rfl
end Go.Proofs.YtbanegjmapgkdaaDoor.Sc
