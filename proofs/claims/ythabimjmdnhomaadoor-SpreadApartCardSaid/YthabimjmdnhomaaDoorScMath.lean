/-
  Plain facts on numbers of 64 bits that go round, for layer 4: division rounded down, powers by squares, bits. No condition; nothing of the program stands here.
-/
import Derived.WalkKit
import Derived.Deep.Draws
import Derived.Laws.BitsAllLaws
import Derived.Laws.BitsLemmas
namespace Go.Proofs.YthabimjmdnhomaaDoor.Sc
open Go.RowKit
set_option linter.unusedVariables false

/-- A number of 64 bits, with a sign. -/
def InR (a : Int) : Prop := -9223372036854775808 ≤ a ∧ a ≤ 9223372036854775807
theorem wrap_def (x : Int) : wrap64 x = (x + 9223372036854775808) % 18446744073709551616 - 9223372036854775808 := by unfold wrap64; rfl
theorem wrap_in {x : Int} (h : InR x) : wrap64 x = x := by rw [wrap_def]; unfold InR at h; omega
theorem wrap_0 : wrap64 0 = 0 := wrap_in (by unfold InR; omega)
theorem wrap_R (x : Int) : InR (wrap64 x) := by rw [wrap_def]; unfold InR; omega
theorem wrap_mod (x : Int) : wrap64 x % 18446744073709551616 = x % 18446744073709551616 := by rw [wrap_def]; omega
theorem wrap_iff {x y : Int} : wrap64 x = wrap64 y ↔ x % 18446744073709551616 = y % 18446744073709551616 := by rw [wrap_def, wrap_def]; omega
theorem wrap_wrap (x : Int) : wrap64 (wrap64 x) = wrap64 x := wrap_in (wrap_R x)
theorem wrap_add_l (x y : Int) : wrap64 (wrap64 x + y) = wrap64 (x + y) := by rw [wrap_iff, Int.add_emod, wrap_mod, ← Int.add_emod]
theorem wrap_add_r (x y : Int) : wrap64 (x + wrap64 y) = wrap64 (x + y) := by rw [wrap_iff, Int.add_emod, wrap_mod, ← Int.add_emod]
theorem wrap_sub_r (x y : Int) : wrap64 (x - wrap64 y) = wrap64 (x - y) := by rw [wrap_iff, Int.sub_emod, wrap_mod, ← Int.sub_emod]
theorem wrap_sub_l (x y : Int) : wrap64 (wrap64 x - y) = wrap64 (x - y) := by rw [wrap_iff, Int.sub_emod, wrap_mod, ← Int.sub_emod]
theorem wrap_mul_l (x y : Int) : wrap64 (wrap64 x * y) = wrap64 (x * y) := by rw [wrap_iff, Int.mul_emod, wrap_mod, ← Int.mul_emod]
theorem wrap_mul_r (x y : Int) : wrap64 (x * wrap64 y) = wrap64 (x * y) := by rw [wrap_iff, Int.mul_emod, wrap_mod, ← Int.mul_emod]
theorem pow_mod (x : Int) (n : Nat) : (wrap64 x) ^ n % 18446744073709551616 = x ^ n % 18446744073709551616 := by
  induction n with
  | zero => rw [Int.pow_zero, Int.pow_zero]
  | succ n ih => rw [Int.pow_succ, Int.pow_succ, Int.mul_emod, ih, wrap_mod, ← Int.mul_emod]
theorem wrap_pow (x y : Int) (n : Nat) : wrap64 (y * wrap64 x ^ n) = wrap64 (y * x ^ n) := by rw [wrap_iff, Int.mul_emod, pow_mod, ← Int.mul_emod]

/-- Divided, rounded down, as it goes round. -/
def overI (a b : Int) : Int :=
  if b = 0 then 0 else if ¬ a.tmod b = 0 ∧ ¬ ((a < 0) ↔ (b < 0)) then wrap64 (wrap64 (a.tdiv b) - 1) else wrap64 (a.tdiv b)
theorem over_R (a b : Int) : InR (overI a b) := by
  unfold overI
  split
  · unfold InR; omega
  · split <;> exact wrap_R _

theorem tdiv_bd {a b : Int} (ha : InR a) (hb : ¬ b = 0) (hb1 : ¬ b = -1) : InR (a.tdiv b) := by
  unfold InR at *
  have h1 := Int.natAbs_tdiv a b
  have h2 : a.natAbs / b.natAbs ≤ a.natAbs := Nat.div_le_self _ _
  by_cases hb2 : b = 1
  · subst hb2; rw [Int.tdiv_one]; exact ha
  · have h3 : a.natAbs / b.natAbs ≤ a.natAbs / 2 := Nat.div_le_div_left (by omega) (by omega)
    have h4 : (a.tdiv b).natAbs ≤ a.natAbs / 2 := by rw [h1]; exact h3
    omega
theorem tmod_eq (a b : Int) : a - a.tdiv b * b = a.tmod b := by have := Int.mul_tdiv_add_tmod a b; rw [Int.mul_comm] at this; omega
theorem tmod_R {a b : Int} (ha : InR a) : InR (a.tmod b) := by
  unfold InR at *
  have h1 := Int.natAbs_tmod a b
  have h2 : a.natAbs % b.natAbs ≤ a.natAbs := Nat.mod_le _ _
  rcases Int.le_total 0 a with h | h
  · have := Int.tmod_nonneg b h; omega
  · have h3 : 0 ≤ (-a).tmod b := Int.tmod_nonneg b (by omega)
    rw [Int.neg_tmod] at h3
    omega
theorem tmod_pos {a b : Int} (h : ¬ a.tmod b = 0) : (0 < a.tmod b ↔ ¬ a < 0) := by
  rcases Int.lt_or_le a 0 with h0 | h0
  · have h3 : 0 ≤ (-a).tmod b := Int.tmod_nonneg b (by omega)
    rw [Int.neg_tmod] at h3
    omega
  · have := Int.tmod_nonneg b h0
    omega
/-- Rounded down: what is left has the sign of b, or is nought. -/
theorem over_rest {a b : Int} (ha : InR a) (hbR : InR b) (hb : ¬ b = 0) :
    wrap64 (b * overI a b + wrap64 (a - wrap64 (b * overI a b))) = a ∧ (wrap64 (a - wrap64 (b * overI a b)) = 0 ∨ (wrap64 (a - wrap64 (b * overI a b)) < 0 ↔ b < 0)) := by
  refine ⟨by rw [wrap_sub_r, wrap_add_r, show b * overI a b + (a - b * overI a b) = a from by omega, wrap_in ha], ?_⟩
  rw [wrap_sub_r]
  by_cases hb1 : b = -1
  · left
    subst hb1
    have e : overI a (-1) = wrap64 (-a) := by
      unfold overI
      rw [if_neg (by decide), if_neg (by simp), show a.tdiv (-1) = -a from by rw [Int.tdiv_neg, Int.tdiv_one]]
    rw [e, ← wrap_sub_r, wrap_mul_r, wrap_sub_r, show a - (-1) * -a = 0 from by omega]; exact wrap_0
  · have hq := tdiv_bd ha hb hb1
    have he := tmod_eq a b
    have hr := tmod_R (b := b) ha
    have hlt : (a.tmod b).natAbs < b.natAbs := by rw [Int.natAbs_tmod]; exact Nat.mod_lt _ (by omega)
    have hp := fun h => tmod_pos (a := a) (b := b) h
    have key : ∀ q, a - b * wrap64 q = a - b * q ∨ True := fun _ => .inr trivial
    unfold overI
    rw [if_neg hb]
    split
    · rename_i hc
      rw [wrap_sub_l, ← wrap_sub_r, wrap_mul_r, wrap_sub_r]
      have hx : a - b * (a.tdiv b - 1) = a.tmod b + b := by rw [Int.mul_sub, Int.mul_comm b (a.tdiv b)]; omega
      rw [hx]
      have h0 := hp hc.1
      have hR : InR (a.tmod b + b) := by unfold InR at *; omega
      rw [wrap_in hR]
      omega
    · rename_i hc
      rw [← wrap_sub_r, wrap_mul_r, wrap_sub_r, Int.mul_comm b, he, wrap_in hr]
      by_cases h0 : a.tmod b = 0
      · exact .inl h0
      · have := hp h0
        right
        omega
/-- The document's way: what is left of a decides. -/
theorem over_ref {a b : Int} (ha : InR a) (hb : ¬ b = 0) (hb1 : ¬ b = -1) :
    wrap64 (a.tdiv b) = a.tdiv b ∧ wrap64 (a - wrap64 (wrap64 (a.tdiv b) * b)) = a.tmod b := by
  have hq := tdiv_bd ha hb hb1
  refine ⟨wrap_in hq, ?_⟩
  rw [wrap_in hq, wrap_sub_r, tmod_eq, wrap_in (tmod_R ha)]
theorem over_m1 (a : Int) : overI a (-1) = wrap64 (0 - a) := by
  unfold overI
  rw [if_neg (by decide), if_neg (by simp), show a.tdiv (-1) = 0 - a from by rw [Int.tdiv_neg, Int.tdiv_one]; omega]

/-- What is left. -/
def restI (a b : Int) : Int := wrap64 (b - wrap64 (a * overI b a))
theorem rest_0 {b : Int} (hb : InR b) : restI 0 b = b := by
  unfold restI
  rw [Int.zero_mul, wrap_0, Int.sub_zero, wrap_in hb]

/-- Powers. -/
def powI (a b : Int) : Int :=
  if b < 0 then (if a = 1 then 1 else if a = -1 then (if b % 2 = 0 then 1 else -1) else 0) else wrap64 (a ^ b.toNat)
theorem pow_R (a b : Int) : InR (powI a b) := by
  unfold powI
  split
  · split
    · unfold InR; omega
    · split
      · split <;> (unfold InR; omega)
      · unfold InR; omega
  · exact wrap_R _
theorem pow_half (s : Int) (k : Nat) : s ^ k = (s * s) ^ (k / 2) * (if k % 2 = 1 then s else 1) := by
  have h : k = 2 * (k / 2) + k % 2 := by omega
  have e : s ^ (2 * (k / 2)) = (s * s) ^ (k / 2) := by rw [Int.pow_mul, Int.pow_succ, Int.pow_succ, Int.pow_zero, Int.one_mul]
  conv => lhs; rw [h]
  rw [Int.pow_add, e]
  rcases (show k % 2 = 0 ∨ k % 2 = 1 from by omega) with h0 | h0 <;> rw [h0] <;> simp [Int.pow_succ]
theorem sq_odd (p s : Int) (k : Nat) (h : k % 2 = 1) : wrap64 (wrap64 (p * s) * wrap64 (s * s) ^ (k / 2)) = wrap64 (p * s ^ k) := by
  rw [wrap_pow, wrap_mul_l, pow_half s k, if_pos h, Int.mul_assoc, Int.mul_comm s]
theorem sq_even (p s : Int) (k : Nat) (h : ¬ k % 2 = 1) : wrap64 (p * wrap64 (s * s) ^ (k / 2)) = wrap64 (p * s ^ k) := by
  rw [wrap_pow, pow_half s k, if_neg h, Int.mul_one]
/-- From the highest bit down. -/
theorem down_odd (a : Int) (m : Nat) (h : m % 2 = 1) : wrap64 (wrap64 (wrap64 (a ^ (m / 2)) * wrap64 (a ^ (m / 2))) * a) = wrap64 (a ^ m) := by
  rw [wrap_mul_l, ← wrap_mul_l, wrap_mul_l (a ^ (m / 2)), wrap_mul_r, wrap_mul_l]
  congr 1
  have h1 : m = m / 2 + m / 2 + 1 := by omega
  conv => rhs; rw [h1]
  rw [Int.pow_succ, Int.pow_add]
theorem down_even (a : Int) (m : Nat) (h : ¬ m % 2 = 1) : wrap64 (wrap64 (a ^ (m / 2)) * wrap64 (a ^ (m / 2))) = wrap64 (a ^ m) := by
  rw [wrap_mul_l, wrap_mul_r]
  congr 1
  have h1 : m = m / 2 + m / 2 := by omega
  conv => rhs; rw [h1]
  rw [Int.pow_add]

/-! Bits. -/
theorem toInt_wrap (x : BitVec 64) : IntKind.i64.wrap (x.toNat : Int) = x.toInt := by
  have h := x.isLt
  rw [IntKind.wrap_i64, BitVec.toInt_eq_toNat_cond]
  split <;> omega
theorem and_bits (a b : Int) : bits .and .i64 a b = (BitVec.ofInt 64 a &&& BitVec.ofInt 64 b).toInt := toInt_wrap _
theorem or_bits (a b : Int) : bits .or .i64 a b = (BitVec.ofInt 64 a ||| BitVec.ofInt 64 b).toInt := toInt_wrap _
theorem bits_one (a : Int) : bits .and .i64 a 1 = a % 2 := by
  show IntKind.i64.wrap ((BitVec.ofInt 64 a &&& BitVec.ofInt 64 1).toNat : Int) = _
  rw [BitVec.toNat_and, show (BitVec.ofInt 64 1).toNat = 1 from rfl, Nat.and_one_is_mod, BitVec.toNat_ofInt, IntKind.wrap_i64]
  omega
theorem of_to (x : BitVec 64) : BitVec.ofInt 64 x.toInt = x := BitVec.ofInt_toInt
theorem to_of {a : Int} (h : InR a) : (BitVec.ofInt 64 a).toInt = a := by
  rw [BitVec.toInt_ofInt, Int.bmod_def]
  unfold InR at h
  split <;> omega
theorem toInt_R (x : BitVec 64) : InR x.toInt := by
  have h := x.isLt
  unfold InR
  rw [BitVec.toInt_eq_toNat_cond]
  split <;> omega
theorem and_R (a b : Int) : InR (bits .and .i64 a b) := by rw [and_bits]; exact toInt_R _
theorem or_R (a b : Int) : InR (bits .or .i64 a b) := by rw [or_bits]; exact toInt_R _
theorem and_assoc (a b c : Int) : bits .and .i64 a (bits .and .i64 b c) = bits .and .i64 (bits .and .i64 a b) c := by
  rw [and_bits, and_bits, and_bits, and_bits, of_to, of_to, BitVec.and_assoc]
theorem or_assoc (a b c : Int) : bits .or .i64 a (bits .or .i64 b c) = bits .or .i64 (bits .or .i64 a b) c := by
  rw [or_bits, or_bits, or_bits, or_bits, of_to, of_to, BitVec.or_assoc]
theorem and_unit {a : Int} (h : InR a) : bits .and .i64 (-1) a = a ∧ bits .and .i64 a (-1) = a := by
  rw [and_bits, and_bits, show BitVec.ofInt 64 (-1) = BitVec.allOnes 64 from rfl, BitVec.allOnes_and, BitVec.and_allOnes]
  exact ⟨to_of h, to_of h⟩
theorem or_unit {a : Int} (h : InR a) : bits .or .i64 0 a = a ∧ bits .or .i64 a 0 = a := by
  rw [or_bits, or_bits, show BitVec.ofInt 64 0 = 0#64 from rfl, BitVec.zero_or, BitVec.or_zero]
  exact ⟨to_of h, to_of h⟩
end Go.Proofs.YthabimjmdnhomaaDoor.Sc
