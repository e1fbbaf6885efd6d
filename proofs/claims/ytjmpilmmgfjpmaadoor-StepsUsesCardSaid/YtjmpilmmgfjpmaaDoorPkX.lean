/-
  Plain facts on numbers of 64 bits that go round, for layer 4: division rounded down, powers by squares, bits. No condition; nothing of the program stands here. What scalar.over, rest, odd, fraction, power, compare and sign, and riffleref04.over, truth answer for any numbers; the world is as it was. Condition: the numbers have 64 bits. What riffleref04.power answers for any numbers: the same as powers by squares; nothing that was there is written. Condition: the numbers have 64 bits. The table of what is known of scalar functions (scalar.traits), out of what the row lists; what glyph.Class and scalar.lookUp answer of any code. Condition: the table holds what its text lays. What glyph.Class, scalar.lookUp, Has, Unit, Joins and Picks, and riffleref04.Has, Unit and Joins answer of any code; nothing that was there is written. Condition: the table of traits holds what its text lays. What scalar.Two and scalar.Do answer of any code and any numbers; nothing that was there is written. Conditions: the table of traits holds what its text lays; the numbers have 64 bits. What riffleref04.Unit and riffleref04.Joins answer of any code; nothing that was there is written. No condition.
-/
import Derived.WalkKit
import Derived.Deep.Draws
import Derived.Laws.BitsAllLaws
import Derived.Laws.BitsLemmas
import Derived.Test.YtjmpilmmgfjpmaaDoorProg
import Derived.WalkSpells
import Derived.Lib.Hide
import Derived.Test.YtjmpilmmgfjpmaaDoorPkC
import Derived.Test.YtjmpilmmgfjpmaaDoorRows
import Derived.Lib.LaidU8
import Derived.OpenShut
set_option maxRecDepth 100000
-- ScMath
namespace Go.Proofs.YtjmpilmmgfjpmaaDoor.Sc
open Go.RowKit
set_option linter.unusedVariables false

/-- A number of 64 bits, with a sign. -/
def InR (a : Int) : Prop := -9223372036854775808 ≤ a ∧ a ≤ 9223372036854775807
theorem wrap_def (x : Int) : wrap64 x = (x + 9223372036854775808) % 18446744073709551616 - 9223372036854775808 := by unfold wrap64; rfl
theorem wrap_in {x : Int} (h : InR x) : wrap64 x = x := by rw [wrap_def]; unfold InR at h; omega
theorem wrap_0 : wrap64 0 = 0 := wrap_in (by unfold InR; omega)
theorem wrap_R (x : Int) : InR (wrap64 x) := by rw [wrap_def]; unfold InR; omega
theorem wrap_mod (x : Int) : wrap64 x % 18446744073709551616 = x % 18446744073709551616 := by rw [wrap_def]; omega
theorem wrap_iff {x y : Int} : wrap64 x = wrap64 y ↔ x % 18446744073709551616 = y % 18446744073709551616 := by rw [wrap_def, wrap_def]; omega
theorem wrap_wrap (x : Int) : wrap64 (wrap64 x) = wrap64 x := wrap_in (wrap_R x)
theorem wrap_add_l (x y : Int) : wrap64 (wrap64 x + y) = wrap64 (x + y) := by rw [wrap_iff, Int.add_emod, wrap_mod, ← Int.add_emod]
theorem wrap_add_r (x y : Int) : wrap64 (x + wrap64 y) = wrap64 (x + y) := by rw [wrap_iff, Int.add_emod, wrap_mod, ← Int.add_emod]
theorem wrap_sub_r (x y : Int) : wrap64 (x - wrap64 y) = wrap64 (x - y) := by rw [wrap_iff, Int.sub_emod, wrap_mod, ← Int.sub_emod]
theorem wrap_sub_l (x y : Int) : wrap64 (wrap64 x - y) = wrap64 (x - y) := by rw [wrap_iff, Int.sub_emod, wrap_mod, ← Int.sub_emod]
theorem wrap_mul_l (x y : Int) : wrap64 (wrap64 x * y) = wrap64 (x * y) := by rw [wrap_iff, Int.mul_emod, wrap_mod, ← Int.mul_emod]
theorem wrap_mul_r (x y : Int) : wrap64 (x * wrap64 y) = wrap64 (x * y) := by rw [wrap_iff, Int.mul_emod, wrap_mod, ← Int.mul_emod]
theorem pow_mod (x : Int) (n : Nat) : (wrap64 x) ^ n % 18446744073709551616 = x ^ n % 18446744073709551616 := by
  induction n with
  | zero => rw [Int.pow_zero, Int.pow_zero]
  | succ n ih => rw [Int.pow_succ, Int.pow_succ, Int.mul_emod, ih, wrap_mod, ← Int.mul_emod]
theorem wrap_pow (x y : Int) (n : Nat) : wrap64 (y * wrap64 x ^ n) = wrap64 (y * x ^ n) := by rw [wrap_iff, Int.mul_emod, pow_mod, ← Int.mul_emod]

/-- Divided, rounded down, as it goes round. -/
def overI (a b : Int) : Int :=
  if b = 0 then 0 else if ¬ a.tmod b = 0 ∧ ¬ ((a < 0) ↔ (b < 0)) then wrap64 (wrap64 (a.tdiv b) - 1) else wrap64 (a.tdiv b)
theorem over_R (a b : Int) : InR (overI a b) := by
  unfold overI
  split
  · unfold InR; omega
  · split <;> exact wrap_R _

theorem tdiv_bd {a b : Int} (ha : InR a) (hb : ¬ b = 0) (hb1 : ¬ b = -1) : InR (a.tdiv b) := by
  unfold InR at *
  have h1 := Int.natAbs_tdiv a b
  have h2 : a.natAbs / b.natAbs ≤ a.natAbs := Nat.div_le_self _ _
  by_cases hb2 : b = 1
  · subst hb2; rw [Int.tdiv_one]; exact ha
  · have h3 : a.natAbs / b.natAbs ≤ a.natAbs / 2 := Nat.div_le_div_left (by omega) (by omega)
    have h4 : (a.tdiv b).natAbs ≤ a.natAbs / 2 := by rw [h1]; exact h3
    omega
theorem tmod_eq (a b : Int) : a - a.tdiv b * b = a.tmod b := by have := Int.mul_tdiv_add_tmod a b; rw [Int.mul_comm] at this; omega
theorem tmod_R {a b : Int} (ha : InR a) : InR (a.tmod b) := by
  unfold InR at *
  have h1 := Int.natAbs_tmod a b
  have h2 : a.natAbs % b.natAbs ≤ a.natAbs := Nat.mod_le _ _
  rcases Int.le_total 0 a with h | h
  · have := Int.tmod_nonneg b h; omega
  · have h3 : 0 ≤ (-a).tmod b := Int.tmod_nonneg b (by omega)
    rw [Int.neg_tmod] at h3
    omega
theorem tmod_pos {a b : Int} (h : ¬ a.tmod b = 0) : (0 < a.tmod b ↔ ¬ a < 0) := by
  rcases Int.lt_or_le a 0 with h0 | h0
  · have h3 : 0 ≤ (-a).tmod b := Int.tmod_nonneg b (by omega)
    rw [Int.neg_tmod] at h3
    omega
  · have := Int.tmod_nonneg b h0
    omega
/-- Rounded down: what is left has the sign of b, or is nought. -/
theorem over_rest {a b : Int} (ha : InR a) (hbR : InR b) (hb : ¬ b = 0) :
    wrap64 (b * overI a b + wrap64 (a - wrap64 (b * overI a b))) = a ∧ (wrap64 (a - wrap64 (b * overI a b)) = 0 ∨ (wrap64 (a - wrap64 (b * overI a b)) < 0 ↔ b < 0)) := by
  refine ⟨by rw [wrap_sub_r, wrap_add_r, show b * overI a b + (a - b * overI a b) = a from by omega, wrap_in ha], ?_⟩
  rw [wrap_sub_r]
  by_cases hb1 : b = -1
  · left
    subst hb1
    have e : overI a (-1) = wrap64 (-a) := by
      unfold overI
      rw [if_neg (by decide), if_neg (by simp), show a.tdiv (-1) = -a from by rw [Int.tdiv_neg, Int.tdiv_one]]
    rw [e, ← wrap_sub_r, wrap_mul_r, wrap_sub_r, show a - (-1) * -a = 0 from by omega]; exact wrap_0
  · have hq := tdiv_bd ha hb hb1
    have he := tmod_eq a b
    have hr := tmod_R (b := b) ha
    have hlt : (a.tmod b).natAbs < b.natAbs := by rw [Int.natAbs_tmod]; exact Nat.mod_lt _ (by omega)
    have hp := fun h => tmod_pos (a := a) (b := b) h
    have key : ∀ q, a - b * wrap64 q = a - b * q ∨ True := fun _ => .inr trivial
    unfold overI
    rw [if_neg hb]
    split
    · rename_i hc
      rw [wrap_sub_l, ← wrap_sub_r, wrap_mul_r, wrap_sub_r]
      have hx : a - b * (a.tdiv b - 1) = a.tmod b + b := by rw [Int.mul_sub, Int.mul_comm b (a.tdiv b)]; omega
      rw [hx]
      have h0 := hp hc.1
      have hR : InR (a.tmod b + b) := by unfold InR at *; omega
      rw [wrap_in hR]
      omega
    · rename_i hc
      rw [← wrap_sub_r, wrap_mul_r, wrap_sub_r, Int.mul_comm b, he, wrap_in hr]
      by_cases h0 : a.tmod b = 0
      · exact .inl h0
      · have := hp h0
        right
        omega
/-- The document's way: what is left of a decides. -/
theorem over_ref {a b : Int} (ha : InR a) (hb : ¬ b = 0) (hb1 : ¬ b = -1) :
    wrap64 (a.tdiv b) = a.tdiv b ∧ wrap64 (a - wrap64 (wrap64 (a.tdiv b) * b)) = a.tmod b := by
  have hq := tdiv_bd ha hb hb1
  refine ⟨wrap_in hq, ?_⟩
  rw [wrap_in hq, wrap_sub_r, tmod_eq, wrap_in (tmod_R ha)]
theorem over_m1 (a : Int) : overI a (-1) = wrap64 (0 - a) := by
  unfold overI
  rw [if_neg (by decide), if_neg (by simp), show a.tdiv (-1) = 0 - a from by rw [Int.tdiv_neg, Int.tdiv_one]; omega]

/-- What is left. -/
def restI (a b : Int) : Int := wrap64 (b - wrap64 (a * overI b a))
theorem rest_0 {b : Int} (hb : InR b) : restI 0 b = b := by
  unfold restI
  rw [Int.zero_mul, wrap_0, Int.sub_zero, wrap_in hb]

/-- Powers. -/
def powI (a b : Int) : Int :=
  if b < 0 then (if a = 1 then 1 else if a = -1 then (if b % 2 = 0 then 1 else -1) else 0) else wrap64 (a ^ b.toNat)
theorem pow_R (a b : Int) : InR (powI a b) := by
  unfold powI
  split
  · split
    · unfold InR; omega
    · split
      · split <;> (unfold InR; omega)
      · unfold InR; omega
  · exact wrap_R _
theorem pow_half (s : Int) (k : Nat) : s ^ k = (s * s) ^ (k / 2) * (if k % 2 = 1 then s else 1) := by
  have h : k = 2 * (k / 2) + k % 2 := by omega
  have e : s ^ (2 * (k / 2)) = (s * s) ^ (k / 2) := by rw [Int.pow_mul, Int.pow_succ, Int.pow_succ, Int.pow_zero, Int.one_mul]
  conv => lhs; rw [h]
  rw [Int.pow_add, e]
  rcases (show k % 2 = 0 ∨ k % 2 = 1 from by omega) with h0 | h0 <;> rw [h0] <;> simp [Int.pow_succ]
theorem sq_odd (p s : Int) (k : Nat) (h : k % 2 = 1) : wrap64 (wrap64 (p * s) * wrap64 (s * s) ^ (k / 2)) = wrap64 (p * s ^ k) := by
  rw [wrap_pow, wrap_mul_l, pow_half s k, if_pos h, Int.mul_assoc, Int.mul_comm s]
theorem sq_even (p s : Int) (k : Nat) (h : ¬ k % 2 = 1) : wrap64 (p * wrap64 (s * s) ^ (k / 2)) = wrap64 (p * s ^ k) := by
  rw [wrap_pow, pow_half s k, if_neg h, Int.mul_one]
/-- From the highest bit down. -/
theorem down_odd (a : Int) (m : Nat) (h : m % 2 = 1) : wrap64 (wrap64 (wrap64 (a ^ (m / 2)) * wrap64 (a ^ (m / 2))) * a) = wrap64 (a ^ m) := by
  rw [wrap_mul_l, ← wrap_mul_l, wrap_mul_l (a ^ (m / 2)), wrap_mul_r, wrap_mul_l]
  congr 1
  have h1 : m = m / 2 + m / 2 + 1 := by omega
  conv => rhs; rw [h1]
  rw [Int.pow_succ, Int.pow_add]
theorem down_even (a : Int) (m : Nat) (h : ¬ m % 2 = 1) : wrap64 (wrap64 (a ^ (m / 2)) * wrap64 (a ^ (m / 2))) = wrap64 (a ^ m) := by
  rw [wrap_mul_l, wrap_mul_r]
  congr 1
  have h1 : m = m / 2 + m / 2 := by omega
  conv => rhs; rw [h1]
  rw [Int.pow_add]

/-! Bits. -/
theorem toInt_wrap (x : BitVec 64) : IntKind.i64.wrap (x.toNat : Int) = x.toInt := by
  have h := x.isLt
  rw [IntKind.wrap_i64, BitVec.toInt_eq_toNat_cond]
  split <;> omega
theorem and_bits (a b : Int) : bits .and .i64 a b = (BitVec.ofInt 64 a &&& BitVec.ofInt 64 b).toInt := toInt_wrap _
theorem or_bits (a b : Int) : bits .or .i64 a b = (BitVec.ofInt 64 a ||| BitVec.ofInt 64 b).toInt := toInt_wrap _
theorem bits_one (a : Int) : bits .and .i64 a 1 = a % 2 := by
  show IntKind.i64.wrap ((BitVec.ofInt 64 a &&& BitVec.ofInt 64 1).toNat : Int) = _
  rw [BitVec.toNat_and, show (BitVec.ofInt 64 1).toNat = 1 from rfl, Nat.and_one_is_mod, BitVec.toNat_ofInt, IntKind.wrap_i64]
  omega
theorem of_to (x : BitVec 64) : BitVec.ofInt 64 x.toInt = x := BitVec.ofInt_toInt
theorem to_of {a : Int} (h : InR a) : (BitVec.ofInt 64 a).toInt = a := by
  rw [BitVec.toInt_ofInt, Int.bmod_def]
  unfold InR at h
  split <;> omega
theorem toInt_R (x : BitVec 64) : InR x.toInt := by
  have h := x.isLt
  unfold InR
  rw [BitVec.toInt_eq_toNat_cond]
  split <;> omega
theorem and_R (a b : Int) : InR (bits .and .i64 a b) := by rw [and_bits]; exact toInt_R _
theorem or_R (a b : Int) : InR (bits .or .i64 a b) := by rw [or_bits]; exact toInt_R _
theorem and_assoc (a b c : Int) : bits .and .i64 a (bits .and .i64 b c) = bits .and .i64 (bits .and .i64 a b) c := by
  rw [and_bits, and_bits, and_bits, and_bits, of_to, of_to, BitVec.and_assoc]
theorem or_assoc (a b c : Int) : bits .or .i64 a (bits .or .i64 b c) = bits .or .i64 (bits .or .i64 a b) c := by
  rw [or_bits, or_bits, or_bits, or_bits, of_to, of_to, BitVec.or_assoc]
theorem and_unit {a : Int} (h : InR a) : bits .and .i64 (-1) a = a ∧ bits .and .i64 a (-1) = a := by
  rw [and_bits, and_bits, show BitVec.ofInt 64 (-1) = BitVec.allOnes 64 from rfl, BitVec.allOnes_and, BitVec.and_allOnes]
  exact ⟨to_of h, to_of h⟩
theorem or_unit {a : Int} (h : InR a) : bits .or .i64 0 a = a ∧ bits .or .i64 a 0 = a := by
  rw [or_bits, or_bits, show BitVec.ofInt 64 0 = 0#64 from rfl, BitVec.zero_or, BitVec.or_zero]
  exact ⟨to_of h, to_of h⟩
end Go.Proofs.YtjmpilmmgfjpmaaDoor.Sc
-- ScFn
namespace Go.Proofs.YtjmpilmmgfjpmaaDoor.Sc
open Go.RowKit
set_option linter.unusedVariables false

theorem ret_int {k : IntKind} {a b : Int} (h : a = b) : Ending.returned (.int k a) = .returned (.int k b) := by rw [h]
theorem ret_bool {a b : Bool} (h : a = b) : Ending.returned (.bool a) = .returned (.bool b) := by rw [h]
theorem ret_two {k : IntKind} {a b : Int} {c d : Bool} (h : a = b) (h' : c = d) : Ending.returned (.tuple #[.int k a, .bool c]) = .returned (.tuple #[.int k b, .bool d]) := by rw [h, h']
theorem below_drewN {B : Nat} {a w : World} (h : Below B a w) (n : Nat) : Below B a (w.drewN n) := ⟨h.os, h.tape, h.output, h.size, h.block⟩
theorem below_next {a b c : World} (h : Below a.heap.size a b) (k : Below b.heap.size b c) : Below a.heap.size a c := h.trans (k.mono h.size)

/-- 1, 0 or -1. -/
def signI (a : Int) : Int := (if 0 < a then 1 else 0) - (if a < 0 then 1 else 0)
end Go.Proofs.YtjmpilmmgfjpmaaDoor.Sc
-- ScPow
namespace Go.Proofs.YtjmpilmmgfjpmaaDoor.Sc
open Go.RowKit
open Go.Proofs.YtjmpilmmgfjpmaaDoor.Sh (MineT Ints NumT numL wpList_appI)
set_option linter.unusedVariables false

theorem ints_new (t : TypeId) (w : World) (y : Int) : Ints (w.alloc (.cells #[.int .i64 y] t)) (some ⟨w.heap.size, 0, none⟩) [y] := fun _ =>
  ⟨w.heap.size, 0, rfl, by simp, fun i hi => by
    have : i = 0 := by simp at hi; omega
    subst this
    rw [World.cell?_alloc_at _ _ _ _ (by simp)]; rfl⟩
def bitsL (B j : Nat) : List Int := (List.range j).map fun i => (((B / 2 ^ i) % 2 : Nat) : Int)
theorem bitsL_length (B j : Nat) : (bitsL B j).length = j := by simp [bitsL]
theorem bitsL_succ (B j : Nat) : bitsL B (j + 1) = bitsL B j ++ [((B / 2 ^ j : Nat) : Int) % 2] := by
  simp [bitsL, List.range_succ]
theorem bitsL_at (B n j : Nat) (h : j < n) : (bitsL B n).getD j 0 = (((B / 2 ^ j) % 2 : Nat) : Int) := by
  simp [bitsL, List.getD, h]
theorem div_half (B j : Nat) : B / 2 ^ (j + 1) = B / 2 ^ j / 2 := by rw [Nat.pow_succ, Nat.div_div_eq_div_mul]
theorem div_lt63 {B j : Nat} (hB : B < 9223372036854775808) (h : 0 < B / 2 ^ j) : j < 63 := by
  rcases Nat.lt_or_ge j 63 with h1 | h1
  · exact h1
  · exfalso
    have h2 : 2 ^ 63 ≤ 2 ^ j := Nat.pow_le_pow_right (by decide) h1
    rw [Nat.div_eq_of_lt (Nat.lt_of_lt_of_le hB h2)] at h
    omega

end Go.Proofs.YtjmpilmmgfjpmaaDoor.Sc
-- ScTab
namespace Go.Proofs.YtjmpilmmgfjpmaaDoor.Sc
open Go.RowKit
set_option linter.unusedVariables false

/-- What is known of a function: used with one, with two, whether a fold has a start, which, whether it joins, or picks. -/
structure Tr where
  one : Bool
  two : Bool
  starts : Bool
  unit : Int
  joins : Bool
  picks : Bool
def trL : List Tr :=
  [⟨false, false, false, 0, false, false⟩,
   ⟨true, true, true, 0, true, false⟩, ⟨true, true, true, 0, false, false⟩, ⟨true, true, true, 1, true, false⟩, ⟨true, true, true, 1, false, false⟩, ⟨true, true, true, 1, false, false⟩, ⟨true, true, true, 0, false, false⟩,
   ⟨false, true, true, -9223372036854775808, true, true⟩, ⟨false, true, true, 9223372036854775807, true, true⟩,
   ⟨false, true, true, 1, false, false⟩, ⟨false, true, true, 0, false, false⟩, ⟨false, true, true, 0, false, false⟩, ⟨false, true, true, 1, false, false⟩, ⟨false, true, true, 0, false, false⟩, ⟨false, true, true, 1, false, false⟩,
   ⟨false, true, true, -1, true, false⟩, ⟨false, true, true, 0, true, false⟩, ⟨true, true, false, 0, true, false⟩, ⟨true, true, false, 0, true, false⟩, ⟨true, false, false, 0, false, false⟩]
def noTr : Tr := ⟨false, false, false, 0, false, false⟩
def trOf (c : Int) : Tr := if 1 ≤ c ∧ c ≤ 19 then trL.getD c.toNat noTr else noTr
def Tr.vals (t : Tr) : List Value := [.bool t.one, .bool t.two, .bool t.starts, .int .i64 t.unit, .bool t.joins, .bool t.picks]
def Tr.data {H : Type} (t : Tr) : DataW H := .agg [.lit (.bool t.one), .lit (.bool t.two), .lit (.bool t.starts), .lit (.int .i64 t.unit), .lit (.bool t.joins), .lit (.bool t.picks)]
theorem laidEq : (Rows.laid_riffle_scalar_traits : DataW Unit) = .agg (trL.map Tr.data) := rfl
/-- The table lies in its variable. -/
def Tab (w : World) : Prop := ∀ k, k < 20 → ∀ j, j < 6 → w.cell? ⟨0, 6 * k + j, none⟩ = (trL.getD k noTr).vals[j]?
theorem Tab.below {w w' : World} (h : Tab w) (hb : Below w.heap.size w w') : Tab w' := by
  intro k hk j hj
  have h0 := h k hk j hj
  have hlt : 0 < w.heap.size := by
    have : (w.cell? ⟨0, 6 * k + j, none⟩).isSome := by
      rw [h0]
      match j, hj with
      | 0, _ => rfl
      | 1, _ => rfl
      | 2, _ => rfl
      | 3, _ => rfl
      | 4, _ => rfl
      | 5, _ => rfl
    obtain ⟨v, hv⟩ := Option.isSome_iff_exists.1 this
    exact World.block_lt_of_cell? w ⟨0, 6 * k + j, none⟩ hv
  rw [← h0]
  exact hb.cell (p := ⟨0, 6 * k + j, none⟩) hlt

theorem vals_of {H : Type} {enc : TypeId × Value → H} {w : World} {base : Nat} {sp : Nat → Bool} {held : Bool} {fuel : Nat} {cs : List Value} {t : Tr} {p : List MemPlace}
    (h : DataW.trod enc Tryd.prog w base sp held fuel 88 cs = some (t.data, p)) : cs = t.vals := by
  obtain ⟨xs, n, rfl, hx, hl, hxl, hall⟩ := DataW.trod_struct Tryd.underlying88 h
  have hc : Tryd.prog.cellsOf 88 = 6 := by kernel_rfl
  have hcb : Tryd.prog.cellsOf 4 = 1 := by kernel_rfl
  have hci : Tryd.prog.cellsOf 2 = 1 := by kernel_rfl
  rw [hc] at hl
  match xs, hxl, cs, hl with
  | [x0, x1, x2, x3, x4, x5], _, [c0, c1, c2, c3, c4, c5], _ =>
    have hd := congrArg Prod.fst hx
    simp only [Tr.data, List.map_cons, List.map_nil, DataW.agg.injEq, List.cons.injEq, and_true] at hd
    obtain ⟨d0, d1, d2, d3, d4, d5⟩ := hd
    have b0 : DataW.trod enc Tryd.prog w base sp held n 4 (([c0, c1, c2, c3, c4, c5].drop 0).take (Tryd.prog.cellsOf 4)) = some x0 := hall 0 _ rfl
    rw [hcb] at b0
    have b1 : DataW.trod enc Tryd.prog w base sp held n 4 (([c0, c1, c2, c3, c4, c5].drop 1).take (Tryd.prog.cellsOf 4)) = some x1 := hall 1 _ rfl
    rw [hcb] at b1
    have b2 : DataW.trod enc Tryd.prog w base sp held n 4 (([c0, c1, c2, c3, c4, c5].drop 2).take (Tryd.prog.cellsOf 4)) = some x2 := hall 2 _ rfl
    rw [hcb] at b2
    have b3 : DataW.trod enc Tryd.prog w base sp held n 2 (([c0, c1, c2, c3, c4, c5].drop 3).take (Tryd.prog.cellsOf 2)) = some x3 := hall 3 _ rfl
    rw [hci] at b3
    have b4 : DataW.trod enc Tryd.prog w base sp held n 4 (([c0, c1, c2, c3, c4, c5].drop 4).take (Tryd.prog.cellsOf 4)) = some x4 := hall 4 _ rfl
    rw [hcb] at b4
    have b5 : DataW.trod enc Tryd.prog w base sp held n 4 (([c0, c1, c2, c3, c4, c5].drop 5).take (Tryd.prog.cellsOf 4)) = some x5 := hall 5 _ rfl
    rw [hcb] at b5
    obtain ⟨v0, e0, rfl⟩ := DataW.trod_bool Tryd.underlying4 b0
    obtain ⟨v1, e1, rfl⟩ := DataW.trod_bool Tryd.underlying4 b1
    obtain ⟨v2, e2, rfl⟩ := DataW.trod_bool Tryd.underlying4 b2
    obtain ⟨v3, e3, rfl, _⟩ := DataW.trod_int Tryd.underlying2 b3
    obtain ⟨v4, e4, rfl⟩ := DataW.trod_bool Tryd.underlying4 b4
    obtain ⟨v5, e5, rfl⟩ := DataW.trod_bool Tryd.underlying4 b5
    replace e0 : [c0] = [Value.bool v0] := e0
    replace e1 : [c1] = [Value.bool v1] := e1
    replace e2 : [c2] = [Value.bool v2] := e2
    replace e3 : [c3] = [Value.int .i64 v3] := e3
    replace e4 : [c4] = [Value.bool v4] := e4
    replace e5 : [c5] = [Value.bool v5] := e5
    simp only [List.cons.injEq, and_true] at e0 e1 e2 e3 e4 e5
    simp only [DataW.lit.injEq, Lit.bool.injEq, Lit.int.injEq, true_and] at d0 d1 d2 d3 d4 d5
    subst e0 e1 e2 e3 e4 e5
    simp [Tr.vals, d0, d1, d2, d3, d4, d5]
theorem tab_of {w : World} (h : Lib.VarReads Tryd.prog w "riffle/scalar.traits" (.agg (trL.map Tr.data))) : Tab w := by
  obtain ⟨g, t, cs, fuel, p, hg, hty, hvar, hd⟩ := h
  obtain rfl := Option.some.inj ((show Tryd.prog.globalNamed "riffle/scalar.traits" = some 0 by kernel_rfl).symm.trans hg)
  obtain rfl := Option.some.inj ((show (Tryd.prog.globals[0]?).map (·.type) = some 102 by kernel_rfl).symm.trans hty)
  have hc : Tryd.prog.cellsOf 88 = 6 := by kernel_rfl
  intro k hk j hj
  obtain ⟨fuel', d, q, hdi, he⟩ := Lib.array_elem Tryd.underlying102 hd k hk
  have hk' : k < trL.length := hk
  rw [List.getElem?_map, List.getElem?_eq_getElem hk', Option.map_some, Option.some.injEq] at hdi
  subst hdi
  rw [hc] at he
  have hv := vals_of he
  have e := congrArg (·[j]?) hv
  simp only [List.getElem?_take, List.getElem?_drop] at e
  rw [if_pos hj] at e
  rw [World.var?_cell hg hvar (6 * k + j), ← Array.getElem?_toList, Nat.mul_comm, e]
  simp [List.getD, hk']
end Go.Proofs.YtjmpilmmgfjpmaaDoor.Sc
-- ScLook
namespace Go.Proofs.YtjmpilmmgfjpmaaDoor.Sc
open Go.RowKit
set_option linter.unusedVariables false

set_option maxHeartbeats 1000000 in
theorem class_in (c : Int) (w : World) (h1 : 1 ≤ c) (h2 : c ≤ 19) : Calls Tryd.prog 70 #[.int .i64 c] w fun e w' => e = .returned (.int .i64 1) ∧ w = w' := by
  go_enter Tryd.func70, Tryd.ntmps70
  go_wp2
  go_ret
  exact ⟨rfl, rfl⟩
def NotOne (w : World) (e : Ending) (w' : World) : Prop := ∃ v : Int, e = .returned (.int .i64 v) ∧ (v != 1) = true ∧ w = w'
set_option maxHeartbeats 1000000 in
theorem class_out (c : Int) (w : World) (h : c < 1 ∨ 19 < c) : Calls Tryd.prog 70 #[.int .i64 c] w (NotOne w) := by
  rcases h with h | h
  · go_enter Tryd.func70, Tryd.ntmps70
    go_wp2
    go_ret
    exact ⟨0, rfl, rfl, rfl⟩
  · have h1 : ¬ c < 1 := by omega
    have h2 : ¬ c ≤ 19 := by omega
    go_enter Tryd.func70, Tryd.ntmps70
    go_wp2
    all_goals (go_ret; exact ⟨_, rfl, rfl, rfl⟩)
theorem trOf_out {c : Int} (h : c < 1 ∨ 19 < c) : trOf c = noTr := by unfold trOf; rw [if_neg (by omega)]
theorem trOf_in {c : Int} (h1 : 1 ≤ c) (h2 : c ≤ 19) : trOf c = trL.getD c.toNat noTr := by unfold trOf; rw [if_pos ⟨h1, h2⟩]
/-- The value of what is known. -/
def Tr.val (t : Tr) : Value := .agg #[.bool t.one, .bool t.two, .bool t.starts, .int .i64 t.unit, .bool t.joins, .bool t.picks]

set_option maxHeartbeats 2000000 in
theorem lookUp_any (c : Int) (w : World) (hT : Tab w) : Calls Tryd.prog 54 #[.int .i64 c] w fun e w' => e = .returned (trOf c).val ∧ Below w.heap.size w w' := by
  by_cases h : 1 ≤ c ∧ c ≤ 19
  · obtain ⟨h1, h2⟩ := h
    obtain ⟨k, rfl⟩ : ∃ k : Nat, c = k := ⟨c.toNat, by omega⟩
    have e : trOf (k : Int) = trL.getD k noTr := trOf_in h1 h2
    rw [e]
    have h0 := hT k (by omega) 0 (by omega)
    have hg : 0 < w.heap.size := World.block_lt_of_cell? w ⟨0, 6 * k + 0, none⟩ h0
    have f0 := h0
    have f1 := hT k (by omega) 1 (by omega)
    have f2 := hT k (by omega) 2 (by omega)
    have f3 := hT k (by omega) 3 (by omega)
    have f4 := hT k (by omega) 4 (by omega)
    have f5 := hT k (by omega) 5 (by omega)
    simp only [Tr.vals, List.getElem?_cons_zero, List.getElem?_cons_succ, Nat.add_zero] at f0 f1 f2 f3 f4 f5
    rw [Nat.mul_comm 6 k] at f0 f1 f2 f3 f4 f5
    unfold Tr.val
    generalize trL.getD k noTr = t at *
    clear hT e h0
    go_enter Tryd.func54, Tryd.ntmps54
    go_wp2_with fail
    refine (class_in _ _ h1 h2).mono ?_
    rintro e w1 ⟨rfl, rfl⟩
    go_wp2
    refine bodyPost_ret (v := .agg #[.bool t.one, .bool t.two, .bool t.starts, .int .i64 t.unit, .bool t.joins, .bool t.picks]) (by simp [results, Tryd.results54, go_sem]) rfl ?_
    exact ⟨rfl, (Below.refl _ _).alloc (Nat.le_refl _) _⟩
  · have h' : c < 1 ∨ 19 < c := by omega
    rw [trOf_out h']
    clear h hT
    go_enter Tryd.func54, Tryd.ntmps54
    go_wp2_with fail
    refine (class_out _ _ h').mono ?_
    rintro e w1 ⟨v, rfl, hv, rfl⟩
    go_wp2
    refine bodyPost_ret (v := .agg #[.bool false, .bool false, .bool false, .int .i64 0, .bool false, .bool false]) (by simp [results, Tryd.results54, go_sem]) rfl ?_
    exact ⟨rfl, (Below.refl _ _).alloc (Nat.le_refl _) _⟩
theorem lookUp_v (c : Int) (t : Tr) (w : World) (ht : trOf c = t) (hT : Tab w) : Calls Tryd.prog 54 #[.int .i64 c] w fun e w' => e = .returned (.agg #[.bool t.one, .bool t.two, .bool t.starts, .int .i64 t.unit, .bool t.joins, .bool t.picks]) ∧ Below w.heap.size w w' := by
  subst ht; exact lookUp_any c w hT

theorem field0 (t : Tr) (w : World) : (Instr.field 88 (.agg #[.bool t.one, .bool t.two, .bool t.starts, .int .i64 t.unit, .bool t.joins, .bool t.picks]) 0).run Tryd.prog w = .ok (.bool t.one) w := by kernel_rfl
theorem field1 (t : Tr) (w : World) : (Instr.field 88 (.agg #[.bool t.one, .bool t.two, .bool t.starts, .int .i64 t.unit, .bool t.joins, .bool t.picks]) 1).run Tryd.prog w = .ok (.bool t.two) w := by kernel_rfl
theorem field4 (t : Tr) (w : World) : (Instr.field 88 (.agg #[.bool t.one, .bool t.two, .bool t.starts, .int .i64 t.unit, .bool t.joins, .bool t.picks]) 4).run Tryd.prog w = .ok (.bool t.joins) w := by kernel_rfl
theorem field5 (t : Tr) (w : World) : (Instr.field 88 (.agg #[.bool t.one, .bool t.two, .bool t.starts, .int .i64 t.unit, .bool t.joins, .bool t.picks]) 5).run Tryd.prog w = .ok (.bool t.picks) w := by kernel_rfl

/-- Has a function a use with that many arguments? -/
def hasB (c v : Int) : Bool := if v = 1 then (trOf c).one else if v = 2 then (trOf c).two else false
set_option maxHeartbeats 1000000 in
theorem has_any (c v : Int) (w : World) (hT : Tab w) : Calls Tryd.prog 33 #[.int .i64 c, .int .i64 v] w fun e w' => e = .returned (.bool (hasB c v)) ∧ Below w.heap.size w w' := by
  have HT := Lib.hid hT
  obtain ⟨t, ht⟩ : ∃ t, trOf c = t := ⟨_, rfl⟩
  have H := Lib.hid ht
  have hf0 := field0 t
  have hf1 := field1 t
  clear hT
  by_cases h1 : v = 1
  · subst h1
    have HV : Hid (hasB c 1 = t.one) := Lib.hid (by simp [hasB, ht])
    clear ht
    go_enter Tryd.func33, Tryd.ntmps33
    go_wp2_with fail
    refine (lookUp_v _ t _ H.out HT.out).mono ?_
    rintro e w1 ⟨rfl, hb1⟩
    go_wp2
    go_ret
    exact ⟨ret_bool HV.out.symm, hb1⟩
  · have h1b : (v == 1) = false := by simpa using h1
    by_cases h2 : v = 2
    · subst h2
      have HV : Hid (hasB c 2 = t.two) := Lib.hid (by simp [hasB, ht])
      clear ht h1 h1b
      go_enter Tryd.func33, Tryd.ntmps33
      go_wp2_with (go_at_call 54; refine (lookUp_v _ t _ H.out HT.out).mono ?_; rintro e w1 ⟨rfl, hb1⟩)
      go_ret
      exact ⟨ret_bool HV.out.symm, hb1⟩
    · have h2b : (v == 2) = false := by simpa using h2
      have HV : Hid (hasB c v = false) := Lib.hid (by simp [hasB, h1, h2])
      clear ht h1 h2
      go_enter Tryd.func33, Tryd.ntmps33
      go_wp2
      go_ret
      exact ⟨ret_bool HV.out.symm, Below.refl _ _⟩
set_option maxHeartbeats 1000000 in
theorem rhas_any (c v : Int) (w : World) : Calls Tryd.prog 27 #[.int .i64 c, .int .i64 v] w fun e w' => e = .returned (.bool (hasB c v)) ∧ w = w' := by
  obtain ⟨b, hb⟩ : ∃ b, hasB c v = b := ⟨_, rfl⟩
  rw [hb]
  have HB := Lib.hid hb
  clear hb
  have hin1 : ∀ k : Nat, k < 20 → (trL.getD k noTr).one = (decide (1 ≤ k) && decide (k ≤ 6) || decide (17 ≤ k) && decide (k ≤ 19)) := by decide
  have hin2 : ∀ k : Nat, k < 20 → (trL.getD k noTr).two = (decide (1 ≤ k) && decide (k ≤ 18)) := by decide
  have key : b = (if v = 2 then decide (1 ≤ c) && decide (c ≤ 18) else decide (v = 1) && (decide (1 ≤ c) && decide (c ≤ 6) || decide (17 ≤ c) && decide (c ≤ 19))) := by
    rw [← HB.out]
    by_cases h : 1 ≤ c ∧ c ≤ 19
    · obtain ⟨k, rfl⟩ : ∃ k : Nat, c = k := ⟨c.toNat, by omega⟩
      have e : trOf (k : Int) = trL.getD k noTr := trOf_in h.1 h.2
      have g1 := hin1 k (by omega)
      have g2 := hin2 k (by omega)
      unfold hasB
      rw [e, g1, g2]
      by_cases h2 : v = 2
      · subst h2; simp; rw [Bool.eq_iff_iff]; simp; omega
      · by_cases h1 : v = 1
        · subst h1; simp; rw [Bool.eq_iff_iff]; simp; omega
        · simp [h1, h2]
    · have e : trOf c = noTr := trOf_out (by omega)
      unfold hasB
      rw [e]
      by_cases h2 : v = 2
      · subst h2; simp [noTr]; omega
      · by_cases h1 : v = 1
        · subst h1; simp [noTr]; omega
        · simp [h1, h2]
  clear hin1 hin2
  by_cases h2 : v = 2
  · subst h2
    rw [if_pos rfl] at key
    rcases (show c < 1 ∨ (1 ≤ c ∧ c ≤ 18) ∨ 18 < c from by omega) with h | ⟨h, h'⟩ | h
    · have hb' : b = false := by rw [key]; simp; omega
      subst hb'
      clear key HB
      go_enter Tryd.func27, Tryd.ntmps27
      go_wp2
      go_ret
      exact ⟨rfl, rfl⟩
    · have hb' : b = true := by rw [key]; simp; omega
      subst hb'
      clear key HB
      go_enter Tryd.func27, Tryd.ntmps27
      go_wp2
      go_ret
      exact ⟨ret_bool (by first | rfl | (simp; done) | (simp; omega)), rfl⟩
    · have hb' : b = false := by rw [key]; simp; omega
      have h1 : 1 ≤ c := by omega
      subst hb'
      clear key HB
      go_enter Tryd.func27, Tryd.ntmps27
      go_wp2
      go_ret
      exact ⟨ret_bool (by first | rfl | (simp; done) | (simp; omega)), rfl⟩
  · rw [if_neg h2] at key
    by_cases h1 : v = 1
    · subst h1
      rcases (show c < 1 ∨ (1 ≤ c ∧ c ≤ 6) ∨ (6 < c ∧ c < 17) ∨ (17 ≤ c ∧ c ≤ 19) ∨ 19 < c from by omega) with h | ⟨h, h'⟩ | ⟨h, h'⟩ | ⟨h, h'⟩ | h
      · have hb' : b = false := by rw [key]; simp; omega
        have g1 : c < 17 := by omega
        subst hb'
        clear key HB h2
        go_enter Tryd.func27, Tryd.ntmps27
        go_wp2
        go_ret
        exact ⟨ret_bool (by first | rfl | (simp; done) | (simp; omega)), rfl⟩
      · have hb' : b = true := by rw [key]; simp; omega
        subst hb'
        clear key HB h2
        go_enter Tryd.func27, Tryd.ntmps27
        go_wp2
        go_ret
        exact ⟨ret_bool (by first | rfl | (simp; done) | (simp; omega)), rfl⟩
      · have hb' : b = false := by rw [key]; simp; omega
        have g1 : 1 ≤ c := by omega
        subst hb'
        clear key HB h2
        go_enter Tryd.func27, Tryd.ntmps27
        go_wp2
        go_ret
        exact ⟨ret_bool (by first | rfl | (simp; done) | (simp; omega)), rfl⟩
      · have hb' : b = true := by rw [key]; simp; omega
        have g1 : 1 ≤ c := by omega
        have g2 : 6 < c := by omega
        subst hb'
        clear key HB h2
        go_enter Tryd.func27, Tryd.ntmps27
        go_wp2
        go_ret
        exact ⟨ret_bool (by first | rfl | (simp; done) | (simp; omega)), rfl⟩
      · have hb' : b = false := by rw [key]; simp; omega
        have g1 : 1 ≤ c := by omega
        have g2 : 6 < c := by omega
        have g3 : 17 ≤ c := by omega
        subst hb'
        clear key HB h2
        go_enter Tryd.func27, Tryd.ntmps27
        go_wp2
        go_ret
        exact ⟨ret_bool (by first | rfl | (simp; done) | (simp; omega)), rfl⟩
    · have hb' : b = false := by rw [key]; simp [h1]
      have g1 : (v == 1) = false := by simpa using h1
      have g2 : (v == 2) = false := by simpa using h2
      subst hb'
      clear key HB h1 h2
      go_enter Tryd.func27, Tryd.ntmps27
      go_wp2
      go_ret
      exact ⟨rfl, rfl⟩
end Go.Proofs.YtjmpilmmgfjpmaaDoor.Sc
-- ScTwo
namespace Go.Proofs.YtjmpilmmgfjpmaaDoor.Sc
open Go.RowKit
set_option linter.unusedVariables false

/-- What a function makes of two numbers. -/
def twoI (c a b : Int) : Int :=
  if c = 1 then wrap64 (a + b)
  else if c = 2 then wrap64 (a - b)
  else if c = 3 then wrap64 (a * b)
  else if c = 4 then overI a b
  else if c = 5 then powI a b
  else if c = 6 then restI a b
  else if c = 7 then max a b
  else if c = 8 then min a b
  else if c = 9 then (if a = b then 1 else 0)
  else if c = 10 then (if ¬ a = b then 1 else 0)
  else if c = 11 then (if a < b then 1 else 0)
  else if c = 12 then (if a ≤ b then 1 else 0)
  else if c = 13 then (if b < a then 1 else 0)
  else if c = 14 then (if b ≤ a then 1 else 0)
  else if c = 15 then bits .and .i64 a b
  else if c = 16 then bits .or .i64 a b
  else if c = 17 then a
  else if c = 18 then b
  else 0
theorem has2_in {c : Int} (h1 : 1 ≤ c) (h2 : c ≤ 18) : hasB c 2 = true := by
  obtain ⟨k, rfl⟩ : ∃ k : Nat, c = k := ⟨c.toNat, by omega⟩
  have hk : ∀ k : Nat, k < 19 → 1 ≤ k → (trL.getD k noTr).two = true := by decide
  have e : trOf (k : Int) = trL.getD k noTr := trOf_in h1 (by omega)
  simp only [hasB, e]
  simpa using hk k (by omega) (by omega)
theorem has2_out {c : Int} (h : c < 1 ∨ 18 < c) : hasB c 2 = false := by
  by_cases h1 : c = 19
  · subst h1; decide
  · have e : trOf c = noTr := trOf_out (by omega)
    simp [hasB, e, noTr]
theorem has_b (c v : Int) (b : Bool) (w : World) (h : hasB c v = b) (hT : Tab w) : Calls Tryd.prog 33 #[.int .i64 c, .int .i64 v] w fun e w' => e = .returned (.bool b) ∧ Below w.heap.size w w' := by
  subst h; exact has_any c v w hT
def twoB (c : Int) : Bool := decide (1 ≤ c) && decide (c ≤ 18)
theorem truth_R (p : Prop) [Decidable p] : InR (if p then 1 else 0) := by
  by_cases h : p
  · rw [if_pos h]; unfold InR; omega
  · rw [if_neg h]; unfold InR; omega
theorem two_R (c a b : Int) (ha : InR a) (hb : InR b) : InR (twoI c a b) := by
  unfold twoI
  by_cases h1 : c = 1
  · rw [if_pos h1]
    exact wrap_R _
  rw [if_neg h1]
  by_cases h2 : c = 2
  · rw [if_pos h2]
    exact wrap_R _
  rw [if_neg h2]
  by_cases h3 : c = 3
  · rw [if_pos h3]
    exact wrap_R _
  rw [if_neg h3]
  by_cases h4 : c = 4
  · rw [if_pos h4]
    exact over_R _ _
  rw [if_neg h4]
  by_cases h5 : c = 5
  · rw [if_pos h5]
    exact pow_R _ _
  rw [if_neg h5]
  by_cases h6 : c = 6
  · rw [if_pos h6]
    exact wrap_R _
  rw [if_neg h6]
  by_cases h7 : c = 7
  · rw [if_pos h7]
    unfold InR at *; omega
  rw [if_neg h7]
  by_cases h8 : c = 8
  · rw [if_pos h8]
    unfold InR at *; omega
  rw [if_neg h8]
  by_cases h9 : c = 9
  · rw [if_pos h9]
    exact truth_R _
  rw [if_neg h9]
  by_cases h10 : c = 10
  · rw [if_pos h10]
    exact truth_R _
  rw [if_neg h10]
  by_cases h11 : c = 11
  · rw [if_pos h11]
    exact truth_R _
  rw [if_neg h11]
  by_cases h12 : c = 12
  · rw [if_pos h12]
    exact truth_R _
  rw [if_neg h12]
  by_cases h13 : c = 13
  · rw [if_pos h13]
    exact truth_R _
  rw [if_neg h13]
  by_cases h14 : c = 14
  · rw [if_pos h14]
    exact truth_R _
  rw [if_neg h14]
  by_cases h15 : c = 15
  · rw [if_pos h15]
    exact and_R _ _
  rw [if_neg h15]
  by_cases h16 : c = 16
  · rw [if_pos h16]
    exact or_R _ _
  rw [if_neg h16]
  by_cases h17 : c = 17
  · rw [if_pos h17]
    exact ha
  rw [if_neg h17]
  by_cases h18 : c = 18
  · rw [if_pos h18]
    exact hb
  rw [if_neg h18]
  unfold InR; omega

/-- As Two, or the other way round. -/
def doI (c : Int) (s : Bool) (a b : Int) : Int := if s = true then twoI c b a else twoI c a b
theorem do_R (c : Int) (s : Bool) (a b : Int) (ha : InR a) (hb : InR b) : InR (doI c s a b) := by
  unfold doI
  split
  · exact two_R _ _ _ hb ha
  · exact two_R _ _ _ ha hb
end Go.Proofs.YtjmpilmmgfjpmaaDoor.Sc
-- ScKind
namespace Go.Proofs.YtjmpilmmgfjpmaaDoor.Sc
open Go.RowKit
set_option linter.unusedVariables false

theorem picks_not {c : Int} (h7 : ¬ c = 7) (h8 : ¬ c = 8) : (trOf c).picks = false := by
  by_cases h : 1 ≤ c ∧ c ≤ 19
  · obtain ⟨k, rfl⟩ : ∃ k : Nat, c = k := ⟨c.toNat, by omega⟩
    have hk : ∀ k : Nat, k < 20 → k ≠ 7 → k ≠ 8 → (trL.getD k noTr).picks = false := by decide
    have e : trOf (k : Int) = trL.getD k noTr := trOf_in h.1 h.2
    rw [e]
    exact hk k (by omega) (by omega) (by omega)
  · rw [trOf_out (c := c) (by omega)]; rfl
end Go.Proofs.YtjmpilmmgfjpmaaDoor.Sc
