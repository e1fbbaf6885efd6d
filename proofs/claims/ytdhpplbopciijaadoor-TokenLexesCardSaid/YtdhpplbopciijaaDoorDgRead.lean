/-
  What digits.Put, High, Get, signed and Read answer. Conditions: the table of the powers of ten holds what its text lays (Put, High); a text is no longer than fits into a machine.
-/
import Derived.Test.YtdhpplbopciijaaDoorDgVal
import Derived.Lib.AppendIntMem
set_option maxRecDepth 100000
namespace Go.Proofs.YtdhpplbopciijaaDoor.Dg
open Go.RowKit Go.Proofs.YtdhpplbopciijaaDoor.Sh
set_option linter.unusedVariables false

/-- The table of the powers of ten. -/
def Tab (w : World) : Prop := Lib.TabIs Tryd.prog w "internal/strconv.uint64pow10" .u64 Lib.pow10Tab
theorem Tab.below {w w' : World} (h : Tab w) (hb : Below w.heap.size w w') : Tab w' := by
  unfold Tab Lib.TabIs World.var? at *
  cases hg : (Tryd.prog).globalNamed "internal/strconv.uint64pow10" with
  | none => simp [hg] at h
  | some g =>
    simp only [hg, Option.bind_some] at h ⊢
    have hlt : g < w.heap.size := by
      rcases Nat.lt_or_ge g w.heap.size with h' | h'
      · exact h'
      · rw [Array.getElem?_eq_none h'] at h; simp at h
    rw [hb.block g hlt]
    exact h
def InR (n : Int) : Prop := -9223372036854775808 ≤ n ∧ n ≤ 9223372036854775807
theorem dec_len : ∀ (k n : Nat), 0 < k → n < 10 ^ k → (Lib.decDigits n).length ≤ k := by
  intro k
  induction k with
  | zero => intro n h; omega
  | succ k ih =>
    intro n _ hn
    unfold Lib.decDigits
    split
    · simp
    · next h =>
      have hk : 0 < k := by
        rcases Nat.eq_zero_or_pos k with h0 | h0
        · subst h0; simp at hn; omega
        · exact h0
      have := ih (n / 10) hk (by rw [Nat.pow_succ] at hn; omega)
      simp; omega
theorem dec_len20 {n : Nat} (h : n ≤ 9223372036854775808) : (Lib.decDigits n).length ≤ 19 := dec_len 19 n (by omega) (by omega)
/-- What High tells. -/
def highL (n : Int) : List UInt8 := if n < 0 then 194 :: 175 :: Lib.decDigits n.natAbs else Lib.decDigits n.toNat
theorem pre45 (u : Nat) : Lib.hasPrefix (Lib.decDigits u) [45] = false := by
  have h1 := dec_pos u
  have h2 := dec_isD u
  match hl : Lib.decDigits u, h1 with
  | c :: r, _ =>
    rw [hl] at h2
    have := isD_of h2 (c := c) (by simp)
    have hne : (45 == c) = false := by
      simp
      rintro rfl
      simp at this
    simp [Lib.hasPrefix, List.isPrefixOf, hne]
theorem cut_below {n : Int} (h : n < 0) : Lib.hasPrefix (Lib.itoa n) [45] = true ∧ Lib.trimPrefix (Lib.itoa n) [45] = Lib.decDigits n.natAbs := by
  have e : Lib.itoa n = 45 :: Lib.decDigits n.natAbs := by unfold Lib.itoa; rw [if_pos h]
  rw [e]
  have hp : Lib.hasPrefix (45 :: Lib.decDigits n.natAbs) [45] = true := by simp [Lib.hasPrefix, List.isPrefixOf]
  exact ⟨hp, by unfold Lib.trimPrefix; rw [if_pos hp]; rfl⟩
theorem cut_above {n : Int} (h : ¬ n < 0) : Lib.hasPrefix (Lib.itoa n) [45] = false ∧ Lib.trimPrefix (Lib.itoa n) [45] = Lib.decDigits n.toNat := by
  have e : Lib.itoa n = Lib.decDigits n.toNat := by unfold Lib.itoa; rw [if_neg h]
  rw [e]
  exact ⟨pre45 _, by unfold Lib.trimPrefix; rw [if_neg (by simp [pre45])]⟩
/-- What Get tells. -/
def cutT (l : List UInt8) : List UInt8 := Lib.trimPrefix l [45]
def cutB (l : List UInt8) : Bool := Lib.hasPrefix l [45]
def getB (l : List UInt8) : Bool := (cutT l).all isD && valB (cutT l) (cutB l)
def getI (l : List UInt8) : Int := if getB l = true then valI (cutT l) (cutB l) else 0
theorem cutT_le (l : List UInt8) : (cutT l).length ≤ l.length := by
  unfold cutT Lib.trimPrefix
  split <;> simp
theorem run_lt {l : List UInt8} (h : l.all isD = false) : runL l < l.length := by
  rcases Nat.lt_or_ge (runL l) l.length with h1 | h1
  · exact h1
  · have e : runL l = l.length := Nat.le_antisymm (runL_le l) h1
    have h2 : l.takeWhile isD = l := by
      have hp := List.takeWhile_prefix (p := isD) (l := l)
      exact List.IsPrefix.eq_of_length hp e
    have : l.all isD = true := by
      rw [← h2]
      exact List.all_takeWhile
    rw [this] at h; cases h
end Go.Proofs.YtdhpplbopciijaaDoor.Dg
