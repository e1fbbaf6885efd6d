/-
  Plain facts on decimal numerals as lists of bytes: the number that digits tell, what is written so and no other way. No condition; nothing of the program stands here but what a digit is.
-/
import Derived.Test.YtdhpplbopciijaaDoorDgBase
import Derived.Lib.ItoaNum
set_option maxRecDepth 100000
namespace Go.Proofs.YtdhpplbopciijaaDoor.Dg
open Go.RowKit
set_option linter.unusedVariables false

/-- The number that digits tell. -/
def natL (l : List UInt8) : Nat := l.foldl (fun n c => 10 * n + (c.toNat - 48)) 0
theorem natL_snoc (l : List UInt8) (c : UInt8) : natL (l ++ [c]) = 10 * natL l + (c.toNat - 48) := by simp [natL]
theorem natL_take {l : List UInt8} {k : Nat} {c : UInt8} (hc : l[k]? = some c) : natL (l.take (k + 1)) = 10 * natL (l.take k) + (c.toNat - 48) := by
  have hk : k < l.length := (List.getElem?_eq_some_iff.1 hc).1
  rw [List.take_succ_eq_append_getElem hk, natL_snoc]
  have e : l[k] = c := by rw [List.getElem?_eq_getElem hk] at hc; injection hc
  rw [e]
theorem natL_mono (l : List UInt8) : ∀ k j, k ≤ j → natL (l.take k) ≤ natL (l.take j) := by
  intro k j
  induction j with
  | zero => intro h; rw [show k = 0 by omega]; exact Nat.le_refl _
  | succ j ih =>
    intro h
    by_cases he : k = j + 1
    · rw [he]; exact Nat.le_refl _
    · refine Nat.le_trans (ih (by omega)) ?_
      rcases Nat.lt_or_ge j l.length with hj | hj
      · rw [natL_take (List.getElem?_eq_getElem hj)]; omega
      · rw [List.take_of_length_le hj, List.take_of_length_le (by omega)]; exact Nat.le_refl _
/-- Is a text digits alone, with no nought ahead but the one of 0? -/
def canon (l : List UInt8) : Prop := 0 < l.length ∧ l.all isD = true ∧ (l[0]? = some 48 → l.length = 1)
theorem byte_dig (u : Nat) (h : u < 10) : (UInt8.ofNat (48 + u)).toNat = 48 + u := by
  rw [UInt8.toNat_ofNat']; omega
theorem dec_isD (n : Nat) : (Lib.decDigits n).all isD = true := by
  induction n using Nat.strongRecOn with
  | _ n ih =>
    unfold Lib.decDigits
    split
    · next h => simp [isD]; omega
    · next h =>
      rw [List.all_append, ih (n / 10) (by omega)]
      simp [isD]; omega
theorem dec_nat (n : Nat) : natL (Lib.decDigits n) = n := by
  induction n using Nat.strongRecOn with
  | _ n ih =>
    unfold Lib.decDigits
    split
    · next h =>
      have := byte_dig n h
      simp only [natL, List.foldl_cons, List.foldl_nil, this]; omega
    · next h =>
      rw [natL_snoc, ih (n / 10) (by omega), byte_dig (n % 10) (by omega)]; omega
theorem dec_pos (n : Nat) : 0 < (Lib.decDigits n).length := by
  unfold Lib.decDigits
  split <;> simp
theorem dec_head (n : Nat) : (Lib.decDigits n)[0]? = some 48 → n = 0 := by
  induction n using Nat.strongRecOn with
  | _ n ih =>
    unfold Lib.decDigits
    split
    · next h =>
      intro he
      simp only [List.getElem?_cons_zero, Option.some.injEq] at he
      have h2 := byte_dig n h
      rw [he] at h2
      have h3 : (48 : UInt8).toNat = 48 := rfl
      omega
    · next h =>
      intro he
      rw [List.getElem?_append_left (dec_pos _)] at he
      have := ih (n / 10) (by omega) he
      omega
theorem dec_0 : Lib.decDigits 0 = [48] := by unfold Lib.decDigits; rfl
theorem dec_canon (n : Nat) : canon (Lib.decDigits n) := ⟨dec_pos n, dec_isD n, fun h => by rw [dec_head n h, dec_0]; rfl⟩
theorem isD_of {l : List UInt8} (h : l.all isD = true) {c : UInt8} (hc : c ∈ l) : 48 ≤ c.toNat ∧ c.toNat ≤ 57 := by
  have := List.all_eq_true.1 h c hc
  simpa [isD] using this
/-- What is written so is written no other way. -/
theorem canon_dec : ∀ (k : Nat) (l : List UInt8), l.length = k → canon l → Lib.decDigits (natL l) = l ∧ (1 < l.length → 0 < natL l) := by
  intro k
  induction k with
  | zero => intro l hl hc; have := hc.1; omega
  | succ k ih =>
    intro l hl hc
    obtain ⟨h0, hd, hz⟩ := hc
    obtain ⟨a, c, rfl⟩ : ∃ a c, l = a ++ [c] := by
      refine ⟨l.dropLast, l.getLast (by intro h; simp [h] at h0), (List.dropLast_concat_getLast _).symm⟩
    have hcd := isD_of hd (c := c) (by simp)
    have hu : UInt8.ofNat (48 + (c.toNat - 48)) = c := by
      apply UInt8.toNat.inj
      rw [byte_dig _ (by omega)]; omega
    rw [natL_snoc]
    by_cases ha : a = []
    · subst ha
      refine ⟨?_, fun h => by simp at h⟩
      rw [show natL [] = 0 from rfl]
      unfold Lib.decDigits
      rw [dif_pos (by omega), Nat.mul_zero, Nat.zero_add, hu]; rfl
    · have hal : 0 < a.length := List.length_pos_iff.2 ha
      have hca : canon a := by
        refine ⟨hal, ?_, fun h => ?_⟩
        · rw [List.all_append] at hd; simp at hd; simpa using hd.1
        · have := hz (by rw [List.getElem?_append_left hal]; exact h)
          rw [List.length_append] at this
          simp only [List.length_cons, List.length_nil] at this
          omega
      obtain ⟨e, hp⟩ := ih a (by simp at hl; omega) hca
      have hpos : 0 < natL a := by
        rcases Nat.lt_or_ge 1 a.length with h1 | h1
        · exact hp h1
        · have hl1 : a.length = 1 := by omega
          match a, hl1 with
          | [x], _ =>
            have hx := isD_of hca.2.1 (c := x) (by simp)
            have hne : x.toNat ≠ 48 := fun hx48 => by
              have hx' : x = 48 := UInt8.toNat.inj (by rw [hx48]; rfl)
              have := hz (by simp [hx'])
              simp at this
            simp [natL]; omega
      refine ⟨?_, fun _ => by omega⟩
      unfold Lib.decDigits
      rw [dif_neg (by omega)]
      rw [show (10 * natL a + (c.toNat - 48)) / 10 = natL a by omega, show (10 * natL a + (c.toNat - 48)) % 10 = c.toNat - 48 by omega, e, hu]
end Go.Proofs.YtdhpplbopciijaaDoor.Dg
