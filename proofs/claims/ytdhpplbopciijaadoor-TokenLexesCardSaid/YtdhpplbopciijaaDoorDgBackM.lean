/-
  Plain facts on numerals there and back: what is written is read, whatever stands behind that is no digit; what is read is written as it stood there. No condition but that a number fits into 64 bits.
-/
import Derived.Test.YtdhpplbopciijaaDoorDgRead2
set_option maxRecDepth 100000
namespace Go.Proofs.YtdhpplbopciijaaDoor.Dg
open Go.RowKit Go.Proofs.YtdhpplbopciijaaDoor.Sh
set_option linter.unusedVariables false

theorem plain_dec (u : Nat) (b : Bool) (h : b = true → 0 < u) : plainB (Lib.decDigits u) b = true := by
  unfold plainB
  split
  · next hn =>
    have h0 := dec_head u ((nought_iff _).1 hn)
    have hb : b = false := by
      cases b with
      | false => rfl
      | true => have := h rfl; omega
    rw [h0, dec_0, hb]; rfl
  · exact decide_eq_true (dec_pos u)
/-- The number n, cut into its digits and whether it is below 0. -/
theorem val_dec {n : Int} (hn : InR n) : valB (Lib.decDigits n.natAbs) (decide (n < 0)) = true ∧ valI (Lib.decDigits n.natAbs) (decide (n < 0)) = n := by
  obtain ⟨h0, h1⟩ := hn
  by_cases h : n < 0
  · rw [decide_eq_true h]
    have hv := val_below (plain_dec n.natAbs true (fun _ => by omega)) (by rw [dec_nat]; unfold top; omega)
    rw [dec_nat] at hv
    exact ⟨hv.1, by rw [hv.2]; omega⟩
  · rw [decide_eq_false h]
    have hv := val_above (plain_dec n.natAbs false (fun hh => by cases hh)) (by rw [dec_nat]; unfold top; omega)
    rw [dec_nat] at hv
    exact ⟨hv.1, by rw [hv.2]; omega⟩
theorem itoa_cut (n : Int) : cutB (Lib.itoa n) = decide (n < 0) ∧ cutT (Lib.itoa n) = Lib.decDigits n.natAbs := by
  by_cases h : n < 0
  · have hc := cut_below h
    exact ⟨by unfold cutB; rw [hc.1, decide_eq_true h], hc.2⟩
  · have hc := cut_above h
    refine ⟨by unfold cutB; rw [hc.1, decide_eq_false h], ?_⟩
    have : n.toNat = n.natAbs := by omega
    rw [← this]; exact hc.2
theorem get_put {n : Int} (hn : InR n) : getB (Lib.itoa n) = true ∧ getI (Lib.itoa n) = n := by
  have hv := val_dec hn
  obtain ⟨h1, h2⟩ := itoa_cut n
  have hg : getB (Lib.itoa n) = true := by unfold getB; rw [h1, h2, dec_isD, hv.1]; rfl
  exact ⟨hg, by unfold getI; rw [if_pos hg, h1, h2]; exact hv.2⟩
/-- What a value is: in range, and written so. -/
theorem val_canon {l : List UInt8} {b : Bool} (hd : l.all isD = true) (h : valB l b = true) : canon l ∧ InR (valI l b) ∧ (valI l b).natAbs = natL l ∧ (b = true → 0 < natL l ∧ valI l b < 0) ∧ (b = false → 0 ≤ valI l b) := by
  have hi : valI l b = (if b = true then -(natL l : Int) else (natL l : Int)) := by unfold valI; rw [if_pos h]
  unfold valB at h
  simp only [Bool.and_eq_true] at h
  obtain ⟨hp, ht⟩ := h
  have hpos : 0 < l.length := by
    unfold plainB at hp
    split at hp
    · simp at hp; omega
    · simpa using hp
  have hc : canon l := ⟨hpos, hd, fun hz => by
    unfold plainB at hp
    rw [if_pos ((nought_iff l).2 hz)] at hp
    simp at hp; exact hp.1⟩
  refine ⟨hc, ?_, ?_, ?_, ?_⟩
  · rw [hi]
    unfold InR
    cases b with
    | true =>
      have ht' : natL l ≤ top := by simpa using ht
      unfold top at ht'
      rw [if_pos rfl]; omega
    | false =>
      have ht' : natL l < top := by simpa using ht
      unfold top at ht'
      rw [if_neg (by simp)]; omega
  · rw [hi]
    cases b <;> simp
  · intro hb
    subst hb
    have hz : 0 < natL l := by
      by_cases hn : nought l = true
      · unfold plainB at hp
        rw [if_pos hn] at hp
        simp at hp
      · rcases Nat.eq_zero_or_pos (natL l) with h0 | h0
        · have := (canon_dec l.length l rfl hc).1
          rw [h0, dec_0] at this
          exact absurd ((nought_iff l).2 (by rw [← this]; rfl)) hn
        · exact h0
    exact ⟨hz, by rw [hi]; simp; exact hz⟩
  · intro hb
    subst hb
    rw [hi]; simp
theorem cut_join (l : List UInt8) : (if cutB l = true then 45 :: cutT l else cutT l) = l := by
  unfold cutB cutT Lib.trimPrefix
  split
  · next h =>
    match l, h with
    | c :: r, h =>
      have : (45 == c) = true := by simpa [Lib.hasPrefix, List.isPrefixOf] using h
      have : 45 = c := by simpa using this
      subst this; rfl
    | [], h => simp [Lib.hasPrefix, List.isPrefixOf] at h
  · rfl
theorem put_get {l : List UInt8} (h : getB l = true) : InR (getI l) ∧ Lib.itoa (getI l) = l := by
  have hi : getI l = valI (cutT l) (cutB l) := by unfold getI; rw [if_pos h]
  unfold getB at h
  simp only [Bool.and_eq_true] at h
  obtain ⟨hc, hr, ha, hb1, hb2⟩ := val_canon h.1 h.2
  rw [hi]
  refine ⟨hr, ?_⟩
  have hdec := (canon_dec _ _ rfl hc).1
  have hj := cut_join l
  cases hb : cutB l with
  | true =>
    rw [hb] at hb1 ha hj
    have := (hb1 rfl).2
    unfold Lib.itoa
    rw [if_pos this, ha, hdec]
    exact hj
  | false =>
    rw [hb] at hb2 ha hj
    have := hb2 rfl
    unfold Lib.itoa
    rw [if_neg (by omega), show (valI (cutT l) false).toNat = natL (cutT l) by omega, hdec]
    exact hj
end Go.Proofs.YtdhpplbopciijaaDoor.Dg
