/-
  What glyph.Named, Of and First answer for any text; nothing that was there is written. Condition: the two tables of unicode/utf8 hold what their text lays; a text is no longer than an int can say.
-/
import Derived.Test.YtjmpilmmgfjpmaaDoorGlyphDec
set_option maxRecDepth 100000
namespace Go.Proofs.YtjmpilmmgfjpmaaDoor.Gl
open Go.RowKit
set_option linter.unusedVariables false

theorem toList_data (s : ByteArray) : s.toList = s.data.toList := Lib.toList_data s
theorem wB_list (k : Nat) : (wB k).toList = wrd k := by rw [toList_data]; rfl
theorem empty_of_size {s : ByteArray} (h : s.size = 0) : s = ⟨#[]⟩ := by
  cases s with
  | mk d =>
    congr 1
    exact Array.eq_empty_of_size_eq_zero h
theorem nonempty_facts {s : ByteArray} (h : s.size ≠ 0) : s.toList.isEmpty = false ∧ (s.toList == []) = false ∧ ¬ s.toList = [] := by
  have hl : s.toList ≠ [] := by
    rw [toList_data]
    intro e
    apply h
    rw [← size_list, e]; rfl
  refine ⟨?_, ?_, hl⟩
  · cases hs : s.toList with
    | nil => exact absurd hs hl
    | cons _ _ => rfl
  · cases hs : s.toList with
    | nil => exact absurd hs hl
    | cons _ _ => rfl

def NamedIs (l : List UInt8) (c : Nat) : Prop := IsFirst (fun k => wrd k = l ∧ l ≠ []) c
def OfIs (l : List UInt8) (c : Nat) : Prop := IsFirst (fun k => rs k = l ∧ l ≠ []) c
theorem of_yes {l : List UInt8} {c n : Nat} (h : Lead l c n) (hc : c ≠ 0) (hn : n = l.length) : OfIs l c := by
  obtain ⟨h1, h2, h3⟩ := h.1.at_ hc
  have he : rs c = l := h3.eq_of_length (by rw [← h.2]; exact hn)
  have hl : l ≠ [] := by rw [← he]; exact rs_nil c h1 h2
  refine .inr ⟨h1, h2, ⟨he, hl⟩, fun k k1 k2 hk => ?_⟩
  have := rs_inj k (by omega) c h2 k1 h1 (hk.1.trans he.symm)
  omega
theorem of_no {l : List UInt8} {c n : Nat} (h : Lead l c n) (hn : c = 0 ∨ n ≠ l.length) : OfIs l 0 := by
  refine .inl ⟨rfl, fun k k1 k2 hk => ?_⟩
  rcases hn with hc | hn
  · exact (h.1.zero_iff.1 hc) k k1 k2 (by rw [hk.1]; exact List.prefix_refl _)
  · by_cases hc : c = 0
    · exact (h.1.zero_iff.1 hc) k k1 k2 (by rw [hk.1]; exact List.prefix_refl _)
    · obtain ⟨h1, h2, h3⟩ := h.1.at_ hc
      have : c = k := rs_free k k2 c h2 h1 (by rw [hk.1]; exact h3)
      subst this
      exact hn (by rw [h.2, hk.1])
def letterB (c : UInt8) : Bool := decide (97 ≤ c.toNat) && decide (c.toNat ≤ 122)
/-- The letters behind the first byte. -/
def wordOf (l : List UInt8) : List UInt8 := (l.drop 1).takeWhile letterB
def FirstIs (l : List UInt8) (c n : Nat) : Prop := (l.head? ≠ some 96 ∧ Lead l c n) ∨ (l.head? = some 96 ∧ NamedIs (wordOf l) c ∧ n = if c = 0 then 0 else 1 + (wordOf l).length)
theorem takeWhile_take {p : UInt8 → Bool} : ∀ (t : List UInt8) (m : Nat), (t.take m).all p = true → (t.length ≤ m ∨ ∃ x, t[m]? = some x ∧ p x = false) → t.takeWhile p = t.take m
  | [], m, _, _ => by simp
  | x :: t, 0, _, h => by
    rcases h with h | ⟨y, hy, hp⟩
    · simp at h
    · simp at hy; subst hy; simp [hp]
  | x :: t, m + 1, ha, h => by
    simp only [List.take_succ_cons, List.all_cons, Bool.and_eq_true] at ha
    rw [List.takeWhile_cons_of_pos ha.1, List.take_succ_cons, takeWhile_take t m ha.2 (by simpa using h)]
theorem at_list (s : ByteArray) (k : Nat) (h : k < s.size) : s.data.toList[k]? = some s[k] := by
  rw [List.getElem?_eq_getElem (by simpa using h)]
  rfl
theorem extract_list (s : ByteArray) (a b : Nat) : (s.extract a b).data.toList = (s.data.toList.drop a).take (b - a) := by
  rw [ByteArray.data_extract, Array.toList_extract, List.extract_eq_take_drop]
theorem head_at (s : ByteArray) (h : 0 < s.size) : s.data.toList.head? = some s[0] := by
  have := at_list s 0 h
  rw [← this, List.head?_eq_getElem?]
theorem word_at (s : ByteArray) (k : Nat) (h1 : 1 ≤ k) (h2 : k ≤ s.size) (ha : ((s.data.toList.drop 1).take (k - 1)).all letterB = true) (he : k = s.size ∨ ∃ h : k < s.size, letterB s[k] = false) :
    wordOf s.data.toList = (s.extract 1 k).data.toList ∧ (wordOf s.data.toList).length = k - 1 := by
  have hw : wordOf s.data.toList = (s.data.toList.drop 1).take (k - 1) := by
    apply takeWhile_take _ _ ha
    rcases he with he | ⟨hk, he⟩
    · left; rw [List.length_drop, size_list]; omega
    · right
      refine ⟨s[k], ?_, he⟩
      rw [List.getElem?_drop, show 1 + (k - 1) = k from by omega]
      exact at_list s k hk
  refine ⟨by rw [hw, extract_list], ?_⟩
  rw [hw, List.length_take, List.length_drop, size_list]; omega
theorem all_more (s : ByteArray) (k : Nat) (h1 : 1 ≤ k) (hk : k < s.size) (ha : ((s.data.toList.drop 1).take (k - 1)).all letterB = true) (hl : letterB s[k] = true) : ((s.data.toList.drop 1).take (k + 1 - 1)).all letterB = true := by
  have e : (s.data.toList.drop 1)[k - 1]? = some s[k] := by
    rw [List.getElem?_drop, show 1 + (k - 1) = k from by omega]
    exact at_list s k hk
  rw [show k + 1 - 1 = (k - 1) + 1 from by omega, List.take_add_one, e, List.all_append, ha]
  simp [hl]

end Go.Proofs.YtjmpilmmgfjpmaaDoor.Gl
