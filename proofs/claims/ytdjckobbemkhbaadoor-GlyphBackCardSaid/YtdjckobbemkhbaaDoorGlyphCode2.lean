/-
  What glyph.Sign and Word and riffleref02.Sign and Word answer for any code, in one word each; nothing that was there is written. No condition.
-/
import Derived.Test.YtdjckobbemkhbaaDoorGlyphCode
namespace Go.Proofs.YtdjckobbemkhbaaDoor.Gl
open Go.RowKit
set_option linter.unusedVariables false

/-- The sign of a code as a text; empty, if there is none. -/
def signB (c : Int) : ByteArray := if 1 ≤ c ∧ c ≤ 43 then ⟨(rs c.toNat).toArray⟩ else ⟨#[]⟩
def wordB (c : Int) : ByteArray := if 1 ≤ c ∧ c ≤ 43 then ⟨(wrd c.toNat).toArray⟩ else ⟨#[]⟩
theorem signB_yes (k : Nat) (h1 : 1 ≤ k) (h2 : k < 44) : Value.string (signB (k : Int)) = strV (rs k) := by
  unfold signB; rw [if_pos (by omega), Int.toNat_natCast]; rfl
theorem signB_no {c : Int} (h : ¬ inC c) : signB c = ⟨#[]⟩ := if_neg h
theorem wordB_yes (k : Nat) (h1 : 1 ≤ k) (h2 : k < 44) : Value.string (wordB (k : Int)) = strV (wrd k) := by
  unfold wordB; rw [if_pos (by omega), Int.toNat_natCast]; rfl
theorem wordB_no {c : Int} (h : ¬ inC c) : wordB c = ⟨#[]⟩ := if_neg h
theorem sign_any (c : Int) (w : World) : Calls Tryd.prog 11 #[.int .i64 c] w fun e w' => e = .returned (.string (signB c)) ∧ Below w.heap.size w w' := by
  by_cases h : inC c
  · obtain ⟨k, rfl⟩ : ∃ k : Nat, c = k := ⟨c.toNat, by unfold inC at h; omega⟩
    unfold inC at h
    rw [signB_yes k (by omega) (by omega)]
    exact sign_yes k (by omega) (by omega) w
  · rw [signB_no h]; exact sign_no c h w
theorem word_any (c : Int) (w : World) : Calls Tryd.prog 13 #[.int .i64 c] w fun e w' => e = .returned (.string (wordB c)) ∧ Below w.heap.size w w' := by
  by_cases h : inC c
  · obtain ⟨k, rfl⟩ : ∃ k : Nat, c = k := ⟨c.toNat, by unfold inC at h; omega⟩
    unfold inC at h
    rw [wordB_yes k (by omega) (by omega)]
    exact word_yes k (by omega) (by omega) w
  · rw [wordB_no h]; exact word_no c h w
theorem refSign_any (c : Int) (w : World) : Calls Tryd.prog 12 #[.int .i64 c] w fun e w' => e = .returned (.string (signB c)) ∧ Below w.heap.size w w' := by
  by_cases h : inC c
  · obtain ⟨k, rfl⟩ : ∃ k : Nat, c = k := ⟨c.toNat, by unfold inC at h; omega⟩
    unfold inC at h
    rw [signB_yes k (by omega) (by omega)]
    exact refSign_yes k (by omega) (by omega) w
  · rw [signB_no h]; exact (refSign_no c h w).mono fun _ _ ⟨a, b⟩ => ⟨a, by rw [← b]; exact Below.refl _ _⟩
theorem refWord_any (c : Int) (w : World) : Calls Tryd.prog 14 #[.int .i64 c] w fun e w' => e = .returned (.string (wordB c)) ∧ Below w.heap.size w w' := by
  by_cases h : inC c
  · obtain ⟨k, rfl⟩ : ∃ k : Nat, c = k := ⟨c.toNat, by unfold inC at h; omega⟩
    unfold inC at h
    rw [wordB_yes k (by omega) (by omega)]
    exact refWord_yes k (by omega) (by omega) w
  · rw [wordB_no h]; exact (refWord_no c h w).mono fun _ _ ⟨a, b⟩ => ⟨a, by rw [← b]; exact Below.refl _ _⟩
end Go.Proofs.YtdjckobbemkhbaaDoor.Gl
