/-
  What riffleref02.place, Of, Named and First answer for any text; nothing that was there is written. Condition: a text is no longer than an int can say.
-/
import Derived.Test.YtdhpplbopciijaaDoorGlyphRef
import Derived.Deep.QuietTactic
import Derived.BigQuiet
set_option maxRecDepth 100000
namespace Go.Proofs.YtdhpplbopciijaaDoor.Gl
open Go.RowKit
set_option linter.unusedVariables false

/-- A row of 44 texts. -/
def Texts (w : World) (g : Nat) (f : Nat → List UInt8) : Prop := ∀ k, k < 44 → w.cell? ⟨g, k, none⟩ = some (strV (f k))
theorem texts_sign (w : World) : Texts (w.alloc (.cells signA 9)) w.heap.size rs := by
  intro k hk
  rw [cell_of_row _ w.heap.size k _ _ _ (heap_alloc_new w _)]
  have : k < signs.length := hk
  simp [signA, rs, List.getD, this]
theorem texts_word (w : World) : Texts (w.alloc (.cells wordA 9)) w.heap.size wrd := by
  intro k hk
  rw [cell_of_row _ w.heap.size k _ _ _ (heap_alloc_new w _)]
  have : k < ents.length := hk
  simp [wordA, wrd, List.getD, this]
theorem strV_list (l : List UInt8) : ∃ b : ByteArray, strV l = .string b ∧ b.toList = l ∧ b.size = l.length := ⟨⟨l.toArray⟩, rfl, by rw [toList_data], by simp [ByteArray.size]⟩

def TextIs (f : Nat → List UInt8) (l : List UInt8) (c : Nat) : Prop := IsFirst (fun k => f k = l ∧ l ≠ []) c
def NoText (f : Nat → List UInt8) (l : List UInt8) (k : Nat) : Prop := ∀ t, 1 ≤ t → t < k → ¬ (f t = l ∧ l ≠ [])
set_option maxHeartbeats 1000000 in
theorem place_any (g : Nat) (f : Nat → List UInt8) (s : ByteArray) (w : World) (hX : Texts w g f) :
    Calls Tryd.prog 47 #[.slice (some ⟨g, 0, none⟩) 44 44, .string s] w fun e w' => ∃ c : Nat, e = .returned (.int .i64 c) ∧ TextIs f s.data.toList c ∧ w = w' := by
  have HX := Lib.hid hX
  clear hX
  go_enter Tryd.func47, Tryd.ntmps47
  go_wp2
  go_loop [5] (fun j => ∃ k : Nat, 1 ≤ k ∧ k ≤ 44 ∧ j = .int .i64 k ∧ NoText f s.data.toList k)
    (fun j => 44 - (intOf j).toNat)
  case atStart => exact ⟨1, by omega, by omega, rfl, fun t h1 h2 => absurd h2 (by omega)⟩
  case round =>
    obtain ⟨k, hk1, hk2, rfl, hno⟩ := hrel
    have HN := Lib.hid hno
    clear hno
    by_cases hlt : k < 44
    · have hc := HX.out k hlt
      obtain ⟨b, hb, hbl, _⟩ := strV_list (f k)
      rw [hb] at hc
      have HL := Lib.hid hbl
      clear hb hbl
      by_cases he : b.toList = s.toList
      · have hq : (b.toList == s.toList) = true := by simpa using he
        have HE := Lib.hid he
        clear he
        by_cases hz : s.size = 0
        · have hl : s.data.toList = [] := List.eq_nil_of_length_eq_zero (by rw [size_list]; exact hz)
          have HZ := Lib.hid hl
          have hse : (s.toList != []) = false := by rw [toList_data, hl]; rfl
          have hse2 : s.toList.isEmpty = true := by rw [toList_data, hl]; rfl
          clear hl
          go_wp2
          go_round
          case rel => exact ⟨k + 1, by omega, by omega, by go_num, fun t h1 h2 h => h.2 HZ.out⟩
          case measure => simp [intOf]; omega
        · obtain ⟨e1, e2, e3⟩ := nonempty_facts hz
          have hse : (s.toList != []) = true := by simpa using e3
          have H3 := Lib.hid e3
          clear e3
          go_wp2
          go_ret
          exact ⟨k, rfl, Or.inr ⟨hk1, hlt, ⟨by rw [← HL.out, HE.out, toList_data], by rw [← toList_data]; exact H3.out⟩, HN.out⟩, rfl⟩
      · have hq : (b.toList == s.toList) = false := by simpa using he
        have HE := Lib.hid he
        clear he
        go_wp2
        go_round
        case rel => exact ⟨k + 1, by omega, by omega, by go_num, fun t h1 h2 h => (by
          rcases Nat.lt_or_ge t k with g | g
          · exact HN.out t h1 g h
          · have : t = k := by omega
            subst this
            exact HE.out (by rw [HL.out, toList_data]; exact h.1))⟩
        case measure => simp [intOf]; omega
    · obtain rfl : k = 44 := by omega
      go_wp2
      go_ret
      exact ⟨0, rfl, Or.inl ⟨rfl, HN.out⟩, rfl⟩

set_option maxHeartbeats 400000 in
theorem refNamed_any (s : ByteArray) (w : World) :
    Calls Tryd.prog 38 #[.string s] w fun e w' => ∃ c : Nat, e = .returned (.int .i64 c) ∧ NamedIs s.data.toList c ∧ Below w.heap.size w w' := by
  go_enter Tryd.func38, Tryd.ntmps38
  go_wp2_with fail
  refine (words_any _).mono ?_
  rintro e w1 ⟨rfl, rfl⟩
  go_wp2_with fail
  refine (place_any _ wrd s _ (texts_word w)).mono ?_
  rintro e w2 ⟨c, rfl, hf, rfl⟩
  have HF := Lib.hid hf
  clear hf
  go_wp2
  go_ret
  exact ⟨c, rfl, HF.out, (Below.refl _ _).alloc (Nat.le_refl _) _⟩
end Go.Proofs.YtdhpplbopciijaaDoor.Gl
