/-
  The document's example of layer 2 (rifflelaw02.lives) is true; nothing that was there is written. Condition: the two tables of unicode/utf8 hold what their text lays.
-/
import Derived.Test.YtdjckobbemkhbaaDoorGlyphRead
namespace Go.Proofs.YtdjckobbemkhbaaDoor.Gl
open Go.RowKit
set_option linter.unusedVariables false

theorem isFirst_of {p : Nat → Prop} {c : Nat} (h1 : 1 ≤ c) (h2 : c < 44) (h3 : p c) (h4 : ∀ k, k < 44 → p k → 1 ≤ k → c ≤ k) : IsFirst p c := .inr ⟨h1, h2, h3, fun k k1 k2 hk => by have := h4 k (by omega) hk k1; omega⟩
theorem first_a {c n : Nat} (h : FirstIs [226, 140, 136, 47, 120] c n) : c = 7 ∧ n = 3 := by
  rcases h with ⟨_, h1, h2⟩ | ⟨h, _⟩
  · have h7 : IsFirst (fun k => rs k <+: [226, 140, 136, 47, 120]) 7 := isFirst_of (by omega) (by omega) (List.isPrefixOf_iff_prefix.1 (by decide)) (fun k hk hp k1 => by
      have := all44 (p := fun k => (rs k).isPrefixOf [226, 140, 136, 47, 120] = true → 1 ≤ k → 7 ≤ k) (by decide) k hk
      exact this (List.isPrefixOf_iff_prefix.2 hp) k1)
    obtain rfl := h1.same h7 (fun _ _ _ => Iff.rfl)
    exact ⟨rfl, h2⟩
  · simp at h
theorem first_b {c n : Nat} (h : FirstIs [96, 109, 97, 120, 32, 120] c n) : c = 7 ∧ n = 4 := by
  rcases h with ⟨h, _⟩ | ⟨_, h1, h2⟩
  · simp at h
  · have hw : wordOf [96, 109, 97, 120, 32, 120] = [109, 97, 120] := by decide
    rw [hw] at h1 h2
    have h7 : NamedIs [109, 97, 120] 7 := isFirst_of (by omega) (by omega) ⟨rfl, by simp⟩ (fun k hk hp k1 => by
      have := wrd_inj k hk 7 (by omega) (by rw [hp.1]; simp) hp.1
      omega)
    obtain rfl := h1.same h7 (fun _ _ _ => Iff.rfl)
    exact ⟨rfl, h2⟩
theorem first_lit (s : ByteArray) (c n : Nat) (l : List UInt8) (hl : s.data.toList = l) (h : ∀ c' n', FirstIs l c' n' → c' = c ∧ n' = n) (w : World) (hT : Tabs w) (hs : s.size ≤ maxLen) :
    Calls Tryd.prog 18 #[.string s] w fun e w' => e = .returned (.tuple #[.int .i64 c, .int .i64 n]) ∧ Below w.heap.size w w' := by
  refine (first_any s w hT hs).mono ?_
  rintro e w' ⟨c', n', rfl, hf, hb⟩
  rw [hl] at hf
  obtain ⟨rfl, rfl⟩ := h c' n' hf
  exact ⟨rfl, hb⟩

set_option maxHeartbeats 1000000 in
theorem lives_any (w : World) (hT : Tabs w) : Calls Tryd.prog 17 #[] w fun e w' => e = .returned (.bool true) ∧ Below w.heap.size w w' := by
  go_enter Tryd.func17, Tryd.ntmps17
  go_wp2_with fail
  refine (first_lit _ 7 3 _ rfl (fun _ _ h => first_a h) _ hT (by decide)).mono ?_
  rintro e w1 ⟨rfl, hb1⟩
  have hT1 := hT.below hb1
  have HT1 := Lib.hid hT1
  have HB1 := Lib.hid hb1
  clear hT1 hb1
  go_wp2_with fail
  refine (first_lit _ 7 4 _ rfl (fun _ _ h => first_b h) _ HT1.out (by decide)).mono ?_
  rintro e w2 ⟨rfl, hb2⟩
  have HB2 := Lib.hid (below_next HB1.out hb2)
  clear hb2
  go_wp2
  go_ret
  exact ⟨rfl, HB2.out⟩
end Go.Proofs.YtdjckobbemkhbaaDoor.Gl
