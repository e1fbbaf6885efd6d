/-
  What slices.Delete of the first number of a window's row does. Condition: at most 1000 numbers.
-/
import Derived.Test.YtfamgaakcbinkaaDoorDqRow
namespace Go.Proofs.YtfamgaakcbinkaaDoor.Dq
open Go.Proofs.YtfamgaakcbinkaaDoor.Sh Go.Proofs.YtfamgaakcbinkaaDoor.St
open Go.RowKit
set_option linter.unusedVariables false

set_option maxHeartbeats 2000000 in
theorem del_any (base : Nat) (V : Value) (p : Int × Nat) (ks : List (Int × Nat)) (w : World) (h : RowK base w V (p :: ks)) (hl : ks.length ≤ 1000) :
    ∃ b c, V = .slice (some ⟨b, 0, none⟩) (ks.length + 1) c ∧ Calls Tryd.prog 141 #[V, .int .i64 0, .int .i64 1] w (RetDel base b c ks w) := by
  obtain ⟨i0, hi0, hz0, hz1, hz2⟩ := info_parts infoN
  rcases h.2 with ⟨_, h0⟩ | ⟨b, c, cur, rfl, hb, hg, hn, hm, hs, ht⟩
  · simp at h0
  refine ⟨b, c, rfl, ?_⟩
  obtain ⟨m, hme⟩ : ∃ m, ks.length = m := ⟨_, rfl⟩
  have hB : Bk 184 w b cur.toList := by unfold Bk; simpa using hg
  have hcl : cur.toList.length = c * 2 := by simpa using hs
  have ht' : cur.toList.take ((m + 1) * 2) = .int .i64 p.1 :: .int .i64 (p.2 : Nat) :: flat ks := by rw [← flat_cons, ← ht, List.length_cons, hme]
  generalize cur.toList = cs at *
  have hfl : (flat ks).length = m * 2 := by rw [flat_len, hme]
  rw [List.length_cons, hme] at hn
  unfold maxLen at hm
  have hget : ∀ j u, (flat ks)[j]? = some u → w.cell? ⟨b, 2 + j, none⟩ = some u := by
    intro j u hu
    rw [hB.c]
    have hj : j < m * 2 := by have := (List.getElem?_eq_some_iff.1 hu).1; omega
    have e : (cs.take ((m + 1) * 2))[2 + j]? = some u := by rw [ht', show 2 + j = j + 1 + 1 by omega]; simpa using hu
    rwa [List.getElem?_take_of_lt (by omega)] at e
  obtain ⟨A, hA, hsrc⟩ : ∃ A : Addr, (if c = 1 then some (⟨b, 0, none⟩ : Addr) else some ⟨b, 2, none⟩) = some A ∧ Hid (∀ t u, (flat ks)[t]? = some u → w.drew.cell? (A.add t) = some u) := by
    by_cases h1 : c = 1
    · refine ⟨⟨b, 0, none⟩, by simp [h1], fun t u hu => ?_⟩
      have := (List.getElem?_eq_some_iff.1 hu).1
      omega
    · refine ⟨⟨b, 2, none⟩, by simp [h1], fun t u hu => ?_⟩
      rw [Addr.add_lit]
      exact hget t u hu
  have s1 : Hid ((flat ks).length = m * 2) := hfl
  have s2 : Hid (∀ u ∈ flat ks, u.oneCell' = true) := flat_one ks
  have s3 : Hid (∀ t, t < (flat ks).length → (w.drew.cell? ⟨b, 0 + 0 * 2 + t, none⟩).isSome = true ∧ w.drew.frozen? ⟨b, 0 + 0 * 2 + t, none⟩ = false) := by
    intro t ht2
    rw [Nat.zero_mul, Nat.add_zero, Nat.zero_add]
    exact ⟨isSome_at (w := w) hB (by omega), hB.f t⟩
  obtain ⟨W1, hW1⟩ : ∃ W1, W1 = w.drew.setCells b (0 + 0 * 2) (flat ks) := ⟨_, rfl⟩
  have T1 : Turn (fun i => i = b) w W1 := by rw [hW1]; exact (Turn.refl _ w).trans (setCells_turn b _ _ _)
  have B1 : Bk 184 W1 b (splice cs 0 (flat ks)) := by
    rw [hW1]; exact setCells_row b _ _ _ _ cs hB (by omega)
  have hsl : (splice cs 0 (flat ks)).length = c * 2 := by rw [length_splice _ _ _ (by omega), hcl]
  have hclr := fun ty => run_clear1 W1 ty b (m * 2) (c - m) (isSome_at B1 (by omega)) (isSome_at B1 (by omega)) (B1.f _) (B1.f _)
  have hW : Hid (W1 = w.drew.setCells b (0 + 0 * 2) (flat ks)) := hW1
  have i1 : (1 : Int) ≤ (m : Int) + 1 := by omega
  have i2 : (m : Int) + 1 ≤ (c : Int) := by omega
  have i3 : (1 : Int) ≤ (c : Int) := by omega
  have i4 : (m : Int) ≤ (c : Int) := by omega
  have i5 : ¬ c = m := by omega
  have i6 : 1 ≤ c := by omega
  have i7 : m ≤ c := by omega
  have i8 : m + 1 ≤ c := by omega
  have TT := Lib.hid T1
  have BB := Lib.hid B1
  have HS := Lib.hid hsl
  have HM := Lib.hid hme
  have HL := Lib.hid hcl
  rw [List.length_cons, hme]
  have hb' := hb
  clear hW1 T1 B1 hsl h ht' ht hget hcl hfl hg hs hB hme
  go_enter Tryd.func141, Tryd.ntmps141
  go_wp2_with fail
  go_region_law (refine step_append_room rfl (.tmp 22) (.tmp 25) 152 rfl 184 i0 2 Tryd.underlying152 hi0 hz1 b 0 0 c (by simp [Act.eval, Act.put]) A m (c - 1) (flat ks) (by simp [Act.eval, Act.put]) s1.out hsrc.out s2.out (by omega) s3.out ?_; rw [← hW.out])
  go_wp2
  go_ret
  have B2 := setCells_row b 184 [.int .i64 0, .int .i64 0] (m * 2) W1 _ BB.out (by rw [HS.out]; simp; omega)
  refine ⟨by rw [HM.out]; rfl, ?_, TT.out.trans (setCells_turn b _ _ _)⟩
  unfold RowK
  rw [HM.out]
  refine ⟨by rw [flat_len, HM.out], .inr ⟨b, c, _, rfl, hb', B2, i7, hm, ?_, ?_⟩⟩
  · rw [List.size_toArray, length_splice _ _ _ (by rw [HS.out]; simp; omega), HS.out]
  · show List.take (m * 2) (splice (splice cs 0 (flat ks)) (m * 2) _) = flat ks
    have h1 : (flat ks).length = m * 2 := s1.out
    unfold splice
    rw [List.take_left' (by simp; omega), List.take_zero, List.nil_append, List.take_left' h1]
end Go.Proofs.YtfamgaakcbinkaaDoor.Dq
