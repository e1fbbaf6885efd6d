/-
  Proved: for any two lists of numbers and any number rifflelaw01.ShapePlaces returns true, and each argument reads afterwards as it read before. No condition.
-/
import Derived.Test.YtdjckobbemkhbaaRows
import Derived.Test.YtdjckobbemkhbaaShapeRow
import Derived.Test.YtdjckobbemkhbaaShapeRef
import Derived.Test.YtdjckobbemkhbaaShapeLives
import Derived.Test.YtdjckobbemkhbaaShapePls4
import Derived.WalkKit
import Derived.ProofKit
import Derived.OpenShut
import Derived.ShutString
import Derived.ChangeOld
import Derived.Below
namespace Go.Proofs.Ytdjckobbemkhbaa.shapePlaces
open Go.Proofs.Ytdjckobbemkhbaa.Sh
open Go.ChangeShapes Go.WideShapes Go.ChangeAt Go.RowKit
open Go.ChangeMaps (open_string shut_string)
set_option linter.unusedVariables false

theorem own : ownKnob Try.prog.godebug = none := by kernel_rfl
theorem laidOut : laidOutB Try.prog = true := by kernel_rfl

theorem place_0 (A : Option Addr) (c : Nat) (d : List Int) (i : Int) (w : World) (hl : d.length ≤ 100) (hi : Ints w A d) (h : ¬ (0 ≤ i ∧ i < sizeI d)) :
    Calls Try.prog 17 #[.slice A d.length c, .int .i64 i] w fun e w' => ∃ A' c', e = .returned (.slice A' 0 c') ∧ Ints w' A' [] ∧ Below w.heap.size w w' := by
  have k := place_any A c d i w hl hi
  rw [show placeL d i = [] from if_neg h] at k
  exact k
theorem same_0 (A : Option Addr) (c : Nat) (B : Option Addr) (c2 : Nat) (w : World) :
    Calls Try.prog 13 #[.slice A 0 c, .slice B 0 c2] w fun e w' => e = .returned (.bool true) ∧ Below w.heap.size w w' :=
  same_n A c [] B c2 0 w rfl (by omega) (fun h => absurd h (by simp)) (fun h => absurd h (by simp))
theorem strB_len (d : List Int) : (strB d).length ≤ d.length := by unfold strB; split <;> simp [strL_length]

set_option maxHeartbeats 3200000 in
theorem places_law (A : Option Addr) (c : Nat) (d : List Int) (B : Option Addr) (c2 : Nat) (p : List Int) (i : Int) (w : World) (hl : d.length ≤ maxLen) (hl2 : p.length ≤ maxLen) (ha : Ints w A d) (hb : Ints w B p) :
    Calls Try.prog 4 #[.slice A d.length c, .slice B p.length c2, .int .i64 i] w fun r w' => r = .returned (.bool true) ∧ Below w.heap.size w w' := by
  unfold maxLen at hl hl2
  by_cases h1 : d.length ≤ 100
  · by_cases h2 : p.length ≤ 100
    · obtain ⟨hs0, hs1⟩ := sizeI_bd d
      obtain ⟨n, hn⟩ : ∃ n, (sizeI d).toNat = n := ⟨_, rfl⟩
      have HN := Lib.hid hn
      have hn64 : n ≤ 64 := by omega
      clear hn
      go_enter Try.func4, Try.ntmps4
      go_wp2_with fail
      refine (places_any _ _ d _ h1 ha).mono ?_
      rintro r w1 ⟨v, base, rfl, hout, hb1⟩
      rw [HN.out] at hout
      obtain ⟨AO, co, rfl, hat⟩ := hout.view
      have hd1 := ha.below hb1
      have hp1 := hb.below hb1
      have HB1 := Lib.hid hb1
      have HAT := Lib.hid hat
      clear hout ha hb hat hb1
      by_cases hi : 0 ≤ i ∧ i < (n : Int)
      · obtain ⟨t, rfl⟩ : ∃ t : Nat, i = t := ⟨i.toNat, by omega⟩
        obtain ⟨hi0, hi1⟩ := hi
        have his : (t : Int) < sizeI d := by have := HN.out; omega
        obtain ⟨b, At, ct, rfl, hc, hit⟩ := HAT.out t (by omega)
        go_wp2_with fail
        refine (index_any _ _ d _ _ p _ (by unfold maxLen; omega) (by unfold maxLen; omega) hd1 hp1).mono ?_
        rintro r w2 ⟨rfl, hb2⟩
        have hd2 := hd1.below hb2
        have hp2 := hp1.below hb2
        have hw2 := hit.below hb2
        have HB2 := Lib.hid (Sh.below_next HB1.out hb2)
        clear hb2 hd1 hp1 hit hc
        go_wp2_with fail
        refine (refIndex_any _ _ d _ _ p _ h1 h2 hd2 hp2).mono ?_
        rintro r w3 ⟨rfl, hb3⟩
        have hd3 := hd2.below hb3
        have hw3 := hw2.below hb3
        have HB3 := Lib.hid (Sh.below_next HB2.out hb3)
        clear hb3 hd2 hp2 hw2
        go_wp2_with fail
        refine (place_n _ _ d _ _ h1 hd3 hi0 his).mono ?_
        rintro r w4 ⟨A4, c4, rfl, hi4, hb4⟩
        have hd4 := hd3.below hb4
        have hw4 := hw3.below hb4
        have HB4 := Lib.hid (Sh.below_next HB3.out hb4)
        clear hb4 hd3 hw3
        go_wp2_with fail
        refine (same_n _ _ (dg d t) _ _ d.length _ (dg_length _ _) h1 hi4 hw4).mono ?_
        rintro r w5 ⟨rfl, hb5⟩
        have hd5 := hd4.below hb5
        have HB5 := Lib.hid (Sh.below_next HB4.out hb5)
        clear hb5 hd4 hw4 hi4
        go_wp2_with fail
        refine (strides_any _ _ d _ (by unfold maxLen; omega) hd5).mono ?_
        rintro r w6 ⟨A6, c6, rfl, hi6, hb6⟩
        have hd6 := hd5.below hb6
        have HB6 := Lib.hid (Sh.below_next HB5.out hb6)
        clear hb6 hd5
        go_wp2_with fail
        refine (refStrides_any _ _ d _ h1 hd6).mono ?_
        rintro r w7 ⟨A7, c7, rfl, hi7, hb7⟩
        have hi67 := hi6.below hb7
        have HB7 := Lib.hid (Sh.below_next HB6.out hb7)
        clear hb7 hd6 hi6
        go_wp2_with fail
        refine (same_n _ _ (strB d) _ _ (strB d).length _ rfl (Nat.le_trans (strB_len d) h1) hi67 hi7).mono ?_
        rintro r w8 ⟨rfl, hb8⟩
        have HB8 := Lib.hid (Sh.below_next HB7.out hb8)
        clear hb8 hi67 hi7
        go_wp2_with fail
        refine (lives_any _).mono ?_
        rintro r w9 ⟨rfl, hb9⟩
        have HB9 := Lib.hid (Sh.below_next HB8.out hb9)
        clear hb9
        go_wp2
        go_ret
        exact ⟨by simp, HB9.out⟩
      · have hi' : ¬ (0 ≤ i ∧ i < sizeI d) := by have := HN.out; omega
        have HI := Lib.hid hi'
        clear hi'
        rcases (show i < 0 ∨ (0 ≤ i ∧ (n : Int) ≤ i) from by omega) with hlo | ⟨hlo, hhi⟩
        all_goals
          clear hi
          go_wp2_with fail
          refine (index_any _ _ d _ _ p _ (by unfold maxLen; omega) (by unfold maxLen; omega) hd1 hp1).mono ?_
          rintro r w2 ⟨rfl, hb2⟩
          have hd2 := hd1.below hb2
          have hp2 := hp1.below hb2
          have HB2 := Lib.hid (Sh.below_next HB1.out hb2)
          clear hb2 hd1 hp1
          go_wp2_with fail
          refine (refIndex_any _ _ d _ _ p _ h1 h2 hd2 hp2).mono ?_
          rintro r w3 ⟨rfl, hb3⟩
          have hd3 := hd2.below hb3
          have HB3 := Lib.hid (Sh.below_next HB2.out hb3)
          clear hb3 hd2 hp2
          go_wp2_with fail
          refine (place_0 _ _ d _ _ h1 hd3 HI.out).mono ?_
          rintro r w4 ⟨A4, c4, rfl, hi4, hb4⟩
          have hd4 := hd3.below hb4
          have HB4 := Lib.hid (Sh.below_next HB3.out hb4)
          clear hb4 hd3 hi4
          go_wp2_with fail
          refine (same_0 _ _ _ _ _).mono ?_
          rintro r w5 ⟨rfl, hb5⟩
          have hd5 := hd4.below hb5
          have HB5 := Lib.hid (Sh.below_next HB4.out hb5)
          clear hb5 hd4
          go_wp2_with fail
          refine (strides_any _ _ d _ (by unfold maxLen; omega) hd5).mono ?_
          rintro r w6 ⟨A6, c6, rfl, hi6, hb6⟩
          have hd6 := hd5.below hb6
          have HB6 := Lib.hid (Sh.below_next HB5.out hb6)
          clear hb6 hd5
          go_wp2_with fail
          refine (refStrides_any _ _ d _ h1 hd6).mono ?_
          rintro r w7 ⟨A7, c7, rfl, hi7, hb7⟩
          have hi67 := hi6.below hb7
          have HB7 := Lib.hid (Sh.below_next HB6.out hb7)
          clear hb7 hd6 hi6
          go_wp2_with fail
          refine (same_n _ _ (strB d) _ _ (strB d).length _ rfl (Nat.le_trans (strB_len d) h1) hi67 hi7).mono ?_
          rintro r w8 ⟨rfl, hb8⟩
          have HB8 := Lib.hid (Sh.below_next HB7.out hb8)
          clear hb8 hi67 hi7
          go_wp2_with fail
          refine (lives_any _).mono ?_
          rintro r w9 ⟨rfl, hb9⟩
          have HB9 := Lib.hid (Sh.below_next HB8.out hb9)
          clear hb9
          go_wp2
          go_ret
          exact ⟨by simp, HB9.out⟩
    · go_enter Try.func4, Try.ntmps4
      go_wp2_with (go_at_call 7; refine (lives_any _).mono ?_; rintro r w1 ⟨rfl, hb1⟩)
      go_ret
      exact ⟨rfl, hb1⟩
  · go_enter Try.func4, Try.ntmps4
    go_wp2_with (go_at_call 7; refine (lives_any _).mono ?_; rintro r w1 ⟨rfl, hb1⟩)
    go_ret
    exact ⟨rfl, hb1⟩

/-- The law returns true and writes nothing that was there. -/
theorem walk (a0 : Option Addr) (len0 cap0 : Nat) (z0 : List Int) (a1 : Option Addr) (len1 cap1 : Nat) (z1 : List Int) (a2 : Int) (w : World) (w0 : IsRow .i64 w a0 len0 cap0 z0) (w1 : IsRow .i64 w a1 len1 cap1 z1) (w2 : (Lit.int .i64 a2).wf = true) :
    Calls Try.prog 4 #[.slice a0 len0 cap0, .slice a1 len1 cap1, .int .i64 a2] w fun e w' => e = .returned (.bool true) ∧ Below w.heap.size w w' := by
  obtain ⟨d, rfl, hd, hi, _⟩ := w0.view
  obtain ⟨e, rfl, he, hj, _⟩ := w1.view
  exact places_law a0 cap0 d a1 cap1 e a2 w hd he hi hj

/-! ### THE ROW's STEP: WRITTEN OUT: LEAVE IT -/
set_option maxRecDepth 100000 in
theorem lifted (os : Os) (started : os.Started) (H : Type) (enc : TypeId × Value → H) :
    ReturnsInHanded {} Try.checked os 4 .any (Rows.shapePlacesSpec.pre6 enc Try.prog Try.f4 Rows.shapePlacesRow.domain false) (Rows.shapePlacesSpec.post enc Try.prog Try.f4 false true false false) := by
  refine returnsInHanded_of_change (C := Try.checked) own started (by kernel_rfl) Try.func4
    (ChangeSpec.witness6 (enc := enc) (C := Try.checked) false ⟨#[], #[.slice none 0 0, .slice none 0 0, .int .i64 0], []⟩ 8 (by kernel_rfl) (by kernel_rfl) (by kernel_rfl) (by kernel_rfl)) ?_
  intro W base args ds gs before hval0 hW hcnd _
  have hval : ∀ (j : Nat) t v, Try.f4.params[j]? = some t → args[j]? = some v → Value.okWide Try.prog W .any base t v := hval0
  have hW' := hW
  obtain ⟨p, q, hA0, hV, rfl, hfz, hnd⟩ := hW
  have hA : DataW.TrodAll enc Try.prog W 0 (fun _ => true) true Try.f4.params.toList args.toList ds p := hA0
  rw [Try.params4] at hA hval
  obtain ⟨v0, vs0, d0, ds0, p0, q0, hargs, rfl, rfl, h0, r0⟩ := trodAll_cons hA
  obtain ⟨v1, vs1, d1, ds1, p1, q1, rfl, rfl, rfl, h1, r1⟩ := trodAll_cons r0
  obtain ⟨v2, vs2, d2, ds2, p2, q2, rfl, rfl, rfl, h2, r2⟩ := trodAll_cons r1
  obtain ⟨rfl, rfl, rfl⟩ := trodAll_nil r2
  obtain rfl : args = #[v0, v1, v2] := by cases args; simp_all
  obtain ⟨rfl, rfl⟩ := trodVars_none hV
  obtain ⟨a0, len0, cap0, rfl⟩ := okWide_slice Try.underlying22 (hval 0 22 v0 rfl rfl)
  have k0 := h0
  have lt0 : ∀ x ∈ p0, x.block < W.heap.size := by obtain ⟨m, hm⟩ := k0; exact DataW.trod_lt m _ _ _ hm
  obtain ⟨z0, w0⟩ : ∃ zs, IsRow .i64 W a0 len0 cap0 zs := by
    obtain ⟨fuel, hf⟩ := h0
    rcases open_ints Try.underlying22 Try.underlying3 (by kernel_rfl) hf with ⟨hcs, _⟩ | ⟨x, l, c, zs, hcs, _, hl, hm, hz, _, hcell, hwz⟩
    · simp [Value.cells] at hcs
      obtain ⟨rfl, rfl, rfl⟩ := hcs
      exact ⟨[], .inl ⟨rfl, rfl, rfl, rfl⟩⟩
    · simp [Value.cells] at hcs
      obtain ⟨rfl, rfl, rfl⟩ := hcs
      exact ⟨zs, .inr ⟨_, rfl, hl, hm, by simpa using hz, hcell, hwz⟩⟩
  obtain ⟨a1, len1, cap1, rfl⟩ := okWide_slice Try.underlying22 (hval 1 22 v1 rfl rfl)
  have k1 := h1
  have lt1 : ∀ x ∈ p1, x.block < W.heap.size := by obtain ⟨m, hm⟩ := k1; exact DataW.trod_lt m _ _ _ hm
  obtain ⟨z1, w1⟩ : ∃ zs, IsRow .i64 W a1 len1 cap1 zs := by
    obtain ⟨fuel, hf⟩ := h1
    rcases open_ints Try.underlying22 Try.underlying3 (by kernel_rfl) hf with ⟨hcs, _⟩ | ⟨x, l, c, zs, hcs, _, hl, hm, hz, _, hcell, hwz⟩
    · simp [Value.cells] at hcs
      obtain ⟨rfl, rfl, rfl⟩ := hcs
      exact ⟨[], .inl ⟨rfl, rfl, rfl, rfl⟩⟩
    · simp [Value.cells] at hcs
      obtain ⟨rfl, rfl, rfl⟩ := hcs
      exact ⟨zs, .inr ⟨_, rfl, hl, hm, by simpa using hz, hcell, hwz⟩⟩
  obtain ⟨a2, rfl, rfl, rfl, w2⟩ := open_int Try.underlying3 (hval 2 3 v2 rfl rfl) h2
  clear hA0 hval0
  refine (walk a0 len0 cap0 z0 a1 len1 cap1 z1 a2 W w0 w1 w2).mono fun e W' ⟨he, bel⟩ => ?_
  subst he
  exact ⟨_, rfl, _, _, _, [], _, [], hW', trodAll_mk1 (shut_bool Try.underlying4 _), (trodAll_cons_mk (Below.trod laidOut (by kernel_rfl) (of_decide_eq_true (by kernel_rfl)) k0 bel lt0) (trodAll_cons_mk (Below.trod laidOut (by kernel_rfl) (of_decide_eq_true (by kernel_rfl)) k1 bel lt1) (trodAll_cons_mk (shut_int Try.underlying3 w2) trodAll_mk0))), rfl, bel.frame _, fun h => by cases h⟩

theorem over : Rows.shapePlacesRow.holds Try.pinned (OpenSpec.ofChange Rows.shapePlacesSpec) :=
  OpenClaim.holds_of_wide 4 Try.f4 rfl rfl rfl rfl rfl rfl rfl ⟨rfl, rfl, rfl, rfl, rfl⟩ rfl rfl rfl rfl rfl (by kernel_rfl) Try.func4 (by kernel_rfl)
    (of_decide_eq_true (by kernel_rfl)) (by unfold Func.isWrapper; first | (rw [if_pos (by decide +kernel)]; kernel_rfl) | (rw [if_neg (by decide +kernel)]; exact ⟨rfl, rfl⟩))
    (fun os started H enc _ => lifted os started H enc)

/-- ████ THE STATEMENT ████ -/
theorem proved : Rows.ShapePlacesSaid := over
end Go.Proofs.Ytdjckobbemkhbaa.shapePlaces
