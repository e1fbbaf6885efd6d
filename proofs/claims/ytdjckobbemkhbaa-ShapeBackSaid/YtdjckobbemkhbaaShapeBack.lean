/-
  Proved: for any two lists of numbers rifflelaw01.ShapeBack returns true, and each argument reads afterwards as it read before. No condition.
-/
import Derived.Test.YtdjckobbemkhbaaRows
import Derived.Test.YtdjckobbemkhbaaShapeRow
import Derived.Test.YtdjckobbemkhbaaShapeRef
import Derived.Test.YtdjckobbemkhbaaShapeLives
import Derived.Test.YtdjckobbemkhbaaShapeBack1
import Derived.WalkKit
import Derived.ProofKit
import Derived.OpenShut
import Derived.ShutString
import Derived.ChangeOld
import Derived.Below
namespace Go.Proofs.Ytdjckobbemkhbaa.shapeBack
open Go.Proofs.Ytdjckobbemkhbaa.Sh
open Go.ChangeShapes Go.WideShapes Go.ChangeAt Go.RowKit
open Go.ChangeMaps (open_string shut_string)
set_option linter.unusedVariables false

theorem own : ownKnob Try.prog.godebug = none := by kernel_rfl
theorem laidOut : laidOutB Try.prog = true := by kernel_rfl


/-- What the loop keeps of the last place. -/
def Last (d : List Int) (i : Nat) (w : World) (v : Value) : Prop := (i = 0 ∧ v = .slice none 0 0) ∨ (0 < i ∧ ∃ A c, v = .slice A d.length c ∧ Ints w A (dg d ((i : Int) - 1)))

set_option maxHeartbeats 3200000 in
theorem back_any (A : Option Addr) (c : Nat) (d : List Int) (B : Option Addr) (c2 : Nat) (p : List Int) (w : World) (hl : d.length ≤ maxLen) (hl2 : p.length ≤ maxLen) (ha : Ints w A d) (hb : Ints w B p) :
    Calls Try.prog 6 #[.slice A d.length c, .slice B p.length c2] w fun r w' => r = .returned (.bool true) ∧ Below w.heap.size w w' := by
  unfold maxLen at hl hl2
  by_cases h1 : d.length ≤ 3
  · by_cases h2 : p.length ≤ 3
    · have hR0 := right_any A c d w (by unfold maxLen; omega) ha
      by_cases hR : rightB d = true
      · rw [hR] at hR0
        have HR := Lib.hid hR0
        clear hR0
        obtain ⟨_, hall, h64⟩ := rightB_all hR
        have hsz : sizeI d = prod d := by simp [sizeI, hR]
        have hs0 : 0 ≤ sizeI d := by rw [hsz]; exact (prod_bd d hall).1
        have hs1 : sizeI d ≤ 64 := by rw [hsz]; exact h64
        clear hsz hall h64 hR
        go_enter Try.func6, Try.ntmps6
        go_wp2_with fail
        refine HR.out.mono ?_
        rintro r w1 ⟨rfl, hb1⟩
        have hd1 := ha.below hb1
        have hp1 := hb.below hb1
        have HB1 := Lib.hid hb1
        clear hb1
        go_wp2_with fail
        refine (size_any _ _ d _ (by unfold maxLen; omega) hd1).mono ?_
        rintro r w2 ⟨rfl, hb2⟩
        have hd2 := hd1.below hb2
        have hp2 := hp1.below hb2
        have HB2 := Lib.hid (below_next HB1.out hb2)
        clear hb2 hd1 hp1 ha hb
        go_wp2_with fail
        go_loopw [5, 7] (fun v j wr => ∃ i : Nat, (i : Int) ≤ sizeI d ∧ j = .int .i64 i ∧ Last d i wr v ∧ Below w2.heap.size w2 wr)
          (fun _ j _ => (sizeI d - intOf j).toNat)
        case atStart => exact ⟨0, by omega, rfl, .inl ⟨rfl, rfl⟩, Below.refl _ _⟩
        case round =>
          obtain ⟨i, hi, rfl, hlast, hbel⟩ := hrel
          by_cases hlt : (i : Int) < sizeI d
          · have hdr := hd2.below hbel
            have HBR := Lib.hid hbel
            clear hbel
            rcases hlast with ⟨rfl, rfl⟩ | ⟨hpos, A', c', rfl, hil⟩
            · go_wp2_with fail
              refine (place_n _ _ d _ _ (by omega) hdr (by omega) hlt).mono ?_
              rintro r w3 ⟨A3, c3, rfl, hi3, hb3⟩
              have hd3 := hdr.below hb3
              have HB3 := Lib.hid (Sh.below_next HBR.out hb3)
              clear hb3
              go_wp2_with fail
              refine (index_n _ _ d _ _ _ _ (by omega) hd3 hi3 (by omega) hlt).mono ?_
              rintro r w4 ⟨rfl, hb4⟩
              have hi4 := hi3.below hb4
              have HB4 := Lib.hid (Sh.below_next HB3.out hb4)
              clear hb4 hi3 hd3 hdr
              go_wp2
              go_roundw
              case rel => exact ⟨1, by omega, by go_num, .inr ⟨by omega, A3, c3, rfl, hi4⟩, HB4.out⟩
              case measure => simp [intOf]; omega
            · have hip : (0 : Int) < (i : Int) := by omega
              go_wp2_with fail
              refine (place_n _ _ d _ _ (by omega) hdr (by omega) hlt).mono ?_
              rintro r w3 ⟨A3, c3, rfl, hi3, hb3⟩
              have hd3 := hdr.below hb3
              have hl3 := hil.below hb3
              have HB3 := Lib.hid (Sh.below_next HBR.out hb3)
              clear hb3 hil
              go_wp2_with fail
              refine (index_n _ _ d _ _ _ _ (by omega) hd3 hi3 (by omega) hlt).mono ?_
              rintro r w4 ⟨rfl, hb4⟩
              have hi4 := hi3.below hb4
              have hl4 := hl3.below hb4
              have HB4 := Lib.hid (Sh.below_next HB3.out hb4)
              clear hb4 hi3 hd3 hdr hl3
              go_wp2_with fail
              refine (behind_n _ _ d _ _ _ _ (by omega) hi4 hl4 (by omega) hlt).mono ?_
              rintro r w5 ⟨rfl, hb5⟩
              have hi5 := hi4.below hb5
              have HB5 := Lib.hid (Sh.below_next HB4.out hb5)
              clear hb5 hi4 hl4
              go_wp2
              go_roundw
              case rel => exact ⟨i + 1, by omega, by go_num, .inr ⟨by omega, A3, c3, rfl, by rw [show ((i + 1 : Nat) : Int) - 1 = (i : Int) from by omega]; exact hi5⟩, HB5.out⟩
              case measure => simp [intOf]; omega
          · have hdr := hd2.below hbel
            have hpr := hp2.below hbel
            have HBR := Lib.hid (Sh.below_next HB2.out hbel)
            clear hbel hlast hd2 hp2
            go_wp2_with fail
            refine (turned_n _ _ d d.length _ rfl (by omega) hdr).mono ?_
            rintro r w3 ⟨A3, c3, rfl, hi3, hb3⟩
            have hd3 := hdr.below hb3
            have hp3 := hpr.below hb3
            have HB3 := Lib.hid (Sh.below_next HBR.out hb3)
            clear hb3 hdr hpr
            go_wp2_with fail
            refine (turned_n _ _ d.reverse d.length _ (by simp) (by omega) hi3).mono ?_
            rintro r w4 ⟨A4, c4, rfl, hi4, hb4⟩
            rw [List.reverse_reverse] at hi4
            have hd4 := hd3.below hb4
            have hp4 := hp3.below hb4
            have HB4 := Lib.hid (Sh.below_next HB3.out hb4)
            clear hb4 hi3 hd3 hp3
            go_wp2_with fail
            refine (same_n _ _ d _ _ d.length _ rfl (by omega) hi4 hd4).mono ?_
            rintro r w5 ⟨rfl, hb5⟩
            have hd5 := hd4.below hb5
            have hp5 := hp4.below hb5
            have HB5 := Lib.hid (Sh.below_next HB4.out hb5)
            clear hb5 hi4 hd4 hp4
            go_wp2_with fail
            refine (turned_n _ _ d d.length _ rfl (by omega) hd5).mono ?_
            rintro r w6 ⟨A6, c6, rfl, hi6, hb6⟩
            have hd6 := hd5.below hb6
            have hp6 := hp5.below hb6
            have HB6 := Lib.hid (Sh.below_next HB5.out hb6)
            clear hb6 hd5 hp5
            go_wp2_with fail
            have hsn := size_n A6 c6 d.reverse d.length w6 (by simp) (by omega) hi6
            rw [sizeI_perm (List.reverse_perm d)] at hsn
            refine hsn.mono ?_
            clear hsn
            rintro r w7 ⟨rfl, hb7⟩
            have hd7 := hd6.below hb7
            have hp7 := hp6.below hb7
            have HB7 := Lib.hid (Sh.below_next HB6.out hb7)
            clear hb7 hi6 hd6 hp6
            by_cases he : p.length = d.length
            · have hev : ((p.length : Int) == (d.length : Int)) = true := by simp [he]
              have HE := Lib.hid he
              clear he
              have hP := perm_any B c2 p w7 (by omega) hp7
              by_cases hp : permB p = true
              · rw [hp] at hP
                have HQ := Lib.hid hp
                clear hp
                go_wp2_with fail
                refine hP.mono ?_
                clear hP
                rintro r w8 ⟨rfl, hb8⟩
                have hd8 := hd7.below hb8
                have hp8 := hp7.below hb8
                have HB8 := Lib.hid (Sh.below_next HB7.out hb8)
                clear hb8 hd7 hp7
                go_wp2_with fail
                refine (picked_n _ _ d _ _ p _ (by omega) hd8 hp8 HE.out HQ.out).mono ?_
                rintro r w10 ⟨A10, c10, rfl, hi10, hb10⟩
                have HB10 := Lib.hid (Sh.below_next HB8.out hb10)
                clear hb10 hd8 hp8
                go_wp2_with fail
                have hsp := size_n A10 c10 (pickB d p) d.length w10 (pickB_perm HE.out HQ.out).length_eq (by omega) hi10
                rw [sizeI_perm (pickB_perm HE.out HQ.out)] at hsp
                refine hsp.mono ?_
                clear hsp
                rintro r w11 ⟨rfl, hb11⟩
                have HBX := Lib.hid (Sh.below_next HB10.out hb11)
                clear hb11 hi10
                go_wp2_with fail
                refine (lives_any _).mono ?_
                rintro r w9 ⟨rfl, hb9⟩
                have HB9 := Lib.hid (Sh.below_next HBX.out hb9)
                clear hb9
                go_wp2
                go_ret
                exact ⟨rfl, HB9.out⟩
              · rw [show permB p = false from by simpa using hp] at hP
                clear hp
                go_wp2_with fail
                refine hP.mono ?_
                clear hP
                rintro r w8 ⟨rfl, hb8⟩
                have HBX := Lib.hid (Sh.below_next HB7.out hb8)
                clear hb8 hd7 hp7
                go_wp2_with fail
                refine (lives_any _).mono ?_
                rintro r w9 ⟨rfl, hb9⟩
                have HB9 := Lib.hid (Sh.below_next HBX.out hb9)
                clear hb9
                go_wp2
                go_ret
                exact ⟨rfl, HB9.out⟩
            · have hev : ((p.length : Int) == (d.length : Int)) = false := by simp; omega
              have HBX := HB7
              clear hd7 hp7 he
              go_wp2_with fail
              refine (lives_any _).mono ?_
              rintro r w9 ⟨rfl, hb9⟩
              have HB9 := Lib.hid (Sh.below_next HBX.out hb9)
              clear hb9
              go_wp2
              go_ret
              exact ⟨rfl, HB9.out⟩
      · rw [show rightB d = false from by simpa using hR] at hR0
        have HR := Lib.hid hR0
        clear hR0 hR
        go_enter Try.func6, Try.ntmps6
        go_wp2_with fail
        refine HR.out.mono ?_
        rintro r w1 ⟨rfl, hb1⟩
        have HB1 := Lib.hid hb1
        clear hb1
        go_wp2_with fail
        refine (lives_any _).mono ?_
        rintro r w2 ⟨rfl, hb2⟩
        have HB2 := Lib.hid (Sh.below_next HB1.out hb2)
        clear hb2
        go_wp2
        go_ret
        exact ⟨rfl, HB2.out⟩
    · go_enter Try.func6, Try.ntmps6
      go_wp2_with (go_at_call 7; refine (lives_any _).mono ?_; rintro r w1 ⟨rfl, hb1⟩)
      go_ret
      exact ⟨rfl, hb1⟩
  · go_enter Try.func6, Try.ntmps6
    go_wp2_with (go_at_call 7; refine (lives_any _).mono ?_; rintro r w1 ⟨rfl, hb1⟩)
    go_ret
    exact ⟨rfl, hb1⟩

/-- The law returns true and writes nothing that was there. -/
theorem walk (a0 : Option Addr) (len0 cap0 : Nat) (z0 : List Int) (a1 : Option Addr) (len1 cap1 : Nat) (z1 : List Int) (w : World) (w0 : IsRow .i64 w a0 len0 cap0 z0) (w1 : IsRow .i64 w a1 len1 cap1 z1) :
    Calls Try.prog 6 #[.slice a0 len0 cap0, .slice a1 len1 cap1] w fun e w' => e = .returned (.bool true) ∧ Below w.heap.size w w' := by
  obtain ⟨d, rfl, hd, hi, _⟩ := w0.view
  obtain ⟨e, rfl, he, hj, _⟩ := w1.view
  exact back_any a0 cap0 d a1 cap1 e w hd he hi hj

/-! ### THE ROW's STEP: WRITTEN OUT: LEAVE IT -/
set_option maxRecDepth 100000 in
theorem lifted (os : Os) (started : os.Started) (H : Type) (enc : TypeId × Value → H) :
    ReturnsInHanded {} Try.checked os 6 .any (Rows.shapeBackSpec.pre6 enc Try.prog Try.f6 Rows.shapeBackRow.domain false) (Rows.shapeBackSpec.post enc Try.prog Try.f6 false true false false) := by
  refine returnsInHanded_of_change (C := Try.checked) own started (by kernel_rfl) Try.func6
    (ChangeSpec.witness6 (enc := enc) (C := Try.checked) false ⟨#[], #[.slice none 0 0, .slice none 0 0], []⟩ 8 (by kernel_rfl) (by kernel_rfl) (by kernel_rfl) (by kernel_rfl)) ?_
  intro W base args ds gs before hval0 hW hcnd _
  have hval : ∀ (j : Nat) t v, Try.f6.params[j]? = some t → args[j]? = some v → Value.okWide Try.prog W .any base t v := hval0
  have hW' := hW
  obtain ⟨p, q, hA0, hV, rfl, hfz, hnd⟩ := hW
  have hA : DataW.TrodAll enc Try.prog W 0 (fun _ => true) true Try.f6.params.toList args.toList ds p := hA0
  rw [Try.params6] at hA hval
  obtain ⟨v0, vs0, d0, ds0, p0, q0, hargs, rfl, rfl, h0, r0⟩ := trodAll_cons hA
  obtain ⟨v1, vs1, d1, ds1, p1, q1, rfl, rfl, rfl, h1, r1⟩ := trodAll_cons r0
  obtain ⟨rfl, rfl, rfl⟩ := trodAll_nil r1
  obtain rfl : args = #[v0, v1] := by cases args; simp_all
  obtain ⟨rfl, rfl⟩ := trodVars_none hV
  obtain ⟨a0, len0, cap0, rfl⟩ := okWide_slice Try.underlying22 (hval 0 22 v0 rfl rfl)
  have k0 := h0
  have lt0 : ∀ x ∈ p0, x.block < W.heap.size := by obtain ⟨m, hm⟩ := k0; exact DataW.trod_lt m _ _ _ hm
  obtain ⟨z0, w0⟩ : ∃ zs, IsRow .i64 W a0 len0 cap0 zs := by
    obtain ⟨fuel, hf⟩ := h0
    rcases open_ints Try.underlying22 Try.underlying3 (by kernel_rfl) hf with ⟨hcs, _⟩ | ⟨x, l, c, zs, hcs, _, hl, hm, hz, _, hcell, hwz⟩
    · simp [Value.cells] at hcs
      obtain ⟨rfl, rfl, rfl⟩ := hcs
      exact ⟨[], .inl ⟨rfl, rfl, rfl, rfl⟩⟩
    · simp [Value.cells] at hcs
      obtain ⟨rfl, rfl, rfl⟩ := hcs
      exact ⟨zs, .inr ⟨_, rfl, hl, hm, by simpa using hz, hcell, hwz⟩⟩
  obtain ⟨a1, len1, cap1, rfl⟩ := okWide_slice Try.underlying22 (hval 1 22 v1 rfl rfl)
  have k1 := h1
  have lt1 : ∀ x ∈ p1, x.block < W.heap.size := by obtain ⟨m, hm⟩ := k1; exact DataW.trod_lt m _ _ _ hm
  obtain ⟨z1, w1⟩ : ∃ zs, IsRow .i64 W a1 len1 cap1 zs := by
    obtain ⟨fuel, hf⟩ := h1
    rcases open_ints Try.underlying22 Try.underlying3 (by kernel_rfl) hf with ⟨hcs, _⟩ | ⟨x, l, c, zs, hcs, _, hl, hm, hz, _, hcell, hwz⟩
    · simp [Value.cells] at hcs
      obtain ⟨rfl, rfl, rfl⟩ := hcs
      exact ⟨[], .inl ⟨rfl, rfl, rfl, rfl⟩⟩
    · simp [Value.cells] at hcs
      obtain ⟨rfl, rfl, rfl⟩ := hcs
      exact ⟨zs, .inr ⟨_, rfl, hl, hm, by simpa using hz, hcell, hwz⟩⟩
  clear hA0 hval0
  refine (walk a0 len0 cap0 z0 a1 len1 cap1 z1 W w0 w1).mono fun e W' ⟨he, bel⟩ => ?_
  subst he
  exact ⟨_, rfl, _, _, _, [], _, [], hW', trodAll_mk1 (shut_bool Try.underlying4 _), (trodAll_cons_mk (Below.trod laidOut (by kernel_rfl) (of_decide_eq_true (by kernel_rfl)) k0 bel lt0) (trodAll_cons_mk (Below.trod laidOut (by kernel_rfl) (of_decide_eq_true (by kernel_rfl)) k1 bel lt1) trodAll_mk0)), rfl, bel.frame _, fun h => by cases h⟩

theorem over : Rows.shapeBackRow.holds Try.pinned (OpenSpec.ofChange Rows.shapeBackSpec) :=
  OpenClaim.holds_of_wide 6 Try.f6 rfl rfl rfl rfl rfl rfl rfl ⟨rfl, rfl, rfl, rfl, rfl⟩ rfl rfl rfl rfl rfl (by kernel_rfl) Try.func6 (by kernel_rfl)
    (of_decide_eq_true (by kernel_rfl)) (by unfold Func.isWrapper; first | (rw [if_pos (by decide +kernel)]; kernel_rfl) | (rw [if_neg (by decide +kernel)]; exact ⟨rfl, rfl⟩))
    (fun os started H enc _ => lifted os started H enc)

/-- ████ THE STATEMENT ████ -/
theorem proved : Rows.ShapeBackSaid := over
end Go.Proofs.Ytdjckobbemkhbaa.shapeBack
