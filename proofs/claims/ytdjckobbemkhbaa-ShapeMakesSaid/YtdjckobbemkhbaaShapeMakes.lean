/-
  Proved: for any two lists of lengths and any two numbers rifflelaw01.ShapeMakes returns true, and each argument reads afterwards as it read before. No condition.
-/
import Derived.Test.YtdjckobbemkhbaaRows
import Derived.Test.YtdjckobbemkhbaaShapeRow
import Derived.Test.YtdjckobbemkhbaaShapeRef
import Derived.Test.YtdjckobbemkhbaaShapeLives
import Derived.Test.YtdjckobbemkhbaaShapeMake4
import Derived.Deep.RegionHeld3
import Derived.WalkKit
import Derived.ProofKit
import Derived.OpenShut
import Derived.ChangeOld
import Derived.Below
namespace Go.Proofs.Ytdjckobbemkhbaa.shapeMakes
open Go.Proofs.Ytdjckobbemkhbaa.Sh
open Go.ChangeShapes Go.WideShapes Go.ChangeAt Go.RowKit
set_option linter.unusedVariables false

theorem keep2 {g : Nat} {u v : Value} {a b : World} (hb : Below a.heap.size a b) (h : a.cell? ⟨g, 0, none⟩ = some u ∧ a.cell? ⟨g, 1, none⟩ = some v) : b.cell? ⟨g, 0, none⟩ = some u ∧ b.cell? ⟨g, 1, none⟩ = some v := by
  have hg := World.block_lt_of_cell? a ⟨g, 0, none⟩ h.1
  exact ⟨(hb.cell (p := ⟨g, 0, none⟩) hg).trans h.1, (hb.cell (p := ⟨g, 1, none⟩) hg).trans h.2⟩

theorem refSame_refl (A : Option Addr) (c : Nat) (a : List Int) (B : Option Addr) (d : Nat) (w : World) (hl : a.length ≤ 100) (ha : Ints w A a) (hb : Ints w B a) :
    Calls Try.prog 13 #[.slice A a.length c, .slice B a.length d] w fun e w' => e = .returned (.bool true) ∧ Below w.heap.size w w' :=
  (refSame_any A c a B d a w (by unfold maxLen; omega) (by unfold maxLen; omega) ha hb).mono fun _ _ ⟨he, n, hw⟩ => ⟨by rw [he]; simp, by rw [hw]; exact below_drewN (Below.refl _ _) n⟩
theorem pickB_len (d p : List Int) : (pickB d p).length ≤ d.length := by unfold pickB; split <;> simp

set_option maxHeartbeats 3200000 in
set_option maxRecDepth 100000 in
theorem makes_any (A : Option Addr) (c : Nat) (d : List Int) (B : Option Addr) (c2 : Nat) (p : List Int) (x y : Int) (w : World) (hl : d.length ≤ maxLen) (hl2 : p.length ≤ maxLen) (ha : Ints w A d) (hb : Ints w B p) :
    Calls Try.prog 5 #[.slice A d.length c, .slice B p.length c2, .agg #[.int .i64 x, .int .i64 y]] w fun r w' => r = .returned (.bool true) ∧ Below w.heap.size w w' := by
  by_cases h1 : d.length ≤ 100
  · by_cases h2 : p.length ≤ 100
    · go_enter Try.func5, Try.ntmps5
      go_wp2_with fail
      have hS : (w.alloc (.cells #[.int .i64 x, .int .i64 y] 33)).cell? ⟨w.heap.size, 0, none⟩ = some (.int .i64 x) ∧ (w.alloc (.cells #[.int .i64 x, .int .i64 y] 33)).cell? ⟨w.heap.size, 1, none⟩ = some (.int .i64 y) :=
        ⟨by rw [World.cell?_alloc_at _ _ _ _ (by simp)]; rfl, by rw [World.cell?_alloc_at _ _ _ _ (by simp)]; rfl⟩
      have hB0 : Below w.heap.size w (w.alloc (.cells #[.int .i64 x, .int .i64 y] 33)) := (Below.refl _ w).alloc (Nat.le_refl _) _
      generalize w.alloc (.cells #[.int .i64 x, .int .i64 y] 33) = W0 at *
      have hd0 := ha.below hB0
      have hp0 := hb.below hB0
      generalize hg : w.heap.size = g at *
      have HG := Lib.hid hg
      clear hg
      have HB0 := Lib.hid (show Below w.heap.size w W0 from by rw [HG.out]; exact hB0)
      clear hB0
      go_region_held3 (fun w' => w'.cell? ⟨g, 0, none⟩ = some (.int .i64 x) ∧ w'.cell? ⟨g, 1, none⟩ = some (.int .i64 y))
        (first
          | go_keep
          | exact keep2 hb1 (by go_keep)
          | exact keep2 hb2 (by go_keep)
          | exact keep2 hb3 (by go_keep)
          | exact keep2 hb4 (by go_keep)
          | exact keep2 hb5 (by go_keep)
          | exact keep2 hb6 (by go_keep))
        (first
          | (go_at_call 20; refine (without_any _ _ d x _ h1 (by exact hd0)).mono ?_; rintro e w1 ⟨A1, c1, rfl, hi1, hb1⟩; have HB1 := Lib.hid (Go.Proofs.Ytdjckobbemkhbaa.Sh.below_next (a := w) (by first | exact HB0.out | exact HB0.out.drew | exact below_drewN HB0.out _) hb1); have hd1 := Ints.below (A := A) (l := d) (by exact hd0) hb1; have hp1 := Ints.below (A := B) (l := p) (by exact hp0) hb1)
          | (go_at_call 21; refine (refWithout_any _ _ d x _ h1 (by exact hd1)).mono ?_; rintro e w2 ⟨A2, e2, rfl, hi2, hb2⟩; have HB2 := Lib.hid (Go.Proofs.Ytdjckobbemkhbaa.Sh.below_next (a := w) (by first | exact HB1.out | exact HB1.out.drew | exact below_drewN HB1.out _) hb2); have hd2 := Ints.below (A := A) (l := d) (by exact hd1) hb2; have hp2 := Ints.below (A := B) (l := p) (by exact hp1) hb2; have hi1' := Ints.below (A := A1) (l := withoutL d x) (by exact hi1) hb2)
          | (go_at_call 22; refine (with_any _ _ d x y _ h1 (by exact hd3)).mono ?_; rintro e w4 ⟨A4, e4, rfl, hi4, hb4⟩; have HB4 := Lib.hid (Go.Proofs.Ytdjckobbemkhbaa.Sh.below_next (a := w) (by first | exact HB3.out | exact HB3.out.drew | exact below_drewN HB3.out _) hb4); have hd4 := Ints.below (A := A) (l := d) (by exact hd3) hb4; have hp4 := Ints.below (A := B) (l := p) (by exact hp3) hb4)
          | (go_at_call 23; refine (refWith_any _ _ d x y _ h1 (by exact hd4)).mono ?_; rintro e w5 ⟨A5, e5, rfl, hi5, hb5⟩; have HB5 := Lib.hid (Go.Proofs.Ytdjckobbemkhbaa.Sh.below_next (a := w) (by first | exact HB4.out | exact HB4.out.drew | exact below_drewN HB4.out _) hb5); have hd5 := Ints.below (A := A) (l := d) (by exact hd4) hb5; have hp5 := Ints.below (A := B) (l := p) (by exact hp4) hb5; have hi4' := Ints.below (A := A4) (l := withL d x y) (by exact hi4) hb5)
          | (go_at_call 13; refine (refSame_refl A4 _ (withL d x y) A5 _ _ (by rw [withL_len]; exact h1) (by exact hi4') (by exact hi5)).mono ?_; rintro e w6 ⟨rfl, hb6⟩; have HB6 := Lib.hid (Go.Proofs.Ytdjckobbemkhbaa.Sh.below_next (a := w) (by first | exact HB5.out | exact HB5.out.drew | exact below_drewN HB5.out _) hb6); have hd6 := Ints.below (A := A) (l := d) (by exact hd5) hb6; have hp6 := Ints.below (A := B) (l := p) (by exact hp5) hb6)
          | (go_at_call 13; refine (refSame_refl A1 _ (withoutL d x) A2 _ _ (Nat.le_trans (withoutL_len d x) h1) (by exact hi1') (by exact hi2)).mono ?_; rintro e w3 ⟨rfl, hb3⟩; have HB3 := Lib.hid (Go.Proofs.Ytdjckobbemkhbaa.Sh.below_next (a := w) (by first | exact HB2.out | exact HB2.out.drew | exact below_drewN HB2.out _) hb3); have hd3 := Ints.below (A := A) (l := d) (by exact hd2) hb3; have hp3 := Ints.below (A := B) (l := p) (by exact hp2) hb3))
      go_wp2_with fail
      refine (turned_any _ _ d _ h1 (by exact hd6)).mono ?_
      rintro e w7 ⟨A7, e7, rfl, hi7, hb7⟩
      have hd7 := Ints.below (A := A) (l := d) (by exact hd6) hb7
      have hp7 := Ints.below (A := B) (l := p) (by exact hp6) hb7
      have HB7 := Lib.hid (Sh.below_next (a := w) (by first | exact HB6.out | exact HB6.out.drew | exact below_drewN HB6.out _) hb7)
      clear hb7 hd1 hd2 hd3 hd4 hd5 hd6 hp1 hp2 hp3 hp4 hp5 hp6 hi1 hi2 hi1' hi4 hi5 hi4' hb1 hb2 hb3 hb4 hb5 hb6
      go_wp2_with fail
      refine (refTurned_any _ _ d _ h1 (by exact hd7)).mono ?_
      rintro e w8 ⟨A8, e8, rfl, hi8, hb8⟩
      have hd8 := Ints.below (A := A) (l := d) (by exact hd7) hb8
      have hp8 := Ints.below (A := B) (l := p) (by exact hp7) hb8
      have hi7' := Ints.below (A := A7) (l := d.reverse) (by exact hi7) hb8
      have HB8 := Lib.hid (Sh.below_next (a := w) HB7.out hb8)
      clear hb8
      go_wp2_with fail
      have hsr := refSame_refl A7 e7 d.reverse A8 e8 w8 (by rw [List.length_reverse]; exact h1) hi7' hi8
      rw [List.length_reverse] at hsr
      refine hsr.mono ?_
      clear hsr
      rintro e w9 ⟨rfl, hb9⟩
      have hd9 := Ints.below (A := A) (l := d) hd8 hb9
      have hp9 := Ints.below (A := B) (l := p) hp8 hb9
      have HB9 := Lib.hid (Sh.below_next (a := w) HB8.out hb9)
      clear hb9 hi7 hi7' hi8 hd7 hd8 hp7 hp8
      go_wp2_with fail
      refine (perm_any _ _ p _ h2 hp9).mono ?_
      rintro e w10 ⟨rfl, hb10⟩
      have hd10 := Ints.below (A := A) (l := d) hd9 hb10
      have hp10 := Ints.below (A := B) (l := p) hp9 hb10
      have HB10 := Lib.hid (Sh.below_next (a := w) HB9.out hb10)
      clear hb10 hd9 hp9
      go_wp2_with fail
      refine (refPerm_any _ _ p _ h2 hp10).mono ?_
      rintro e w11 ⟨rfl, rfl⟩
      go_wp2_with fail
      refine (picked_any _ _ d _ _ p _ h1 h2 hd10 hp10).mono ?_
      rintro e w11 ⟨A11, e11, rfl, hi11, hb11⟩
      have hd11 := Ints.below (A := A) (l := d) hd10 hb11
      have hp11 := Ints.below (A := B) (l := p) hp10 hb11
      have HB11 := Lib.hid (Sh.below_next (a := w) HB10.out hb11)
      clear hb11 hd10 hp10
      go_wp2_with fail
      refine (refPicked_any _ _ d _ _ p _ h1 h2 hd11 hp11).mono ?_
      rintro e w12 ⟨A12, e12, rfl, hi12, hb12⟩
      have hi11' := Ints.below (A := A11) (l := pickB d p) hi11 hb12
      have HB12 := Lib.hid (Sh.below_next (a := w) HB11.out hb12)
      clear hb12 hi11
      go_wp2_with fail
      refine (refSame_refl A11 _ (pickB d p) A12 _ _ (Nat.le_trans (pickB_len d p) h1) hi11' hi12).mono ?_
      rintro e w13 ⟨rfl, hb13⟩
      have HB13 := Lib.hid (Sh.below_next (a := w) HB12.out hb13)
      clear hb13 hi11' hi12
      go_wp2_with fail
      refine (lives_any _).mono ?_
      rintro e w14 ⟨rfl, hb14⟩
      have HB14 := Lib.hid (Sh.below_next (a := w) HB13.out hb14)
      clear hb14
      go_wp2
      go_ret
      exact ⟨by simp, HB14.out⟩
    · go_enter Try.func5, Try.ntmps5
      go_wp2_with (go_at_call 7; refine (lives_any _).mono ?_; rintro r w1 ⟨rfl, hb1⟩)
      go_ret
      exact ⟨rfl, ((Below.refl _ w).alloc (Nat.le_refl _) _).trans (hb1.mono (by simp))⟩
  · go_enter Try.func5, Try.ntmps5
    go_wp2_with (go_at_call 7; refine (lives_any _).mono ?_; rintro r w1 ⟨rfl, hb1⟩)
    go_ret
    exact ⟨rfl, ((Below.refl _ w).alloc (Nat.le_refl _) _).trans (hb1.mono (by simp))⟩

theorem own : ownKnob Try.prog.godebug = none := by kernel_rfl
theorem laidOut : laidOutB Try.prog = true := by kernel_rfl
theorem cellsInt : Try.prog.cellsOf 3 = 1 := by kernel_rfl
theorem cellsPair : Try.prog.cellsOf 33 = 2 := by kernel_rfl
/-- An array of two ints among the arguments, opened. -/
theorem two_ints {H : Type} {enc : TypeId × Value → H} {W : World} {r : Reach} {b0 base : Nat} {sp : Nat → Bool} {held : Bool} {v : Value} {d : DataW H} {ps : List MemPlace}
    (hv : Value.okWide Try.prog W r b0 33 v) (h : DataW.Trod enc Try.prog W base sp held 33 v d ps) : ∃ x y : Int, v = .agg #[.int .i64 x, .int .i64 y] := by
  simp only [Value.okWide, Try.underlying33] at hv
  obtain ⟨cs, rfl, hsz, _⟩ := hv
  rw [cellsPair] at hsz
  obtain ⟨l⟩ := cs
  match l, hsz with
  | [c0, c1], _ =>
    obtain ⟨fuel, hf⟩ := h
    obtain ⟨xs, m, _, _, _, hl, hat⟩ := DataW.trod_array Try.underlying33 hf
    rw [cellsInt] at hat
    have h0 := hat 0 (by omega)
    have h1 := hat 1 (by omega)
    match xs, hl with
    | [y0, y1], _ =>
      obtain ⟨n0, e0, _⟩ := DataW.trod_int Try.underlying3 h0
      obtain ⟨n1, e1, _⟩ := DataW.trod_int Try.underlying3 h1
      simp [Value.cells] at e0 e1
      subst e0 e1
      exact ⟨n0, n1, rfl⟩

/-- The law returns true and writes nothing that was there. -/
theorem walk (a0 : Option Addr) (len0 cap0 : Nat) (z0 : List Int) (a1 : Option Addr) (len1 cap1 : Nat) (z1 : List Int) (x y : Int) (w : World) (w0 : IsRow .i64 w a0 len0 cap0 z0) (w1 : IsRow .i64 w a1 len1 cap1 z1) :
    Calls Try.prog 5 #[.slice a0 len0 cap0, .slice a1 len1 cap1, .agg #[.int .i64 x, .int .i64 y]] w fun e w' => e = .returned (.bool true) ∧ Below w.heap.size w w' := by
  obtain ⟨d, rfl, hd, hi, _⟩ := w0.view
  obtain ⟨e, rfl, he, hj, _⟩ := w1.view
  exact makes_any a0 cap0 d a1 cap1 e x y w hd he hi hj

/-! ### THE ROW's STEP: WRITTEN OUT: LEAVE IT -/
set_option maxRecDepth 100000 in
theorem lifted (os : Os) (started : os.Started) (H : Type) (enc : TypeId × Value → H) :
    ReturnsInHanded {} Try.checked os 5 .any (Rows.shapeMakesSpec.pre6 enc Try.prog Try.f5 Rows.shapeMakesRow.domain false) (Rows.shapeMakesSpec.post enc Try.prog Try.f5 false true false false) := by
  refine returnsInHanded_of_change (C := Try.checked) own started (by kernel_rfl) Try.func5
    (ChangeSpec.witness6 (enc := enc) (C := Try.checked) false ⟨#[], #[.slice none 0 0, .slice none 0 0, .agg #[.int .i64 0, .int .i64 0]], []⟩ 8 (by kernel_rfl) (by kernel_rfl) (by kernel_rfl) (by kernel_rfl)) ?_
  intro W base args ds gs before hval0 hW hcnd _
  have hval : ∀ (j : Nat) t v, Try.f5.params[j]? = some t → args[j]? = some v → Value.okWide Try.prog W .any base t v := hval0
  have hW' := hW
  obtain ⟨p, q, hA0, hV, rfl, hfz, hnd⟩ := hW
  have hA : DataW.TrodAll enc Try.prog W 0 (fun _ => true) true Try.f5.params.toList args.toList ds p := hA0
  rw [Try.params5] at hA hval
  obtain ⟨v0, vs0, d0, ds0, p0, q0, hargs, rfl, rfl, h0, r0⟩ := trodAll_cons hA
  obtain ⟨v1, vs1, d1, ds1, p1, q1, rfl, rfl, rfl, h1, r1⟩ := trodAll_cons r0
  obtain ⟨v2, vs2, d2, ds2, p2, q2, rfl, rfl, rfl, h2, r2⟩ := trodAll_cons r1
  obtain ⟨rfl, rfl, rfl⟩ := trodAll_nil r2
  obtain rfl : args = #[v0, v1, v2] := by cases args; simp_all
  obtain ⟨rfl, rfl⟩ := trodVars_none hV
  obtain ⟨a0, len0, cap0, rfl⟩ := okWide_slice Try.underlying22 (hval 0 22 v0 rfl rfl)
  have k0 := h0
  have lt0 : ∀ x ∈ p0, x.block < W.heap.size := by obtain ⟨m, hm⟩ := k0; exact DataW.trod_lt m _ _ _ hm
  obtain ⟨z0, w0⟩ : ∃ zs, IsRow .i64 W a0 len0 cap0 zs := by
    obtain ⟨fuel, hf⟩ := h0
    rcases open_ints Try.underlying22 Try.underlying3 (by kernel_rfl) hf with ⟨hcs, _⟩ | ⟨x, l, c, zs, hcs, _, hl, hm, hz, _, hcell, hwz⟩
    · simp [Value.cells] at hcs
      obtain ⟨rfl, rfl, rfl⟩ := hcs
      exact ⟨[], .inl ⟨rfl, rfl, rfl, rfl⟩⟩
    · simp [Value.cells] at hcs
      obtain ⟨rfl, rfl, rfl⟩ := hcs
      exact ⟨zs, .inr ⟨_, rfl, hl, hm, by simpa using hz, hcell, hwz⟩⟩
  obtain ⟨a1, len1, cap1, rfl⟩ := okWide_slice Try.underlying22 (hval 1 22 v1 rfl rfl)
  have k1 := h1
  have lt1 : ∀ x ∈ p1, x.block < W.heap.size := by obtain ⟨m, hm⟩ := k1; exact DataW.trod_lt m _ _ _ hm
  obtain ⟨z1, w1⟩ : ∃ zs, IsRow .i64 W a1 len1 cap1 zs := by
    obtain ⟨fuel, hf⟩ := h1
    rcases open_ints Try.underlying22 Try.underlying3 (by kernel_rfl) hf with ⟨hcs, _⟩ | ⟨x, l, c, zs, hcs, _, hl, hm, hz, _, hcell, hwz⟩
    · simp [Value.cells] at hcs
      obtain ⟨rfl, rfl, rfl⟩ := hcs
      exact ⟨[], .inl ⟨rfl, rfl, rfl, rfl⟩⟩
    · simp [Value.cells] at hcs
      obtain ⟨rfl, rfl, rfl⟩ := hcs
      exact ⟨zs, .inr ⟨_, rfl, hl, hm, by simpa using hz, hcell, hwz⟩⟩
  have k2 := h2
  have lt2 : ∀ x ∈ p2, x.block < W.heap.size := by obtain ⟨m, hm⟩ := k2; exact DataW.trod_lt m _ _ _ hm
  obtain ⟨x, y, rfl⟩ := two_ints (hval 2 33 v2 rfl rfl) h2
  clear hA0 hval0
  refine (walk a0 len0 cap0 z0 a1 len1 cap1 z1 x y W w0 w1).mono fun e W' ⟨he, bel⟩ => ?_
  subst he
  exact ⟨_, rfl, _, _, _, [], _, [], hW', trodAll_mk1 (shut_bool Try.underlying4 _), (trodAll_cons_mk (Below.trod laidOut (by kernel_rfl) (of_decide_eq_true (by kernel_rfl)) k0 bel lt0) (trodAll_cons_mk (Below.trod laidOut (by kernel_rfl) (of_decide_eq_true (by kernel_rfl)) k1 bel lt1) (trodAll_cons_mk (Below.trod laidOut (by kernel_rfl) (of_decide_eq_true (by kernel_rfl)) k2 bel lt2) trodAll_mk0))), rfl, bel.frame _, fun h => by cases h⟩

theorem over : Rows.shapeMakesRow.holds Try.pinned (OpenSpec.ofChange Rows.shapeMakesSpec) :=
  OpenClaim.holds_of_wide 5 Try.f5 rfl rfl rfl rfl rfl rfl rfl ⟨rfl, rfl, rfl, rfl, rfl⟩ rfl rfl rfl rfl rfl (by kernel_rfl) Try.func5 (by kernel_rfl)
    (of_decide_eq_true (by kernel_rfl)) (by unfold Func.isWrapper; first | (rw [if_pos (by decide +kernel)]; kernel_rfl) | (rw [if_neg (by decide +kernel)]; exact ⟨rfl, rfl⟩))
    (fun os started H enc _ => lifted os started H enc)

/-- ████ THE STATEMENT ████ -/
theorem proved : Rows.ShapeMakesSaid := over
end Go.Proofs.Ytdjckobbemkhbaa.shapeMakes
