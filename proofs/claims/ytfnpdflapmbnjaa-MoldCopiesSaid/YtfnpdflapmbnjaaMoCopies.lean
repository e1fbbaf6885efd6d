/-
  Proved: for any two cells and any bool rifflelaw06.MoldCopies returns true, and each argument reads afterwards as it read before. No other condition.
-/
import Derived.Test.YtfnpdflapmbnjaaPkO
import Derived.Test.YtfnpdflapmbnjaaPkP
namespace Go.Proofs.Ytfnpdflapmbnjaa.moldCopies
open Go.Proofs.Ytfnpdflapmbnjaa.Sh
open Go.Joins Go.ChangeShapes Go.WideShapes Go.ChangeAt Go.RowKit Go.Deep
set_option linter.unusedVariables false

theorem copy_w (A : Option Addr) (c : Nat) (d : List Int) (B : Option Addr) (c2 : Nat) (v : List Int) (A' : Option Addr) (c' : Nat) (e : List Int) (B' : Option Addr) (c2' : Nat) (u : List Int) (b : Bool) (w : World) (E : Int) (D V : List Int) (hE : cpE d v e u b = E) (hD : cpD d v e u b = D) (hV : cpV d v e u b = V)
    (id : Ints w A d) (iv : Ints w B v) (ie : Ints w A' e) (iu : Ints w B' u) (hcu : u.length ≤ c2') (hcm : c2' ≤ maxLen) (hd : d.length ≤ 100) (hv : v.length ≤ 1000) (he : e.length ≤ 100) (hu : u.length ≤ 1000) :
    Calls Try.prog 12 #[.agg #[.slice A d.length c, .slice B v.length c2], .agg #[.slice A' e.length c', .slice B' u.length c2'], .bool b] w (RetCI w D V (.int .i64 E)) := by
  subst hE hD hV; exact (copy_any A c d B c2 v A' c' e B' c2' u b w id iv ie iu hcu hcm hd hv he hu).mono fun _ _ h => h.ci
theorem rcopy_w (A : Option Addr) (c : Nat) (d : List Int) (B : Option Addr) (c2 : Nat) (v : List Int) (A' : Option Addr) (c' : Nat) (e : List Int) (B' : Option Addr) (c2' : Nat) (u : List Int) (b : Bool) (w : World) (E : Int) (D V : List Int) (hE : cpE d v e u b = E) (hD : cpD d v e u b = D) (hV : cpV d v e u b = V)
    (id : Ints w A d) (iv : Ints w B v) (ie : Ints w A' e) (iu : Ints w B' u) (hd : d.length ≤ 100) (hv : v.length ≤ 1000) (he : e.length ≤ 100) (hu : u.length ≤ 1000) :
    Calls Try.prog 13 #[.agg #[.slice A d.length c, .slice B v.length c2], .agg #[.slice A' e.length c', .slice B' u.length c2'], .bool b] w (RetCI w D V (.int .i64 E)) := by
  subst hE hD hV; exact rcopy_any A c d B c2 v A' c' e B' c2' u b w id iv ie iu hd hv he hu
set_option maxHeartbeats 4000000 in
set_option maxRecDepth 100000 in
theorem walk (A : Option Addr) (c1 : Nat) (d : List Int) (B : Option Addr) (c2 : Nat) (v : List Int) (A' : Option Addr) (c1' : Nat) (e : List Int) (B' : Option Addr) (c2' : Nat) (u : List Int) (b : Bool) (w : World)
    (id : Ints w A d) (iv : Ints w B v) (ie : Ints w A' e) (iu : Ints w B' u) (hcu : u.length ≤ c2') (hcm : c2' ≤ maxLen) :
    Calls Try.prog 3 #[.agg #[.slice A d.length c1, .slice B v.length c2], .agg #[.slice A' e.length c1', .slice B' u.length c2'], .bool b] w fun e w' => e = .returned (.bool true) ∧ Below w.heap.size w w' := by
  have HCU := Lib.hid hcu
  have HCM := Lib.hid hcm
  clear hcu hcm
  by_cases h1 : d.length ≤ 10 ∧ v.length ≤ 200
  · by_cases h2 : e.length ≤ 10 ∧ u.length ≤ 200
    · obtain ⟨hd, hv⟩ := h1
      obtain ⟨he, hu⟩ := h2
      obtain ⟨E, hE⟩ : ∃ E, cpE d v e u b = E := ⟨_, rfl⟩
      obtain ⟨D, hD⟩ : ∃ D, cpD d v e u b = D := ⟨_, rfl⟩
      obtain ⟨V, hV⟩ : ∃ V, cpV d v e u b = V := ⟨_, rfl⟩
      have hDl : D.length ≤ 3 := by rw [← hD]; exact cpD_len
      have hVl : V.length ≤ 64 := by rw [← hV]; exact cpV_len
      have HE := Lib.hid hE
      have HD := Lib.hid hD
      have HV := Lib.hid hV
      clear hE hD hV
      have b1 := below_new w (.cells #[.slice A d.length c1, .slice B v.length c2] 25)
      have b2 := below_new (w.alloc (.cells #[.slice A d.length c1, .slice B v.length c2] 25)) (.cells #[.slice A' e.length c1', .slice B' u.length c2'] 25)
      have bb0 := Box.new (w.alloc (.cells #[.slice A d.length c1, .slice B v.length c2] 25)) (.slice A' e.length c1') (.slice B' u.length c2')
      rw [show (w.alloc (.cells #[.slice A d.length c1, .slice B v.length c2] 25)).heap.size = w.heap.size + 1 from by simp] at bb0
      have BB := Lib.hid (bb0)
      have L := Lib.hid (below_next b1 b2)
      have BA := Lib.hid ((Box.new w (.slice A d.length c1) (.slice B v.length c2)).next b2)
      have ID := Lib.hid (id.below L.out)
      have IV := Lib.hid (iv.below L.out)
      have IE := Lib.hid (ie.below L.out)
      have IU := Lib.hid (iu.below L.out)
      clear b1 b2 bb0 id iv ie iu
      go_enter Try.func3, Try.ntmps3
      go_wp2_with fail
      refine (great_no _ _ _ _ _ _ _ hd hv).mono ?_
      rintro r w1 ⟨rfl, hb⟩
      replace BB := Lib.hid (BB.out.next hb)
      replace L := Lib.hid (below_next L.out hb)
      replace BA := Lib.hid (BA.out.next hb)
      replace ID := Lib.hid (ID.out.below hb)
      replace IV := Lib.hid (IV.out.below hb)
      replace IE := Lib.hid (IE.out.below hb)
      replace IU := Lib.hid (IU.out.below hb)
      clear hb
      obtain ⟨qBB0, qBB1, -, -⟩ := BB.out.all
      go_wp2_with fail
      refine (great_no _ _ _ _ _ _ _ he hu).mono ?_
      rintro r w2 ⟨rfl, hb⟩
      clear qBB0 qBB1
      replace BB := Lib.hid (BB.out.next hb)
      replace L := Lib.hid (below_next L.out hb)
      replace BA := Lib.hid (BA.out.next hb)
      replace ID := Lib.hid (ID.out.below hb)
      replace IV := Lib.hid (IV.out.below hb)
      replace IE := Lib.hid (IE.out.below hb)
      replace IU := Lib.hid (IU.out.below hb)
      clear hb
      obtain ⟨qBA0, qBA1, -, -⟩ := BA.out.all
      obtain ⟨qBB0, qBB1, -, -⟩ := BB.out.all
      go_wp2_with fail
      refine (copy_w _ _ d _ _ v _ _ e _ _ u b _ E D V HE.out HD.out HV.out ID.out IV.out IE.out IU.out HCU.out HCM.out (by omega) (by omega) (by omega) (by omega)).mono ?_
      rintro r w3 ⟨A7, c7, B7, e7, rfl, j1, j2, hb⟩
      clear qBA0 qBA1 qBB0 qBB1
      replace BB := Lib.hid (BB.out.next hb)
      replace L := Lib.hid (below_next L.out hb)
      replace BA := Lib.hid (BA.out.next hb)
      replace ID := Lib.hid (ID.out.below hb)
      replace IV := Lib.hid (IV.out.below hb)
      replace IE := Lib.hid (IE.out.below hb)
      replace IU := Lib.hid (IU.out.below hb)
      clear hb
      have P7 := Lib.hid j1
      have Q7 := Lib.hid j2
      clear j1 j2
      have KB := Lib.hid (below_new w3 (.cells #[.slice A7 D.length c7, .slice B7 V.length e7] 25))
      have K7 := Lib.hid (Box.new w3 (.slice A7 D.length c7) (.slice B7 V.length e7))
      replace BB := Lib.hid (BB.out.next KB.out)
      replace L := Lib.hid (below_next L.out KB.out)
      replace BA := Lib.hid (BA.out.next KB.out)
      replace ID := Lib.hid (ID.out.below KB.out)
      replace IV := Lib.hid (IV.out.below KB.out)
      replace IE := Lib.hid (IE.out.below KB.out)
      replace IU := Lib.hid (IU.out.below KB.out)
      replace P7 := Lib.hid (P7.out.below KB.out)
      replace Q7 := Lib.hid (Q7.out.below KB.out)
      go_upto_region 4 with (fail)
      clear KB
      generalize hW : w3.alloc (.cells #[.slice A7 D.length c7, .slice B7 V.length e7] 25) = W7 at *
      clear hW
      generalize w3.heap.size = g7 at *
      obtain ⟨qBA0, qBA1, -, -⟩ := BA.out.all
      obtain ⟨qBB0, qBB1, -, -⟩ := BB.out.all
      go_wp2_with fail
      refine (rcopy_w _ _ d _ _ v _ _ e _ _ u b _ E D V HE.out HD.out HV.out ID.out IV.out IE.out IU.out (by omega) (by omega) (by omega) (by omega)).mono ?_
      rintro r w4 ⟨A8, c8, B8, e8, rfl, j1, j2, hb⟩
      clear qBA0 qBA1 qBB0 qBB1
      replace BB := Lib.hid (BB.out.next hb)
      replace L := Lib.hid (below_next L.out hb)
      replace BA := Lib.hid (BA.out.next hb)
      replace ID := Lib.hid (ID.out.below hb)
      replace IV := Lib.hid (IV.out.below hb)
      replace IE := Lib.hid (IE.out.below hb)
      replace IU := Lib.hid (IU.out.below hb)
      replace P7 := Lib.hid (P7.out.below hb)
      replace Q7 := Lib.hid (Q7.out.below hb)
      replace K7 := Lib.hid (K7.out.next hb)
      clear hb
      have P8 := Lib.hid j1
      have Q8 := Lib.hid j2
      clear j1 j2
      have KB := Lib.hid (below_new w4 (.cells #[.slice A8 D.length c8, .slice B8 V.length e8] 25))
      have K8 := Lib.hid (Box.new w4 (.slice A8 D.length c8) (.slice B8 V.length e8))
      replace BB := Lib.hid (BB.out.next KB.out)
      replace L := Lib.hid (below_next L.out KB.out)
      replace BA := Lib.hid (BA.out.next KB.out)
      replace ID := Lib.hid (ID.out.below KB.out)
      replace IV := Lib.hid (IV.out.below KB.out)
      replace IE := Lib.hid (IE.out.below KB.out)
      replace IU := Lib.hid (IU.out.below KB.out)
      replace P7 := Lib.hid (P7.out.below KB.out)
      replace Q7 := Lib.hid (Q7.out.below KB.out)
      replace K7 := Lib.hid (K7.out.next KB.out)
      replace P8 := Lib.hid (P8.out.below KB.out)
      replace Q8 := Lib.hid (Q8.out.below KB.out)
      go_upto_region 5 with (fail)
      clear KB
      generalize hW : w4.alloc (.cells #[.slice A8 D.length c8, .slice B8 V.length e8] 25) = W8 at *
      clear hW
      generalize w4.heap.size = g8 at *
      obtain ⟨qK70, qK71, -, -⟩ := K7.out.all
      obtain ⟨qK80, qK81, -, -⟩ := K8.out.all
      go_wp2_with fail
      refine (rsame_eq _ _ D _ _ V _ _ _ _ _ (by omega) (by omega) P7.out Q7.out P8.out Q8.out).mono ?_
      rintro r w5 ⟨rfl, hb⟩
      clear qK70 qK71 qK80 qK81
      replace BB := Lib.hid (BB.out.next hb)
      replace L := Lib.hid (below_next L.out hb)
      replace BA := Lib.hid (BA.out.next hb)
      replace ID := Lib.hid (ID.out.below hb)
      replace IV := Lib.hid (IV.out.below hb)
      replace IE := Lib.hid (IE.out.below hb)
      replace IU := Lib.hid (IU.out.below hb)
      replace P7 := Lib.hid (P7.out.below hb)
      replace Q7 := Lib.hid (Q7.out.below hb)
      replace K7 := Lib.hid (K7.out.next hb)
      replace P8 := Lib.hid (P8.out.below hb)
      replace Q8 := Lib.hid (Q8.out.below hb)
      replace K8 := Lib.hid (K8.out.next hb)
      clear hb
      go_wp2_with fail
      refine (lives_any _).mono ?_
      rintro r w6 ⟨rfl, hb⟩
      replace BB := Lib.hid (BB.out.next hb)
      replace L := Lib.hid (below_next L.out hb)
      replace BA := Lib.hid (BA.out.next hb)
      replace ID := Lib.hid (ID.out.below hb)
      replace IV := Lib.hid (IV.out.below hb)
      replace IE := Lib.hid (IE.out.below hb)
      replace IU := Lib.hid (IU.out.below hb)
      replace P7 := Lib.hid (P7.out.below hb)
      replace Q7 := Lib.hid (Q7.out.below hb)
      replace K7 := Lib.hid (K7.out.next hb)
      replace P8 := Lib.hid (P8.out.below hb)
      replace Q8 := Lib.hid (Q8.out.below hb)
      replace K8 := Lib.hid (K8.out.next hb)
      clear hb
      go_wp2
      go_ret
      exact ⟨ret_bool (by simp), L.out⟩
    · have H1 := Lib.hid h1
      have H2 := Lib.hid h2
      clear h1 h2
      have b1 := below_new w (.cells #[.slice A d.length c1, .slice B v.length c2] 25)
      have b2 := below_new (w.alloc (.cells #[.slice A d.length c1, .slice B v.length c2] 25)) (.cells #[.slice A' e.length c1', .slice B' u.length c2'] 25)
      have bb0 := Box.new (w.alloc (.cells #[.slice A d.length c1, .slice B v.length c2] 25)) (.slice A' e.length c1') (.slice B' u.length c2')
      rw [show (w.alloc (.cells #[.slice A d.length c1, .slice B v.length c2] 25)).heap.size = w.heap.size + 1 from by simp] at bb0
      have BB := Lib.hid (bb0)
      have L := Lib.hid (below_next b1 b2)
      clear b1 b2 bb0 id iv ie iu
      go_enter Try.func3, Try.ntmps3
      go_wp2_with fail
      refine (great_no _ _ _ _ _ _ _ H1.out.1 H1.out.2).mono ?_
      rintro r w1 ⟨rfl, hb⟩
      replace BB := Lib.hid (BB.out.next hb)
      replace L := Lib.hid (below_next L.out hb)
      clear hb
      obtain ⟨qBB0, qBB1, -, -⟩ := BB.out.all
      go_wp2_with fail
      refine (great_yes _ _ _ _ _ _ _ H2.out).mono ?_
      rintro r w2 ⟨rfl, hb⟩
      clear qBB0 qBB1
      replace BB := Lib.hid (BB.out.next hb)
      replace L := Lib.hid (below_next L.out hb)
      clear hb
      go_wp2_with fail
      refine (lives_any _).mono ?_
      rintro r w3 ⟨rfl, hb⟩
      replace BB := Lib.hid (BB.out.next hb)
      replace L := Lib.hid (below_next L.out hb)
      clear hb
      go_wp2
      go_ret
      exact ⟨rfl, L.out⟩
  · have H1 := Lib.hid h1
    clear h1
    have b1 := below_new w (.cells #[.slice A d.length c1, .slice B v.length c2] 25)
    have b2 := below_new (w.alloc (.cells #[.slice A d.length c1, .slice B v.length c2] 25)) (.cells #[.slice A' e.length c1', .slice B' u.length c2'] 25)
    have bb0 := Box.new (w.alloc (.cells #[.slice A d.length c1, .slice B v.length c2] 25)) (.slice A' e.length c1') (.slice B' u.length c2')
    rw [show (w.alloc (.cells #[.slice A d.length c1, .slice B v.length c2] 25)).heap.size = w.heap.size + 1 from by simp] at bb0
    have BB := Lib.hid (bb0)
    have L := Lib.hid (below_next b1 b2)
    clear b1 b2 bb0 id iv ie iu
    go_enter Try.func3, Try.ntmps3
    go_wp2_with fail
    refine (great_yes _ _ _ _ _ _ _ H1.out).mono ?_
    rintro r w1 ⟨rfl, hb⟩
    replace BB := Lib.hid (BB.out.next hb)
    replace L := Lib.hid (below_next L.out hb)
    clear hb
    go_wp2_with fail
    refine (lives_any _).mono ?_
    rintro r w2 ⟨rfl, hb⟩
    replace BB := Lib.hid (BB.out.next hb)
    replace L := Lib.hid (below_next L.out hb)
    clear hb
    go_wp2
    go_ret
    exact ⟨rfl, L.out⟩

set_option maxRecDepth 100000 in
theorem lifted (os : Os) (started : os.Started) (H : Type) (enc : TypeId × Value → H) :
    ReturnsInHanded {} Try.checked os 3 .any (Rows.moldCopiesSpec.pre6 enc Try.prog Try.f3 Rows.moldCopiesRow.domain false) (Rows.moldCopiesSpec.post enc Try.prog Try.f3 false true false false) := by
  refine returnsInHanded_of_change (C := Try.checked) own started (by kernel_rfl) Try.func3
    (ChangeSpec.witness6 (enc := enc) (C := Try.checked) false ⟨#[], #[.agg #[.slice none 0 0, .slice none 0 0], .agg #[.slice none 0 0, .slice none 0 0], .bool false], []⟩ 8 (by kernel_rfl) (by kernel_rfl) (by kernel_rfl) (by kernel_rfl)) ?_
  intro W base args ds gs before hval0 hW hcnd _
  have hval : ∀ (j : Nat) t v, Try.f3.params[j]? = some t → args[j]? = some v → Value.okWide Try.prog W .any base t v := hval0
  have hW' := hW
  obtain ⟨p, q, hA0, hV, rfl, hfz, hnd⟩ := hW
  have hA : DataW.TrodAll enc Try.prog W 0 (fun _ => true) true Try.f3.params.toList args.toList ds p := hA0
  rw [Try.params3] at hA hval
  obtain ⟨v0, vs0, dd0, ds0, p0, q0, hargs, rfl, rfl, h0, r0⟩ := trodAll_cons hA
  obtain ⟨v1, vs1, dd1, ds1, p1, q1, rfl, rfl, rfl, h1, r1⟩ := trodAll_cons r0
  obtain ⟨v2, vs2, dd2, ds2, p2, q2, rfl, rfl, rfl, h2, r2⟩ := trodAll_cons r1
  obtain ⟨rfl, rfl, rfl⟩ := trodAll_nil r2
  obtain rfl : args = #[v0, v1, v2] := by cases args; simp_all
  obtain ⟨rfl, rfl⟩ := trodVars_none hV
  have k0 := h0
  have lt0 : ∀ x ∈ p0, x.block < W.heap.size := by obtain ⟨m, hm⟩ := k0; exact DataW.trod_lt m _ _ _ hm
  obtain ⟨A0, c0, l0, B0, e0, m0, rfl, hl0, hm0⟩ := cell_arg (hval 0 25 v0 rfl rfl) h0
  have k1 := h1
  have lt1 : ∀ x ∈ p1, x.block < W.heap.size := by obtain ⟨m, hm⟩ := k1; exact DataW.trod_lt m _ _ _ hm
  obtain ⟨A1, c1, l1, B1, e1, m1, rfl, hl1, hm1⟩ := cell_arg (hval 1 25 v1 rfl rfl) h1
  have k2 := h2
  have lt2 : ∀ x ∈ p2, x.block < W.heap.size := by obtain ⟨m, hm⟩ := k2; exact DataW.trod_lt m _ _ _ hm
  obtain ⟨b2, rfl, _, _⟩ := open_bool Try.underlying4 (hval 2 4 v2 rfl rfl) h2
  clear hA0 hval0
  refine (walk A0 c0 l0 B0 e0 m0 A1 c1 l1 B1 e1 m1 b2 W hl0.1 hm0.1 hl1.1 hm1.1 hm1.2.1 hm1.2.2.1).mono fun e W' ⟨he, bel⟩ => ?_
  subst he
  exact ⟨_, rfl, _, _, _, [], _, [], hW', trodAll_mk1 (shut_bool Try.underlying4 _), (trodAll_cons_mk (Below.trod laidOut (by kernel_rfl) (of_decide_eq_true (by kernel_rfl)) k0 bel lt0) (trodAll_cons_mk (Below.trod laidOut (by kernel_rfl) (of_decide_eq_true (by kernel_rfl)) k1 bel lt1) (trodAll_cons_mk (Below.trod laidOut (by kernel_rfl) (of_decide_eq_true (by kernel_rfl)) k2 bel lt2) trodAll_mk0))), rfl, bel.frame _, fun h => by cases h⟩

theorem over : Rows.moldCopiesRow.holds Try.pinned (OpenSpec.ofChange Rows.moldCopiesSpec) :=
  OpenClaim.holds_of_wide 3 Try.f3 rfl rfl rfl rfl rfl rfl rfl ⟨rfl, rfl, rfl, rfl, rfl⟩ rfl rfl rfl rfl rfl (by kernel_rfl) Try.func3 (by kernel_rfl)
    (of_decide_eq_true (by kernel_rfl)) (by unfold Func.isWrapper; first | (rw [if_pos (by decide +kernel)]; kernel_rfl) | (rw [if_neg (by decide +kernel)]; exact ⟨rfl, rfl⟩))
    (fun os started H enc _ => lifted os started H enc)

theorem proved : Rows.MoldCopiesSaid := over
end Go.Proofs.Ytfnpdflapmbnjaa.moldCopies
