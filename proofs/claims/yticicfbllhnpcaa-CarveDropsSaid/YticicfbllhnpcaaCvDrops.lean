/-
  Proved: for any two cells rifflelaw07.CarveDrops returns true, and each argument reads afterwards as it read before. No other condition.
-/
import Derived.Test.YticicfbllhnpcaaRows
import Derived.Test.YticicfbllhnpcaaCvRDrop
import Derived.Test.YticicfbllhnpcaaPkW
import Derived.Test.YticicfbllhnpcaaPkC
set_option maxRecDepth 100000
namespace Go.Proofs.Yticicfbllhnpcaa.carveDrops
open Go.Proofs.Yticicfbllhnpcaa.Sh
open Go.Joins Go.ChangeShapes Go.WideShapes Go.ChangeAt Go.RowKit Go.Deep
set_option linter.unusedVariables false

theorem rsame_eq7 (A : Option Addr) (c : Nat) (d : List Int) (B : Option Addr) (c2 : Nat) (v : List Int) (A' : Option Addr) (c' : Nat) (B' : Option Addr) (c2' : Nat) (w : World) (hd : d.length ≤ 1000) (hv : v.length ≤ 1000) (id : Ints w A d) (iv : Ints w B v) (ie : Ints w A' d) (iu : Ints w B' v) :
    Calls Try.prog 16 #[.agg #[.slice A d.length c, .slice B v.length c2], .agg #[.slice A' d.length c', .slice B' v.length c2']] w fun r w' => r = .returned (.bool true) ∧ Below w.heap.size w w' :=
  (rsame_any A c d B c2 v A' c' d B' c2' v w (by unfold maxLen; omega) (by unfold maxLen; omega) (by unfold maxLen; omega) (by unfold maxLen; omega) id iv ie iu).mono fun _ _ ⟨h1, h2⟩ => ⟨by rw [h1]; simp [sameB], h2⟩
theorem p_w (A : Option Addr) (c1 : Nat) (d : List Int) (B : Option Addr) (c2 : Nat) (v : List Int) (A' : Option Addr) (c1' : Nat) (e : List Int) (B' : Option Addr) (c2' : Nat) (u : List Int) (w : World) (E : Int) (D V : List Int) (hE : coE d v e u = E) (hD : drD d v e u = D) (hV : drV d v e u = V) (id : Ints w A d) (iv : Ints w B v) (ie : Ints w A' e) (iu : Ints w B' u) (hd : d.length ≤ 100) (hv : v.length ≤ 1000) (he : e.length ≤ 100) (hu : u.length ≤ 1000) :
    Calls Try.prog 19 #[.agg #[.slice A d.length c1, .slice B v.length c2], .agg #[.slice A' e.length c1', .slice B' u.length c2']] w (RetCI w D V (.int .i64 E)) := by
  subst hE hD hV
  exact (drop_any A c1 d B c2 v A' c1' e B' c2' u w id iv ie iu hd hv he hu).mono fun _ _ h => h.ci
theorem r_w (A : Option Addr) (c1 : Nat) (d : List Int) (B : Option Addr) (c2 : Nat) (v : List Int) (A' : Option Addr) (c1' : Nat) (e : List Int) (B' : Option Addr) (c2' : Nat) (u : List Int) (w : World) (E : Int) (D V : List Int) (hE : coE d v e u = E) (hD : drD d v e u = D) (hV : drV d v e u = V) (id : Ints w A d) (iv : Ints w B v) (ie : Ints w A' e) (iu : Ints w B' u) (hd : d.length ≤ 100) (hv : v.length ≤ 1000) (he : e.length ≤ 100) (hu : u.length ≤ 1000) :
    Calls Try.prog 20 #[.agg #[.slice A d.length c1, .slice B v.length c2], .agg #[.slice A' e.length c1', .slice B' u.length c2']] w (RetCI w D V (.int .i64 E)) := by
  subst hE hD hV
  exact rdrop_any A c1 d B c2 v A' c1' e B' c2' u w id iv ie iu hd hv he hu
theorem shV_len64 {dm ah d v : List Int} : (shV dm ah d v).length ≤ 64 := by
  unfold shV; have := sizeI_bd dm; simp; omega
theorem lenD {d v e u : List Int} (hv : v.length ≤ 200) : (drD d v e u).length ≤ 200 := by
  unfold drD oL; split
  · rw [rowF_len]; exact hv
  · simp
theorem lenV {d v e u : List Int} : (drV d v e u).length ≤ 64 := by
  unfold drV oL; split
  · exact shV_len64
  · simp
set_option maxHeartbeats 4000000 in
theorem walk (A : Option Addr) (c1 : Nat) (d : List Int) (B : Option Addr) (c2 : Nat) (v : List Int) (A' : Option Addr) (c1' : Nat) (e : List Int) (B' : Option Addr) (c2' : Nat) (u : List Int) (w : World) (id : Ints w A d) (iv : Ints w B v) (ie : Ints w A' e) (iu : Ints w B' u) :
    Calls Try.prog 5 #[.agg #[.slice A d.length c1, .slice B v.length c2], .agg #[.slice A' e.length c1', .slice B' u.length c2']] w fun e w' => e = .returned (.bool true) ∧ Below w.heap.size w w' := by
  by_cases h1 : d.length ≤ 10 ∧ v.length ≤ 200
  · by_cases h2 : e.length ≤ 10 ∧ u.length ≤ 200
    · obtain ⟨hd, hv⟩ := h1
      obtain ⟨he, hu⟩ := h2
      obtain ⟨E, hE⟩ : ∃ E, coE d v e u = E := ⟨_, rfl⟩
      obtain ⟨D, hD⟩ : ∃ D, drD d v e u = D := ⟨_, rfl⟩
      obtain ⟨V, hV⟩ : ∃ V, drV d v e u = V := ⟨_, rfl⟩
      have hDl : D.length ≤ 200 := by rw [← hD]; exact lenD hv
      have hVl : V.length ≤ 64 := by rw [← hV]; exact lenV
      have HE := Lib.hid hE
      have HD := Lib.hid hD
      have HV := Lib.hid hV
      clear hE hD hV
      have b1 := below_new w (.cells #[.slice A d.length c1, .slice B v.length c2] 25)
      have b2 := below_new (w.alloc (.cells #[.slice A d.length c1, .slice B v.length c2] 25)) (.cells #[.slice A' e.length c1', .slice B' u.length c2'] 25)
      have bb0 := Box.new (w.alloc (.cells #[.slice A d.length c1, .slice B v.length c2] 25)) (.slice A' e.length c1') (.slice B' u.length c2')
      rw [show (w.alloc (.cells #[.slice A d.length c1, .slice B v.length c2] 25)).heap.size = w.heap.size + 1 from by simp] at bb0
      have BB := Lib.hid (bb0)
      have L := Lib.hid (below_next b1 b2)
      have BA := Lib.hid ((Box.new w (.slice A d.length c1) (.slice B v.length c2)).next b2)
      have ID := Lib.hid (id.below L.out)
      have IV := Lib.hid (iv.below L.out)
      have IE := Lib.hid (ie.below L.out)
      have IU := Lib.hid (iu.below L.out)
      clear b1 b2 bb0 id iv ie iu
      go_enter Try.func5, Try.ntmps5
      go_wp2_with fail
      refine (great_no _ _ _ _ _ _ _ hd hv).mono ?_
      rintro r w1 ⟨rfl, hb⟩
      replace BB := Lib.hid (BB.out.next hb)
      replace L := Lib.hid (below_next L.out hb)
      replace BA := Lib.hid (BA.out.next hb)
      replace ID := Lib.hid (ID.out.below hb)
      replace IV := Lib.hid (IV.out.below hb)
      replace IE := Lib.hid (IE.out.below hb)
      replace IU := Lib.hid (IU.out.below hb)
      clear hb
      obtain ⟨qBB0, qBB1, -, -⟩ := BB.out.all
      go_wp2_with fail
      refine (great_no _ _ _ _ _ _ _ he hu).mono ?_
      rintro r w2 ⟨rfl, hb⟩
      clear qBB0 qBB1
      replace BB := Lib.hid (BB.out.next hb)
      replace L := Lib.hid (below_next L.out hb)
      replace BA := Lib.hid (BA.out.next hb)
      replace ID := Lib.hid (ID.out.below hb)
      replace IV := Lib.hid (IV.out.below hb)
      replace IE := Lib.hid (IE.out.below hb)
      replace IU := Lib.hid (IU.out.below hb)
      clear hb
      obtain ⟨qBA0, qBA1, -, -⟩ := BA.out.all
      obtain ⟨qBB0, qBB1, -, -⟩ := BB.out.all
      go_wp2_with fail
      refine (p_w _ _ d _ _ v _ _ e _ _ u _ E D V HE.out HD.out HV.out ID.out IV.out IE.out IU.out (by omega) (by omega) (by omega) (by omega)).mono ?_
      rintro r w3 ⟨A7, c7, B7, e7, rfl, j1, j2, hb⟩
      clear qBA0 qBA1 qBB0 qBB1
      replace BB := Lib.hid (BB.out.next hb)
      replace L := Lib.hid (below_next L.out hb)
      replace BA := Lib.hid (BA.out.next hb)
      replace ID := Lib.hid (ID.out.below hb)
      replace IV := Lib.hid (IV.out.below hb)
      replace IE := Lib.hid (IE.out.below hb)
      replace IU := Lib.hid (IU.out.below hb)
      clear hb
      have P7 := Lib.hid j1
      have Q7 := Lib.hid j2
      clear j1 j2
      have KB := Lib.hid (below_new w3 (.cells #[.slice A7 D.length c7, .slice B7 V.length e7] 25))
      have K7 := Lib.hid (Box.new w3 (.slice A7 D.length c7) (.slice B7 V.length e7))
      replace BB := Lib.hid (BB.out.next KB.out)
      replace L := Lib.hid (below_next L.out KB.out)
      replace BA := Lib.hid (BA.out.next KB.out)
      replace ID := Lib.hid (ID.out.below KB.out)
      replace IV := Lib.hid (IV.out.below KB.out)
      replace IE := Lib.hid (IE.out.below KB.out)
      replace IU := Lib.hid (IU.out.below KB.out)
      replace P7 := Lib.hid (P7.out.below KB.out)
      replace Q7 := Lib.hid (Q7.out.below KB.out)
      go_upto_region 4 with (fail)
      clear KB
      generalize hW : w3.alloc (.cells #[.slice A7 D.length c7, .slice B7 V.length e7] 25) = W7 at *
      clear hW
      generalize w3.heap.size = g7 at *
      obtain ⟨qBA0, qBA1, -, -⟩ := BA.out.all
      obtain ⟨qBB0, qBB1, -, -⟩ := BB.out.all
      go_wp2_with fail
      refine (r_w _ _ d _ _ v _ _ e _ _ u _ E D V HE.out HD.out HV.out ID.out IV.out IE.out IU.out (by omega) (by omega) (by omega) (by omega)).mono ?_
      rintro r w4 ⟨A8, c8, B8, e8, rfl, j1, j2, hb⟩
      clear qBA0 qBA1 qBB0 qBB1
      replace BB := Lib.hid (BB.out.next hb)
      replace L := Lib.hid (below_next L.out hb)
      replace BA := Lib.hid (BA.out.next hb)
      replace ID := Lib.hid (ID.out.below hb)
      replace IV := Lib.hid (IV.out.below hb)
      replace IE := Lib.hid (IE.out.below hb)
      replace IU := Lib.hid (IU.out.below hb)
      replace P7 := Lib.hid (P7.out.below hb)
      replace Q7 := Lib.hid (Q7.out.below hb)
      replace K7 := Lib.hid (K7.out.next hb)
      clear hb
      have P8 := Lib.hid j1
      have Q8 := Lib.hid j2
      clear j1 j2
      have KB := Lib.hid (below_new w4 (.cells #[.slice A8 D.length c8, .slice B8 V.length e8] 25))
      have K8 := Lib.hid (Box.new w4 (.slice A8 D.length c8) (.slice B8 V.length e8))
      replace BB := Lib.hid (BB.out.next KB.out)
      replace L := Lib.hid (below_next L.out KB.out)
      replace BA := Lib.hid (BA.out.next KB.out)
      replace ID := Lib.hid (ID.out.below KB.out)
      replace IV := Lib.hid (IV.out.below KB.out)
      replace IE := Lib.hid (IE.out.below KB.out)
      replace IU := Lib.hid (IU.out.below KB.out)
      replace P7 := Lib.hid (P7.out.below KB.out)
      replace Q7 := Lib.hid (Q7.out.below KB.out)
      replace K7 := Lib.hid (K7.out.next KB.out)
      replace P8 := Lib.hid (P8.out.below KB.out)
      replace Q8 := Lib.hid (Q8.out.below KB.out)
      go_upto_region 5 with (fail)
      clear KB
      generalize hW : w4.alloc (.cells #[.slice A8 D.length c8, .slice B8 V.length e8] 25) = W8 at *
      clear hW
      generalize w4.heap.size = g8 at *
      obtain ⟨qK70, qK71, -, -⟩ := K7.out.all
      obtain ⟨qK80, qK81, -, -⟩ := K8.out.all
      go_wp2_with fail
      refine (rsame_eq7 _ _ D _ _ V _ _ _ _ _ (by omega) (by omega) P7.out Q7.out P8.out Q8.out).mono ?_
      rintro r w5 ⟨rfl, hb⟩
      clear qK70 qK71 qK80 qK81
      replace BB := Lib.hid (BB.out.next hb)
      replace L := Lib.hid (below_next L.out hb)
      replace BA := Lib.hid (BA.out.next hb)
      replace ID := Lib.hid (ID.out.below hb)
      replace IV := Lib.hid (IV.out.below hb)
      replace IE := Lib.hid (IE.out.below hb)
      replace IU := Lib.hid (IU.out.below hb)
      replace P7 := Lib.hid (P7.out.below hb)
      replace Q7 := Lib.hid (Q7.out.below hb)
      replace K7 := Lib.hid (K7.out.next hb)
      replace P8 := Lib.hid (P8.out.below hb)
      replace Q8 := Lib.hid (Q8.out.below hb)
      replace K8 := Lib.hid (K8.out.next hb)
      clear hb
      go_wp2_with fail
      refine (lives7_any _).mono ?_
      rintro r w6 ⟨rfl, hb⟩
      replace BB := Lib.hid (BB.out.next hb)
      replace L := Lib.hid (below_next L.out hb)
      replace BA := Lib.hid (BA.out.next hb)
      replace ID := Lib.hid (ID.out.below hb)
      replace IV := Lib.hid (IV.out.below hb)
      replace IE := Lib.hid (IE.out.below hb)
      replace IU := Lib.hid (IU.out.below hb)
      replace P7 := Lib.hid (P7.out.below hb)
      replace Q7 := Lib.hid (Q7.out.below hb)
      replace K7 := Lib.hid (K7.out.next hb)
      replace P8 := Lib.hid (P8.out.below hb)
      replace Q8 := Lib.hid (Q8.out.below hb)
      replace K8 := Lib.hid (K8.out.next hb)
      clear hb
      go_wp2
      go_ret
      exact ⟨ret_bool (by simp), L.out⟩
    · have H1 := Lib.hid h1
      have H2 := Lib.hid h2
      clear h1 h2
      have b1 := below_new w (.cells #[.slice A d.length c1, .slice B v.length c2] 25)
      have b2 := below_new (w.alloc (.cells #[.slice A d.length c1, .slice B v.length c2] 25)) (.cells #[.slice A' e.length c1', .slice B' u.length c2'] 25)
      have bb0 := Box.new (w.alloc (.cells #[.slice A d.length c1, .slice B v.length c2] 25)) (.slice A' e.length c1') (.slice B' u.length c2')
      rw [show (w.alloc (.cells #[.slice A d.length c1, .slice B v.length c2] 25)).heap.size = w.heap.size + 1 from by simp] at bb0
      have BB := Lib.hid (bb0)
      have L := Lib.hid (below_next b1 b2)
      clear b1 b2 bb0 id iv ie iu
      go_enter Try.func5, Try.ntmps5
      go_wp2_with fail
      refine (great_no _ _ _ _ _ _ _ H1.out.1 H1.out.2).mono ?_
      rintro r w1 ⟨rfl, hb⟩
      replace BB := Lib.hid (BB.out.next hb)
      replace L := Lib.hid (below_next L.out hb)
      clear hb
      obtain ⟨qBB0, qBB1, -, -⟩ := BB.out.all
      go_wp2_with fail
      refine (great_yes _ _ _ _ _ _ _ H2.out).mono ?_
      rintro r w2 ⟨rfl, hb⟩
      clear qBB0 qBB1
      replace BB := Lib.hid (BB.out.next hb)
      replace L := Lib.hid (below_next L.out hb)
      clear hb
      go_wp2_with fail
      refine (lives7_any _).mono ?_
      rintro r w3 ⟨rfl, hb⟩
      replace BB := Lib.hid (BB.out.next hb)
      replace L := Lib.hid (below_next L.out hb)
      clear hb
      go_wp2
      go_ret
      exact ⟨rfl, L.out⟩
  · have H1 := Lib.hid h1
    clear h1
    have b1 := below_new w (.cells #[.slice A d.length c1, .slice B v.length c2] 25)
    have b2 := below_new (w.alloc (.cells #[.slice A d.length c1, .slice B v.length c2] 25)) (.cells #[.slice A' e.length c1', .slice B' u.length c2'] 25)
    have bb0 := Box.new (w.alloc (.cells #[.slice A d.length c1, .slice B v.length c2] 25)) (.slice A' e.length c1') (.slice B' u.length c2')
    rw [show (w.alloc (.cells #[.slice A d.length c1, .slice B v.length c2] 25)).heap.size = w.heap.size + 1 from by simp] at bb0
    have BB := Lib.hid (bb0)
    have L := Lib.hid (below_next b1 b2)
    clear b1 b2 bb0 id iv ie iu
    go_enter Try.func5, Try.ntmps5
    go_wp2_with fail
    refine (great_yes _ _ _ _ _ _ _ H1.out).mono ?_
    rintro r w1 ⟨rfl, hb⟩
    replace BB := Lib.hid (BB.out.next hb)
    replace L := Lib.hid (below_next L.out hb)
    clear hb
    go_wp2_with fail
    refine (lives7_any _).mono ?_
    rintro r w2 ⟨rfl, hb⟩
    replace BB := Lib.hid (BB.out.next hb)
    replace L := Lib.hid (below_next L.out hb)
    clear hb
    go_wp2
    go_ret
    exact ⟨rfl, L.out⟩

set_option maxRecDepth 100000 in
theorem lifted (os : Os) (started : os.Started) (H : Type) (enc : TypeId × Value → H) :
    ReturnsInHanded {} Try.checked os 5 .any (Rows.carveDropsSpec.pre6 enc Try.prog Try.f5 Rows.carveDropsRow.domain false) (Rows.carveDropsSpec.post enc Try.prog Try.f5 false true false false) := by
  refine returnsInHanded_of_change (C := Try.checked) own started (by kernel_rfl) Try.func5
    (ChangeSpec.witness6 (enc := enc) (C := Try.checked) false ⟨#[], #[.agg #[.slice none 0 0, .slice none 0 0], .agg #[.slice none 0 0, .slice none 0 0]], []⟩ 8 (by kernel_rfl) (by kernel_rfl) (by kernel_rfl) (by kernel_rfl)) ?_
  intro W base args ds gs before hval0 hW hcnd _
  have hval : ∀ (j : Nat) t v, Try.f5.params[j]? = some t → args[j]? = some v → Value.okWide Try.prog W .any base t v := hval0
  have hW' := hW
  obtain ⟨p, q, hA0, hV, rfl, hfz, hnd⟩ := hW
  have hA : DataW.TrodAll enc Try.prog W 0 (fun _ => true) true Try.f5.params.toList args.toList ds p := hA0
  rw [Try.params5] at hA hval
  obtain ⟨v0, vs0, dd0, ds0, p0, q0, hargs, rfl, rfl, h0, r0⟩ := trodAll_cons hA
  obtain ⟨v1, vs1, dd1, ds1, p1, q1, rfl, rfl, rfl, h1, r1⟩ := trodAll_cons r0
  obtain ⟨rfl, rfl, rfl⟩ := trodAll_nil r1
  obtain rfl : args = #[v0, v1] := by cases args; simp_all
  obtain ⟨rfl, rfl⟩ := trodVars_none hV
  have k0 := h0
  have lt0 : ∀ x ∈ p0, x.block < W.heap.size := by obtain ⟨m, hm⟩ := k0; exact DataW.trod_lt m _ _ _ hm
  obtain ⟨A0, c0, l0, B0, e0, m0, rfl, hl0, hm0⟩ := cell_arg (hval 0 25 v0 rfl rfl) h0
  have k1 := h1
  have lt1 : ∀ x ∈ p1, x.block < W.heap.size := by obtain ⟨m, hm⟩ := k1; exact DataW.trod_lt m _ _ _ hm
  obtain ⟨A1, c1, l1, B1, e1, m1, rfl, hl1, hm1⟩ := cell_arg (hval 1 25 v1 rfl rfl) h1
  clear hA0 hval0
  refine (walk A0 c0 l0 B0 e0 m0 A1 c1 l1 B1 e1 m1 W hl0.1 hm0.1 hl1.1 hm1.1).mono fun e W' ⟨he, bel⟩ => ?_
  subst he
  exact ⟨_, rfl, _, _, _, [], _, [], hW', trodAll_mk1 (shut_bool Try.underlying4 _), (trodAll_cons_mk (Below.trod laidOut (by kernel_rfl) (of_decide_eq_true (by kernel_rfl)) k0 bel lt0) (trodAll_cons_mk (Below.trod laidOut (by kernel_rfl) (of_decide_eq_true (by kernel_rfl)) k1 bel lt1) trodAll_mk0)), rfl, bel.frame _, fun h => by cases h⟩

theorem over : Rows.carveDropsRow.holds Try.pinned (OpenSpec.ofChange Rows.carveDropsSpec) :=
  OpenClaim.holds_of_wide 5 Try.f5 rfl rfl rfl rfl rfl rfl rfl ⟨rfl, rfl, rfl, rfl, rfl⟩ rfl rfl rfl rfl rfl (by kernel_rfl) Try.func5 (by kernel_rfl)
    (of_decide_eq_true (by kernel_rfl)) (by unfold Func.isWrapper; first | (rw [if_pos (by decide +kernel)]; kernel_rfl) | (rw [if_neg (by decide +kernel)]; exact ⟨rfl, rfl⟩))
    (fun os started H enc _ => lifted os started H enc)

theorem proved : Rows.CarveDropsSaid := over
end Go.Proofs.Yticicfbllhnpcaa.carveDrops
