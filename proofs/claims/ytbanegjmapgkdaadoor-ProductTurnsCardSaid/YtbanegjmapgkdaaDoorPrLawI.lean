/-
  Proved: for any two functions and any two cells rifflelaw09.ProductInners returns true, and each argument reads afterwards as it read before. The card is tied to the text that lays scalar.traits; it speaks of the pruned copy of the project that this seat's roots load. No other condition.
-/
import Derived.Test.YtbanegjmapgkdaaDoorPrTwo
import Derived.Test.YtbanegjmapgkdaaDoorPrRIn
set_option maxRecDepth 100000
namespace Go.Proofs.YtbanegjmapgkdaaDoor.productInners
open Go.Proofs.YtbanegjmapgkdaaDoor.Sh Go.Proofs.YtbanegjmapgkdaaDoor.Fd Go.Proofs.YtbanegjmapgkdaaDoor.Pr
open Go.Joins Go.ChangeShapes Go.WideShapes Go.ChangeAt Go.RowKit Go.Deep
set_option linter.unusedVariables false

/-- What an inner product has. -/
def inD (cf : Int) (sf : Bool) (cg : Int) (sg : Bool) (d : List Int) (n : Nat) (e : List Int) (m : Nat) : List Int := if innE cf sf cg sg d n e m = 0 then aheadL d ++ behindL e else []
def inV (cf : Int) (sf : Bool) (cg : Int) (sg : Bool) (d v e u : List Int) : List Int := if innE cf sf cg sg d v.length e u.length = 0 then innV cf sf cg sg d v e u else []
theorem inD_len {cf : Int} {sf : Bool} {cg : Int} {sg : Bool} {d e : List Int} {n m : Nat} (hd : d.length ≤ 10) (he : e.length ≤ 10) : (inD cf sf cg sg d n e m).length ≤ 20 := by
  unfold inD; split
  · have := ahead_len d
    have := behind_len e
    rw [List.length_append]; omega
  · simp
theorem inV_len {cf : Int} {sf : Bool} {cg : Int} {sg : Bool} {d v e u : List Int} : (inV cf sf cg sg d v e u).length ≤ 64 := by
  unfold inV; split
  · unfold innV
    have := sizeI_bd (aheadL d ++ behindL e)
    simp; omega
  · simp
theorem inn_w (cf : Int) (sf : Bool) (cg : Int) (sg : Bool) (A : Option Addr) (c1 : Nat) (d : List Int) (B : Option Addr) (c2 : Nat) (v : List Int) (A' : Option Addr) (c1' : Nat) (e : List Int) (B' : Option Addr) (c2' : Nat) (u : List Int) (w : World) (E : Int) (D V : List Int) (hE : innE cf sf cg sg d v.length e u.length = E) (hD : inD cf sf cg sg d v.length e u.length = D) (hV : inV cf sf cg sg d v e u = V) (hT : Sc.Tab w) (id : Ints w A d) (iv : Ints w B v) (ie : Ints w A' e) (iu : Ints w B' u) (hd : d.length ≤ 10) (he : e.length ≤ 10) (rv : AllR v) (ru : AllR u) :
    Calls Tryd.prog 12 #[.agg #[.int .i64 cf, .bool sf], .agg #[.int .i64 cg, .bool sg], .agg #[.slice A d.length c1, .slice B v.length c2], .agg #[.slice A' e.length c1', .slice B' u.length c2']] w (RetCI w D V (.int .i64 E)) := by
  subst hE hD hV
  exact inner_any cf sf cg sg A c1 d B c2 v A' c1' e B' c2' u w hT id ie (by omega) (by omega) rv ru iv iu _ rfl
theorem rinn_w (cf : Int) (sf : Bool) (cg : Int) (sg : Bool) (A : Option Addr) (c1 : Nat) (d : List Int) (B : Option Addr) (c2 : Nat) (v : List Int) (A' : Option Addr) (c1' : Nat) (e : List Int) (B' : Option Addr) (c2' : Nat) (u : List Int) (w : World) (E : Int) (D V : List Int) (hE : innE cf sf cg sg d v.length e u.length = E) (hD : inD cf sf cg sg d v.length e u.length = D) (hV : inV cf sf cg sg d v e u = V) (id : Ints w A d) (iv : Ints w B v) (ie : Ints w A' e) (iu : Ints w B' u) (hd : d.length ≤ 10) (he : e.length ≤ 10) (hc1 : d.length ≤ c1) (hm1 : c1 ≤ maxLen) (hc1' : e.length ≤ c1') (hm1' : c1' ≤ maxLen) (rv : AllR v) (ru : AllR u) :
    Calls Tryd.prog 13 #[.agg #[.int .i64 cf, .bool sf], .agg #[.int .i64 cg, .bool sg], .agg #[.slice A d.length c1, .slice B v.length c2], .agg #[.slice A' e.length c1', .slice B' u.length c2']] w (RetCI w D V (.int .i64 E)) := by
  subst hE hD hV
  exact rin_any cf sf cg sg A c1 d B c2 v A' c1' e B' c2' u w id ie iv iu (by omega) (by omega) hc1 hm1 hc1' hm1' rv ru _ rfl
set_option maxHeartbeats 4000000 in
set_option maxRecDepth 100000 in
theorem walk (cf : Int) (sf : Bool) (cg : Int) (sg : Bool) (A : Option Addr) (c1 : Nat) (d : List Int) (B : Option Addr) (c2 : Nat) (v : List Int) (A' : Option Addr) (c1' : Nat) (e : List Int) (B' : Option Addr) (c2' : Nat) (u : List Int) (w : World)
    (hT : Sc.Tab w) (id : Ints w A d) (iv : Ints w B v) (ie : Ints w A' e) (iu : Ints w B' u) (hc1 : d.length ≤ c1) (hm1 : c1 ≤ maxLen) (hc1' : e.length ≤ c1') (hm1' : c1' ≤ maxLen) (rv : AllR v) (ru : AllR u) :
    Calls Tryd.prog 3 #[.agg #[.int .i64 cf, .bool sf, .int .i64 cg, .bool sg], .agg #[.slice A d.length c1, .slice B v.length c2], .agg #[.slice A' e.length c1', .slice B' u.length c2']] w fun e w' => e = .returned (.bool true) ∧ Below w.heap.size w w' := by
  have RV := Lib.hid rv
  have RU := Lib.hid ru
  clear rv ru
  by_cases h1 : d.length ≤ 10 ∧ v.length ≤ 200
  · by_cases h2 : e.length ≤ 10 ∧ u.length ≤ 200
    · obtain ⟨hd, hv⟩ := h1
      obtain ⟨he, hu⟩ := h2
      obtain ⟨E, hE⟩ : ∃ E, innE cf sf cg sg d v.length e u.length = E := ⟨_, rfl⟩
      obtain ⟨D, hD⟩ : ∃ D, inD cf sf cg sg d v.length e u.length = D := ⟨_, rfl⟩
      obtain ⟨V, hV⟩ : ∃ V, inV cf sf cg sg d v e u = V := ⟨_, rfl⟩
      have hDl : D.length ≤ 20 := by rw [← hD]; exact inD_len hd he
      have hVl : V.length ≤ 64 := by rw [← hV]; exact inV_len
      have HE := Lib.hid hE
      have HD := Lib.hid hD
      have HV := Lib.hid hV
      clear hE hD hV
      have hs0 := tw4_start w cf sf cg sg (.slice A d.length c1) (.slice B v.length c2) (.slice A' e.length c1') (.slice B' u.length c2')
      have S := Lib.hid (hs0)
      have T := Lib.hid (hT.below S.out.2.2.2)
      have ID := Lib.hid (id.below S.out.2.2.2)
      have IV := Lib.hid (iv.below S.out.2.2.2)
      have IE := Lib.hid (ie.below S.out.2.2.2)
      have IU := Lib.hid (iu.below S.out.2.2.2)
      clear hs0 hT id iv ie iu
      go_enter Tryd.func3, Tryd.ntmps3
      obtain ⟨f0, f1, f2, f3⟩ := bx4 S.out.1
      obtain ⟨a0, a1, -, -⟩ := S.out.2.1.all
      obtain ⟨b0, b1, -, -⟩ := S.out.2.2.1.all
      go_wp2_with fail
      refine (great_no _ _ _ _ _ _ _ hd hv).mono ?_
      rintro r w1 ⟨rfl, hb⟩
      clear f0 f1 f2 f3 a0 a1 b0 b1
      replace S := Lib.hid (S.out.next hb)
      replace T := Lib.hid (T.out.below hb)
      replace ID := Lib.hid (ID.out.below hb)
      replace IV := Lib.hid (IV.out.below hb)
      replace IE := Lib.hid (IE.out.below hb)
      replace IU := Lib.hid (IU.out.below hb)
      clear hb
      obtain ⟨f0, f1, f2, f3⟩ := bx4 S.out.1
      obtain ⟨a0, a1, -, -⟩ := S.out.2.1.all
      obtain ⟨b0, b1, -, -⟩ := S.out.2.2.1.all
      go_wp2_with fail
      refine (great_no _ _ _ _ _ _ _ he hu).mono ?_
      rintro r w2 ⟨rfl, hb⟩
      clear f0 f1 f2 f3 a0 a1 b0 b1
      replace S := Lib.hid (S.out.next hb)
      replace T := Lib.hid (T.out.below hb)
      replace ID := Lib.hid (ID.out.below hb)
      replace IV := Lib.hid (IV.out.below hb)
      replace IE := Lib.hid (IE.out.below hb)
      replace IU := Lib.hid (IU.out.below hb)
      clear hb
      obtain ⟨f0, f1, f2, f3⟩ := bx4 S.out.1
      obtain ⟨a0, a1, -, -⟩ := S.out.2.1.all
      obtain ⟨b0, b1, -, -⟩ := S.out.2.2.1.all
      go_wp2_with fail
      refine (inn_w cf sf cg sg _ _ d _ _ v _ _ e _ _ u _ E D V HE.out HD.out HV.out T.out ID.out IV.out IE.out IU.out hd he RV.out RU.out).mono ?_
      rintro r w3 ⟨A7, c7, B7, e7, rfl, j1, j2, hb⟩
      clear f0 f1 f2 f3 a0 a1 b0 b1
      replace S := Lib.hid (S.out.next hb)
      replace T := Lib.hid (T.out.below hb)
      replace ID := Lib.hid (ID.out.below hb)
      replace IV := Lib.hid (IV.out.below hb)
      replace IE := Lib.hid (IE.out.below hb)
      replace IU := Lib.hid (IU.out.below hb)
      clear hb
      have P7 := Lib.hid j1
      have Q7 := Lib.hid j2
      clear j1 j2
      have KB := Lib.hid (below_new w3 (.cells #[.slice A7 D.length c7, .slice B7 V.length e7] 29))
      have K7 := Lib.hid (Box.new w3 (.slice A7 D.length c7) (.slice B7 V.length e7))
      replace S := Lib.hid (S.out.next KB.out)
      replace T := Lib.hid (T.out.below KB.out)
      replace ID := Lib.hid (ID.out.below KB.out)
      replace IV := Lib.hid (IV.out.below KB.out)
      replace IE := Lib.hid (IE.out.below KB.out)
      replace IU := Lib.hid (IU.out.below KB.out)
      replace P7 := Lib.hid (P7.out.below KB.out)
      replace Q7 := Lib.hid (Q7.out.below KB.out)
      go_upto_region 4 with (fail)
      clear KB
      generalize hW : w3.alloc (.cells #[.slice A7 D.length c7, .slice B7 V.length e7] 29) = W7 at *
      clear hW
      generalize w3.heap.size = g7 at *
      obtain ⟨f0, f1, f2, f3⟩ := bx4 S.out.1
      obtain ⟨a0, a1, -, -⟩ := S.out.2.1.all
      obtain ⟨b0, b1, -, -⟩ := S.out.2.2.1.all
      go_wp2_with fail
      refine (rinn_w cf sf cg sg _ _ d _ _ v _ _ e _ _ u _ E D V HE.out HD.out HV.out ID.out IV.out IE.out IU.out hd he hc1 hm1 hc1' hm1' RV.out RU.out).mono ?_
      rintro r w4 ⟨A8, c8, B8, e8, rfl, j1, j2, hb⟩
      clear f0 f1 f2 f3 a0 a1 b0 b1
      replace S := Lib.hid (S.out.next hb)
      replace T := Lib.hid (T.out.below hb)
      replace ID := Lib.hid (ID.out.below hb)
      replace IV := Lib.hid (IV.out.below hb)
      replace IE := Lib.hid (IE.out.below hb)
      replace IU := Lib.hid (IU.out.below hb)
      replace P7 := Lib.hid (P7.out.below hb)
      replace Q7 := Lib.hid (Q7.out.below hb)
      replace K7 := Lib.hid (K7.out.next hb)
      clear hb
      have P8 := Lib.hid j1
      have Q8 := Lib.hid j2
      clear j1 j2
      have KB := Lib.hid (below_new w4 (.cells #[.slice A8 D.length c8, .slice B8 V.length e8] 29))
      have K8 := Lib.hid (Box.new w4 (.slice A8 D.length c8) (.slice B8 V.length e8))
      replace S := Lib.hid (S.out.next KB.out)
      replace T := Lib.hid (T.out.below KB.out)
      replace ID := Lib.hid (ID.out.below KB.out)
      replace IV := Lib.hid (IV.out.below KB.out)
      replace IE := Lib.hid (IE.out.below KB.out)
      replace IU := Lib.hid (IU.out.below KB.out)
      replace P7 := Lib.hid (P7.out.below KB.out)
      replace Q7 := Lib.hid (Q7.out.below KB.out)
      replace K7 := Lib.hid (K7.out.next KB.out)
      replace P8 := Lib.hid (P8.out.below KB.out)
      replace Q8 := Lib.hid (Q8.out.below KB.out)
      go_upto_region 5 with (fail)
      clear KB
      generalize hW : w4.alloc (.cells #[.slice A8 D.length c8, .slice B8 V.length e8] 29) = W8 at *
      clear hW
      generalize w4.heap.size = g8 at *
      obtain ⟨qK70, qK71, -, -⟩ := K7.out.all
      obtain ⟨qK80, qK81, -, -⟩ := K8.out.all
      go_wp2_with fail
      refine (rsame_eq _ _ D _ _ V _ _ _ _ _ (by omega) (by omega) P7.out Q7.out P8.out Q8.out).mono ?_
      rintro r w5 ⟨rfl, hb⟩
      clear qK70 qK71 qK80 qK81
      replace S := Lib.hid (S.out.next hb)
      replace T := Lib.hid (T.out.below hb)
      replace ID := Lib.hid (ID.out.below hb)
      replace IV := Lib.hid (IV.out.below hb)
      replace IE := Lib.hid (IE.out.below hb)
      replace IU := Lib.hid (IU.out.below hb)
      replace P7 := Lib.hid (P7.out.below hb)
      replace Q7 := Lib.hid (Q7.out.below hb)
      replace K7 := Lib.hid (K7.out.next hb)
      replace P8 := Lib.hid (P8.out.below hb)
      replace Q8 := Lib.hid (Q8.out.below hb)
      replace K8 := Lib.hid (K8.out.next hb)
      clear hb
      go_wp2_with fail
      refine (lives_any _ T.out).mono ?_
      rintro r w6 ⟨rfl, hb⟩
      replace S := Lib.hid (S.out.next hb)
      replace T := Lib.hid (T.out.below hb)
      replace ID := Lib.hid (ID.out.below hb)
      replace IV := Lib.hid (IV.out.below hb)
      replace IE := Lib.hid (IE.out.below hb)
      replace IU := Lib.hid (IU.out.below hb)
      replace P7 := Lib.hid (P7.out.below hb)
      replace Q7 := Lib.hid (Q7.out.below hb)
      replace K7 := Lib.hid (K7.out.next hb)
      replace P8 := Lib.hid (P8.out.below hb)
      replace Q8 := Lib.hid (Q8.out.below hb)
      replace K8 := Lib.hid (K8.out.next hb)
      clear hb
      go_wp2
      go_ret
      exact ⟨ret_bool (by simp), S.out.2.2.2⟩
    · have H1 := Lib.hid h1
      have H2 := Lib.hid h2
      clear h1 h2
      have hs0 := tw4_start w cf sf cg sg (.slice A d.length c1) (.slice B v.length c2) (.slice A' e.length c1') (.slice B' u.length c2')
      have S := Lib.hid (hs0)
      have T := Lib.hid (hT.below S.out.2.2.2)
      clear hs0 hT id iv ie iu
      go_enter Tryd.func3, Tryd.ntmps3
      obtain ⟨f0, f1, f2, f3⟩ := bx4 S.out.1
      obtain ⟨a0, a1, -, -⟩ := S.out.2.1.all
      obtain ⟨b0, b1, -, -⟩ := S.out.2.2.1.all
      go_wp2_with fail
      refine (great_no _ _ _ _ _ _ _ H1.out.1 H1.out.2).mono ?_
      rintro r w1 ⟨rfl, hb⟩
      clear f0 f1 f2 f3 a0 a1 b0 b1
      replace S := Lib.hid (S.out.next hb)
      replace T := Lib.hid (T.out.below hb)
      clear hb
      obtain ⟨f0, f1, f2, f3⟩ := bx4 S.out.1
      obtain ⟨a0, a1, -, -⟩ := S.out.2.1.all
      obtain ⟨b0, b1, -, -⟩ := S.out.2.2.1.all
      go_wp2_with fail
      refine (great_yes _ _ _ _ _ _ _ H2.out).mono ?_
      rintro r w2 ⟨rfl, hb⟩
      clear f0 f1 f2 f3 a0 a1 b0 b1
      replace S := Lib.hid (S.out.next hb)
      replace T := Lib.hid (T.out.below hb)
      clear hb
      go_wp2_with fail
      refine (lives_any _ T.out).mono ?_
      rintro r w3 ⟨rfl, hb⟩
      replace S := Lib.hid (S.out.next hb)
      replace T := Lib.hid (T.out.below hb)
      clear hb
      go_wp2
      go_ret
      exact ⟨rfl, S.out.2.2.2⟩
  · have H1 := Lib.hid h1
    clear h1
    have hs0 := tw4_start w cf sf cg sg (.slice A d.length c1) (.slice B v.length c2) (.slice A' e.length c1') (.slice B' u.length c2')
    have S := Lib.hid (hs0)
    have T := Lib.hid (hT.below S.out.2.2.2)
    clear hs0 hT id iv ie iu
    go_enter Tryd.func3, Tryd.ntmps3
    obtain ⟨f0, f1, f2, f3⟩ := bx4 S.out.1
    obtain ⟨a0, a1, -, -⟩ := S.out.2.1.all
    obtain ⟨b0, b1, -, -⟩ := S.out.2.2.1.all
    go_wp2_with fail
    refine (great_yes _ _ _ _ _ _ _ H1.out).mono ?_
    rintro r w1 ⟨rfl, hb⟩
    clear f0 f1 f2 f3 a0 a1 b0 b1
    replace S := Lib.hid (S.out.next hb)
    replace T := Lib.hid (T.out.below hb)
    clear hb
    go_wp2_with fail
    refine (lives_any _ T.out).mono ?_
    rintro r w2 ⟨rfl, hb⟩
    replace S := Lib.hid (S.out.next hb)
    replace T := Lib.hid (T.out.below hb)
    clear hb
    go_wp2
    go_ret
    exact ⟨rfl, S.out.2.2.2⟩

theorem contract (H : Type) (enc : TypeId × Value → H) (W : World) (base : Nat) (args : Array Value) (ds gs : List (DataW H)) (before : List MemPlace)
    (hval : ∀ (j : Nat) t v, Tryd.f3.params[j]? = some t → args[j]? = some v → Value.okWide Tryd.prog W .any base t v)
    (hW : DataW.Whole enc Tryd.prog Tryd.f3.params.toList Rows.productInnersSpec.vars false W args.toList ds gs before) (hL : laidMetH Tryd.prog Rows.productInnersRow.laid W) :
    Calls Tryd.prog 3 args W fun e W' => ∃ v, e = .returned v ∧ Rows.productInnersSpec.post enc Tryd.prog Tryd.f3 false true false false W args v W' := by
  have hW' := hW
  obtain ⟨p, q, hA0, hV, rfl, hfz, hnd⟩ := hW
  have hA : DataW.TrodAll enc Tryd.prog W 0 (fun _ => true) true Tryd.f3.params.toList args.toList ds p := hA0
  rw [Tryd.params3] at hA hval
  obtain ⟨v0, vs0, dd0, ds0, p0, q0, hargs, rfl, rfl, h0, r0⟩ := trodAll_cons hA
  obtain ⟨v1, vs1, dd1, ds1, p1, q1, rfl, rfl, rfl, h1, r1⟩ := trodAll_cons r0
  obtain ⟨v2, vs2, dd2, ds2, p2, q2, rfl, rfl, rfl, h2, r2⟩ := trodAll_cons r1
  obtain ⟨rfl, rfl, rfl⟩ := trodAll_nil r2
  obtain rfl : args = #[v0, v1, v2] := by cases args; simp_all
  obtain ⟨rfl, rfl⟩ := trodVars_none hV
  have k0 := h0
  have lt0 : ∀ x ∈ p0, x.block < W.heap.size := by obtain ⟨m, hm⟩ := k0; exact DataW.trod_lt m _ _ _ hm
  obtain ⟨c0, s0, x0, y0, rfl, hx0, hy0⟩ := two_arg (hval 0 25 v0 rfl rfl) h0
  have k1 := h1
  have lt1 : ∀ x ∈ p1, x.block < W.heap.size := by obtain ⟨m, hm⟩ := k1; exact DataW.trod_lt m _ _ _ hm
  obtain ⟨A1, c1, l1, B1, e1, m1, rfl, hl1, hm1⟩ := cell_arg (hval 1 29 v1 rfl rfl) h1
  have k2 := h2
  have lt2 : ∀ x ∈ p2, x.block < W.heap.size := by obtain ⟨m, hm⟩ := k2; exact DataW.trod_lt m _ _ _ hm
  obtain ⟨A2, c2, l2, B2, e2, m2, rfl, hl2, hm2⟩ := cell_arg (hval 2 29 v2 rfl rfl) h2
  clear hA0
  refine (walk c0 s0 x0 y0 A1 c1 l1 B1 e1 m1 A2 c2 l2 B2 e2 m2 W (tab_met hL) hl1.1 hm1.1 hl2.1 hm2.1 hl1.2.1 hl1.2.2.1 hl2.2.1 hl2.2.2.1 (allR_of hm1.2.2.2.2) (allR_of hm2.2.2.2.2)).mono fun e W' ⟨he, bel⟩ => ?_
  subst he
  exact ⟨_, rfl, _, _, _, [], _, [], hW', trodAll_mk1 (shut_bool Tryd.underlying4 _), (trodAll_cons_mk (Below.trod laidOut (by kernel_rfl) (of_decide_eq_true (by kernel_rfl)) k0 bel lt0) (trodAll_cons_mk (Below.trod laidOut (by kernel_rfl) (of_decide_eq_true (by kernel_rfl)) k1 bel lt1) (trodAll_cons_mk (Below.trod laidOut (by kernel_rfl) (of_decide_eq_true (by kernel_rfl)) k2 bel lt2) trodAll_mk0))), rfl, bel.frame _, fun h => by cases h⟩

theorem witness (os : Os) {H : Type} (enc : TypeId × Value → H) :
    (OpenSpec.ofChange Rows.productInnersSpec).preRow enc Tryd.prog Tryd.f3 Rows.productInnersRow.domain false Rows.productInnersRow.laid ((laidWorld os).forCall (fun _ _ => 0) ⟨#[], #[.agg #[.int .i64 0, .bool false, .int .i64 0, .bool false], .agg #[.slice none 0 0, .slice none 0 0], .agg #[.slice none 0 0, .slice none 0 0]], []⟩).memory #[.agg #[.int .i64 0, .bool false, .int .i64 0, .bool false], .agg #[.slice none 0 0, .slice none 0 0], .agg #[.slice none 0 0, .slice none 0 0]] := by
  have hw : (DataW.whole enc Tryd.prog ((laidWorld os).forCall (fun _ _ => 0) ⟨#[], #[.agg #[.int .i64 0, .bool false, .int .i64 0, .bool false], .agg #[.slice none 0 0, .slice none 0 0], .agg #[.slice none 0 0, .slice none 0 0]], []⟩).memory Tryd.f3.params.toList Rows.productInnersSpec.vars false (#[.agg #[.int .i64 0, .bool false, .int .i64 0, .bool false], .agg #[.slice none 0 0, .slice none 0 0], .agg #[.slice none 0 0, .slice none 0 0]] : Array Value).toList 8).map (fun x => (x.1, x.2.1)) =
      some ([.agg [.agg [.lit (.int .i64 0), .lit (.bool false)], .agg [.lit (.int .i64 0), .lit (.bool false)]], .agg [.nil, .nil], .agg [.nil, .nil]], []) := by kernel_rfl
  obtain ⟨⟨x1, x2, x3⟩, hx, hx1⟩ := Option.map_eq_some_iff.1 hw
  simp only [Prod.mk.injEq] at hx1
  obtain ⟨rfl, rfl⟩ := hx1
  exact OpenSpec.preRow_of_cond 8 hx (by kernel_rfl) (fun k hk => by cases hk) (by kernel_rfl) (laid_met os _)

set_option maxRecDepth 100000 in
theorem lifted (os : Os) (started : os.Started) (H : Type) (enc : TypeId × Value → H) (F : Stop.Interp) :
    ReturnsInHanded {} Tryd.checked os 3 .any ((OpenSpec.ofChange Rows.productInnersSpec).preRow enc Tryd.prog Tryd.f3 Rows.productInnersRow.domain false Rows.productInnersRow.laid) (((OpenSpec.ofChange Rows.productInnersSpec).at F).post enc Tryd.prog Tryd.f3 false true false false) := by
  refine returnsInHanded_of_row (C := Tryd.checked) (s := OpenSpec.ofChange Rows.productInnersSpec) own started (by kernel_rfl) Tryd.func3
    (witness_row_atRef (enc := enc) (C := Tryd.checked) false (laidWorld os) #[.agg #[.int .i64 0, .bool false, .int .i64 0, .bool false], .agg #[.slice none 0 0, .slice none 0 0], .agg #[.slice none 0 0, .slice none 0 0]] rfl (by kernel_rfl) (by kernel_rfl) (by kernel_rfl) (witness os enc)) ?_
  intro W base args ds gs before hval hW _ _ _ hL _ _
  exact contract H enc W base args ds gs before hval hW hL

theorem said : Rows.ProductInnersSaid :=
  OpenClaim.holds_of_cond 3 Tryd.f3 rfl rfl rfl rfl rfl rfl rfl ⟨rfl, rfl, rfl, rfl, rfl⟩ rfl rfl rfl rfl rfl (by kernel_rfl) Tryd.func3 (by kernel_rfl)
    (of_decide_eq_true (by kernel_rfl)) (by unfold Func.isWrapper; first | (rw [if_pos (by decide +kernel)]; kernel_rfl) | (rw [if_neg (by decide +kernel)]; exact ⟨rfl, rfl⟩))
    (fun os started H enc _ F => by rw [OpenClaim.pre_eq_preRow]; exact lifted os started H enc F)

theorem plain (f : FuncId) (fn : Func) (hf : Tryd.pinned.checked.prog.funcNamed Rows.productInnersRow.func = some f) (hfn : Tryd.pinned.checked.prog.funcs[f]? = some fn) :
    true = Tryd.pinned.checked.prog.looks [] ∧ ∀ (j : Nat) t, fn.params[j]? = some t → Tryd.pinned.checked.prog.wantsStandIn t = false := by
  obtain rfl : f = 3 := Option.some.inj ((show Tryd.prog.funcNamed Rows.productInnersRow.func = some 3 by kernel_rfl).symm.trans hf) |>.symm
  obtain rfl : fn = Tryd.f3 := (Option.some.inj (Tryd.func3.symm.trans hfn)).symm
  refine ⟨by kernel_rfl, fun j t ht => ?_⟩
  rw [Tryd.params3] at ht
  have hm := Array.mem_of_getElem? ht
  simp only [List.mem_toArray, List.mem_cons, List.not_mem_nil, or_false] at hm
  rcases hm with rfl | rfl | rfl
  · exact (show Tryd.prog.wantsStandIn 25 = false by kernel_rfl)
  · exact (show Tryd.prog.wantsStandIn 29 = false by kernel_rfl)
  · exact (show Tryd.prog.wantsStandIn 29 = false by kernel_rfl)

theorem proved : Rows.ProductInnersCardSaid :=
  Claim7.holds_tied_plain_at .later [] _ _ _ _ said (fun _ h => by cases h) (by kernel_rfl) (fun _ h => by cases h) productInners_row_tie rfl ⟨rfl, rfl⟩ (by kernel_rfl) rfl plain (by kernel_rfl)
end Go.Proofs.YtbanegjmapgkdaaDoor.productInners
