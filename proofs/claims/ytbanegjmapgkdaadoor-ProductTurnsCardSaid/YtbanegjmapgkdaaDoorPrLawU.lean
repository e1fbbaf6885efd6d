/-
  Proved: for any two functions and any two cells rifflelaw09.ProductTurns returns true, and each argument reads afterwards as it read before. The card is tied to the text that lays scalar.traits; it speaks of the pruned copy of the project that this seat's roots load. No other condition.
-/
import Derived.Test.YtbanegjmapgkdaaDoorPrLawI
import Derived.Test.YtbanegjmapgkdaaDoorPrTurnM
set_option maxRecDepth 100000
namespace Go.Proofs.YtbanegjmapgkdaaDoor.productTurns
open Go.Proofs.YtbanegjmapgkdaaDoor.Sh Go.Proofs.YtbanegjmapgkdaaDoor.Fd Go.Proofs.YtbanegjmapgkdaaDoor.Pr
open Go.Joins Go.ChangeShapes Go.WideShapes Go.ChangeAt Go.RowKit Go.Deep
open Go.Proofs.YtbanegjmapgkdaaDoor.productInners (inD inV inD_len inV_len inn_w)
set_option linter.unusedVariables false

theorem turn_w (A : Option Addr) (c : Nat) (d D : List Int) (B : Option Addr) (c2 : Nat) (v V : List Int) (w : World) (hD : d.reverse = D) (hV : tuV d v = V) (h : cellB d v.length = true) (id : Ints w A d) (iv : Ints w B v) :
    Calls Tryd.prog 20 #[.agg #[.slice A d.length c, .slice B v.length c2]] w (RetCI w D V (.int .i64 0)) := by
  obtain ⟨h1, h2⟩ := cellB_small h
  have := turn_any A c d B c2 v w id iv (by omega) (by omega)
  rw [(ok_yes h _).2, (ok_yes h _).2, (ok_yes h d).1, hV, hD] at this
  exact this.mono fun _ _ h => h.ci
theorem tuV_R {d v : List Int} (h : AllR v) : AllR (tuV d v) := by
  intro x hx
  simp only [tuV, List.mem_map] at hx
  obtain ⟨k, _, rfl⟩ := hx
  exact atI_R h _ _
set_option maxHeartbeats 4000000 in
set_option maxRecDepth 100000 in
theorem walk_1 (cf : Int) (sf : Bool) (cg : Int) (sg : Bool) (A : Option Addr) (c1 : Nat) (d : List Int) (B : Option Addr) (c2 : Nat) (v : List Int) (A' : Option Addr) (c1' : Nat) (e : List Int) (B' : Option Addr) (c2' : Nat) (u : List Int) (w : World) (hT : Sc.Tab w) (id : Ints w A d) (iv : Ints w B v) (ie : Ints w A' e) (iu : Ints w B' u) (rv : AllR v) (ru : AllR u) (h1 : ¬ (d.length ≤ 10 ∧ v.length ≤ 200)) :
    Calls Tryd.prog 6 #[.agg #[.int .i64 cf, .bool sf, .int .i64 cg, .bool sg], .agg #[.slice A d.length c1, .slice B v.length c2], .agg #[.slice A' e.length c1', .slice B' u.length c2']] w fun e w' => e = .returned (.bool true) ∧ Below w.heap.size w w' := by
  have H1 := Lib.hid h1
  clear h1
  have hs0 := tw4_start w cf sf cg sg (.slice A d.length c1) (.slice B v.length c2) (.slice A' e.length c1') (.slice B' u.length c2')
  have S := Lib.hid (hs0)
  have T := Lib.hid (hT.below S.out.2.2.2)
  clear hs0 hT id iv ie iu
  go_enter Tryd.func6, Tryd.ntmps6
  obtain ⟨f0, f1, f2, f3⟩ := bx4 S.out.1
  obtain ⟨a0, a1, -, -⟩ := S.out.2.1.all
  obtain ⟨b0, b1, -, -⟩ := S.out.2.2.1.all
  go_wp2_with fail
  refine (great_yes _ _ _ _ _ _ _ H1.out).mono ?_
  rintro r w1 ⟨rfl, hb⟩
  clear f0 f1 f2 f3 a0 a1 b0 b1
  replace S := Lib.hid (S.out.next hb)
  replace T := Lib.hid (T.out.below hb)
  clear hb
  go_wp2_with fail
  refine (lives_any _ T.out).mono ?_
  rintro r w2 ⟨rfl, hb⟩
  replace S := Lib.hid (S.out.next hb)
  replace T := Lib.hid (T.out.below hb)
  clear hb
  go_wp2
  go_ret
  exact ⟨rfl, S.out.2.2.2⟩
set_option maxHeartbeats 4000000 in
set_option maxRecDepth 100000 in
theorem walk_2 (cf : Int) (sf : Bool) (cg : Int) (sg : Bool) (A : Option Addr) (c1 : Nat) (d : List Int) (B : Option Addr) (c2 : Nat) (v : List Int) (A' : Option Addr) (c1' : Nat) (e : List Int) (B' : Option Addr) (c2' : Nat) (u : List Int) (w : World) (hT : Sc.Tab w) (id : Ints w A d) (iv : Ints w B v) (ie : Ints w A' e) (iu : Ints w B' u) (rv : AllR v) (ru : AllR u) (h1 : d.length ≤ 10 ∧ v.length ≤ 200) (h2 : ¬ (e.length ≤ 10 ∧ u.length ≤ 200)) :
    Calls Tryd.prog 6 #[.agg #[.int .i64 cf, .bool sf, .int .i64 cg, .bool sg], .agg #[.slice A d.length c1, .slice B v.length c2], .agg #[.slice A' e.length c1', .slice B' u.length c2']] w fun e w' => e = .returned (.bool true) ∧ Below w.heap.size w w' := by
  have H2 := Lib.hid h2
  clear h2
  have hs0 := tw4_start w cf sf cg sg (.slice A d.length c1) (.slice B v.length c2) (.slice A' e.length c1') (.slice B' u.length c2')
  have S := Lib.hid (hs0)
  have T := Lib.hid (hT.below S.out.2.2.2)
  clear hs0 hT id iv ie iu
  go_enter Tryd.func6, Tryd.ntmps6
  obtain ⟨f0, f1, f2, f3⟩ := bx4 S.out.1
  obtain ⟨a0, a1, -, -⟩ := S.out.2.1.all
  obtain ⟨b0, b1, -, -⟩ := S.out.2.2.1.all
  go_wp2_with fail
  refine (great_no _ _ _ _ _ _ _ h1.1 h1.2).mono ?_
  rintro r w1 ⟨rfl, hb⟩
  clear f0 f1 f2 f3 a0 a1 b0 b1
  replace S := Lib.hid (S.out.next hb)
  replace T := Lib.hid (T.out.below hb)
  clear hb
  obtain ⟨f0, f1, f2, f3⟩ := bx4 S.out.1
  obtain ⟨a0, a1, -, -⟩ := S.out.2.1.all
  obtain ⟨b0, b1, -, -⟩ := S.out.2.2.1.all
  go_wp2_with fail
  refine (great_yes _ _ _ _ _ _ _ H2.out).mono ?_
  rintro r w2 ⟨rfl, hb⟩
  clear f0 f1 f2 f3 a0 a1 b0 b1
  replace S := Lib.hid (S.out.next hb)
  replace T := Lib.hid (T.out.below hb)
  clear hb
  go_wp2_with fail
  refine (lives_any _ T.out).mono ?_
  rintro r w3 ⟨rfl, hb⟩
  replace S := Lib.hid (S.out.next hb)
  replace T := Lib.hid (T.out.below hb)
  clear hb
  go_wp2
  go_ret
  exact ⟨rfl, S.out.2.2.2⟩
set_option maxHeartbeats 4000000 in
set_option maxRecDepth 100000 in
theorem walk_3 (cf : Int) (sf : Bool) (cg : Int) (sg : Bool) (A : Option Addr) (c1 : Nat) (d : List Int) (B : Option Addr) (c2 : Nat) (v : List Int) (A' : Option Addr) (c1' : Nat) (e : List Int) (B' : Option Addr) (c2' : Nat) (u : List Int) (w : World) (hT : Sc.Tab w) (id : Ints w A d) (iv : Ints w B v) (ie : Ints w A' e) (iu : Ints w B' u) (rv : AllR v) (ru : AllR u) (h1 : d.length ≤ 10 ∧ v.length ≤ 200) (h2 : e.length ≤ 10 ∧ u.length ≤ 200) (E : Int) (hE : innE cf sf cg sg d v.length e u.length = E) (D V : List Int) (hD : inD cf sf cg sg d v.length e u.length = D) (hV : inV cf sf cg sg d v e u = V) (hN : E ≠ 0) :
    Calls Tryd.prog 6 #[.agg #[.int .i64 cf, .bool sf, .int .i64 cg, .bool sg], .agg #[.slice A d.length c1, .slice B v.length c2], .agg #[.slice A' e.length c1', .slice B' u.length c2']] w fun e w' => e = .returned (.bool true) ∧ Below w.heap.size w w' := by
  have RV := Lib.hid rv
  have RU := Lib.hid ru
  have HE := Lib.hid hE
  have HD := Lib.hid hD
  have HV := Lib.hid hV
  obtain ⟨hd, hv⟩ := h1
  obtain ⟨he, hu⟩ := h2
  clear rv ru hE hD hV
  have HN := Lib.hid hN
  clear hN
  have hs0 := tw4_start w cf sf cg sg (.slice A d.length c1) (.slice B v.length c2) (.slice A' e.length c1') (.slice B' u.length c2')
  have S := Lib.hid (hs0)
  have T := Lib.hid (hT.below S.out.2.2.2)
  have ID := Lib.hid (id.below S.out.2.2.2)
  have IV := Lib.hid (iv.below S.out.2.2.2)
  have IE := Lib.hid (ie.below S.out.2.2.2)
  have IU := Lib.hid (iu.below S.out.2.2.2)
  clear hs0 hT id iv ie iu
  go_enter Tryd.func6, Tryd.ntmps6
  obtain ⟨f0, f1, f2, f3⟩ := bx4 S.out.1
  obtain ⟨a0, a1, -, -⟩ := S.out.2.1.all
  obtain ⟨b0, b1, -, -⟩ := S.out.2.2.1.all
  go_wp2_with fail
  refine (great_no _ _ _ _ _ _ _ hd hv).mono ?_
  rintro r w1 ⟨rfl, hb⟩
  clear f0 f1 f2 f3 a0 a1 b0 b1
  replace S := Lib.hid (S.out.next hb)
  replace T := Lib.hid (T.out.below hb)
  replace ID := Lib.hid (ID.out.below hb)
  replace IV := Lib.hid (IV.out.below hb)
  replace IE := Lib.hid (IE.out.below hb)
  replace IU := Lib.hid (IU.out.below hb)
  clear hb
  obtain ⟨f0, f1, f2, f3⟩ := bx4 S.out.1
  obtain ⟨a0, a1, -, -⟩ := S.out.2.1.all
  obtain ⟨b0, b1, -, -⟩ := S.out.2.2.1.all
  go_wp2_with fail
  refine (great_no _ _ _ _ _ _ _ he hu).mono ?_
  rintro r w2 ⟨rfl, hb⟩
  clear f0 f1 f2 f3 a0 a1 b0 b1
  replace S := Lib.hid (S.out.next hb)
  replace T := Lib.hid (T.out.below hb)
  replace ID := Lib.hid (ID.out.below hb)
  replace IV := Lib.hid (IV.out.below hb)
  replace IE := Lib.hid (IE.out.below hb)
  replace IU := Lib.hid (IU.out.below hb)
  clear hb
  obtain ⟨f0, f1, f2, f3⟩ := bx4 S.out.1
  obtain ⟨a0, a1, -, -⟩ := S.out.2.1.all
  obtain ⟨b0, b1, -, -⟩ := S.out.2.2.1.all
  go_wp2_with fail
  refine (inn_w cf sf cg sg _ _ d _ _ v _ _ e _ _ u _ E D V HE.out HD.out HV.out T.out ID.out IV.out IE.out IU.out hd he RV.out RU.out).mono ?_
  rintro r w3 ⟨A7, c7, B7, e7, rfl, j1, j2, hb⟩
  clear f0 f1 f2 f3 a0 a1 b0 b1
  replace S := Lib.hid (S.out.next hb)
  replace T := Lib.hid (T.out.below hb)
  replace ID := Lib.hid (ID.out.below hb)
  replace IV := Lib.hid (IV.out.below hb)
  replace IE := Lib.hid (IE.out.below hb)
  replace IU := Lib.hid (IU.out.below hb)
  clear hb
  have P7 := Lib.hid j1
  have Q7 := Lib.hid j2
  clear j1 j2
  have KB := Lib.hid (below_new w3 (.cells #[.slice A7 D.length c7, .slice B7 V.length e7] 29))
  have K7 := Lib.hid (Box.new w3 (.slice A7 D.length c7) (.slice B7 V.length e7))
  replace S := Lib.hid (S.out.next KB.out)
  replace T := Lib.hid (T.out.below KB.out)
  replace ID := Lib.hid (ID.out.below KB.out)
  replace IV := Lib.hid (IV.out.below KB.out)
  replace IE := Lib.hid (IE.out.below KB.out)
  replace IU := Lib.hid (IU.out.below KB.out)
  replace P7 := Lib.hid (P7.out.below KB.out)
  replace Q7 := Lib.hid (Q7.out.below KB.out)
  go_upto_region 4 with (fail)
  clear KB
  generalize hW : w3.alloc (.cells #[.slice A7 D.length c7, .slice B7 V.length e7] 29) = W7 at *
  clear hW
  generalize w3.heap.size = g7 at *
  have hne : (E != 0) = true := by simpa using HN.out
  have HV0 := Lib.hid (show V = [] by rw [← HV.out]; unfold inV; rw [if_neg (by rw [HE.out]; exact HN.out)])
  rw [HV0.out] at K7 Q7
  obtain ⟨qK70, qK71, -, -⟩ := K7.out.all
  go_wp2_with fail
  refine (lives_any _ T.out).mono ?_
  rintro r w4 ⟨rfl, hb⟩
  clear qK70 qK71
  replace S := Lib.hid (S.out.next hb)
  replace T := Lib.hid (T.out.below hb)
  replace ID := Lib.hid (ID.out.below hb)
  replace IV := Lib.hid (IV.out.below hb)
  replace IE := Lib.hid (IE.out.below hb)
  replace IU := Lib.hid (IU.out.below hb)
  replace P7 := Lib.hid (P7.out.below hb)
  replace Q7 := Lib.hid (Q7.out.below hb)
  replace K7 := Lib.hid (K7.out.next hb)
  clear hb
  go_wp2
  go_ret
  exact ⟨ret_bool (by simp), S.out.2.2.2⟩
set_option maxHeartbeats 8000000 in
set_option maxRecDepth 100000 in
theorem walk_0 (cf : Int) (sf : Bool) (cg : Int) (sg : Bool) (A : Option Addr) (c1 : Nat) (d : List Int) (B : Option Addr) (c2 : Nat) (v : List Int) (A' : Option Addr) (c1' : Nat) (e : List Int) (B' : Option Addr) (c2' : Nat) (u : List Int) (w : World) (hT : Sc.Tab w) (id : Ints w A d) (iv : Ints w B v) (ie : Ints w A' e) (iu : Ints w B' u) (rv : AllR v) (ru : AllR u) (h1 : d.length ≤ 10 ∧ v.length ≤ 200) (h2 : e.length ≤ 10 ∧ u.length ≤ 200) (E : Int) (hE : innE cf sf cg sg d v.length e u.length = E) (D V : List Int) (hD : inD cf sf cg sg d v.length e u.length = D) (hV : inV cf sf cg sg d v e u = V) (hN : E = 0) :
    Calls Tryd.prog 6 #[.agg #[.int .i64 cf, .bool sf, .int .i64 cg, .bool sg], .agg #[.slice A d.length c1, .slice B v.length c2], .agg #[.slice A' e.length c1', .slice B' u.length c2']] w fun e w' => e = .returned (.bool true) ∧ Below w.heap.size w w' := by
  have RV := Lib.hid rv
  have RU := Lib.hid ru
  have HE := Lib.hid hE
  have HD := Lib.hid hD
  have HV := Lib.hid hV
  obtain ⟨hd, hv⟩ := h1
  obtain ⟨he, hu⟩ := h2
  clear rv ru hE hD hV
  have HN := Lib.hid hN
  obtain ⟨hc1, hc2⟩ := inn_cells (HE.out.trans hN)
  obtain ⟨q1, q2, q3, q4⟩ := inn_turn (sg := sg) (sf := sf) hc1 hc2 (HE.out.trans hN)
  have HD2 := Lib.hid (show aheadL d ++ behindL e = D by rw [← HD.out]; unfold inD; rw [if_pos (HE.out.trans hN)])
  have HV2 := Lib.hid (show innV cf sf cg sg d v e u = V by rw [← HV.out]; unfold inV; rw [if_pos (HE.out.trans hN)])
  rw [HD2.out] at q2 q3 q4
  rw [HV2.out] at q3 q4
  have H1 := Lib.hid hc1
  have H2 := Lib.hid hc2
  have HC15 := Lib.hid q4
  obtain ⟨D9, hD9⟩ : ∃ q, d.reverse = q := ⟨_, rfl⟩
  obtain ⟨V9, hV9⟩ : ∃ q, tuV d v = q := ⟨_, rfl⟩
  obtain ⟨D11, hD11⟩ : ∃ q, e.reverse = q := ⟨_, rfl⟩
  obtain ⟨V11, hV11⟩ : ∃ q, tuV e u = q := ⟨_, rfl⟩
  obtain ⟨D13, hD13⟩ : ∃ q, D.reverse = q := ⟨_, rfl⟩
  obtain ⟨V13, hV13⟩ : ∃ q, tuV D V = q := ⟨_, rfl⟩
  have HL9 := Lib.hid (show D9.length ≤ 10 by rw [← hD9, List.length_reverse]; exact hd)
  have HL11 := Lib.hid (show D11.length ≤ 10 by rw [← hD11, List.length_reverse]; exact he)
  have HL13 := Lib.hid (show D13.length ≤ 20 by rw [← hD13, List.length_reverse, ← HD.out]; exact inD_len hd he)
  have HVL13 := Lib.hid (show V13.length ≤ 64 by rw [← hV13]; unfold tuV; have := sizeI_bd D.reverse; simp; omega)
  have RV9 := Lib.hid (show AllR V9 by rw [← hV9]; exact tuV_R RV.out)
  have RV11 := Lib.hid (show AllR V11 by rw [← hV11]; exact tuV_R RU.out)
  rw [hD9, hV9, hD11, hV11] at q1 q3
  rw [hD9, hD11, hD13] at q2
  rw [hV13] at q3
  have HE13 := Lib.hid q1
  have HD13 := Lib.hid (show inD cf sf cg (!sg) D11 V11.length D9 V9.length = D13 by unfold inD; rw [if_pos q1, q2])
  have HV13 := Lib.hid (show inV cf sf cg (!sg) D11 V11 D9 V9 = V13 by unfold inV; rw [if_pos q1, q3])
  have HD9 := Lib.hid hD9
  have HV9 := Lib.hid hV9
  have HD11 := Lib.hid hD11
  have HV11 := Lib.hid hV11
  have HD15 := Lib.hid hD13
  have HV15 := Lib.hid hV13
  clear hN hc1 hc2 q1 q2 q3 q4 hD9 hV9 hD11 hV11 hD13 hV13
  have hs0 := tw4_start w cf sf cg sg (.slice A d.length c1) (.slice B v.length c2) (.slice A' e.length c1') (.slice B' u.length c2')
  have S := Lib.hid (hs0)
  have T := Lib.hid (hT.below S.out.2.2.2)
  have ID := Lib.hid (id.below S.out.2.2.2)
  have IV := Lib.hid (iv.below S.out.2.2.2)
  have IE := Lib.hid (ie.below S.out.2.2.2)
  have IU := Lib.hid (iu.below S.out.2.2.2)
  clear hs0 hT id iv ie iu
  go_enter Tryd.func6, Tryd.ntmps6
  obtain ⟨f0, f1, f2, f3⟩ := bx4 S.out.1
  obtain ⟨a0, a1, -, -⟩ := S.out.2.1.all
  obtain ⟨b0, b1, -, -⟩ := S.out.2.2.1.all
  go_wp2_with fail
  refine (great_no _ _ _ _ _ _ _ hd hv).mono ?_
  rintro r w1 ⟨rfl, hb⟩
  clear f0 f1 f2 f3 a0 a1 b0 b1
  replace S := Lib.hid (S.out.next hb)
  replace T := Lib.hid (T.out.below hb)
  replace ID := Lib.hid (ID.out.below hb)
  replace IV := Lib.hid (IV.out.below hb)
  replace IE := Lib.hid (IE.out.below hb)
  replace IU := Lib.hid (IU.out.below hb)
  clear hb
  obtain ⟨f0, f1, f2, f3⟩ := bx4 S.out.1
  obtain ⟨a0, a1, -, -⟩ := S.out.2.1.all
  obtain ⟨b0, b1, -, -⟩ := S.out.2.2.1.all
  go_wp2_with fail
  refine (great_no _ _ _ _ _ _ _ he hu).mono ?_
  rintro r w2 ⟨rfl, hb⟩
  clear f0 f1 f2 f3 a0 a1 b0 b1
  replace S := Lib.hid (S.out.next hb)
  replace T := Lib.hid (T.out.below hb)
  replace ID := Lib.hid (ID.out.below hb)
  replace IV := Lib.hid (IV.out.below hb)
  replace IE := Lib.hid (IE.out.below hb)
  replace IU := Lib.hid (IU.out.below hb)
  clear hb
  obtain ⟨f0, f1, f2, f3⟩ := bx4 S.out.1
  obtain ⟨a0, a1, -, -⟩ := S.out.2.1.all
  obtain ⟨b0, b1, -, -⟩ := S.out.2.2.1.all
  go_wp2_with fail
  refine (inn_w cf sf cg sg _ _ d _ _ v _ _ e _ _ u _ E D V HE.out HD.out HV.out T.out ID.out IV.out IE.out IU.out hd he RV.out RU.out).mono ?_
  rintro r w3 ⟨A7, c7, B7, e7, rfl, j1, j2, hb⟩
  clear f0 f1 f2 f3 a0 a1 b0 b1
  replace S := Lib.hid (S.out.next hb)
  replace T := Lib.hid (T.out.below hb)
  replace ID := Lib.hid (ID.out.below hb)
  replace IV := Lib.hid (IV.out.below hb)
  replace IE := Lib.hid (IE.out.below hb)
  replace IU := Lib.hid (IU.out.below hb)
  clear hb
  have P7 := Lib.hid j1
  have Q7 := Lib.hid j2
  clear j1 j2
  have KB := Lib.hid (below_new w3 (.cells #[.slice A7 D.length c7, .slice B7 V.length e7] 29))
  have K7 := Lib.hid (Box.new w3 (.slice A7 D.length c7) (.slice B7 V.length e7))
  replace S := Lib.hid (S.out.next KB.out)
  replace T := Lib.hid (T.out.below KB.out)
  replace ID := Lib.hid (ID.out.below KB.out)
  replace IV := Lib.hid (IV.out.below KB.out)
  replace IE := Lib.hid (IE.out.below KB.out)
  replace IU := Lib.hid (IU.out.below KB.out)
  replace P7 := Lib.hid (P7.out.below KB.out)
  replace Q7 := Lib.hid (Q7.out.below KB.out)
  go_upto_region 4 with (fail)
  clear KB
  generalize hW : w3.alloc (.cells #[.slice A7 D.length c7, .slice B7 V.length e7] 29) = W7 at *
  clear hW
  generalize w3.heap.size = g7 at *
  have hne : (E != 0) = false := by simp [HN.out]
  obtain ⟨f0, f1, f2, f3⟩ := bx4 S.out.1
  obtain ⟨a0, a1, -, -⟩ := S.out.2.1.all
  obtain ⟨b0, b1, -, -⟩ := S.out.2.2.1.all
  go_wp2_with fail
  refine (turn_w _ _ d D9 _ _ v V9 _ HD9.out HV9.out H1.out ID.out IV.out).mono ?_
  rintro r w4 ⟨A9, c9, B9, e9, rfl, j1, j2, hb⟩
  clear f0 f1 f2 f3 a0 a1 b0 b1
  replace S := Lib.hid (S.out.next hb)
  replace T := Lib.hid (T.out.below hb)
  replace ID := Lib.hid (ID.out.below hb)
  replace IV := Lib.hid (IV.out.below hb)
  replace IE := Lib.hid (IE.out.below hb)
  replace IU := Lib.hid (IU.out.below hb)
  replace P7 := Lib.hid (P7.out.below hb)
  replace Q7 := Lib.hid (Q7.out.below hb)
  replace K7 := Lib.hid (K7.out.next hb)
  clear hb
  have P9 := Lib.hid j1
  have Q9 := Lib.hid j2
  clear j1 j2
  have KB := Lib.hid (below_new w4 (.cells #[.slice A9 D9.length c9, .slice B9 V9.length e9] 29))
  have K9 := Lib.hid (Box.new w4 (.slice A9 D9.length c9) (.slice B9 V9.length e9))
  replace S := Lib.hid (S.out.next KB.out)
  replace T := Lib.hid (T.out.below KB.out)
  replace ID := Lib.hid (ID.out.below KB.out)
  replace IV := Lib.hid (IV.out.below KB.out)
  replace IE := Lib.hid (IE.out.below KB.out)
  replace IU := Lib.hid (IU.out.below KB.out)
  replace P7 := Lib.hid (P7.out.below KB.out)
  replace Q7 := Lib.hid (Q7.out.below KB.out)
  replace K7 := Lib.hid (K7.out.next KB.out)
  replace P9 := Lib.hid (P9.out.below KB.out)
  replace Q9 := Lib.hid (Q9.out.below KB.out)
  go_upto_region 7 with (fail)
  clear KB
  generalize hW : w4.alloc (.cells #[.slice A9 D9.length c9, .slice B9 V9.length e9] 29) = W9 at *
  clear hW
  generalize w4.heap.size = g9 at *
  obtain ⟨f0, f1, f2, f3⟩ := bx4 S.out.1
  obtain ⟨a0, a1, -, -⟩ := S.out.2.1.all
  obtain ⟨b0, b1, -, -⟩ := S.out.2.2.1.all
  go_wp2_with fail
  refine (turn_w _ _ e D11 _ _ u V11 _ HD11.out HV11.out H2.out IE.out IU.out).mono ?_
  rintro r w5 ⟨A11, c11, B11, e11, rfl, j1, j2, hb⟩
  clear f0 f1 f2 f3 a0 a1 b0 b1
  replace S := Lib.hid (S.out.next hb)
  replace T := Lib.hid (T.out.below hb)
  replace ID := Lib.hid (ID.out.below hb)
  replace IV := Lib.hid (IV.out.below hb)
  replace IE := Lib.hid (IE.out.below hb)
  replace IU := Lib.hid (IU.out.below hb)
  replace P7 := Lib.hid (P7.out.below hb)
  replace Q7 := Lib.hid (Q7.out.below hb)
  replace K7 := Lib.hid (K7.out.next hb)
  replace P9 := Lib.hid (P9.out.below hb)
  replace Q9 := Lib.hid (Q9.out.below hb)
  replace K9 := Lib.hid (K9.out.next hb)
  clear hb
  have P11 := Lib.hid j1
  have Q11 := Lib.hid j2
  clear j1 j2
  have KB := Lib.hid (below_new w5 (.cells #[.slice A11 D11.length c11, .slice B11 V11.length e11] 29))
  have K11 := Lib.hid (Box.new w5 (.slice A11 D11.length c11) (.slice B11 V11.length e11))
  replace S := Lib.hid (S.out.next KB.out)
  replace T := Lib.hid (T.out.below KB.out)
  replace ID := Lib.hid (ID.out.below KB.out)
  replace IV := Lib.hid (IV.out.below KB.out)
  replace IE := Lib.hid (IE.out.below KB.out)
  replace IU := Lib.hid (IU.out.below KB.out)
  replace P7 := Lib.hid (P7.out.below KB.out)
  replace Q7 := Lib.hid (Q7.out.below KB.out)
  replace K7 := Lib.hid (K7.out.next KB.out)
  replace P9 := Lib.hid (P9.out.below KB.out)
  replace Q9 := Lib.hid (Q9.out.below KB.out)
  replace K9 := Lib.hid (K9.out.next KB.out)
  replace P11 := Lib.hid (P11.out.below KB.out)
  replace Q11 := Lib.hid (Q11.out.below KB.out)
  go_upto_region 8 with (fail)
  clear KB
  generalize hW : w5.alloc (.cells #[.slice A11 D11.length c11, .slice B11 V11.length e11] 29) = W11 at *
  clear hW
  generalize w5.heap.size = g11 at *
  obtain ⟨f0, f1, f2, f3⟩ := bx4 S.out.1
  obtain ⟨x0, x1, -, -⟩ := K9.out.all
  obtain ⟨y0, y1, -, -⟩ := K11.out.all
  go_wp2_with fail
  refine (inn_w cf sf cg (!sg) _ _ D11 _ _ V11 _ _ D9 _ _ V9 _ 0 D13 V13 HE13.out HD13.out HV13.out T.out P11.out Q11.out P9.out Q9.out HL11.out HL9.out RV11.out RV9.out).mono ?_
  rintro r w6 ⟨A13, c13, B13, e13, rfl, j1, j2, hb⟩
  clear f0 f1 f2 f3 x0 x1 y0 y1
  replace S := Lib.hid (S.out.next hb)
  replace T := Lib.hid (T.out.below hb)
  replace ID := Lib.hid (ID.out.below hb)
  replace IV := Lib.hid (IV.out.below hb)
  replace IE := Lib.hid (IE.out.below hb)
  replace IU := Lib.hid (IU.out.below hb)
  replace P7 := Lib.hid (P7.out.below hb)
  replace Q7 := Lib.hid (Q7.out.below hb)
  replace K7 := Lib.hid (K7.out.next hb)
  replace P9 := Lib.hid (P9.out.below hb)
  replace Q9 := Lib.hid (Q9.out.below hb)
  replace K9 := Lib.hid (K9.out.next hb)
  replace P11 := Lib.hid (P11.out.below hb)
  replace Q11 := Lib.hid (Q11.out.below hb)
  replace K11 := Lib.hid (K11.out.next hb)
  clear hb
  have P13 := Lib.hid j1
  have Q13 := Lib.hid j2
  clear j1 j2
  have KB := Lib.hid (below_new w6 (.cells #[.slice A13 D13.length c13, .slice B13 V13.length e13] 29))
  have K13 := Lib.hid (Box.new w6 (.slice A13 D13.length c13) (.slice B13 V13.length e13))
  replace S := Lib.hid (S.out.next KB.out)
  replace T := Lib.hid (T.out.below KB.out)
  replace ID := Lib.hid (ID.out.below KB.out)
  replace IV := Lib.hid (IV.out.below KB.out)
  replace IE := Lib.hid (IE.out.below KB.out)
  replace IU := Lib.hid (IU.out.below KB.out)
  replace P7 := Lib.hid (P7.out.below KB.out)
  replace Q7 := Lib.hid (Q7.out.below KB.out)
  replace K7 := Lib.hid (K7.out.next KB.out)
  replace P9 := Lib.hid (P9.out.below KB.out)
  replace Q9 := Lib.hid (Q9.out.below KB.out)
  replace K9 := Lib.hid (K9.out.next KB.out)
  replace P11 := Lib.hid (P11.out.below KB.out)
  replace Q11 := Lib.hid (Q11.out.below KB.out)
  replace K11 := Lib.hid (K11.out.next KB.out)
  replace P13 := Lib.hid (P13.out.below KB.out)
  replace Q13 := Lib.hid (Q13.out.below KB.out)
  go_upto_region 9 with (fail)
  clear KB
  generalize hW : w6.alloc (.cells #[.slice A13 D13.length c13, .slice B13 V13.length e13] 29) = W13 at *
  clear hW
  generalize w6.heap.size = g13 at *
  obtain ⟨qK70, qK71, -, -⟩ := K7.out.all
  go_wp2_with fail
  refine (turn_w _ _ D D13 _ _ V V13 _ HD15.out HV15.out HC15.out P7.out Q7.out).mono ?_
  rintro r w7 ⟨A15, c15, B15, e15, rfl, j1, j2, hb⟩
  clear qK70 qK71
  replace S := Lib.hid (S.out.next hb)
  replace T := Lib.hid (T.out.below hb)
  replace ID := Lib.hid (ID.out.below hb)
  replace IV := Lib.hid (IV.out.below hb)
  replace IE := Lib.hid (IE.out.below hb)
  replace IU := Lib.hid (IU.out.below hb)
  replace P7 := Lib.hid (P7.out.below hb)
  replace Q7 := Lib.hid (Q7.out.below hb)
  replace K7 := Lib.hid (K7.out.next hb)
  replace P9 := Lib.hid (P9.out.below hb)
  replace Q9 := Lib.hid (Q9.out.below hb)
  replace K9 := Lib.hid (K9.out.next hb)
  replace P11 := Lib.hid (P11.out.below hb)
  replace Q11 := Lib.hid (Q11.out.below hb)
  replace K11 := Lib.hid (K11.out.next hb)
  replace P13 := Lib.hid (P13.out.below hb)
  replace Q13 := Lib.hid (Q13.out.below hb)
  replace K13 := Lib.hid (K13.out.next hb)
  clear hb
  have P15 := Lib.hid j1
  have Q15 := Lib.hid j2
  clear j1 j2
  have KB := Lib.hid (below_new w7 (.cells #[.slice A15 D13.length c15, .slice B15 V13.length e15] 29))
  have K15 := Lib.hid (Box.new w7 (.slice A15 D13.length c15) (.slice B15 V13.length e15))
  replace S := Lib.hid (S.out.next KB.out)
  replace T := Lib.hid (T.out.below KB.out)
  replace ID := Lib.hid (ID.out.below KB.out)
  replace IV := Lib.hid (IV.out.below KB.out)
  replace IE := Lib.hid (IE.out.below KB.out)
  replace IU := Lib.hid (IU.out.below KB.out)
  replace P7 := Lib.hid (P7.out.below KB.out)
  replace Q7 := Lib.hid (Q7.out.below KB.out)
  replace K7 := Lib.hid (K7.out.next KB.out)
  replace P9 := Lib.hid (P9.out.below KB.out)
  replace Q9 := Lib.hid (Q9.out.below KB.out)
  replace K9 := Lib.hid (K9.out.next KB.out)
  replace P11 := Lib.hid (P11.out.below KB.out)
  replace Q11 := Lib.hid (Q11.out.below KB.out)
  replace K11 := Lib.hid (K11.out.next KB.out)
  replace P13 := Lib.hid (P13.out.below KB.out)
  replace Q13 := Lib.hid (Q13.out.below KB.out)
  replace K13 := Lib.hid (K13.out.next KB.out)
  replace P15 := Lib.hid (P15.out.below KB.out)
  replace Q15 := Lib.hid (Q15.out.below KB.out)
  go_upto_region 10 with (fail)
  clear KB
  generalize hW : w7.alloc (.cells #[.slice A15 D13.length c15, .slice B15 V13.length e15] 29) = W15 at *
  clear hW
  generalize w7.heap.size = g15 at *
  obtain ⟨qK130, qK131, -, -⟩ := K13.out.all
  obtain ⟨qK150, qK151, -, -⟩ := K15.out.all
  have hdl := HL13.out
  have hvl := HVL13.out
  go_wp2_with fail
  refine (Pr.rsame_eq _ _ D13 _ _ V13 _ _ _ _ _ (by omega) (by omega) P13.out Q13.out P15.out Q15.out).mono ?_
  rintro r w8 ⟨rfl, hb⟩
  clear qK130 qK131 qK150 qK151
  replace S := Lib.hid (S.out.next hb)
  replace T := Lib.hid (T.out.below hb)
  replace ID := Lib.hid (ID.out.below hb)
  replace IV := Lib.hid (IV.out.below hb)
  replace IE := Lib.hid (IE.out.below hb)
  replace IU := Lib.hid (IU.out.below hb)
  replace P7 := Lib.hid (P7.out.below hb)
  replace Q7 := Lib.hid (Q7.out.below hb)
  replace K7 := Lib.hid (K7.out.next hb)
  replace P9 := Lib.hid (P9.out.below hb)
  replace Q9 := Lib.hid (Q9.out.below hb)
  replace K9 := Lib.hid (K9.out.next hb)
  replace P11 := Lib.hid (P11.out.below hb)
  replace Q11 := Lib.hid (Q11.out.below hb)
  replace K11 := Lib.hid (K11.out.next hb)
  replace P13 := Lib.hid (P13.out.below hb)
  replace Q13 := Lib.hid (Q13.out.below hb)
  replace K13 := Lib.hid (K13.out.next hb)
  replace P15 := Lib.hid (P15.out.below hb)
  replace Q15 := Lib.hid (Q15.out.below hb)
  replace K15 := Lib.hid (K15.out.next hb)
  clear hb
  go_wp2_with fail
  refine (lives_any _ T.out).mono ?_
  rintro r w9 ⟨rfl, hb⟩
  replace S := Lib.hid (S.out.next hb)
  replace T := Lib.hid (T.out.below hb)
  replace ID := Lib.hid (ID.out.below hb)
  replace IV := Lib.hid (IV.out.below hb)
  replace IE := Lib.hid (IE.out.below hb)
  replace IU := Lib.hid (IU.out.below hb)
  replace P7 := Lib.hid (P7.out.below hb)
  replace Q7 := Lib.hid (Q7.out.below hb)
  replace K7 := Lib.hid (K7.out.next hb)
  replace P9 := Lib.hid (P9.out.below hb)
  replace Q9 := Lib.hid (Q9.out.below hb)
  replace K9 := Lib.hid (K9.out.next hb)
  replace P11 := Lib.hid (P11.out.below hb)
  replace Q11 := Lib.hid (Q11.out.below hb)
  replace K11 := Lib.hid (K11.out.next hb)
  replace P13 := Lib.hid (P13.out.below hb)
  replace Q13 := Lib.hid (Q13.out.below hb)
  replace K13 := Lib.hid (K13.out.next hb)
  replace P15 := Lib.hid (P15.out.below hb)
  replace Q15 := Lib.hid (Q15.out.below hb)
  replace K15 := Lib.hid (K15.out.next hb)
  clear hb
  go_wp2
  go_ret
  exact ⟨ret_bool (by simp), S.out.2.2.2⟩
theorem walk (cf : Int) (sf : Bool) (cg : Int) (sg : Bool) (A : Option Addr) (c1 : Nat) (d : List Int) (B : Option Addr) (c2 : Nat) (v : List Int) (A' : Option Addr) (c1' : Nat) (e : List Int) (B' : Option Addr) (c2' : Nat) (u : List Int) (w : World) (hT : Sc.Tab w) (id : Ints w A d) (iv : Ints w B v) (ie : Ints w A' e) (iu : Ints w B' u) (rv : AllR v) (ru : AllR u) :
    Calls Tryd.prog 6 #[.agg #[.int .i64 cf, .bool sf, .int .i64 cg, .bool sg], .agg #[.slice A d.length c1, .slice B v.length c2], .agg #[.slice A' e.length c1', .slice B' u.length c2']] w fun e w' => e = .returned (.bool true) ∧ Below w.heap.size w w' := by
  by_cases h1 : d.length ≤ 10 ∧ v.length ≤ 200
  · by_cases h2 : e.length ≤ 10 ∧ u.length ≤ 200
    · by_cases hN : innE cf sf cg sg d v.length e u.length = 0
      · exact walk_0 cf sf cg sg A c1 d B c2 v A' c1' e B' c2' u w hT id iv ie iu rv ru h1 h2 _ rfl _ _ rfl rfl hN
      · exact walk_3 cf sf cg sg A c1 d B c2 v A' c1' e B' c2' u w hT id iv ie iu rv ru h1 h2 _ rfl _ _ rfl rfl hN
    · exact walk_2 cf sf cg sg A c1 d B c2 v A' c1' e B' c2' u w hT id iv ie iu rv ru h1 h2
  · exact walk_1 cf sf cg sg A c1 d B c2 v A' c1' e B' c2' u w hT id iv ie iu rv ru h1

theorem contract (H : Type) (enc : TypeId × Value → H) (W : World) (base : Nat) (args : Array Value) (ds gs : List (DataW H)) (before : List MemPlace)
    (hval : ∀ (j : Nat) t v, Tryd.f6.params[j]? = some t → args[j]? = some v → Value.okWide Tryd.prog W .any base t v)
    (hW : DataW.Whole enc Tryd.prog Tryd.f6.params.toList Rows.productTurnsSpec.vars false W args.toList ds gs before) (hL : laidMetH Tryd.prog Rows.productInnersRow.laid W) :
    Calls Tryd.prog 6 args W fun e W' => ∃ v, e = .returned v ∧ Rows.productTurnsSpec.post enc Tryd.prog Tryd.f6 false true false false W args v W' := by
  have hW' := hW
  obtain ⟨p, q, hA0, hV, rfl, hfz, hnd⟩ := hW
  have hA : DataW.TrodAll enc Tryd.prog W 0 (fun _ => true) true Tryd.f6.params.toList args.toList ds p := hA0
  rw [Tryd.params6] at hA hval
  obtain ⟨v0, vs0, dd0, ds0, p0, q0, hargs, rfl, rfl, h0, r0⟩ := trodAll_cons hA
  obtain ⟨v1, vs1, dd1, ds1, p1, q1, rfl, rfl, rfl, h1, r1⟩ := trodAll_cons r0
  obtain ⟨v2, vs2, dd2, ds2, p2, q2, rfl, rfl, rfl, h2, r2⟩ := trodAll_cons r1
  obtain ⟨rfl, rfl, rfl⟩ := trodAll_nil r2
  obtain rfl : args = #[v0, v1, v2] := by cases args; simp_all
  obtain ⟨rfl, rfl⟩ := trodVars_none hV
  have k0 := h0
  have lt0 : ∀ x ∈ p0, x.block < W.heap.size := by obtain ⟨m, hm⟩ := k0; exact DataW.trod_lt m _ _ _ hm
  obtain ⟨c0, s0, x0, y0, rfl, hx0, hy0⟩ := two_arg (hval 0 25 v0 rfl rfl) h0
  have k1 := h1
  have lt1 : ∀ x ∈ p1, x.block < W.heap.size := by obtain ⟨m, hm⟩ := k1; exact DataW.trod_lt m _ _ _ hm
  obtain ⟨A1, c1, l1, B1, e1, m1, rfl, hl1, hm1⟩ := cell_arg (hval 1 29 v1 rfl rfl) h1
  have k2 := h2
  have lt2 : ∀ x ∈ p2, x.block < W.heap.size := by obtain ⟨m, hm⟩ := k2; exact DataW.trod_lt m _ _ _ hm
  obtain ⟨A2, c2, l2, B2, e2, m2, rfl, hl2, hm2⟩ := cell_arg (hval 2 29 v2 rfl rfl) h2
  clear hA0
  refine (walk c0 s0 x0 y0 A1 c1 l1 B1 e1 m1 A2 c2 l2 B2 e2 m2 W (tab_met hL) hl1.1 hm1.1 hl2.1 hm2.1 (allR_of hm1.2.2.2.2) (allR_of hm2.2.2.2.2)).mono fun e W' ⟨he, bel⟩ => ?_
  subst he
  exact ⟨_, rfl, _, _, _, [], _, [], hW', trodAll_mk1 (shut_bool Tryd.underlying4 _), (trodAll_cons_mk (Below.trod laidOut (by kernel_rfl) (of_decide_eq_true (by kernel_rfl)) k0 bel lt0) (trodAll_cons_mk (Below.trod laidOut (by kernel_rfl) (of_decide_eq_true (by kernel_rfl)) k1 bel lt1) (trodAll_cons_mk (Below.trod laidOut (by kernel_rfl) (of_decide_eq_true (by kernel_rfl)) k2 bel lt2) trodAll_mk0))), rfl, bel.frame _, fun h => by cases h⟩

theorem witness (os : Os) {H : Type} (enc : TypeId × Value → H) :
    (OpenSpec.ofChange Rows.productTurnsSpec).preRow enc Tryd.prog Tryd.f6 Rows.productTurnsRow.domain false Rows.productTurnsRow.laid ((laidWorld os).forCall (fun _ _ => 0) ⟨#[], #[.agg #[.int .i64 0, .bool false, .int .i64 0, .bool false], .agg #[.slice none 0 0, .slice none 0 0], .agg #[.slice none 0 0, .slice none 0 0]], []⟩).memory #[.agg #[.int .i64 0, .bool false, .int .i64 0, .bool false], .agg #[.slice none 0 0, .slice none 0 0], .agg #[.slice none 0 0, .slice none 0 0]] := by
  have hw : (DataW.whole enc Tryd.prog ((laidWorld os).forCall (fun _ _ => 0) ⟨#[], #[.agg #[.int .i64 0, .bool false, .int .i64 0, .bool false], .agg #[.slice none 0 0, .slice none 0 0], .agg #[.slice none 0 0, .slice none 0 0]], []⟩).memory Tryd.f6.params.toList Rows.productTurnsSpec.vars false (#[.agg #[.int .i64 0, .bool false, .int .i64 0, .bool false], .agg #[.slice none 0 0, .slice none 0 0], .agg #[.slice none 0 0, .slice none 0 0]] : Array Value).toList 8).map (fun x => (x.1, x.2.1)) =
      some ([.agg [.agg [.lit (.int .i64 0), .lit (.bool false)], .agg [.lit (.int .i64 0), .lit (.bool false)]], .agg [.nil, .nil], .agg [.nil, .nil]], []) := by kernel_rfl
  obtain ⟨⟨x1, x2, x3⟩, hx, hx1⟩ := Option.map_eq_some_iff.1 hw
  simp only [Prod.mk.injEq] at hx1
  obtain ⟨rfl, rfl⟩ := hx1
  exact OpenSpec.preRow_of_cond 8 hx (by kernel_rfl) (fun k hk => by cases hk) (by kernel_rfl) (laid_met os _)

set_option maxRecDepth 100000 in
theorem lifted (os : Os) (started : os.Started) (H : Type) (enc : TypeId × Value → H) (F : Stop.Interp) :
    ReturnsInHanded {} Tryd.checked os 6 .any ((OpenSpec.ofChange Rows.productTurnsSpec).preRow enc Tryd.prog Tryd.f6 Rows.productTurnsRow.domain false Rows.productTurnsRow.laid) (((OpenSpec.ofChange Rows.productTurnsSpec).at F).post enc Tryd.prog Tryd.f6 false true false false) := by
  refine returnsInHanded_of_row (C := Tryd.checked) (s := OpenSpec.ofChange Rows.productTurnsSpec) own started (by kernel_rfl) Tryd.func6
    (witness_row_atRef (enc := enc) (C := Tryd.checked) false (laidWorld os) #[.agg #[.int .i64 0, .bool false, .int .i64 0, .bool false], .agg #[.slice none 0 0, .slice none 0 0], .agg #[.slice none 0 0, .slice none 0 0]] rfl (by kernel_rfl) (by kernel_rfl) (by kernel_rfl) (witness os enc)) ?_
  intro W base args ds gs before hval hW _ _ _ hL _ _
  exact contract H enc W base args ds gs before hval hW hL

theorem said : Rows.ProductTurnsSaid :=
  OpenClaim.holds_of_cond 6 Tryd.f6 rfl rfl rfl rfl rfl rfl rfl ⟨rfl, rfl, rfl, rfl, rfl⟩ rfl rfl rfl rfl rfl (by kernel_rfl) Tryd.func6 (by kernel_rfl)
    (of_decide_eq_true (by kernel_rfl)) (by unfold Func.isWrapper; first | (rw [if_pos (by decide +kernel)]; kernel_rfl) | (rw [if_neg (by decide +kernel)]; exact ⟨rfl, rfl⟩))
    (fun os started H enc _ F => by rw [OpenClaim.pre_eq_preRow]; exact lifted os started H enc F)

theorem plain (f : FuncId) (fn : Func) (hf : Tryd.pinned.checked.prog.funcNamed Rows.productTurnsRow.func = some f) (hfn : Tryd.pinned.checked.prog.funcs[f]? = some fn) :
    true = Tryd.pinned.checked.prog.looks [] ∧ ∀ (j : Nat) t, fn.params[j]? = some t → Tryd.pinned.checked.prog.wantsStandIn t = false := by
  obtain rfl : f = 6 := Option.some.inj ((show Tryd.prog.funcNamed Rows.productTurnsRow.func = some 6 by kernel_rfl).symm.trans hf) |>.symm
  obtain rfl : fn = Tryd.f6 := (Option.some.inj (Tryd.func6.symm.trans hfn)).symm
  refine ⟨by kernel_rfl, fun j t ht => ?_⟩
  rw [Tryd.params6] at ht
  have hm := Array.mem_of_getElem? ht
  simp only [List.mem_toArray, List.mem_cons, List.not_mem_nil, or_false] at hm
  rcases hm with rfl | rfl | rfl
  · exact (show Tryd.prog.wantsStandIn 25 = false by kernel_rfl)
  · exact (show Tryd.prog.wantsStandIn 29 = false by kernel_rfl)
  · exact (show Tryd.prog.wantsStandIn 29 = false by kernel_rfl)

theorem proved : Rows.ProductTurnsCardSaid :=
  Claim7.holds_tied_plain_at .later [] _ _ _ _ said (fun _ h => by cases h) (by kernel_rfl) (fun _ h => by cases h) productTurns_row_tie rfl ⟨rfl, rfl⟩ (by kernel_rfl) rfl plain (by kernel_rfl)
end Go.Proofs.YtbanegjmapgkdaaDoor.productTurns
