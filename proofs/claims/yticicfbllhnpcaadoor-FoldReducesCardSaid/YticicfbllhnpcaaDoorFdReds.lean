/-
  Proved: for any function, any cell and any bool rifflelaw08.FoldReduces returns true, and each argument reads afterwards as it read before. The card is tied to the text that lays scalar.traits; it speaks of the pruned copy of the project that this seat's roots load. No other condition.
-/
import Derived.Test.YticicfbllhnpcaaDoorFdLives
import Derived.Test.YticicfbllhnpcaaDoorFdRRed
import Derived.Test.YticicfbllhnpcaaDoorPkC
set_option maxRecDepth 100000
namespace Go.Proofs.YticicfbllhnpcaaDoor.foldReduces
open Go.Proofs.YticicfbllhnpcaaDoor.Sh Go.Proofs.YticicfbllhnpcaaDoor.Fd
open Go.Joins Go.ChangeShapes Go.WideShapes Go.ChangeAt Go.RowKit Go.Deep
set_option linter.unusedVariables false

theorem rsame_eq (A : Option Addr) (c : Nat) (d : List Int) (B : Option Addr) (c2 : Nat) (v : List Int) (A' : Option Addr) (c' : Nat) (B' : Option Addr) (c2' : Nat) (w : World) (hd : d.length ≤ 1000) (hv : v.length ≤ 1000) (id : Ints w A d) (iv : Ints w B v) (ie : Ints w A' d) (iu : Ints w B' v) :
    Calls Tryd.prog 18 #[.agg #[.slice A d.length c, .slice B v.length c2], .agg #[.slice A' d.length c', .slice B' v.length c2']] w fun r w' => r = .returned (.bool true) ∧ Below w.heap.size w w' :=
  (rsame_any A c d B c2 v A' c' d B' c2' v w (by unfold maxLen; omega) (by unfold maxLen; omega) (by unfold maxLen; omega) (by unfold maxLen; omega) id iv ie iu).mono fun _ _ ⟨h1, h2⟩ => ⟨by rw [h1]; simp [sameB], h2⟩
theorem p_w (c : Int) (s : Bool) (A : Option Addr) (c1 : Nat) (d : List Int) (B : Option Addr) (c2 : Nat) (v : List Int) (b : Bool) (w : World) (E : Int) (D V : List Int) (hE : reE c d v.length b = E) (hD : reD c d v.length b = D) (hV : reV c s d v b = V) (hT : Sc.Tab w) (id : Ints w A d) (iv : Ints w B v) (hd : d.length ≤ 100) (hv : v.length ≤ 1000) (rv : AllR v) :
    Calls Tryd.prog 16 #[.agg #[.int .i64 c, .bool s], .agg #[.slice A d.length c1, .slice B v.length c2], .bool b] w (RetCI w D V (.int .i64 E)) := by
  subst hE hD hV
  exact (red_any c s A c1 d B c2 v b w hT id iv hd hv rv).mono fun _ _ h => h.ci
theorem r_w (c : Int) (s : Bool) (A : Option Addr) (c1 : Nat) (d : List Int) (B : Option Addr) (c2 : Nat) (v : List Int) (b : Bool) (w : World) (E : Int) (D V : List Int) (hE : reE c d v.length b = E) (hD : reD c d v.length b = D) (hV : reV c s d v b = V) (id : Ints w A d) (iv : Ints w B v) (hd : d.length ≤ 100) (hv : v.length ≤ 1000) (rv : AllR v) :
    Calls Tryd.prog 17 #[.agg #[.int .i64 c, .bool s], .agg #[.slice A d.length c1, .slice B v.length c2], .bool b] w (RetCI w D V (.int .i64 E)) := by
  subst hE hD hV
  exact rred_any c s A c1 d B c2 v b w id iv hd hv rv
set_option maxHeartbeats 4000000 in
theorem walk (c : Int) (s : Bool) (A : Option Addr) (c1 : Nat) (d : List Int) (B : Option Addr) (c2 : Nat) (v : List Int) (b : Bool) (w : World) (hT : Sc.Tab w) (id : Ints w A d) (iv : Ints w B v) (rv : AllR v) :
    Calls Tryd.prog 3 #[.agg #[.int .i64 c, .bool s], .agg #[.slice A d.length c1, .slice B v.length c2], .bool b] w fun e w' => e = .returned (.bool true) ∧ Below w.heap.size w w' := by
  have RV := Lib.hid rv
  clear rv
  by_cases h1 : d.length ≤ 10 ∧ v.length ≤ 200
  · obtain ⟨hd, hv⟩ := h1
    obtain ⟨E, hE⟩ : ∃ E, reE c d v.length b = E := ⟨_, rfl⟩
    obtain ⟨D, hD⟩ : ∃ D, reD c d v.length b = D := ⟨_, rfl⟩
    obtain ⟨V, hV⟩ : ∃ V, reV c s d v b = V := ⟨_, rfl⟩
    have hDl : D.length ≤ 10 := by rw [← hD]; exact Nat.le_trans reD_len hd
    have hVl : V.length ≤ 200 := by rw [← hV]; exact (reV_len hv)
    have HE := Lib.hid hE
    have HD := Lib.hid hD
    have HV := Lib.hid hV
    clear hE hD hV
    have b1 := below_new w (.cells #[.int .i64 c, .bool s] 23)
    have b2 := below_new (w.alloc (.cells #[.int .i64 c, .bool s] 23)) (.cells #[.slice A d.length c1, .slice B v.length c2] 27)
    have bb0 := Box.new (w.alloc (.cells #[.int .i64 c, .bool s] 23)) (.slice A d.length c1) (.slice B v.length c2)
    rw [show (w.alloc (.cells #[.int .i64 c, .bool s] 23)).heap.size = w.heap.size + 1 from by simp] at bb0
    have BA := Lib.hid (bb0)
    have L := Lib.hid (below_next b1 b2)
    have T := Lib.hid (hT.below L.out)
    have FF := Lib.hid (show FnAt _ w.heap.size c s from bx2 ((Bx.new 23 w #[.int .i64 c, .bool s]).alloc (.cells #[.slice A d.length c1, .slice B v.length c2] 27)))
    have ID := Lib.hid (id.below L.out)
    have IV := Lib.hid (iv.below L.out)
    clear b1 b2 bb0 hT id iv
    go_enter Tryd.func3, Tryd.ntmps3
    obtain ⟨qBA0, qBA1, -, -⟩ := BA.out.all
    go_wp2_with fail
    refine (great_no _ _ _ _ _ _ _ hd hv).mono ?_
    rintro r w1 ⟨rfl, hb⟩
    clear qBA0 qBA1
    replace BA := Lib.hid (BA.out.next hb)
    replace L := Lib.hid (below_next L.out hb)
    replace T := Lib.hid (T.out.below hb)
    replace FF := Lib.hid (FF.out.below hb)
    replace ID := Lib.hid (ID.out.below hb)
    replace IV := Lib.hid (IV.out.below hb)
    clear hb
    obtain ⟨qFF0, qFF1⟩ := FF.out
    obtain ⟨qBA0, qBA1, -, -⟩ := BA.out.all
    go_wp2_with fail
    refine (p_w c s _ _ d _ _ v b _ E D V HE.out HD.out HV.out T.out ID.out IV.out (by omega) (by omega) RV.out).mono ?_
    rintro r w2 ⟨A7, c7, B7, e7, rfl, j1, j2, hb⟩
    clear qFF0 qFF1 qBA0 qBA1
    replace BA := Lib.hid (BA.out.next hb)
    replace L := Lib.hid (below_next L.out hb)
    replace T := Lib.hid (T.out.below hb)
    replace FF := Lib.hid (FF.out.below hb)
    replace ID := Lib.hid (ID.out.below hb)
    replace IV := Lib.hid (IV.out.below hb)
    clear hb
    have P7 := Lib.hid j1
    have Q7 := Lib.hid j2
    clear j1 j2
    have KB := Lib.hid (below_new w2 (.cells #[.slice A7 D.length c7, .slice B7 V.length e7] 27))
    have K7 := Lib.hid (Box.new w2 (.slice A7 D.length c7) (.slice B7 V.length e7))
    replace BA := Lib.hid (BA.out.next KB.out)
    replace L := Lib.hid (below_next L.out KB.out)
    replace T := Lib.hid (T.out.below KB.out)
    replace FF := Lib.hid (FF.out.below KB.out)
    replace ID := Lib.hid (ID.out.below KB.out)
    replace IV := Lib.hid (IV.out.below KB.out)
    replace P7 := Lib.hid (P7.out.below KB.out)
    replace Q7 := Lib.hid (Q7.out.below KB.out)
    go_upto_region 4 with (fail)
    clear KB
    generalize hW : w2.alloc (.cells #[.slice A7 D.length c7, .slice B7 V.length e7] 27) = W7 at *
    clear hW
    generalize w2.heap.size = g7 at *
    obtain ⟨qFF0, qFF1⟩ := FF.out
    obtain ⟨qBA0, qBA1, -, -⟩ := BA.out.all
    go_wp2_with fail
    refine (r_w c s _ _ d _ _ v b _ E D V HE.out HD.out HV.out ID.out IV.out (by omega) (by omega) RV.out).mono ?_
    rintro r w3 ⟨A8, c8, B8, e8, rfl, j1, j2, hb⟩
    clear qFF0 qFF1 qBA0 qBA1
    replace BA := Lib.hid (BA.out.next hb)
    replace L := Lib.hid (below_next L.out hb)
    replace T := Lib.hid (T.out.below hb)
    replace FF := Lib.hid (FF.out.below hb)
    replace ID := Lib.hid (ID.out.below hb)
    replace IV := Lib.hid (IV.out.below hb)
    replace P7 := Lib.hid (P7.out.below hb)
    replace Q7 := Lib.hid (Q7.out.below hb)
    replace K7 := Lib.hid (K7.out.next hb)
    clear hb
    have P8 := Lib.hid j1
    have Q8 := Lib.hid j2
    clear j1 j2
    have KB := Lib.hid (below_new w3 (.cells #[.slice A8 D.length c8, .slice B8 V.length e8] 27))
    have K8 := Lib.hid (Box.new w3 (.slice A8 D.length c8) (.slice B8 V.length e8))
    replace BA := Lib.hid (BA.out.next KB.out)
    replace L := Lib.hid (below_next L.out KB.out)
    replace T := Lib.hid (T.out.below KB.out)
    replace FF := Lib.hid (FF.out.below KB.out)
    replace ID := Lib.hid (ID.out.below KB.out)
    replace IV := Lib.hid (IV.out.below KB.out)
    replace P7 := Lib.hid (P7.out.below KB.out)
    replace Q7 := Lib.hid (Q7.out.below KB.out)
    replace K7 := Lib.hid (K7.out.next KB.out)
    replace P8 := Lib.hid (P8.out.below KB.out)
    replace Q8 := Lib.hid (Q8.out.below KB.out)
    go_upto_region 5 with (fail)
    clear KB
    generalize hW : w3.alloc (.cells #[.slice A8 D.length c8, .slice B8 V.length e8] 27) = W8 at *
    clear hW
    generalize w3.heap.size = g8 at *
    obtain ⟨qK70, qK71, -, -⟩ := K7.out.all
    obtain ⟨qK80, qK81, -, -⟩ := K8.out.all
    go_wp2_with fail
    refine (rsame_eq _ _ D _ _ V _ _ _ _ _ (by omega) (by omega) P7.out Q7.out P8.out Q8.out).mono ?_
    rintro r w4 ⟨rfl, hb⟩
    clear qK70 qK71 qK80 qK81
    replace BA := Lib.hid (BA.out.next hb)
    replace L := Lib.hid (below_next L.out hb)
    replace T := Lib.hid (T.out.below hb)
    replace FF := Lib.hid (FF.out.below hb)
    replace ID := Lib.hid (ID.out.below hb)
    replace IV := Lib.hid (IV.out.below hb)
    replace P7 := Lib.hid (P7.out.below hb)
    replace Q7 := Lib.hid (Q7.out.below hb)
    replace K7 := Lib.hid (K7.out.next hb)
    replace P8 := Lib.hid (P8.out.below hb)
    replace Q8 := Lib.hid (Q8.out.below hb)
    replace K8 := Lib.hid (K8.out.next hb)
    clear hb
    go_wp2_with fail
    refine (lives_any _ T.out).mono ?_
    rintro r w5 ⟨rfl, hb⟩
    replace BA := Lib.hid (BA.out.next hb)
    replace L := Lib.hid (below_next L.out hb)
    replace T := Lib.hid (T.out.below hb)
    replace FF := Lib.hid (FF.out.below hb)
    replace ID := Lib.hid (ID.out.below hb)
    replace IV := Lib.hid (IV.out.below hb)
    replace P7 := Lib.hid (P7.out.below hb)
    replace Q7 := Lib.hid (Q7.out.below hb)
    replace K7 := Lib.hid (K7.out.next hb)
    replace P8 := Lib.hid (P8.out.below hb)
    replace Q8 := Lib.hid (Q8.out.below hb)
    replace K8 := Lib.hid (K8.out.next hb)
    clear hb
    go_wp2
    go_ret
    exact ⟨ret_bool (by simp), L.out⟩
  · have H1 := Lib.hid h1
    clear h1
    have b1 := below_new w (.cells #[.int .i64 c, .bool s] 23)
    have b2 := below_new (w.alloc (.cells #[.int .i64 c, .bool s] 23)) (.cells #[.slice A d.length c1, .slice B v.length c2] 27)
    have bb0 := Box.new (w.alloc (.cells #[.int .i64 c, .bool s] 23)) (.slice A d.length c1) (.slice B v.length c2)
    rw [show (w.alloc (.cells #[.int .i64 c, .bool s] 23)).heap.size = w.heap.size + 1 from by simp] at bb0
    have BA := Lib.hid (bb0)
    have L := Lib.hid (below_next b1 b2)
    have T := Lib.hid (hT.below L.out)
    clear b1 b2 bb0 hT id iv
    go_enter Tryd.func3, Tryd.ntmps3
    obtain ⟨qBA0, qBA1, -, -⟩ := BA.out.all
    go_wp2_with fail
    refine (great_yes _ _ _ _ _ _ _ H1.out).mono ?_
    rintro r w1 ⟨rfl, hb⟩
    clear qBA0 qBA1
    replace BA := Lib.hid (BA.out.next hb)
    replace L := Lib.hid (below_next L.out hb)
    replace T := Lib.hid (T.out.below hb)
    clear hb
    go_wp2_with fail
    refine (lives_any _ T.out).mono ?_
    rintro r w2 ⟨rfl, hb⟩
    replace BA := Lib.hid (BA.out.next hb)
    replace L := Lib.hid (below_next L.out hb)
    replace T := Lib.hid (T.out.below hb)
    clear hb
    go_wp2
    go_ret
    exact ⟨rfl, L.out⟩

theorem contract (H : Type) (enc : TypeId × Value → H) (W : World) (base : Nat) (args : Array Value) (ds gs : List (DataW H)) (before : List MemPlace)
    (hval : ∀ (j : Nat) t v, Tryd.f3.params[j]? = some t → args[j]? = some v → Value.okWide Tryd.prog W .any base t v)
    (hW : DataW.Whole enc Tryd.prog Tryd.f3.params.toList Rows.foldReducesSpec.vars false W args.toList ds gs before) (hL : laidMetH Tryd.prog Rows.foldReducesRow.laid W) :
    Calls Tryd.prog 3 args W fun e W' => ∃ v, e = .returned v ∧ Rows.foldReducesSpec.post enc Tryd.prog Tryd.f3 false true false false W args v W' := by
  have hW' := hW
  obtain ⟨p, q, hA0, hV, rfl, hfz, hnd⟩ := hW
  have hA : DataW.TrodAll enc Tryd.prog W 0 (fun _ => true) true Tryd.f3.params.toList args.toList ds p := hA0
  rw [Tryd.params3] at hA hval
  obtain ⟨v0, vs0, dd0, ds0, p0, q0, hargs, rfl, rfl, h0, r0⟩ := trodAll_cons hA
  obtain ⟨v1, vs1, dd1, ds1, p1, q1, rfl, rfl, rfl, h1, r1⟩ := trodAll_cons r0
  obtain ⟨v2, vs2, dd2, ds2, p2, q2, rfl, rfl, rfl, h2, r2⟩ := trodAll_cons r1
  obtain ⟨rfl, rfl, rfl⟩ := trodAll_nil r2
  obtain rfl : args = #[v0, v1, v2] := by cases args; simp_all
  obtain ⟨rfl, rfl⟩ := trodVars_none hV
  have k0 := h0
  have lt0 : ∀ x ∈ p0, x.block < W.heap.size := by obtain ⟨m, hm⟩ := k0; exact DataW.trod_lt m _ _ _ hm
  obtain ⟨c0, s0, rfl, wf0⟩ := fn_arg (hval 0 23 v0 rfl rfl) h0
  have k1 := h1
  have lt1 : ∀ x ∈ p1, x.block < W.heap.size := by obtain ⟨m, hm⟩ := k1; exact DataW.trod_lt m _ _ _ hm
  obtain ⟨A1, c1, l1, B1, e1, m1, rfl, hl1, hm1⟩ := cell_arg (hval 1 27 v1 rfl rfl) h1
  have k2 := h2
  have lt2 : ∀ x ∈ p2, x.block < W.heap.size := by obtain ⟨m, hm⟩ := k2; exact DataW.trod_lt m _ _ _ hm
  obtain ⟨b2, rfl, _, _⟩ := open_bool Tryd.underlying4 (hval 2 4 v2 rfl rfl) h2
  clear hA0
  refine (walk c0 s0 A1 c1 l1 B1 e1 m1 b2 W (tab_met hL) hl1.1 hm1.1 (allR_of hm1.2.2.2.2)).mono fun e W' ⟨he, bel⟩ => ?_
  subst he
  exact ⟨_, rfl, _, _, _, [], _, [], hW', trodAll_mk1 (shut_bool Tryd.underlying4 _), (trodAll_cons_mk (Below.trod laidOut (by kernel_rfl) (of_decide_eq_true (by kernel_rfl)) k0 bel lt0) (trodAll_cons_mk (Below.trod laidOut (by kernel_rfl) (of_decide_eq_true (by kernel_rfl)) k1 bel lt1) (trodAll_cons_mk (Below.trod laidOut (by kernel_rfl) (of_decide_eq_true (by kernel_rfl)) k2 bel lt2) trodAll_mk0))), rfl, bel.frame _, fun h => by cases h⟩

theorem witness (os : Os) {H : Type} (enc : TypeId × Value → H) :
    (OpenSpec.ofChange Rows.foldReducesSpec).preRow enc Tryd.prog Tryd.f3 Rows.foldReducesRow.domain false Rows.foldReducesRow.laid ((laidWorld os).forCall (fun _ _ => 0) ⟨#[], #[.agg #[.int .i64 0, .bool false], .agg #[.slice none 0 0, .slice none 0 0], .bool false], []⟩).memory #[.agg #[.int .i64 0, .bool false], .agg #[.slice none 0 0, .slice none 0 0], .bool false] := by
  have hw : (DataW.whole enc Tryd.prog ((laidWorld os).forCall (fun _ _ => 0) ⟨#[], #[.agg #[.int .i64 0, .bool false], .agg #[.slice none 0 0, .slice none 0 0], .bool false], []⟩).memory Tryd.f3.params.toList Rows.foldReducesSpec.vars false (#[.agg #[.int .i64 0, .bool false], .agg #[.slice none 0 0, .slice none 0 0], .bool false] : Array Value).toList 8).map (fun x => (x.1, x.2.1)) =
      some ([.agg [.lit (.int .i64 0), .lit (.bool false)], .agg [.nil, .nil], .lit (.bool false)], []) := by kernel_rfl
  obtain ⟨⟨x1, x2, x3⟩, hx, hx1⟩ := Option.map_eq_some_iff.1 hw
  simp only [Prod.mk.injEq] at hx1
  obtain ⟨rfl, rfl⟩ := hx1
  exact OpenSpec.preRow_of_cond 8 hx (by kernel_rfl) (fun k hk => by cases hk) (by kernel_rfl) (laid_met os _)

set_option maxRecDepth 100000 in
theorem lifted (os : Os) (started : os.Started) (H : Type) (enc : TypeId × Value → H) (F : Stop.Interp) :
    ReturnsInHanded {} Tryd.checked os 3 .any ((OpenSpec.ofChange Rows.foldReducesSpec).preRow enc Tryd.prog Tryd.f3 Rows.foldReducesRow.domain false Rows.foldReducesRow.laid) (((OpenSpec.ofChange Rows.foldReducesSpec).at F).post enc Tryd.prog Tryd.f3 false true false false) := by
  refine returnsInHanded_of_row (C := Tryd.checked) (s := OpenSpec.ofChange Rows.foldReducesSpec) own started (by kernel_rfl) Tryd.func3
    (witness_row_atRef (enc := enc) (C := Tryd.checked) false (laidWorld os) #[.agg #[.int .i64 0, .bool false], .agg #[.slice none 0 0, .slice none 0 0], .bool false] rfl (by kernel_rfl) (by kernel_rfl) (by kernel_rfl) (witness os enc)) ?_
  intro W base args ds gs before hval hW _ _ _ hL _ _
  exact contract H enc W base args ds gs before hval hW hL

theorem said : Rows.FoldReducesSaid :=
  OpenClaim.holds_of_cond 3 Tryd.f3 rfl rfl rfl rfl rfl rfl rfl ⟨rfl, rfl, rfl, rfl, rfl⟩ rfl rfl rfl rfl rfl (by kernel_rfl) Tryd.func3 (by kernel_rfl)
    (of_decide_eq_true (by kernel_rfl)) (by unfold Func.isWrapper; first | (rw [if_pos (by decide +kernel)]; kernel_rfl) | (rw [if_neg (by decide +kernel)]; exact ⟨rfl, rfl⟩))
    (fun os started H enc _ F => by rw [OpenClaim.pre_eq_preRow]; exact lifted os started H enc F)

theorem plain (f : FuncId) (fn : Func) (hf : Tryd.pinned.checked.prog.funcNamed Rows.foldReducesRow.func = some f) (hfn : Tryd.pinned.checked.prog.funcs[f]? = some fn) :
    false = Tryd.pinned.checked.prog.looks [] ∧ ∀ (j : Nat) t, fn.params[j]? = some t → Tryd.pinned.checked.prog.wantsStandIn t = false := by
  obtain rfl : f = 3 := Option.some.inj ((show Tryd.prog.funcNamed Rows.foldReducesRow.func = some 3 by kernel_rfl).symm.trans hf) |>.symm
  obtain rfl : fn = Tryd.f3 := (Option.some.inj (Tryd.func3.symm.trans hfn)).symm
  refine ⟨by kernel_rfl, fun j t ht => ?_⟩
  rw [Tryd.params3] at ht
  have hm := Array.mem_of_getElem? ht
  simp only [List.mem_toArray, List.mem_cons, List.not_mem_nil, or_false] at hm
  rcases hm with rfl | rfl | rfl
  · exact (show Tryd.prog.wantsStandIn 23 = false by kernel_rfl)
  · exact (show Tryd.prog.wantsStandIn 27 = false by kernel_rfl)
  · exact (show Tryd.prog.wantsStandIn 4 = false by kernel_rfl)

theorem proved : Rows.FoldReducesCardSaid :=
  Claim7.holds_tied_plain_at .later [] _ _ _ _ said (fun _ h => by cases h) (by kernel_rfl) (fun _ h => by cases h) foldReduces_row_tie rfl ⟨rfl, rfl⟩ (by kernel_rfl) rfl plain (by kernel_rfl)
end Go.Proofs.YticicfbllhnpcaaDoor.foldReduces
