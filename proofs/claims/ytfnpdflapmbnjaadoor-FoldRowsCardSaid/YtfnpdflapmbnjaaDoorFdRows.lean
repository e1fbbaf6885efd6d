/-
  Proved: for any function and any numbers rifflelaw08.FoldRows returns true, and each argument reads afterwards as it read before. The card is tied to the text that lays scalar.traits; it speaks of the pruned copy of the project that this seat's roots load. No other condition.
-/
import Derived.Test.YtfnpdflapmbnjaaDoorFdLives
import Derived.Test.YtfnpdflapmbnjaaDoorPkC
namespace Go.Proofs.YtfnpdflapmbnjaaDoor.foldRows
open Go.Proofs.YtfnpdflapmbnjaaDoor.Sh Go.Proofs.YtfnpdflapmbnjaaDoor.Fd
open Go.Joins Go.ChangeShapes Go.WideShapes Go.ChangeAt Go.RowKit Go.Deep
set_option linter.unusedVariables false

set_option maxHeartbeats 4000000 in
theorem walk (c : Int) (s : Bool) (A : Option Addr) (cap : Nat) (l : List Int) (w : World) (hT : Sc.Tab w) (hi : Ints w A l) (hc : l.length ≤ cap) (hcm : cap ≤ maxLen) (hR : AllR l) :
    Calls Tryd.prog 3 #[.agg #[.int .i64 c, .bool s], .slice A l.length cap] w fun e w' => e = .returned (.bool true) ∧ Below w.heap.size w w' := by
  have hm : l.length < 9223372036854775808 := by unfold maxLen at hcm; omega
  by_cases h1 : 200 < l.length
  · have hx : (200 : Int) < (l.length : Int) := by omega
    have FN := Lib.hid ((bx2 (Bx.new 23 w #[.int .i64 c, .bool s])))
    have L := Lib.hid (below_new w (.cells #[.int .i64 c, .bool s] 23))
    have T := Lib.hid (hT.below L.out)
    have I := Lib.hid (hi.below L.out)
    clear hT hi
    go_enter Tryd.func3, Tryd.ntmps3
    go_wp2_with fail
    refine (lives_any _ T.out).mono ?_
    rintro r w1 ⟨rfl, hb⟩
    replace FN := Lib.hid (Fd.keepFn hb FN.out)
    replace L := Lib.hid (below_next L.out hb)
    replace T := Lib.hid (T.out.below hb)
    replace I := Lib.hid (I.out.below hb)
    clear hb
    go_wp2
    go_ret
    exact ⟨rfl, L.out⟩
  have hx : ¬ (200 : Int) < (l.length : Int) := by omega
  have FN := Lib.hid ((bx2 (Bx.new 23 w #[.int .i64 c, .bool s])))
  have L := Lib.hid (below_new w (.cells #[.int .i64 c, .bool s] 23))
  have T := Lib.hid (hT.below L.out)
  have I := Lib.hid (hi.below L.out)
  clear hT hi
  obtain ⟨X, hX⟩ : ∃ X, rowV c s l = X := ⟨_, rfl⟩
  obtain ⟨Y, hY⟩ : ∃ Y, rowB c l = Y := ⟨_, rfl⟩
  have C1 := Lib.hid (fun W h1 h2 => Row_any c s A cap l W h1 (by omega) hR h2)
  have C2 := Lib.hid (fun W h2 => RRow_any c s l A cap W (by omega) hc hcm hR h2)
  rw [hX, hY] at C1 C2
  clear hX hY
  go_enter Tryd.func3, Tryd.ntmps3
  obtain ⟨qFN0, qFN1⟩ := FN.out
  go_wp2_with fail
  refine (C1.out _ T.out I.out).mono ?_
  rintro r w1 ⟨rfl, hb⟩
  clear qFN0 qFN1
  replace FN := Lib.hid (Fd.keepFn hb FN.out)
  replace L := Lib.hid (below_next L.out hb)
  replace T := Lib.hid (T.out.below hb)
  replace I := Lib.hid (I.out.below hb)
  clear hb
  obtain ⟨qFN0, qFN1⟩ := FN.out
  go_wp2_with fail
  refine (C2.out _ I.out).mono ?_
  rintro r w2 ⟨rfl, hb⟩
  clear qFN0 qFN1
  replace FN := Lib.hid (Fd.keepFn hb FN.out)
  replace L := Lib.hid (below_next L.out hb)
  replace T := Lib.hid (T.out.below hb)
  replace I := Lib.hid (I.out.below hb)
  clear hb
  go_wp2_with fail
  refine (lives_any _ T.out).mono ?_
  rintro r w3 ⟨rfl, hb⟩
  replace FN := Lib.hid (Fd.keepFn hb FN.out)
  replace L := Lib.hid (below_next L.out hb)
  replace T := Lib.hid (T.out.below hb)
  replace I := Lib.hid (I.out.below hb)
  clear hb
  go_wp2
  go_ret
  exact ⟨rfl, L.out⟩

theorem contract (H : Type) (enc : TypeId × Value → H) (W : World) (base : Nat) (args : Array Value) (ds gs : List (DataW H)) (before : List MemPlace)
    (hval : ∀ (j : Nat) t v, Tryd.f3.params[j]? = some t → args[j]? = some v → Value.okWide Tryd.prog W .any base t v)
    (hW : DataW.Whole enc Tryd.prog Tryd.f3.params.toList Rows.foldRowsSpec.vars false W args.toList ds gs before) (hL : laidMetH Tryd.prog Rows.foldRowsRow.laid W) :
    Calls Tryd.prog 3 args W fun e W' => ∃ v, e = .returned v ∧ Rows.foldRowsSpec.post enc Tryd.prog Tryd.f3 false true false false W args v W' := by
  have hW' := hW
  obtain ⟨p, q, hA0, hV, rfl, hfz, hnd⟩ := hW
  have hA : DataW.TrodAll enc Tryd.prog W 0 (fun _ => true) true Tryd.f3.params.toList args.toList ds p := hA0
  rw [Tryd.params3] at hA hval
  obtain ⟨v0, vs0, dd0, ds0, p0, q0, hargs, rfl, rfl, h0, r0⟩ := trodAll_cons hA
  obtain ⟨v1, vs1, dd1, ds1, p1, q1, rfl, rfl, rfl, h1, r1⟩ := trodAll_cons r0
  obtain ⟨rfl, rfl, rfl⟩ := trodAll_nil r1
  obtain rfl : args = #[v0, v1] := by cases args; simp_all
  obtain ⟨rfl, rfl⟩ := trodVars_none hV
  have k0 := h0
  have lt0 : ∀ x ∈ p0, x.block < W.heap.size := by obtain ⟨m, hm⟩ := k0; exact DataW.trod_lt m _ _ _ hm
  obtain ⟨c0, s0, rfl, wf0⟩ := fn_arg (hval 0 23 v0 rfl rfl) h0
  have k1 := h1
  have lt1 : ∀ x ∈ p1, x.block < W.heap.size := by obtain ⟨m, hm⟩ := k1; exact DataW.trod_lt m _ _ _ hm
  obtain ⟨A1, c1, l1, rfl, hl1⟩ := ints_arg Tryd.underlying24 Tryd.underlying2 (by kernel_rfl) (hval 1 24 v1 rfl rfl) h1
  clear hA0
  refine (walk c0 s0 A1 c1 l1 W (tab_met hL) hl1.1 hl1.2.1 hl1.2.2.1 (allR_of hl1.2.2.2.2)).mono fun e W' ⟨he, bel⟩ => ?_
  subst he
  exact ⟨_, rfl, _, _, _, [], _, [], hW', trodAll_mk1 (shut_bool Tryd.underlying4 _), (trodAll_cons_mk (Below.trod laidOut (by kernel_rfl) (of_decide_eq_true (by kernel_rfl)) k0 bel lt0) (trodAll_cons_mk (Below.trod laidOut (by kernel_rfl) (of_decide_eq_true (by kernel_rfl)) k1 bel lt1) trodAll_mk0)), rfl, bel.frame _, fun h => by cases h⟩

theorem witness (os : Os) {H : Type} (enc : TypeId × Value → H) :
    (OpenSpec.ofChange Rows.foldRowsSpec).preRow enc Tryd.prog Tryd.f3 Rows.foldRowsRow.domain false Rows.foldRowsRow.laid ((laidWorld os).forCall (fun _ _ => 0) ⟨#[], #[.agg #[.int .i64 0, .bool false], .slice none 0 0], []⟩).memory #[.agg #[.int .i64 0, .bool false], .slice none 0 0] := by
  have hw : (DataW.whole enc Tryd.prog ((laidWorld os).forCall (fun _ _ => 0) ⟨#[], #[.agg #[.int .i64 0, .bool false], .slice none 0 0], []⟩).memory Tryd.f3.params.toList Rows.foldRowsSpec.vars false (#[.agg #[.int .i64 0, .bool false], .slice none 0 0] : Array Value).toList 8).map (fun x => (x.1, x.2.1)) =
      some ([.agg [.lit (.int .i64 0), .lit (.bool false)], .nil], []) := by kernel_rfl
  obtain ⟨⟨x1, x2, x3⟩, hx, hx1⟩ := Option.map_eq_some_iff.1 hw
  simp only [Prod.mk.injEq] at hx1
  obtain ⟨rfl, rfl⟩ := hx1
  exact OpenSpec.preRow_of_cond 8 hx (by kernel_rfl) (fun k hk => by cases hk) (by kernel_rfl) (laid_met os _)

set_option maxRecDepth 100000 in
theorem lifted (os : Os) (started : os.Started) (H : Type) (enc : TypeId × Value → H) (F : Stop.Interp) :
    ReturnsInHanded {} Tryd.checked os 3 .any ((OpenSpec.ofChange Rows.foldRowsSpec).preRow enc Tryd.prog Tryd.f3 Rows.foldRowsRow.domain false Rows.foldRowsRow.laid) (((OpenSpec.ofChange Rows.foldRowsSpec).at F).post enc Tryd.prog Tryd.f3 false true false false) := by
  refine returnsInHanded_of_row (C := Tryd.checked) (s := OpenSpec.ofChange Rows.foldRowsSpec) own started (by kernel_rfl) Tryd.func3
    (witness_row_atRef (enc := enc) (C := Tryd.checked) false (laidWorld os) #[.agg #[.int .i64 0, .bool false], .slice none 0 0] rfl (by kernel_rfl) (by kernel_rfl) (by kernel_rfl) (witness os enc)) ?_
  intro W base args ds gs before hval hW _ _ _ hL _ _
  exact contract H enc W base args ds gs before hval hW hL

theorem said : Rows.FoldRowsSaid :=
  OpenClaim.holds_of_cond 3 Tryd.f3 rfl rfl rfl rfl rfl rfl rfl ⟨rfl, rfl, rfl, rfl, rfl⟩ rfl rfl rfl rfl rfl (by kernel_rfl) Tryd.func3 (by kernel_rfl)
    (of_decide_eq_true (by kernel_rfl)) (by unfold Func.isWrapper; first | (rw [if_pos (by decide +kernel)]; kernel_rfl) | (rw [if_neg (by decide +kernel)]; exact ⟨rfl, rfl⟩))
    (fun os started H enc _ F => by rw [OpenClaim.pre_eq_preRow]; exact lifted os started H enc F)

theorem plain (f : FuncId) (fn : Func) (hf : Tryd.pinned.checked.prog.funcNamed Rows.foldRowsRow.func = some f) (hfn : Tryd.pinned.checked.prog.funcs[f]? = some fn) :
    false = Tryd.pinned.checked.prog.looks [] ∧ ∀ (j : Nat) t, fn.params[j]? = some t → Tryd.pinned.checked.prog.wantsStandIn t = false := by
  obtain rfl : f = 3 := Option.some.inj ((show Tryd.prog.funcNamed Rows.foldRowsRow.func = some 3 by kernel_rfl).symm.trans hf) |>.symm
  obtain rfl : fn = Tryd.f3 := (Option.some.inj (Tryd.func3.symm.trans hfn)).symm
  refine ⟨by kernel_rfl, fun j t ht => ?_⟩
  rw [Tryd.params3] at ht
  have hm := Array.mem_of_getElem? ht
  simp only [List.mem_toArray, List.mem_cons, List.not_mem_nil, or_false] at hm
  rcases hm with rfl | rfl
  · exact (show Tryd.prog.wantsStandIn 23 = false by kernel_rfl)
  · exact (show Tryd.prog.wantsStandIn 24 = false by kernel_rfl)

theorem proved : Rows.FoldRowsCardSaid :=
  Claim7.holds_tied_plain_at .later [] _ _ _ _ said (fun _ h => by cases h) (by kernel_rfl) (fun _ h => by cases h) foldRows_row_tie rfl ⟨rfl, rfl⟩ (by kernel_rfl) rfl plain (by kernel_rfl)
end Go.Proofs.YtfnpdflapmbnjaaDoor.foldRows
