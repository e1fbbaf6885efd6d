/-
  Proved: for any code rifflelaw04.ScalarKinds returns true, and the argument reads afterwards as it read before: the card, tied to the text that lays scalar.traits. No other condition; the card speaks of the pruned copy of the project that this seat's roots load.
-/
import Derived.Test.YtknphbkmghflcaaDoorScCard
import Derived.Test.YtknphbkmghflcaaDoorScKind
namespace Go.Proofs.YtknphbkmghflcaaDoor.scalarKinds
open Go.Proofs.YtknphbkmghflcaaDoor.Sc
open Go.Joins Go.ChangeShapes Go.WideShapes Go.ChangeAt Go.RowKit Go.Deep
set_option linter.unusedVariables false

section
variable (c : Int) (u : Int) (t : Bool) (w : World)
theorem unit_w (h : (trOf c).unit = u) (ht : (trOf c).starts = t) (hT : Tab w) : Calls Tryd.prog 17 #[.int .i64 c] w fun e w' => e = .returned (.tuple #[.int .i64 u, .bool t]) ∧ Below w.heap.size w w' := by
  subst h ht; exact unit_any c w hT
theorem runit_w (h : (trOf c).unit = u) (ht : (trOf c).starts = t) : Calls Tryd.prog 18 #[.int .i64 c] w fun e w' => e = .returned (.tuple #[.int .i64 u, .bool t]) ∧ Below w.heap.size w w' := by
  subst h ht; exact runit_any c w
theorem joins_w (ht : (trOf c).joins = t) (hT : Tab w) : Calls Tryd.prog 19 #[.int .i64 c] w fun e w' => e = .returned (.bool t) ∧ Below w.heap.size w w' := by
  subst ht; exact joins_any c w hT
theorem rjoins_w (ht : (trOf c).joins = t) : Calls Tryd.prog 20 #[.int .i64 c] w fun e w' => e = .returned (.bool t) ∧ Below w.heap.size w w' := by
  subst ht; exact rjoins_any c w
theorem picks_w (ht : (trOf c).picks = t) (hT : Tab w) : Calls Tryd.prog 21 #[.int .i64 c] w fun e w' => e = .returned (.bool t) ∧ Below w.heap.size w w' := by
  subst ht; exact picks_any c w hT
end
set_option maxHeartbeats 2000000 in
theorem walk7 (w : World) (hT : Tab w) : Calls Tryd.prog 5 #[.int .i64 7] w fun e w' => e = .returned (.bool true) ∧ Below w.heap.size w w' := by
  obtain ⟨u, hu⟩ : ∃ u, (trOf 7).unit = u := ⟨_, rfl⟩
  obtain ⟨t, ht⟩ : ∃ t, (trOf 7).starts = t := ⟨_, rfl⟩
  obtain ⟨j, hj⟩ : ∃ j, (trOf 7).joins = j := ⟨_, rfl⟩
  have HU := Lib.hid hu
  have HS := Lib.hid ht
  have HJ := Lib.hid hj
  have HP : Hid ((trOf 7).picks = true) := Lib.hid (by decide)
  have T0 := Lib.hid hT
  have L0 := Lib.hid (Below.refl w.heap.size w)
  clear hu ht hj hT
  go_enter Tryd.func5, Tryd.ntmps5
  go_wp2_with fail
  refine (unit_w 7 u t _ HU.out HS.out T0.out).mono ?_
  rintro e w1 ⟨rfl, hb1⟩
  have T1 := Lib.hid (T0.out.below hb1)
  have L1 := Lib.hid (below_next L0.out hb1)
  clear hb1
  go_wp2_with fail
  refine (runit_w 7 u t _ HU.out HS.out).mono ?_
  rintro e w2 ⟨rfl, hb2⟩
  have T2 := Lib.hid (T1.out.below hb2)
  have L2 := Lib.hid (below_next L1.out hb2)
  clear hb2
  go_wp2_with fail
  refine (joins_w 7 j _ HJ.out T2.out).mono ?_
  rintro e w3 ⟨rfl, hb3⟩
  have T3 := Lib.hid (T2.out.below hb3)
  have L3 := Lib.hid (below_next L2.out hb3)
  clear hb3
  go_wp2_with fail
  refine (rjoins_w 7 j _ HJ.out).mono ?_
  rintro e w4 ⟨rfl, hb4⟩
  have T4 := Lib.hid (T3.out.below hb4)
  have L4 := Lib.hid (below_next L3.out hb4)
  clear hb4
  go_wp2_with fail
  refine (picks_w 7 true _ HP.out T4.out).mono ?_
  rintro e w5 ⟨rfl, hb5⟩
  have T5 := Lib.hid (T4.out.below hb5)
  have L5 := Lib.hid (below_next L4.out hb5)
  clear hb5
  go_wp2_with fail
  refine (lives_any _ T5.out).mono ?_
  rintro e w6 ⟨rfl, hb6⟩
  have L6 := Lib.hid (below_next L5.out hb6)
  clear hb6
  go_wp2
  go_ret
  exact ⟨by simp, L6.out⟩
set_option maxHeartbeats 2000000 in
theorem walk8 (w : World) (hT : Tab w) : Calls Tryd.prog 5 #[.int .i64 8] w fun e w' => e = .returned (.bool true) ∧ Below w.heap.size w w' := by
  obtain ⟨u, hu⟩ : ∃ u, (trOf 8).unit = u := ⟨_, rfl⟩
  obtain ⟨t, ht⟩ : ∃ t, (trOf 8).starts = t := ⟨_, rfl⟩
  obtain ⟨j, hj⟩ : ∃ j, (trOf 8).joins = j := ⟨_, rfl⟩
  have HU := Lib.hid hu
  have HS := Lib.hid ht
  have HJ := Lib.hid hj
  have HP : Hid ((trOf 8).picks = true) := Lib.hid (by decide)
  have T0 := Lib.hid hT
  have L0 := Lib.hid (Below.refl w.heap.size w)
  clear hu ht hj hT
  go_enter Tryd.func5, Tryd.ntmps5
  go_wp2_with fail
  refine (unit_w 8 u t _ HU.out HS.out T0.out).mono ?_
  rintro e w1 ⟨rfl, hb1⟩
  have T1 := Lib.hid (T0.out.below hb1)
  have L1 := Lib.hid (below_next L0.out hb1)
  clear hb1
  go_wp2_with fail
  refine (runit_w 8 u t _ HU.out HS.out).mono ?_
  rintro e w2 ⟨rfl, hb2⟩
  have T2 := Lib.hid (T1.out.below hb2)
  have L2 := Lib.hid (below_next L1.out hb2)
  clear hb2
  go_wp2_with fail
  refine (joins_w 8 j _ HJ.out T2.out).mono ?_
  rintro e w3 ⟨rfl, hb3⟩
  have T3 := Lib.hid (T2.out.below hb3)
  have L3 := Lib.hid (below_next L2.out hb3)
  clear hb3
  go_wp2_with fail
  refine (rjoins_w 8 j _ HJ.out).mono ?_
  rintro e w4 ⟨rfl, hb4⟩
  have T4 := Lib.hid (T3.out.below hb4)
  have L4 := Lib.hid (below_next L3.out hb4)
  clear hb4
  go_wp2_with fail
  refine (picks_w 8 true _ HP.out T4.out).mono ?_
  rintro e w5 ⟨rfl, hb5⟩
  have T5 := Lib.hid (T4.out.below hb5)
  have L5 := Lib.hid (below_next L4.out hb5)
  clear hb5
  go_wp2_with fail
  refine (lives_any _ T5.out).mono ?_
  rintro e w6 ⟨rfl, hb6⟩
  have L6 := Lib.hid (below_next L5.out hb6)
  clear hb6
  go_wp2
  go_ret
  exact ⟨by simp, L6.out⟩
set_option maxHeartbeats 2000000 in
theorem walkE (c : Int) (w : World) (hT : Tab w) (h7 : ¬ c = 7) (h8 : ¬ c = 8) : Calls Tryd.prog 5 #[.int .i64 c] w fun e w' => e = .returned (.bool true) ∧ Below w.heap.size w w' := by
  obtain ⟨u, hu⟩ : ∃ u, (trOf c).unit = u := ⟨_, rfl⟩
  obtain ⟨t, ht⟩ : ∃ t, (trOf c).starts = t := ⟨_, rfl⟩
  obtain ⟨j, hj⟩ : ∃ j, (trOf c).joins = j := ⟨_, rfl⟩
  have HU := Lib.hid hu
  have HS := Lib.hid ht
  have HJ := Lib.hid hj
  have HP : Hid ((trOf c).picks = false) := Lib.hid (picks_not h7 h8)
  have T0 := Lib.hid hT
  have L0 := Lib.hid (Below.refl w.heap.size w)
  have e7 : (c == 7) = false := by simpa using h7
  have e8 : (c == 8) = false := by simpa using h8
  clear h7 h8
  clear hu ht hj hT
  go_enter Tryd.func5, Tryd.ntmps5
  go_wp2_with fail
  refine (unit_w c u t _ HU.out HS.out T0.out).mono ?_
  rintro e w1 ⟨rfl, hb1⟩
  have T1 := Lib.hid (T0.out.below hb1)
  have L1 := Lib.hid (below_next L0.out hb1)
  clear hb1
  go_wp2_with fail
  refine (runit_w c u t _ HU.out HS.out).mono ?_
  rintro e w2 ⟨rfl, hb2⟩
  have T2 := Lib.hid (T1.out.below hb2)
  have L2 := Lib.hid (below_next L1.out hb2)
  clear hb2
  go_wp2_with fail
  refine (joins_w c j _ HJ.out T2.out).mono ?_
  rintro e w3 ⟨rfl, hb3⟩
  have T3 := Lib.hid (T2.out.below hb3)
  have L3 := Lib.hid (below_next L2.out hb3)
  clear hb3
  go_wp2_with fail
  refine (rjoins_w c j _ HJ.out).mono ?_
  rintro e w4 ⟨rfl, hb4⟩
  have T4 := Lib.hid (T3.out.below hb4)
  have L4 := Lib.hid (below_next L3.out hb4)
  clear hb4
  go_wp2_with fail
  refine (picks_w c false _ HP.out T4.out).mono ?_
  rintro e w5 ⟨rfl, hb5⟩
  have T5 := Lib.hid (T4.out.below hb5)
  have L5 := Lib.hid (below_next L4.out hb5)
  clear hb5
  go_wp2_with fail
  refine (lives_any _ T5.out).mono ?_
  rintro e w6 ⟨rfl, hb6⟩
  have L6 := Lib.hid (below_next L5.out hb6)
  clear hb6
  go_wp2
  go_ret
  exact ⟨by simp, L6.out⟩
theorem walk (c : Int) (w : World) (hT : Tab w) : Calls Tryd.prog 5 #[.int .i64 c] w fun e w' => e = .returned (.bool true) ∧ Below w.heap.size w w' := by
  by_cases h7 : c = 7
  · subst h7; exact walk7 w hT
  · by_cases h8 : c = 8
    · subst h8; exact walk8 w hT
    · exact walkE c w hT h7 h8

theorem contract (H : Type) (enc : TypeId × Value → H) (W : World) (base : Nat) (args : Array Value) (ds gs : List (DataW H)) (before : List MemPlace)
    (hval : ∀ (j : Nat) t v, Tryd.f5.params[j]? = some t → args[j]? = some v → Value.okWide Tryd.prog W .any base t v)
    (hW : DataW.Whole enc Tryd.prog Tryd.f5.params.toList Rows.scalarKindsSpec.vars false W args.toList ds gs before) (hL : laidMetH Tryd.prog Rows.scalarTwosRow.laid W) :
    Calls Tryd.prog 5 args W fun e W' => ∃ v, e = .returned v ∧ Rows.scalarKindsSpec.post enc Tryd.prog Tryd.f5 false true false false W args v W' := by
  have hW' := hW
  obtain ⟨p, q, hA0, hV, rfl, hfz, hnd⟩ := hW
  have hA : DataW.TrodAll enc Tryd.prog W 0 (fun _ => true) true Tryd.f5.params.toList args.toList ds p := hA0
  rw [Tryd.params5] at hA hval
  obtain ⟨v0, vs0, d0, ds0, p0, q0, hargs, rfl, rfl, h0, r0⟩ := trodAll_cons hA
  obtain ⟨rfl, rfl, rfl⟩ := trodAll_nil r0
  obtain rfl : args = #[v0] := by cases args; simp_all
  obtain ⟨rfl, rfl⟩ := trodVars_none hV
  have k0 := h0
  have lt0 : ∀ x ∈ p0, x.block < W.heap.size := by obtain ⟨m, hm⟩ := k0; exact DataW.trod_lt m _ _ _ hm
  obtain ⟨a0, rfl, _, _, w0⟩ := open_int Tryd.underlying3 (hval 0 3 v0 rfl rfl) h0
  clear hA0
  refine (walk a0 W (tab_met hL)).mono fun e W' ⟨he, bel⟩ => ?_
  subst he
  exact ⟨_, rfl, _, _, _, [], _, [], hW', trodAll_mk1 (shut_bool Tryd.underlying4 _), (trodAll_cons_mk (Below.trod laidOut (by kernel_rfl) (of_decide_eq_true (by kernel_rfl)) k0 bel lt0) trodAll_mk0), rfl, bel.frame _, fun h => by cases h⟩

theorem witness (os : Os) {H : Type} (enc : TypeId × Value → H) :
    (OpenSpec.ofChange Rows.scalarKindsSpec).preRow enc Tryd.prog Tryd.f5 Rows.scalarKindsRow.domain false Rows.scalarKindsRow.laid ((laidWorld os).forCall (fun _ _ => 0) ⟨#[], #[.int .i64 0], []⟩).memory #[.int .i64 0] := by
  have hw : (DataW.whole enc Tryd.prog ((laidWorld os).forCall (fun _ _ => 0) ⟨#[], #[.int .i64 0], []⟩).memory Tryd.f5.params.toList Rows.scalarKindsSpec.vars false (#[.int .i64 0] : Array Value).toList 8).map (fun x => (x.1, x.2.1)) =
      some ([.lit (.int .i64 0)], []) := by kernel_rfl
  obtain ⟨⟨x1, x2, x3⟩, hx, hx1⟩ := Option.map_eq_some_iff.1 hw
  simp only [Prod.mk.injEq] at hx1
  obtain ⟨rfl, rfl⟩ := hx1
  exact OpenSpec.preRow_of_cond 8 hx (by kernel_rfl) (fun k hk => by cases hk) (by kernel_rfl) (laid_met os _)

set_option maxRecDepth 100000 in
theorem lifted (os : Os) (started : os.Started) (H : Type) (enc : TypeId × Value → H) (F : Stop.Interp) :
    ReturnsInHanded {} Tryd.checked os 5 .any ((OpenSpec.ofChange Rows.scalarKindsSpec).preRow enc Tryd.prog Tryd.f5 Rows.scalarKindsRow.domain false Rows.scalarKindsRow.laid) (((OpenSpec.ofChange Rows.scalarKindsSpec).at F).post enc Tryd.prog Tryd.f5 false true false false) := by
  refine returnsInHanded_of_row (C := Tryd.checked) (s := OpenSpec.ofChange Rows.scalarKindsSpec) own started (by kernel_rfl) Tryd.func5
    (witness_row_atRef (enc := enc) (C := Tryd.checked) false (laidWorld os) #[.int .i64 0] rfl (by kernel_rfl) (by kernel_rfl) (by kernel_rfl) (witness os enc)) ?_
  intro W base args ds gs before hval hW _ _ _ hL _ _
  exact contract H enc W base args ds gs before hval hW hL

theorem said : Rows.ScalarKindsSaid :=
  OpenClaim.holds_of_cond 5 Tryd.f5 rfl rfl rfl rfl rfl rfl rfl ⟨rfl, rfl, rfl, rfl, rfl⟩ rfl rfl rfl rfl rfl (by kernel_rfl) Tryd.func5 (by kernel_rfl)
    (of_decide_eq_true (by kernel_rfl)) (by unfold Func.isWrapper; first | (rw [if_pos (by decide +kernel)]; kernel_rfl) | (rw [if_neg (by decide +kernel)]; exact ⟨rfl, rfl⟩))
    (fun os started H enc _ F => by rw [OpenClaim.pre_eq_preRow]; exact lifted os started H enc F)

theorem plain (f : FuncId) (fn : Func) (hf : Tryd.pinned.checked.prog.funcNamed Rows.scalarKindsRow.func = some f) (hfn : Tryd.pinned.checked.prog.funcs[f]? = some fn) :
    false = Tryd.pinned.checked.prog.looks [] ∧ ∀ (j : Nat) t, fn.params[j]? = some t → Tryd.pinned.checked.prog.wantsStandIn t = false := by
  obtain rfl : f = 5 := Option.some.inj ((show Tryd.prog.funcNamed Rows.scalarKindsRow.func = some 5 by kernel_rfl).symm.trans hf) |>.symm
  obtain rfl : fn = Tryd.f5 := (Option.some.inj (Tryd.func5.symm.trans hfn)).symm
  refine ⟨by kernel_rfl, fun j t ht => ?_⟩
  rw [Tryd.params5] at ht
  have hm := Array.mem_of_getElem? ht
  simp only [List.mem_toArray, List.mem_cons, List.not_mem_nil, or_false] at hm
  subst hm
  exact (show Tryd.prog.wantsStandIn 3 = false by kernel_rfl)

theorem proved : Rows.ScalarKindsCardSaid :=
  Claim7.holds_tied_plain_at .later [] _ _ _ _ said (fun _ h => by cases h) (by kernel_rfl) (fun _ h => by cases h) scalarKinds_row_tie rfl ⟨rfl, rfl⟩ (by kernel_rfl) rfl plain (by kernel_rfl)
end Go.Proofs.YtknphbkmghflcaaDoor.scalarKinds
