/-
  Proved: for any function and any two numbers rifflelaw04.ScalarTwos returns true, and each argument reads afterwards as it read before: the card, tied to the text that lays scalar.traits. No other condition; the card speaks of the pruned copy of the project that this seat's roots load.
-/
import Derived.Test.YtknphbkmghflcaaDoorScCard
import Derived.Test.YtknphbkmghflcaaDoorScRTwo
namespace Go.Proofs.YtknphbkmghflcaaDoor.scalarTwos
open Go.Proofs.YtknphbkmghflcaaDoor.Sc
open Go.Joins Go.ChangeShapes Go.WideShapes Go.ChangeAt Go.RowKit Go.Deep
set_option linter.unusedVariables false

section
variable (c : Int) (s : Bool) (a b x : Int) (t : Bool) (w : World)
theorem two_w (h : twoI c a b = x) (hB : twoB c = t) (hT : Tab w) (ha : InR a) (hb : InR b) : Calls Tryd.prog 8 #[.int .i64 c, .int .i64 a, .int .i64 b] w fun e w' => e = .returned (.tuple #[.int .i64 x, .bool t]) ∧ Below w.heap.size w w' := by
  subst h hB; exact two_any c a b w hT ha hb
theorem rtwo_w (h : twoI c a b = x) (hB : twoB c = t) (ha : InR a) (hb : InR b) : Calls Tryd.prog 9 #[.int .i64 c, .int .i64 a, .int .i64 b] w fun e w' => e = .returned (.tuple #[.int .i64 x, .bool t]) ∧ Below w.heap.size w w' := by
  subst h hB; exact rtwo_any c a b w ha hb
theorem do_w (h : doI c s a b = x) (hB : twoB c = t) (hT : Tab w) (ha : InR a) (hb : InR b) : Calls Tryd.prog 10 #[.agg #[.int .i64 c, .bool s], .int .i64 a, .int .i64 b] w fun e w' => e = .returned (.tuple #[.int .i64 x, .bool t]) ∧ Below w.heap.size w w' := by
  subst h hB; exact do_any c s a b w hT ha hb
theorem rdo_w (h : doI c s a b = x) (hB : twoB c = t) (ha : InR a) (hb : InR b) : Calls Tryd.prog 11 #[.int .i64 c, .bool s, .int .i64 a, .int .i64 b] w fun e w' => e = .returned (.tuple #[.int .i64 x, .bool t]) ∧ Below w.heap.size w w' := by
  subst h hB; exact rdo_any c s a b w ha hb
end
theorem keepFn {W w1 : World} {g : Nat} {x y : Value} (hb : Below W.heap.size W w1) (h : W.cell? ⟨g, 0, none⟩ = some x ∧ W.cell? ⟨g, 1, none⟩ = some y) :
    w1.cell? ⟨g, 0, none⟩ = some x ∧ w1.cell? ⟨g, 1, none⟩ = some y :=
  ⟨(hb.cell (p := ⟨g, 0, none⟩) (World.block_lt_of_cell? W ⟨g, 0, none⟩ h.1)).trans h.1, (hb.cell (p := ⟨g, 1, none⟩) (World.block_lt_of_cell? W ⟨g, 0, none⟩ h.1)).trans h.2⟩
set_option maxHeartbeats 2000000 in
theorem walk (c : Int) (s : Bool) (a b : Int) (w : World) (hT : Tab w) (ha : InR a) (hb : InR b) :
    Calls Tryd.prog 3 #[.agg #[.int .i64 c, .bool s], .int .i64 a, .int .i64 b] w fun e w' => e = .returned (.bool true) ∧ Below w.heap.size w w' := by
  have hB : Below w.heap.size w (w.alloc (.cells #[.int .i64 c, .bool s] 23)) := (Below.refl _ w).alloc (Nat.le_refl _) _
  have hS : (w.alloc (.cells #[.int .i64 c, .bool s] 23)).cell? ⟨w.heap.size, 0, none⟩ = some (.int .i64 c) ∧ (w.alloc (.cells #[.int .i64 c, .bool s] 23)).cell? ⟨w.heap.size, 1, none⟩ = some (.bool s) :=
    ⟨by rw [World.cell?_alloc_at _ _ _ _ (by simp)]; rfl, by rw [World.cell?_alloc_at _ _ _ _ (by simp)]; rfl⟩
  have T0 := Lib.hid (hT.below hB)
  have L0 := Lib.hid hB
  have S0 := Lib.hid hS
  clear hT hB hS
  obtain ⟨x, hx⟩ : ∃ x, twoI c a b = x := ⟨_, rfl⟩
  obtain ⟨y, hy⟩ : ∃ y, doI c s a b = y := ⟨_, rfl⟩
  obtain ⟨t, ht⟩ : ∃ t, twoB c = t := ⟨_, rfl⟩
  have HX := Lib.hid hx
  have HY := Lib.hid hy
  have HB := Lib.hid ht
  clear hx hy ht
  go_enter Tryd.func3, Tryd.ntmps3
  go_wp2_with fail
  refine (two_w c a b x t _ HX.out HB.out T0.out ha hb).mono ?_
  rintro e w1 ⟨rfl, hb1⟩
  have T1 := Lib.hid (T0.out.below hb1)
  have L1 := Lib.hid (below_next L0.out hb1)
  have S1 := Lib.hid (keepFn hb1 S0.out)
  obtain ⟨q0, q1⟩ := S1.out
  clear hb1
  go_wp2_with fail
  refine (rtwo_w c a b x t _ HX.out HB.out ha hb).mono ?_
  rintro e w2 ⟨rfl, hb2⟩
  have T2 := Lib.hid (T1.out.below hb2)
  have L2 := Lib.hid (below_next L1.out hb2)
  have S2 := Lib.hid (keepFn hb2 S1.out)
  obtain ⟨q0, q1⟩ := S2.out
  clear hb2
  go_wp2_with fail
  refine (do_w c s a b y t _ HY.out HB.out T2.out ha hb).mono ?_
  rintro e w3 ⟨rfl, hb3⟩
  have T3 := Lib.hid (T2.out.below hb3)
  have L3 := Lib.hid (below_next L2.out hb3)
  have S3 := Lib.hid (keepFn hb3 S2.out)
  obtain ⟨q0, q1⟩ := S3.out
  clear hb3
  go_wp2_with fail
  refine (rdo_w c s a b y t _ HY.out HB.out ha hb).mono ?_
  rintro e w4 ⟨rfl, hb4⟩
  have T4 := Lib.hid (T3.out.below hb4)
  have L4 := Lib.hid (below_next L3.out hb4)
  have S4 := Lib.hid (keepFn hb4 S3.out)
  obtain ⟨q0, q1⟩ := S4.out
  clear hb4
  go_wp2_with fail
  refine (lives_any _ T4.out).mono ?_
  rintro e w5 ⟨rfl, hb5⟩
  have L5 := Lib.hid (below_next L4.out hb5)
  clear hb5
  go_wp2
  go_ret
  exact ⟨by simp, L5.out⟩

theorem contract (H : Type) (enc : TypeId × Value → H) (W : World) (base : Nat) (args : Array Value) (ds gs : List (DataW H)) (before : List MemPlace)
    (hval : ∀ (j : Nat) t v, Tryd.f3.params[j]? = some t → args[j]? = some v → Value.okWide Tryd.prog W .any base t v)
    (hW : DataW.Whole enc Tryd.prog Tryd.f3.params.toList Rows.scalarTwosSpec.vars false W args.toList ds gs before) (hL : laidMetH Tryd.prog Rows.scalarTwosRow.laid W) :
    Calls Tryd.prog 3 args W fun e W' => ∃ v, e = .returned v ∧ Rows.scalarTwosSpec.post enc Tryd.prog Tryd.f3 false true false false W args v W' := by
  have hW' := hW
  obtain ⟨p, q, hA0, hV, rfl, hfz, hnd⟩ := hW
  have hA : DataW.TrodAll enc Tryd.prog W 0 (fun _ => true) true Tryd.f3.params.toList args.toList ds p := hA0
  rw [Tryd.params3] at hA hval
  obtain ⟨v0, vs0, d0, ds0, p0, q0, hargs, rfl, rfl, h0, r0⟩ := trodAll_cons hA
  obtain ⟨v1, vs1, d1, ds1, p1, q1, rfl, rfl, rfl, h1, r1⟩ := trodAll_cons r0
  obtain ⟨v2, vs2, d2, ds2, p2, q2, rfl, rfl, rfl, h2, r2⟩ := trodAll_cons r1
  obtain ⟨rfl, rfl, rfl⟩ := trodAll_nil r2
  obtain rfl : args = #[v0, v1, v2] := by cases args; simp_all
  obtain ⟨rfl, rfl⟩ := trodVars_none hV
  have k0 := h0
  have lt0 : ∀ x ∈ p0, x.block < W.heap.size := by obtain ⟨m, hm⟩ := k0; exact DataW.trod_lt m _ _ _ hm
  obtain ⟨x0, y0, ya0, yb0, fu0, rfl, _, _, ta0, tb0⟩ := open_agg2 Tryd.underlying23 (by kernel_rfl) (by kernel_rfl) (hval 0 23 v0 rfl rfl) h0
  obtain ⟨c, hcs, _, _⟩ := DataW.trod_int Tryd.underlying3 ta0
  obtain ⟨s, hss, _⟩ := DataW.trod_bool Tryd.underlying4 tb0
  injection hcs with hcs
  injection hss with hss
  subst hcs hss
  have k1 := h1
  have lt1 : ∀ x ∈ p1, x.block < W.heap.size := by obtain ⟨m, hm⟩ := k1; exact DataW.trod_lt m _ _ _ hm
  obtain ⟨a1, rfl, _, _, w1⟩ := open_int Tryd.underlying2 (hval 1 2 v1 rfl rfl) h1
  have k2 := h2
  have lt2 : ∀ x ∈ p2, x.block < W.heap.size := by obtain ⟨m, hm⟩ := k2; exact DataW.trod_lt m _ _ _ hm
  obtain ⟨a2, rfl, _, _, w2⟩ := open_int Tryd.underlying2 (hval 2 2 v2 rfl rfl) h2
  clear hA0
  refine (walk c s a1 a2 W (tab_met hL) (inR_of w1) (inR_of w2)).mono fun e W' ⟨he, bel⟩ => ?_
  subst he
  exact ⟨_, rfl, _, _, _, [], _, [], hW', trodAll_mk1 (shut_bool Tryd.underlying4 _), (trodAll_cons_mk (Below.trod laidOut (by kernel_rfl) (of_decide_eq_true (by kernel_rfl)) k0 bel lt0) (trodAll_cons_mk (Below.trod laidOut (by kernel_rfl) (of_decide_eq_true (by kernel_rfl)) k1 bel lt1) (trodAll_cons_mk (Below.trod laidOut (by kernel_rfl) (of_decide_eq_true (by kernel_rfl)) k2 bel lt2) trodAll_mk0))), rfl, bel.frame _, fun h => by cases h⟩

theorem witness (os : Os) {H : Type} (enc : TypeId × Value → H) :
    (OpenSpec.ofChange Rows.scalarTwosSpec).preRow enc Tryd.prog Tryd.f3 Rows.scalarTwosRow.domain false Rows.scalarTwosRow.laid ((laidWorld os).forCall (fun _ _ => 0) ⟨#[], #[.agg #[.int .i64 0, .bool false], .int .i64 0, .int .i64 0], []⟩).memory #[.agg #[.int .i64 0, .bool false], .int .i64 0, .int .i64 0] := by
  have hw : (DataW.whole enc Tryd.prog ((laidWorld os).forCall (fun _ _ => 0) ⟨#[], #[.agg #[.int .i64 0, .bool false], .int .i64 0, .int .i64 0], []⟩).memory Tryd.f3.params.toList Rows.scalarTwosSpec.vars false (#[.agg #[.int .i64 0, .bool false], .int .i64 0, .int .i64 0] : Array Value).toList 8).map (fun x => (x.1, x.2.1)) =
      some ([.agg [.lit (.int .i64 0), .lit (.bool false)], .lit (.int .i64 0), .lit (.int .i64 0)], []) := by kernel_rfl
  obtain ⟨⟨x1, x2, x3⟩, hx, hx1⟩ := Option.map_eq_some_iff.1 hw
  simp only [Prod.mk.injEq] at hx1
  obtain ⟨rfl, rfl⟩ := hx1
  exact OpenSpec.preRow_of_cond 8 hx (by kernel_rfl) (fun k hk => by cases hk) (by kernel_rfl) (laid_met os _)

set_option maxRecDepth 100000 in
theorem lifted (os : Os) (started : os.Started) (H : Type) (enc : TypeId × Value → H) (F : Stop.Interp) :
    ReturnsInHanded {} Tryd.checked os 3 .any ((OpenSpec.ofChange Rows.scalarTwosSpec).preRow enc Tryd.prog Tryd.f3 Rows.scalarTwosRow.domain false Rows.scalarTwosRow.laid) (((OpenSpec.ofChange Rows.scalarTwosSpec).at F).post enc Tryd.prog Tryd.f3 false true false false) := by
  refine returnsInHanded_of_row (C := Tryd.checked) (s := OpenSpec.ofChange Rows.scalarTwosSpec) own started (by kernel_rfl) Tryd.func3
    (witness_row_atRef (enc := enc) (C := Tryd.checked) false (laidWorld os) #[.agg #[.int .i64 0, .bool false], .int .i64 0, .int .i64 0] rfl (by kernel_rfl) (by kernel_rfl) (by kernel_rfl) (witness os enc)) ?_
  intro W base args ds gs before hval hW _ _ _ hL _ _
  exact contract H enc W base args ds gs before hval hW hL

theorem said : Rows.ScalarTwosSaid :=
  OpenClaim.holds_of_cond 3 Tryd.f3 rfl rfl rfl rfl rfl rfl rfl ⟨rfl, rfl, rfl, rfl, rfl⟩ rfl rfl rfl rfl rfl (by kernel_rfl) Tryd.func3 (by kernel_rfl)
    (of_decide_eq_true (by kernel_rfl)) (by unfold Func.isWrapper; first | (rw [if_pos (by decide +kernel)]; kernel_rfl) | (rw [if_neg (by decide +kernel)]; exact ⟨rfl, rfl⟩))
    (fun os started H enc _ F => by rw [OpenClaim.pre_eq_preRow]; exact lifted os started H enc F)

theorem plain (f : FuncId) (fn : Func) (hf : Tryd.pinned.checked.prog.funcNamed Rows.scalarTwosRow.func = some f) (hfn : Tryd.pinned.checked.prog.funcs[f]? = some fn) :
    false = Tryd.pinned.checked.prog.looks [] ∧ ∀ (j : Nat) t, fn.params[j]? = some t → Tryd.pinned.checked.prog.wantsStandIn t = false := by
  obtain rfl : f = 3 := Option.some.inj ((show Tryd.prog.funcNamed Rows.scalarTwosRow.func = some 3 by kernel_rfl).symm.trans hf) |>.symm
  obtain rfl : fn = Tryd.f3 := (Option.some.inj (Tryd.func3.symm.trans hfn)).symm
  refine ⟨by kernel_rfl, fun j t ht => ?_⟩
  rw [Tryd.params3] at ht
  have hm := Array.mem_of_getElem? ht
  simp only [List.mem_toArray, List.mem_cons, List.not_mem_nil, or_false] at hm
  rcases hm with rfl | rfl | rfl
  · exact (show Tryd.prog.wantsStandIn 23 = false by kernel_rfl)
  · exact (show Tryd.prog.wantsStandIn 2 = false by kernel_rfl)
  · exact (show Tryd.prog.wantsStandIn 2 = false by kernel_rfl)

theorem proved : Rows.ScalarTwosCardSaid :=
  Claim7.holds_tied_plain_at .later [] _ _ _ _ said (fun _ h => by cases h) (by kernel_rfl) (fun _ h => by cases h) scalarTwos_row_tie rfl ⟨rfl, rfl⟩ (by kernel_rfl) rfl plain (by kernel_rfl)
end Go.Proofs.YtknphbkmghflcaaDoor.scalarTwos
