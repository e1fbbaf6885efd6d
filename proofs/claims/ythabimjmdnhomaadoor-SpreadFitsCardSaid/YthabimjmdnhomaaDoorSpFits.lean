/-
  Proved: for any two lists of axes rifflelaw05.SpreadFits returns true, and each argument reads afterwards as it read before. The card is tied to the text that lays scalar.traits; it speaks of the pruned copy of the project that this seat's roots load. No other condition.
-/
import Derived.Test.YthabimjmdnhomaaDoorSpLives
namespace Go.Proofs.YthabimjmdnhomaaDoor.spreadFits
open Go.Proofs.YthabimjmdnhomaaDoor.Sh Go.Proofs.YthabimjmdnhomaaDoor.Sp
open Go.Joins Go.ChangeShapes Go.WideShapes Go.ChangeAt Go.RowKit Go.Deep
set_option linter.unusedVariables false

set_option maxHeartbeats 2000000 in
theorem walk (A : Option Addr) (c : Nat) (a : List Int) (B : Option Addr) (c2 : Nat) (b : List Int) (w : World) (hT : Sc.Tab w) (ia : IntsC w A c a) (ib : IntsC w B c2 b) :
    Calls Tryd.prog 3 #[.slice A a.length c, .slice B b.length c2] w fun e w' => e = .returned (.bool true) ∧ Below w.heap.size w w' := by
  obtain ⟨ia, -, -, la, -⟩ := ia
  obtain ⟨ib, -, -, lb, -⟩ := ib
  unfold maxLen at la lb
  by_cases h1 : a.length ≤ 10
  · by_cases h2 : b.length ≤ 10
    · obtain ⟨x, hx⟩ : ∃ x, fitE a b = x := ⟨_, rfl⟩
      obtain ⟨D, hD⟩ : ∃ D, fitD a b = D := ⟨_, rfl⟩
      have hDl : D.length ≤ 100 := by rw [← hD]; exact fit_len (by omega) (by omega)
      have HX := Lib.hid hx
      have HD := Lib.hid hD
      clear hx hD
      have L := Lib.hid (Below.refl w.heap.size w)
      have T := Lib.hid (hT)
      have IA := Lib.hid (ia)
      have IB := Lib.hid (ib)
      clear ia ib hT
      go_enter Tryd.func3, Tryd.ntmps3
      go_wp2_with fail
      refine (fit_v _ _ a _ _ b _ x D HX.out HD.out (by omega) (by omega) IA.out IB.out).mono ?_
      rintro r w1 ⟨A3, c3, rfl, hi, hb⟩
      replace L := Lib.hid (Sh.below_next L.out hb)
      replace T := Lib.hid (T.out.below hb)
      replace IA := Lib.hid (IA.out.below hb)
      replace IB := Lib.hid (IB.out.below hb)
      clear hb
      have ID := Lib.hid (hi)
      clear hi
      go_wp2_with fail
      refine (rfit_v _ _ a _ _ b _ x D HX.out HD.out (by omega) (by omega) IA.out IB.out).mono ?_
      rintro r w2 ⟨A4, c4, rfl, hi, hb⟩
      replace L := Lib.hid (Sh.below_next L.out hb)
      replace T := Lib.hid (T.out.below hb)
      replace IA := Lib.hid (IA.out.below hb)
      replace IB := Lib.hid (IB.out.below hb)
      replace ID := Lib.hid (ID.out.below hb)
      clear hb
      have IE := Lib.hid (hi)
      clear hi
      go_wp2_with fail
      refine (refSame_yes _ _ D _ _ D _ (by unfold maxLen; omega) (by unfold maxLen; omega) ID.out IE.out rfl).mono ?_
      rintro r w3 ⟨rfl, hb⟩
      replace L := Lib.hid (Sh.below_next L.out hb)
      replace T := Lib.hid (T.out.below hb)
      replace IA := Lib.hid (IA.out.below hb)
      replace IB := Lib.hid (IB.out.below hb)
      replace ID := Lib.hid (ID.out.below hb)
      replace IE := Lib.hid (IE.out.below hb)
      clear hb
      go_wp2_with fail
      refine (lives_any _ T.out).mono ?_
      rintro r w4 ⟨rfl, hb⟩
      replace L := Lib.hid (Sh.below_next L.out hb)
      replace T := Lib.hid (T.out.below hb)
      replace IA := Lib.hid (IA.out.below hb)
      replace IB := Lib.hid (IB.out.below hb)
      replace ID := Lib.hid (ID.out.below hb)
      replace IE := Lib.hid (IE.out.below hb)
      clear hb
      go_wp2
      go_ret
      exact ⟨ret_bool (by simp), L.out⟩
    · have h3 : 10 < b.length := by omega
      have L := Lib.hid (Below.refl w.heap.size w)
      have T := Lib.hid (hT)
      clear ia ib hT
      go_enter Tryd.func3, Tryd.ntmps3
      go_wp2_with fail
      refine (lives_any _ T.out).mono ?_
      rintro r w1 ⟨rfl, hb⟩
      replace L := Lib.hid (Sh.below_next L.out hb)
      replace T := Lib.hid (T.out.below hb)
      clear hb
      go_wp2
      go_ret
      exact ⟨rfl, L.out⟩
  · have h3 : 10 < a.length := by omega
    have L := Lib.hid (Below.refl w.heap.size w)
    have T := Lib.hid (hT)
    clear ia ib hT
    go_enter Tryd.func3, Tryd.ntmps3
    go_wp2_with fail
    refine (lives_any _ T.out).mono ?_
    rintro r w1 ⟨rfl, hb⟩
    replace L := Lib.hid (Sh.below_next L.out hb)
    replace T := Lib.hid (T.out.below hb)
    clear hb
    go_wp2
    go_ret
    exact ⟨rfl, L.out⟩

theorem contract (H : Type) (enc : TypeId × Value → H) (W : World) (base : Nat) (args : Array Value) (ds gs : List (DataW H)) (before : List MemPlace)
    (hval : ∀ (j : Nat) t v, Tryd.f3.params[j]? = some t → args[j]? = some v → Value.okWide Tryd.prog W .any base t v)
    (hW : DataW.Whole enc Tryd.prog Tryd.f3.params.toList Rows.spreadFitsSpec.vars false W args.toList ds gs before) (hL : laidMetH Tryd.prog Rows.spreadFitsRow.laid W) :
    Calls Tryd.prog 3 args W fun e W' => ∃ v, e = .returned v ∧ Rows.spreadFitsSpec.post enc Tryd.prog Tryd.f3 false true false false W args v W' := by
  have hW' := hW
  obtain ⟨p, q, hA0, hV, rfl, hfz, hnd⟩ := hW
  have hA : DataW.TrodAll enc Tryd.prog W 0 (fun _ => true) true Tryd.f3.params.toList args.toList ds p := hA0
  rw [Tryd.params3] at hA hval
  obtain ⟨v0, vs0, dd0, ds0, p0, q0, hargs, rfl, rfl, h0, r0⟩ := trodAll_cons hA
  obtain ⟨v1, vs1, dd1, ds1, p1, q1, rfl, rfl, rfl, h1, r1⟩ := trodAll_cons r0
  obtain ⟨rfl, rfl, rfl⟩ := trodAll_nil r1
  obtain rfl : args = #[v0, v1] := by cases args; simp_all
  obtain ⟨rfl, rfl⟩ := trodVars_none hV
  have k0 := h0
  have lt0 : ∀ x ∈ p0, x.block < W.heap.size := by obtain ⟨m, hm⟩ := k0; exact DataW.trod_lt m _ _ _ hm
  obtain ⟨A0, c0, l0, rfl, hl0⟩ := ints_arg Tryd.underlying22 Tryd.underlying3 (by kernel_rfl) (hval 0 22 v0 rfl rfl) h0
  have k1 := h1
  have lt1 : ∀ x ∈ p1, x.block < W.heap.size := by obtain ⟨m, hm⟩ := k1; exact DataW.trod_lt m _ _ _ hm
  obtain ⟨A1, c1, l1, rfl, hl1⟩ := ints_arg Tryd.underlying22 Tryd.underlying3 (by kernel_rfl) (hval 1 22 v1 rfl rfl) h1
  clear hA0
  refine (walk A0 c0 l0 A1 c1 l1 W (tab_met hL) hl0 hl1).mono fun e W' ⟨he, bel⟩ => ?_
  subst he
  exact ⟨_, rfl, _, _, _, [], _, [], hW', trodAll_mk1 (shut_bool Tryd.underlying4 _), (trodAll_cons_mk (Below.trod laidOut (by kernel_rfl) (of_decide_eq_true (by kernel_rfl)) k0 bel lt0) (trodAll_cons_mk (Below.trod laidOut (by kernel_rfl) (of_decide_eq_true (by kernel_rfl)) k1 bel lt1) trodAll_mk0)), rfl, bel.frame _, fun h => by cases h⟩

theorem witness (os : Os) {H : Type} (enc : TypeId × Value → H) :
    (OpenSpec.ofChange Rows.spreadFitsSpec).preRow enc Tryd.prog Tryd.f3 Rows.spreadFitsRow.domain false Rows.spreadFitsRow.laid ((laidWorld os).forCall (fun _ _ => 0) ⟨#[], #[.slice none 0 0, .slice none 0 0], []⟩).memory #[.slice none 0 0, .slice none 0 0] := by
  have hw : (DataW.whole enc Tryd.prog ((laidWorld os).forCall (fun _ _ => 0) ⟨#[], #[.slice none 0 0, .slice none 0 0], []⟩).memory Tryd.f3.params.toList Rows.spreadFitsSpec.vars false (#[.slice none 0 0, .slice none 0 0] : Array Value).toList 8).map (fun x => (x.1, x.2.1)) =
      some ([.nil, .nil], []) := by kernel_rfl
  obtain ⟨⟨x1, x2, x3⟩, hx, hx1⟩ := Option.map_eq_some_iff.1 hw
  simp only [Prod.mk.injEq] at hx1
  obtain ⟨rfl, rfl⟩ := hx1
  exact OpenSpec.preRow_of_cond 8 hx (by kernel_rfl) (fun k hk => by cases hk) (by kernel_rfl) (laid_met os _)

set_option maxRecDepth 100000 in
theorem lifted (os : Os) (started : os.Started) (H : Type) (enc : TypeId × Value → H) (F : Stop.Interp) :
    ReturnsInHanded {} Tryd.checked os 3 .any ((OpenSpec.ofChange Rows.spreadFitsSpec).preRow enc Tryd.prog Tryd.f3 Rows.spreadFitsRow.domain false Rows.spreadFitsRow.laid) (((OpenSpec.ofChange Rows.spreadFitsSpec).at F).post enc Tryd.prog Tryd.f3 false true false false) := by
  refine returnsInHanded_of_row (C := Tryd.checked) (s := OpenSpec.ofChange Rows.spreadFitsSpec) own started (by kernel_rfl) Tryd.func3
    (witness_row_atRef (enc := enc) (C := Tryd.checked) false (laidWorld os) #[.slice none 0 0, .slice none 0 0] rfl (by kernel_rfl) (by kernel_rfl) (by kernel_rfl) (witness os enc)) ?_
  intro W base args ds gs before hval hW _ _ _ hL _ _
  exact contract H enc W base args ds gs before hval hW hL

theorem said : Rows.SpreadFitsSaid :=
  OpenClaim.holds_of_cond 3 Tryd.f3 rfl rfl rfl rfl rfl rfl rfl ⟨rfl, rfl, rfl, rfl, rfl⟩ rfl rfl rfl rfl rfl (by kernel_rfl) Tryd.func3 (by kernel_rfl)
    (of_decide_eq_true (by kernel_rfl)) (by unfold Func.isWrapper; first | (rw [if_pos (by decide +kernel)]; kernel_rfl) | (rw [if_neg (by decide +kernel)]; exact ⟨rfl, rfl⟩))
    (fun os started H enc _ F => by rw [OpenClaim.pre_eq_preRow]; exact lifted os started H enc F)

theorem plain (f : FuncId) (fn : Func) (hf : Tryd.pinned.checked.prog.funcNamed Rows.spreadFitsRow.func = some f) (hfn : Tryd.pinned.checked.prog.funcs[f]? = some fn) :
    false = Tryd.pinned.checked.prog.looks [] ∧ ∀ (j : Nat) t, fn.params[j]? = some t → Tryd.pinned.checked.prog.wantsStandIn t = false := by
  obtain rfl : f = 3 := Option.some.inj ((show Tryd.prog.funcNamed Rows.spreadFitsRow.func = some 3 by kernel_rfl).symm.trans hf) |>.symm
  obtain rfl : fn = Tryd.f3 := (Option.some.inj (Tryd.func3.symm.trans hfn)).symm
  refine ⟨by kernel_rfl, fun j t ht => ?_⟩
  rw [Tryd.params3] at ht
  have hm := Array.mem_of_getElem? ht
  simp only [List.mem_toArray, List.mem_cons, List.not_mem_nil, or_false] at hm
  rcases hm with rfl | rfl
  · exact (show Tryd.prog.wantsStandIn 22 = false by kernel_rfl)
  · exact (show Tryd.prog.wantsStandIn 22 = false by kernel_rfl)

theorem proved : Rows.SpreadFitsCardSaid :=
  Claim7.holds_tied_plain_at .later [] _ _ _ _ said (fun _ h => by cases h) (by kernel_rfl) (fun _ h => by cases h) spreadFits_row_tie rfl ⟨rfl, rfl⟩ (by kernel_rfl) rfl plain (by kernel_rfl)
end Go.Proofs.YthabimjmdnhomaaDoor.spreadFits
