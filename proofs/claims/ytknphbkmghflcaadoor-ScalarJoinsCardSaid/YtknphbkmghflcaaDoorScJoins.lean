/-
  Proved: for any function and any three numbers rifflelaw04.ScalarJoins returns true, and each argument reads afterwards as it read before: the card, tied to the text that lays scalar.traits. No other condition; the card speaks of the pruned copy of the project that this seat's roots load.
-/
import Derived.Test.YtknphbkmghflcaaDoorScThree
namespace Go.Proofs.YtknphbkmghflcaaDoor.scalarJoins
open Go.Proofs.YtknphbkmghflcaaDoor.Sc
open Go.Joins Go.ChangeShapes Go.WideShapes Go.ChangeAt Go.RowKit Go.Deep
set_option linter.unusedVariables false

theorem unit_w (c u : Int) (t : Bool) (w : World) (h : (trOf c).unit = u) (ht : (trOf c).starts = t) (hT : Tab w) : Calls Tryd.prog 17 #[.int .i64 c] w fun e w' => e = .returned (.tuple #[.int .i64 u, .bool t]) ∧ Below w.heap.size w w' := by
  subst h ht; exact unit_any c w hT
theorem joins_w (c : Int) (t : Bool) (w : World) (ht : (trOf c).joins = t) (hT : Tab w) : Calls Tryd.prog 19 #[.int .i64 c] w fun e w' => e = .returned (.bool t) ∧ Below w.heap.size w w' := by
  subst ht; exact joins_any c w hT
theorem do_z (c : Int) (s : Bool) (a b x : Int) (z : Bool) (w : World) (h : doI c s a b = x) (hz : twoB c = z) (hT : Tab w) (ha : InR a) (hb : InR b) : Calls Tryd.prog 10 #[.agg #[.int .i64 c, .bool s], .int .i64 a, .int .i64 b] w fun e w' => e = .returned (.tuple #[.int .i64 x, .bool z]) ∧ Below w.heap.size w w' := by
  subst h hz; exact do_any c s a b w hT ha hb
/-- The function and the three numbers, as they are boxed. -/
def Held (w : World) (g : Nat) (c : Int) (s : Bool) (z0 z1 z2 : Int) : Prop :=
  (w.cell? ⟨g, 0, none⟩ = some (.int .i64 c) ∧ w.cell? ⟨g, 1, none⟩ = some (.bool s)) ∧ w.cell? ⟨g + 1, 0, none⟩ = some (.int .i64 z0) ∧ w.cell? ⟨g + 1, 1, none⟩ = some (.int .i64 z1) ∧ w.cell? ⟨g + 1, 2, none⟩ = some (.int .i64 z2)
theorem Held.below {w w' : World} {g : Nat} {c : Int} {s : Bool} {z0 z1 z2 : Int} (h : Held w g c s z0 z1 z2) (hb : Below w.heap.size w w') : Held w' g c s z0 z1 z2 := by
  obtain ⟨h0, h1, h2, h3⟩ := h
  have hg := World.block_lt_of_cell? w ⟨g + 1, 0, none⟩ h1
  exact ⟨keepFn hb h0, (hb.cell (p := ⟨g + 1, 0, none⟩) hg).trans h1, (hb.cell (p := ⟨g + 1, 1, none⟩) hg).trans h2, (hb.cell (p := ⟨g + 1, 2, none⟩) hg).trans h3⟩
theorem held_new (w : World) (c : Int) (s : Bool) (z0 z1 z2 : Int) : Held ((w.alloc (.cells #[.int .i64 c, .bool s] 23)).alloc (.cells #[.int .i64 z0, .int .i64 z1, .int .i64 z2] 35)) w.heap.size c s z0 z1 z2 := by
  have e : w.heap.size + 1 = (w.alloc (.cells #[.int .i64 c, .bool s] 23)).heap.size := by simp
  refine ⟨⟨?_, ?_⟩, ?_, ?_, ?_⟩
  · rw [World.cell?_alloc_past _ _ _ (by simp), World.cell?_alloc_at _ _ _ _ (by simp)]; rfl
  · rw [World.cell?_alloc_past _ _ _ (by simp), World.cell?_alloc_at _ _ _ _ (by simp)]; rfl
  · rw [e, World.cell?_alloc_at _ _ _ _ (by simp)]; rfl
  · rw [e, World.cell?_alloc_at _ _ _ _ (by simp)]; rfl
  · rw [e, World.cell?_alloc_at _ _ _ _ (by simp)]; rfl

set_option maxHeartbeats 2000000 in
theorem walkN (c : Int) (s : Bool) (z0 z1 z2 : Int) (w : World) (hT : Tab w) (r0 : InR z0) (r1 : InR z1) (r2 : InR z2) (hj : (trOf c).joins = false) : Calls Tryd.prog 6 #[.agg #[.int .i64 c, .bool s], .agg #[.int .i64 z0, .int .i64 z1, .int .i64 z2]] w fun e w' => e = .returned (.bool true) ∧ Below w.heap.size w w' := by
  have hB : Below w.heap.size w ((w.alloc (.cells #[.int .i64 c, .bool s] 23)).alloc (.cells #[.int .i64 z0, .int .i64 z1, .int .i64 z2] 35)) := ((Below.refl _ w).alloc (Nat.le_refl _) _).alloc (by simp) _
  have T0 := Lib.hid (hT.below hB)
  have L0 := Lib.hid hB
  have S0 := Lib.hid (held_new w c s z0 z1 z2)
  have HJ := Lib.hid hj
  clear hj
  clear hT hB
  go_enter Tryd.func6, Tryd.ntmps6
  go_wp2_with fail
  refine (joins_w c false _ HJ.out T0.out).mono ?_
  rintro e w1 ⟨rfl, hb1⟩
  have T1 := Lib.hid (T0.out.below hb1)
  have L1 := Lib.hid (below_next L0.out hb1)
  have S1 := Lib.hid (S0.out.below hb1)
  obtain ⟨⟨q0, q1⟩, q2, q3, q4⟩ := S1.out
  clear hb1
  go_wp2_with fail
  refine (lives_any _ T1.out).mono ?_
  rintro e w2 ⟨rfl, hb2⟩
  have L2 := Lib.hid (below_next L1.out hb2)
  clear hb2
  go_wp2
  go_ret
  exact ⟨by simp, L2.out⟩
set_option maxHeartbeats 2000000 in
theorem walkF (c : Int) (s : Bool) (z0 z1 z2 : Int) (w : World) (hT : Tab w) (r0 : InR z0) (r1 : InR z1) (r2 : InR z2) (hj : (trOf c).joins = true) (hs : (trOf c).starts = false) : Calls Tryd.prog 6 #[.agg #[.int .i64 c, .bool s], .agg #[.int .i64 z0, .int .i64 z1, .int .i64 z2]] w fun e w' => e = .returned (.bool true) ∧ Below w.heap.size w w' := by
  have hB : Below w.heap.size w ((w.alloc (.cells #[.int .i64 c, .bool s] 23)).alloc (.cells #[.int .i64 z0, .int .i64 z1, .int .i64 z2] 35)) := ((Below.refl _ w).alloc (Nat.le_refl _) _).alloc (by simp) _
  have T0 := Lib.hid (hT.below hB)
  have L0 := Lib.hid hB
  have S0 := Lib.hid (held_new w c s z0 z1 z2)
  obtain ⟨x, hx⟩ : ∃ x, doI c s z0 (doI c s z1 z2) = x := ⟨_, rfl⟩
  have hy : doI c s (doI c s z0 z1) z2 = x := by rw [← do_assoc hj]; exact hx
  obtain ⟨u, hu⟩ : ∃ u, (trOf c).unit = u := ⟨_, rfl⟩
  have HX := Lib.hid hx
  have HY := Lib.hid hy
  have HU := Lib.hid hu
  have HJ := Lib.hid hj
  have HS := Lib.hid hs
  have HH := Lib.hid (joins_has hj)
  clear hx hy hu hj hs
  clear hT hB
  go_enter Tryd.func6, Tryd.ntmps6
  go_wp2_with fail
  refine (joins_w c true _ HJ.out T0.out).mono ?_
  rintro e w1 ⟨rfl, hb1⟩
  have T1 := Lib.hid (T0.out.below hb1)
  have L1 := Lib.hid (below_next L0.out hb1)
  have S1 := Lib.hid (S0.out.below hb1)
  obtain ⟨⟨q0, q1⟩, q2, q3, q4⟩ := S1.out
  clear hb1
  go_wp2_with fail
  refine (three_any c s z0 z1 z2 x x _ T1.out r0 r1 r2 HX.out HY.out).mono ?_
  rintro e w2 ⟨rfl, hb2⟩
  have T2 := Lib.hid (T1.out.below hb2)
  have L2 := Lib.hid (below_next L1.out hb2)
  have S2 := Lib.hid (S1.out.below hb2)
  obtain ⟨⟨q0, q1⟩, q2, q3, q4⟩ := S2.out
  clear hb2
  go_wp2_with fail
  refine (unit_w c u false _ HU.out HS.out T2.out).mono ?_
  rintro e w3 ⟨rfl, hb3⟩
  have T3 := Lib.hid (T2.out.below hb3)
  have L3 := Lib.hid (below_next L2.out hb3)
  have S3 := Lib.hid (S2.out.below hb3)
  obtain ⟨⟨q0, q1⟩, q2, q3, q4⟩ := S3.out
  clear hb3
  go_wp2_with fail
  refine (has_b c 2 true _ HH.out T3.out).mono ?_
  rintro e w4 ⟨rfl, hb4⟩
  have T4 := Lib.hid (T3.out.below hb4)
  have L4 := Lib.hid (below_next L3.out hb4)
  have S4 := Lib.hid (S3.out.below hb4)
  obtain ⟨⟨q0, q1⟩, q2, q3, q4⟩ := S4.out
  clear hb4
  go_wp2_with fail
  refine (lives_any _ T4.out).mono ?_
  rintro e w5 ⟨rfl, hb5⟩
  have L5 := Lib.hid (below_next L4.out hb5)
  clear hb5
  go_wp2
  go_ret
  exact ⟨by simp, L5.out⟩
set_option maxHeartbeats 2000000 in
theorem walkT (c : Int) (s : Bool) (z0 z1 z2 : Int) (w : World) (hT : Tab w) (r0 : InR z0) (r1 : InR z1) (r2 : InR z2) (hj : (trOf c).joins = true) (hs : (trOf c).starts = true) : Calls Tryd.prog 6 #[.agg #[.int .i64 c, .bool s], .agg #[.int .i64 z0, .int .i64 z1, .int .i64 z2]] w fun e w' => e = .returned (.bool true) ∧ Below w.heap.size w w' := by
  have hB : Below w.heap.size w ((w.alloc (.cells #[.int .i64 c, .bool s] 23)).alloc (.cells #[.int .i64 z0, .int .i64 z1, .int .i64 z2] 35)) := ((Below.refl _ w).alloc (Nat.le_refl _) _).alloc (by simp) _
  have T0 := Lib.hid (hT.below hB)
  have L0 := Lib.hid hB
  have S0 := Lib.hid (held_new w c s z0 z1 z2)
  obtain ⟨x, hx⟩ : ∃ x, doI c s z0 (doI c s z1 z2) = x := ⟨_, rfl⟩
  have hy : doI c s (doI c s z0 z1) z2 = x := by rw [← do_assoc hj]; exact hx
  obtain ⟨u, hu⟩ : ∃ u, (trOf c).unit = u := ⟨_, rfl⟩
  have HX := Lib.hid hx
  have HY := Lib.hid hy
  have HU := Lib.hid hu
  have HJ := Lib.hid hj
  have HS := Lib.hid hs
  have HH := Lib.hid (joins_has hj)
  have hud := unit_do hj hs s r0
  have ur := unit_R c
  rw [hu] at hud ur
  have HD := Lib.hid hud
  obtain ⟨z, hz⟩ : ∃ z, twoB c = z := ⟨_, rfl⟩
  have HZ := Lib.hid hz
  clear hx hy hu hj hs hud hz
  clear hT hB
  go_enter Tryd.func6, Tryd.ntmps6
  go_wp2_with fail
  refine (joins_w c true _ HJ.out T0.out).mono ?_
  rintro e w1 ⟨rfl, hb1⟩
  have T1 := Lib.hid (T0.out.below hb1)
  have L1 := Lib.hid (below_next L0.out hb1)
  have S1 := Lib.hid (S0.out.below hb1)
  obtain ⟨⟨q0, q1⟩, q2, q3, q4⟩ := S1.out
  clear hb1
  go_wp2_with fail
  refine (three_any c s z0 z1 z2 x x _ T1.out r0 r1 r2 HX.out HY.out).mono ?_
  rintro e w2 ⟨rfl, hb2⟩
  have T2 := Lib.hid (T1.out.below hb2)
  have L2 := Lib.hid (below_next L1.out hb2)
  have S2 := Lib.hid (S1.out.below hb2)
  obtain ⟨⟨q0, q1⟩, q2, q3, q4⟩ := S2.out
  clear hb2
  go_wp2_with fail
  refine (unit_w c u true _ HU.out HS.out T2.out).mono ?_
  rintro e w3 ⟨rfl, hb3⟩
  have T3 := Lib.hid (T2.out.below hb3)
  have L3 := Lib.hid (below_next L2.out hb3)
  have S3 := Lib.hid (S2.out.below hb3)
  obtain ⟨⟨q0, q1⟩, q2, q3, q4⟩ := S3.out
  clear hb3
  go_wp2_with fail
  refine (do_z c s u z0 z0 z _ HD.out.1 HZ.out T3.out ur r0).mono ?_
  rintro e w4 ⟨rfl, hb4⟩
  have T4 := Lib.hid (T3.out.below hb4)
  have L4 := Lib.hid (below_next L3.out hb4)
  have S4 := Lib.hid (S3.out.below hb4)
  obtain ⟨⟨q0, q1⟩, q2, q3, q4⟩ := S4.out
  clear hb4
  go_wp2_with fail
  refine (do_z c s z0 u z0 z _ HD.out.2 HZ.out T4.out r0 ur).mono ?_
  rintro e w5 ⟨rfl, hb5⟩
  have T5 := Lib.hid (T4.out.below hb5)
  have L5 := Lib.hid (below_next L4.out hb5)
  have S5 := Lib.hid (S4.out.below hb5)
  obtain ⟨⟨q0, q1⟩, q2, q3, q4⟩ := S5.out
  clear hb5
  go_wp2_with fail
  refine (has_b c 2 true _ HH.out T5.out).mono ?_
  rintro e w6 ⟨rfl, hb6⟩
  have T6 := Lib.hid (T5.out.below hb6)
  have L6 := Lib.hid (below_next L5.out hb6)
  have S6 := Lib.hid (S5.out.below hb6)
  obtain ⟨⟨q0, q1⟩, q2, q3, q4⟩ := S6.out
  clear hb6
  go_wp2_with fail
  refine (lives_any _ T6.out).mono ?_
  rintro e w7 ⟨rfl, hb7⟩
  have L7 := Lib.hid (below_next L6.out hb7)
  clear hb7
  go_wp2
  go_ret
  exact ⟨by simp, L7.out⟩
theorem walk (c : Int) (s : Bool) (z0 z1 z2 : Int) (w : World) (hT : Tab w) (r0 : InR z0) (r1 : InR z1) (r2 : InR z2) : Calls Tryd.prog 6 #[.agg #[.int .i64 c, .bool s], .agg #[.int .i64 z0, .int .i64 z1, .int .i64 z2]] w fun e w' => e = .returned (.bool true) ∧ Below w.heap.size w w' := by
  by_cases hj : (trOf c).joins = true
  · by_cases hs : (trOf c).starts = true
    · exact walkT c s z0 z1 z2 w hT r0 r1 r2 hj hs
    · exact walkF c s z0 z1 z2 w hT r0 r1 r2 hj (by simpa using hs)
  · exact walkN c s z0 z1 z2 w hT r0 r1 r2 (by simpa using hj)
theorem cells3 : Tryd.prog.cellsOf 35 = 3 := by kernel_rfl
theorem cellsL : Tryd.prog.cellsOf 2 = 1 := by kernel_rfl
theorem open_arr3 {H : Type} {enc : TypeId × Value → H} {W : World} {r : Reach} {b0 base : Nat} {sp : Nat → Bool} {held : Bool} {v : Value} {d : DataW H} {p : List MemPlace} (hv : Value.okWide Tryd.prog W r b0 35 v) (h : DataW.Trod enc Tryd.prog W base sp held 35 v d p) :
    ∃ z0 z1 z2 : Int, v = .agg #[.int .i64 z0, .int .i64 z1, .int .i64 z2] ∧ (Lit.int .i64 z0).wf = true ∧ (Lit.int .i64 z1).wf = true ∧ (Lit.int .i64 z2).wf = true := by
  simp only [Value.okWide, Tryd.underlying35] at hv
  obtain ⟨cs, rfl, hsz, _⟩ := hv
  rw [cells3] at hsz
  obtain ⟨l⟩ := cs
  match l, hsz with
  | [c0, c1, c2], _ =>
    obtain ⟨fuel, hf⟩ := h
    obtain ⟨xs, m, _, _, _, hl, hat⟩ := DataW.trod_array Tryd.underlying35 hf
    rw [cellsL] at hat
    have h0 := hat 0 (by omega)
    have h1 := hat 1 (by omega)
    have h2 := hat 2 (by omega)
    match xs, hl with
    | [y0, y1, y2], _ =>
      obtain ⟨n0, e0, _, f0⟩ := DataW.trod_int Tryd.underlying2 h0
      obtain ⟨n1, e1, _, f1⟩ := DataW.trod_int Tryd.underlying2 h1
      obtain ⟨n2, e2, _, f2⟩ := DataW.trod_int Tryd.underlying2 h2
      simp [Value.cells] at e0 e1 e2
      subst e0 e1 e2
      exact ⟨n0, n1, n2, rfl, f0, f1, f2⟩

theorem contract (H : Type) (enc : TypeId × Value → H) (W : World) (base : Nat) (args : Array Value) (ds gs : List (DataW H)) (before : List MemPlace)
    (hval : ∀ (j : Nat) t v, Tryd.f6.params[j]? = some t → args[j]? = some v → Value.okWide Tryd.prog W .any base t v)
    (hW : DataW.Whole enc Tryd.prog Tryd.f6.params.toList Rows.scalarJoinsSpec.vars false W args.toList ds gs before) (hL : laidMetH Tryd.prog Rows.scalarTwosRow.laid W) :
    Calls Tryd.prog 6 args W fun e W' => ∃ v, e = .returned v ∧ Rows.scalarJoinsSpec.post enc Tryd.prog Tryd.f6 false true false false W args v W' := by
  have hW' := hW
  obtain ⟨p, q, hA0, hV, rfl, hfz, hnd⟩ := hW
  have hA : DataW.TrodAll enc Tryd.prog W 0 (fun _ => true) true Tryd.f6.params.toList args.toList ds p := hA0
  rw [Tryd.params6] at hA hval
  obtain ⟨v0, vs0, d0, ds0, p0, q0, hargs, rfl, rfl, h0, r0⟩ := trodAll_cons hA
  obtain ⟨v1, vs1, d1, ds1, p1, q1, rfl, rfl, rfl, h1, r1⟩ := trodAll_cons r0
  obtain ⟨rfl, rfl, rfl⟩ := trodAll_nil r1
  obtain rfl : args = #[v0, v1] := by cases args; simp_all
  obtain ⟨rfl, rfl⟩ := trodVars_none hV
  have k0 := h0
  have lt0 : ∀ x ∈ p0, x.block < W.heap.size := by obtain ⟨m, hm⟩ := k0; exact DataW.trod_lt m _ _ _ hm
  obtain ⟨x0, y0, ya0, yb0, fu0, rfl, _, _, ta0, tb0⟩ := open_agg2 Tryd.underlying23 (by kernel_rfl) (by kernel_rfl) (hval 0 23 v0 rfl rfl) h0
  obtain ⟨c, hcs, _, _⟩ := DataW.trod_int Tryd.underlying3 ta0
  obtain ⟨s, hss, _⟩ := DataW.trod_bool Tryd.underlying4 tb0
  injection hcs with hcs
  injection hss with hss
  subst hcs hss
  have k1 := h1
  have lt1 : ∀ x ∈ p1, x.block < W.heap.size := by obtain ⟨m, hm⟩ := k1; exact DataW.trod_lt m _ _ _ hm
  obtain ⟨z0, z1, z2, rfl, wz0, wz1, wz2⟩ := open_arr3 (hval 1 35 v1 rfl rfl) h1
  clear hA0
  refine (walk c s z0 z1 z2 W (tab_met hL) (inR_of wz0) (inR_of wz1) (inR_of wz2)).mono fun e W' ⟨he, bel⟩ => ?_
  subst he
  exact ⟨_, rfl, _, _, _, [], _, [], hW', trodAll_mk1 (shut_bool Tryd.underlying4 _), (trodAll_cons_mk (Below.trod laidOut (by kernel_rfl) (of_decide_eq_true (by kernel_rfl)) k0 bel lt0) (trodAll_cons_mk (Below.trod laidOut (by kernel_rfl) (of_decide_eq_true (by kernel_rfl)) k1 bel lt1) trodAll_mk0)), rfl, bel.frame _, fun h => by cases h⟩

theorem witness (os : Os) {H : Type} (enc : TypeId × Value → H) :
    (OpenSpec.ofChange Rows.scalarJoinsSpec).preRow enc Tryd.prog Tryd.f6 Rows.scalarJoinsRow.domain false Rows.scalarJoinsRow.laid ((laidWorld os).forCall (fun _ _ => 0) ⟨#[], #[.agg #[.int .i64 0, .bool false], .agg #[.int .i64 0, .int .i64 0, .int .i64 0]], []⟩).memory #[.agg #[.int .i64 0, .bool false], .agg #[.int .i64 0, .int .i64 0, .int .i64 0]] := by
  have hw : (DataW.whole enc Tryd.prog ((laidWorld os).forCall (fun _ _ => 0) ⟨#[], #[.agg #[.int .i64 0, .bool false], .agg #[.int .i64 0, .int .i64 0, .int .i64 0]], []⟩).memory Tryd.f6.params.toList Rows.scalarJoinsSpec.vars false (#[.agg #[.int .i64 0, .bool false], .agg #[.int .i64 0, .int .i64 0, .int .i64 0]] : Array Value).toList 8).map (fun x => (x.1, x.2.1)) =
      some ([.agg [.lit (.int .i64 0), .lit (.bool false)], .agg [.lit (.int .i64 0), .lit (.int .i64 0), .lit (.int .i64 0)]], []) := by kernel_rfl
  obtain ⟨⟨x1, x2, x3⟩, hx, hx1⟩ := Option.map_eq_some_iff.1 hw
  simp only [Prod.mk.injEq] at hx1
  obtain ⟨rfl, rfl⟩ := hx1
  exact OpenSpec.preRow_of_cond 8 hx (by kernel_rfl) (fun k hk => by cases hk) (by kernel_rfl) (laid_met os _)

set_option maxRecDepth 100000 in
theorem lifted (os : Os) (started : os.Started) (H : Type) (enc : TypeId × Value → H) (F : Stop.Interp) :
    ReturnsInHanded {} Tryd.checked os 6 .any ((OpenSpec.ofChange Rows.scalarJoinsSpec).preRow enc Tryd.prog Tryd.f6 Rows.scalarJoinsRow.domain false Rows.scalarJoinsRow.laid) (((OpenSpec.ofChange Rows.scalarJoinsSpec).at F).post enc Tryd.prog Tryd.f6 false true false false) := by
  refine returnsInHanded_of_row (C := Tryd.checked) (s := OpenSpec.ofChange Rows.scalarJoinsSpec) own started (by kernel_rfl) Tryd.func6
    (witness_row_atRef (enc := enc) (C := Tryd.checked) false (laidWorld os) #[.agg #[.int .i64 0, .bool false], .agg #[.int .i64 0, .int .i64 0, .int .i64 0]] rfl (by kernel_rfl) (by kernel_rfl) (by kernel_rfl) (witness os enc)) ?_
  intro W base args ds gs before hval hW _ _ _ hL _ _
  exact contract H enc W base args ds gs before hval hW hL

theorem said : Rows.ScalarJoinsSaid :=
  OpenClaim.holds_of_cond 6 Tryd.f6 rfl rfl rfl rfl rfl rfl rfl ⟨rfl, rfl, rfl, rfl, rfl⟩ rfl rfl rfl rfl rfl (by kernel_rfl) Tryd.func6 (by kernel_rfl)
    (of_decide_eq_true (by kernel_rfl)) (by unfold Func.isWrapper; first | (rw [if_pos (by decide +kernel)]; kernel_rfl) | (rw [if_neg (by decide +kernel)]; exact ⟨rfl, rfl⟩))
    (fun os started H enc _ F => by rw [OpenClaim.pre_eq_preRow]; exact lifted os started H enc F)

theorem plain (f : FuncId) (fn : Func) (hf : Tryd.pinned.checked.prog.funcNamed Rows.scalarJoinsRow.func = some f) (hfn : Tryd.pinned.checked.prog.funcs[f]? = some fn) :
    false = Tryd.pinned.checked.prog.looks [] ∧ ∀ (j : Nat) t, fn.params[j]? = some t → Tryd.pinned.checked.prog.wantsStandIn t = false := by
  obtain rfl : f = 6 := Option.some.inj ((show Tryd.prog.funcNamed Rows.scalarJoinsRow.func = some 6 by kernel_rfl).symm.trans hf) |>.symm
  obtain rfl : fn = Tryd.f6 := (Option.some.inj (Tryd.func6.symm.trans hfn)).symm
  refine ⟨by kernel_rfl, fun j t ht => ?_⟩
  rw [Tryd.params6] at ht
  have hm := Array.mem_of_getElem? ht
  simp only [List.mem_toArray, List.mem_cons, List.not_mem_nil, or_false] at hm
  rcases hm with rfl | rfl
  · exact (show Tryd.prog.wantsStandIn 23 = false by kernel_rfl)
  · exact (show Tryd.prog.wantsStandIn 35 = false by kernel_rfl)

theorem proved : Rows.ScalarJoinsCardSaid :=
  Claim7.holds_tied_plain_at .later [] _ _ _ _ said (fun _ h => by cases h) (by kernel_rfl) (fun _ h => by cases h) scalarJoins_row_tie rfl ⟨rfl, rfl⟩ (by kernel_rfl) rfl plain (by kernel_rfl)
end Go.Proofs.YtknphbkmghflcaaDoor.scalarJoins
