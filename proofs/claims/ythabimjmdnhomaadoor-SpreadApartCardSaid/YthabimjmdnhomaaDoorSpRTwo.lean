/-
  What the document's Two answers for any function and any two cells; nothing that was there is written. Conditions: the numbers have 64 bits; at most 100 axes and 1000 numbers.
-/
import Derived.Test.YthabimjmdnhomaaDoorSpTwo
import Derived.Test.YthabimjmdnhomaaDoorSpOut
import Derived.Test.YthabimjmdnhomaaDoorScRTwo
namespace Go.Proofs.YthabimjmdnhomaaDoor.Sp
open Go.Proofs.YthabimjmdnhomaaDoor.Sh
open Go.RowKit
set_option linter.unusedVariables false

theorem keepFnG {W w1 : World} {g gV : Nat} {x y : Value} (h : W.grownBy w1 (some gV)) (hg : g ≠ gV) (hc : W.cell? ⟨g, 0, none⟩ = some x ∧ W.cell? ⟨g, 1, none⟩ = some y) : w1.cell? ⟨g, 0, none⟩ = some x ∧ w1.cell? ⟨g, 1, none⟩ = some y :=
  have e := h.block g (World.block_lt_of_cell? W ⟨g, 0, none⟩ hc.1) (fun e => hg (by injection e))
  ⟨(World.cell?_of_block e).trans hc.1, (World.cell?_of_block e).trans hc.2⟩
theorem refSize_n (A : Option Addr) (c : Nat) (d : List Int) (n : Nat) (w : World) (hn : sizeI d = n) (hl : d.length ≤ maxLen) (hi : Ints w A d) :
    Calls Tryd.prog 29 #[.slice A d.length c] w fun e w' => e = .returned (.int .i64 (n : Int)) ∧ w = w' := by
  rw [← hn]; exact refSize_any A c d w hl hi
theorem rhasB (c v : Int) (b : Bool) (w : World) (h : Sc.hasB c v = b) : Calls Tryd.prog 28 #[.int .i64 c, .int .i64 v] w fun e w' => e = .returned (.bool b) ∧ Below w.heap.size w w' :=
  (Sc.rhas_b c v b w h).mono fun _ _ ⟨e1, e2⟩ => ⟨e1, by subst e2; exact Below.refl _ _⟩
theorem rdo_b (c : Int) (s : Bool) (a b x : Int) (w : World) (hx : Sc.doI c s a b = x) (ha : Sc.InR a) (hb : Sc.InR b) : Calls Tryd.prog 30 #[.int .i64 c, .bool s, .int .i64 a, .int .i64 b] w fun e w' => ∃ t, e = .returned (.tuple #[.int .i64 x, .bool t]) ∧ Below w.heap.size w w' :=
  (Sc.rdo_any c s a b w ha hb).mono fun _ _ ⟨h1, h2⟩ => ⟨Sc.twoB c, by rw [h1, hx], h2⟩
theorem okA_pos {d v : List Int} {i : Nat} (h : okA d v i) : 0 < v.length := by
  by_cases h0 : d.length = 0
  · exact h.1 h0
  · have := h.2 h0; omega
theorem numA_0 {d v : List Int} {i : Nat} (h : d.length = 0) : numA d v i = v.getD 0 0 := by simp [numA, h]
theorem numA_i {d v : List Int} {i : Nat} (h : ¬ d.length = 0) : numA d v i = v.getD i 0 := by simp [numA, h]
theorem map_range_succ (f : Nat → Int) (k : Nat) : (List.range (k + 1)).map f = (List.range k).map f ++ [f k] := by rw [List.range_succ]; simp

set_option maxHeartbeats 8000000 in
set_option maxRecDepth 100000 in
theorem rtwo_any (c : Int) (s : Bool) (A : Option Addr) (c1 : Nat) (d : List Int) (B : Option Addr) (c2 : Nat) (v : List Int) (A' : Option Addr) (c1' : Nat) (e : List Int) (B' : Option Addr) (c2' : Nat) (u : List Int) (w : World) (id : Ints w A d) (iv : Ints w B v) (ie : Ints w A' e) (iu : Ints w B' u) (hd : d.length ≤ 100) (hv : v.length ≤ 1000) (he : e.length ≤ 100) (hu : u.length ≤ 1000) (rv : AllR v) (ru : AllR u) :
    Calls Tryd.prog 13 #[.agg #[.int .i64 c, .bool s], .agg #[.slice A d.length c1, .slice B v.length c2], .agg #[.slice A' e.length c1', .slice B' u.length c2']] w (RetC w (twoD c d v.length e u.length) (twoV c s d v e u) (.int .i64 (twoE c d v.length e u.length))) := by
  have RV := Lib.hid rv
  have RU := Lib.hid ru
  clear rv ru
  by_cases h1 : cellB d v.length = true
  · by_cases h2 : cellB e u.length = true
    · by_cases h3 : Sc.hasB c 2 = true
      · obtain ⟨x, hx⟩ : ∃ x, fitE d e = x := ⟨_, rfl⟩
        by_cases h4 : x = 0
        · subst h4
          obtain ⟨n, hn, hn64⟩ := sizeI_nat _ (fit_right hx)
          obtain ⟨e1, e2, e3⟩ := two_good (s := s) h1 h2 h3 hx hn
          rw [e1, e2, e3]
          have H8 := Lib.hid (fun (i : Nat) (hi : i < n) => (⟨fit_ok1 hx h1 (by omega), fit_ok2 hx h2 (by omega)⟩ : okA d v i ∧ okA e u i))
          have H6 := Lib.hid (fit_right hx)
          have H7 := Lib.hid hn
          have H1 := Lib.hid h1
          have H2 := Lib.hid h2
          have H3 := Lib.hid h3
          have H4 := Lib.hid hx
          have HDL := Lib.hid (fit_len hd he)
          clear h1 h2 h3 hx hn e1 e2 e3
          obtain ⟨D, hD⟩ : ∃ D, fitD d e = D := ⟨_, rfl⟩
          have H5 := Lib.hid hD
          rw [hD] at H6 H7 HDL ⊢
          clear hD
          obtain ⟨hf0, ba0, bb0, hb0, hs0⟩ := w3_all w c s (.slice A d.length c1) (.slice B v.length c2) (.slice A' e.length c1') (.slice B' u.length c2')
          have hb := below_new (W3 w c s (.slice A d.length c1) (.slice B v.length c2) (.slice A' e.length c1') (.slice B' u.length c2')) (.cells #[.slice none 0 0, .slice none 0 0] 32)
          have br0 := Box.new (W3 w c s (.slice A d.length c1) (.slice B v.length c2) (.slice A' e.length c1') (.slice B' u.length c2')) (.slice none 0 0) (.slice none 0 0)
          rw [hs0] at br0
          have FF := Lib.hid (keepFn hb hf0)
          have BA := Lib.hid (ba0.next hb)
          have BB := Lib.hid (bb0.next hb)
          have BR := Lib.hid (br0)
          have L := Lib.hid (Sh.below_next hb0 hb)
          have ID := Lib.hid (id.below L.out)
          have IE := Lib.hid (ie.below L.out)
          have IV := Lib.hid iv
          have IU := Lib.hid iu
          clear hb hf0 ba0 bb0 hb0 hs0 br0 id iv ie iu
          unfold W3 at *
          go_enter Tryd.func13, Tryd.ntmps13
          go_wp2_with fail
          refine (rright_yes _ _ d _ _ _ _ (by unfold maxLen; omega) ID.out H1.out).mono ?_
          rintro r w1 ⟨rfl, hb⟩
          replace FF := Lib.hid (keepFn hb FF.out)
          replace BA := Lib.hid (BA.out.next hb)
          replace BB := Lib.hid (BB.out.next hb)
          replace BR := Lib.hid (BR.out.next hb)
          replace L := Lib.hid (Sh.below_next L.out hb)
          replace ID := Lib.hid (ID.out.below hb)
          replace IE := Lib.hid (IE.out.below hb)
          clear hb
          obtain ⟨qBB0, qBB1, -, -⟩ := BB.out.all
          go_wp2_with fail
          refine (rright_yes _ _ e _ _ _ _ (by unfold maxLen; omega) IE.out H2.out).mono ?_
          rintro r w2 ⟨rfl, hb⟩
          clear qBB0 qBB1
          replace FF := Lib.hid (keepFn hb FF.out)
          replace BA := Lib.hid (BA.out.next hb)
          replace BB := Lib.hid (BB.out.next hb)
          replace BR := Lib.hid (BR.out.next hb)
          replace L := Lib.hid (Sh.below_next L.out hb)
          replace ID := Lib.hid (ID.out.below hb)
          replace IE := Lib.hid (IE.out.below hb)
          clear hb
          obtain ⟨qFF0, qFF1⟩ := FF.out
          go_wp2_with fail
          refine (rhasB c 2 true _ H3.out).mono ?_
          rintro r w3 ⟨rfl, hb⟩
          clear qFF0 qFF1
          replace FF := Lib.hid (keepFn hb FF.out)
          replace BA := Lib.hid (BA.out.next hb)
          replace BB := Lib.hid (BB.out.next hb)
          replace BR := Lib.hid (BR.out.next hb)
          replace L := Lib.hid (Sh.below_next L.out hb)
          replace ID := Lib.hid (ID.out.below hb)
          replace IE := Lib.hid (IE.out.below hb)
          clear hb
          obtain ⟨qBA0, qBA1, -, -⟩ := BA.out.all
          obtain ⟨qBB0, qBB1, -, -⟩ := BB.out.all
          go_wp2_with fail
          refine (rfit_v _ _ d _ _ e _ 0 D H4.out H5.out hd he ID.out IE.out).mono ?_
          rintro r w4 ⟨A5, c5, rfl, hi, hb⟩
          clear qBA0 qBA1 qBB0 qBB1
          replace FF := Lib.hid (keepFn hb FF.out)
          replace BA := Lib.hid (BA.out.next hb)
          replace BB := Lib.hid (BB.out.next hb)
          replace BR := Lib.hid (BR.out.next hb)
          replace L := Lib.hid (Sh.below_next L.out hb)
          replace ID := Lib.hid (ID.out.below hb)
          replace IE := Lib.hid (IE.out.below hb)
          clear hb
          have IF := Lib.hid (hi)
          have IF0 := Lib.hid hi
          clear hi
          have L4 := Lib.hid (Below.refl w4.heap.size w4)
          have hgT := BR.out.lt
          have hgL := L.out.size
          go_wp2_with (at_builtin; refine wpList_copyI numI Tryd.underlying22 rfl (.tmp 42) (.tmp 43) rfl rfl _ _ D rfl IF.out (by have := HDL.out; omega) ?_; intro A6 c6 w5 hm6 hb)
          replace FF := Lib.hid (keepFn hb FF.out)
          replace BA := Lib.hid (BA.out.next hb)
          replace BB := Lib.hid (BB.out.next hb)
          replace BR := Lib.hid (BR.out.next hb)
          replace L := Lib.hid (Sh.below_next L.out hb)
          replace ID := Lib.hid (ID.out.below hb)
          replace IE := Lib.hid (IE.out.below hb)
          replace IF := Lib.hid (IF.out.below hb)
          replace L4 := Lib.hid (Sh.below_next L4.out hb)
          have M6 := Lib.hid hm6
          clear hm6 hb
          have hg5 := BR.out.lt
          have hg45 := L4.out.size
          have KB := Lib.hid (show Below w5.heap.size w5 (w5.alloc (.cells #[.slice A6 D.length c6, .slice none 0 0] 32)) from below_new _ _)
          have O0 := Lib.hid (OutSt.new w5 (.slice A6 D.length c6))
          have BX := Lib.hid O0.out.box
          replace FF := Lib.hid (keepFn KB.out FF.out)
          replace BA := Lib.hid (BA.out.next KB.out)
          replace BB := Lib.hid (BB.out.next KB.out)
          replace BR := Lib.hid (BR.out.next KB.out)
          replace L := Lib.hid (Sh.below_next L.out KB.out)
          replace ID := Lib.hid (ID.out.below KB.out)
          replace IE := Lib.hid (IE.out.below KB.out)
          replace IF := Lib.hid (IF.out.below KB.out)
          replace L4 := Lib.hid (Sh.below_next L4.out KB.out)
          replace M6 := Lib.hid (M6.out.below KB.out (Nat.le_refl _))
          clear KB
          go_wp2
          have hw4 := L4.out.size
          generalize hw6 : w5.alloc (.cells #[.slice A6 D.length c6, .slice none 0 0] 32) = w6 at *
          clear hw6
          generalize w5.heap.size = go at *
          go_loopw [11] (fun j wr => ∃ (k : Nat) (V : Value), k ≤ n ∧ j = .int .i64 (k : Int) ∧ OutSt w6 wr go (.slice A6 D.length c6) V ((List.range k).map (twoF c s d v e u))) (fun j _ => n - (intOf j).toNat)
          case atStart => exact ⟨0, _, Nat.zero_le _, rfl, O0.out⟩
          case round =>
            obtain ⟨k, V, hk, rfl, hO⟩ := hrel
            have O := Lib.hid hO
            have LB := Lib.hid (below_turned L.out hO.1 (by omega))
            have BRk := Lib.hid (BR.out.grown hO.1 (fun e => by injection e with e; omega))
            have IFk := Lib.hid (IF0.out.below (below_turned L4.out hO.1 hg45))
            by_cases hlt : k < n
            · have hok := H8.out k hlt
              obtain ⟨q0, q1⟩ := keepFnG hO.1 (by omega) FF.out
              obtain ⟨q2, q3, -, -⟩ := (BA.out.grown hO.1 (fun e => by injection e with e; omega)).all
              obtain ⟨q4, q5, -, -⟩ := (BB.out.grown hO.1 (fun e => by injection e with e; omega)).all
              obtain ⟨bv, ov, rfl, hbv, hcv⟩ := IV.out.below LB.out (okA_pos hok.1)
              obtain ⟨bu, ou, rfl, hbu, hcu⟩ := IU.out.below LB.out (okA_pos hok.2)
              have hv0 := hcv 0 (okA_pos hok.1)
              have hu0 := hcu 0 (okA_pos hok.2)
              rw [Nat.add_zero] at hv0 hu0
              have yR := Lib.hid (numA_R (d := d) (i := k) RV.out)
              have zR := Lib.hid (numA_R (d := e) (i := k) RU.out)
              have HX := Lib.hid (show Sc.doI c s (numA d v k) (numA e u k) = twoF c s d v e u k from rfl)
              have p0 : (0 : Int) < (v.length : Int) := by have := okA_pos hok.1; omega
              have p1 : (0 : Int) < (u.length : Int) := by have := okA_pos hok.2; omega
              have k0 : (0 : Int) ≤ (k : Int) := by omega
              have LQ := Lib.hid (show ((List.range k).map (twoF c s d v e u)).length = k by simp)
              clear hO
              generalize hyv : numA d v k = y at *
              generalize hzv : numA e u k = z at *
              generalize hfk : twoF c s d v e u k = x at *
              have HFK := Lib.hid hfk
              clear hfk
              by_cases hd0 : d.length = 0
              · have hd1 : decide (0 < d.length) = false := decide_eq_false (by omega)
                rw [numA_0 hd0] at hyv
                rw [hyv] at hv0
                by_cases he0 : e.length = 0
                · have he1 : decide (0 < e.length) = false := decide_eq_false (by omega)
                  rw [numA_0 he0] at hzv
                  rw [hzv] at hu0
                  clear hcv hcu hok hd0 he0 hyv hzv
                  go_wp2_with fail
                  refine (refSize_n _ _ D n _ H7.out (by have := HDL.out; unfold maxLen; omega) IFk.out).mono ?_
                  rintro r wx ⟨rfl, rfl⟩
                  go_wp2
                  go_quiet (fail)
                  go_wp2_with fail
                  refine (rdo_b c s y z x _ HX.out yR.out zR.out).mono ?_
                  rintro r w7 ⟨t, rfl, hb⟩
                  have O7 := Lib.hid ((O.out.drewN nq).next hb)
                  have O8 := Lib.hid (O7.out.alloc (.cells #[.int .i64 x] 2))
                  have X8 := Lib.hid (one_new w7 x)
                  have c7 := O7.out.box.c1
                  clear hb q0 q1 q2 q3 q4 q5
                  go_wp2_with (at_builtin; refine wpList_appI numL Tryd.underlying30 rfl (.tmp 89) (.tmp 91) rfl w6.heap.size V ((List.range k).map (twoF c s d v e u)) (by rfl) O8.out.mine (some ⟨w7.heap.size, 0, none⟩) 1 [x] rfl X8.out (by rw [LQ.out]; simp; omega) O8.out.size ?_; intro V' w8 hm8 hg8 ha8; obtain ⟨A8, c8, rfl, -⟩ := hm8.ints; obtain ⟨y0', y1', y2', y3'⟩ := (O8.out.mid hg8).all)
                  go_roundw
                  case rel => exact ⟨k + 1, _, by omega, by go_num, by rw [map_range_succ, HFK.out]; have hm9 := hm8; rw [List.length_append, LQ.out] at hm9; exact O8.out.app hm9 hg8⟩
                  case measure => simp [intOf]; omega
                · have he1 : decide (0 < e.length) = true := decide_eq_true (by omega)
                  rw [numA_i he0] at hzv
                  have huk := hcu k (hok.2.2 he0)
                  rw [hzv] at huk
                  have p3 : (k : Int) < (u.length : Int) := by have := hok.2.2 he0; omega
                  generalize u.getD 0 0 = z0 at hu0
                  clear hcv hcu hok hd0 he0 hyv hzv
                  go_wp2_with fail
                  refine (refSize_n _ _ D n _ H7.out (by have := HDL.out; unfold maxLen; omega) IFk.out).mono ?_
                  rintro r wx ⟨rfl, rfl⟩
                  go_wp2
                  go_quiet (fail)
                  go_wp2_with fail
                  refine (rdo_b c s y z x _ HX.out yR.out zR.out).mono ?_
                  rintro r w7 ⟨t, rfl, hb⟩
                  have O7 := Lib.hid ((O.out.drewN nq).next hb)
                  have O8 := Lib.hid (O7.out.alloc (.cells #[.int .i64 x] 2))
                  have X8 := Lib.hid (one_new w7 x)
                  have c7 := O7.out.box.c1
                  clear hb q0 q1 q2 q3 q4 q5
                  go_wp2_with (at_builtin; refine wpList_appI numL Tryd.underlying30 rfl (.tmp 89) (.tmp 91) rfl w6.heap.size V ((List.range k).map (twoF c s d v e u)) (by rfl) O8.out.mine (some ⟨w7.heap.size, 0, none⟩) 1 [x] rfl X8.out (by rw [LQ.out]; simp; omega) O8.out.size ?_; intro V' w8 hm8 hg8 ha8; obtain ⟨A8, c8, rfl, -⟩ := hm8.ints; obtain ⟨y0', y1', y2', y3'⟩ := (O8.out.mid hg8).all)
                  go_roundw
                  case rel => exact ⟨k + 1, _, by omega, by go_num, by rw [map_range_succ, HFK.out]; have hm9 := hm8; rw [List.length_append, LQ.out] at hm9; exact O8.out.app hm9 hg8⟩
                  case measure => simp [intOf]; omega
              · have hd1 : decide (0 < d.length) = true := decide_eq_true (by omega)
                rw [numA_i hd0] at hyv
                have hvk := hcv k (hok.1.2 hd0)
                rw [hyv] at hvk
                have p2 : (k : Int) < (v.length : Int) := by have := hok.1.2 hd0; omega
                generalize v.getD 0 0 = y0 at hv0
                by_cases he0 : e.length = 0
                · have he1 : decide (0 < e.length) = false := decide_eq_false (by omega)
                  rw [numA_0 he0] at hzv
                  rw [hzv] at hu0
                  clear hcv hcu hok hd0 he0 hyv hzv
                  go_wp2_with fail
                  refine (refSize_n _ _ D n _ H7.out (by have := HDL.out; unfold maxLen; omega) IFk.out).mono ?_
                  rintro r wx ⟨rfl, rfl⟩
                  go_wp2
                  go_quiet (fail)
                  go_wp2_with fail
                  refine (rdo_b c s y z x _ HX.out yR.out zR.out).mono ?_
                  rintro r w7 ⟨t, rfl, hb⟩
                  have O7 := Lib.hid ((O.out.drewN nq).next hb)
                  have O8 := Lib.hid (O7.out.alloc (.cells #[.int .i64 x] 2))
                  have X8 := Lib.hid (one_new w7 x)
                  have c7 := O7.out.box.c1
                  clear hb q0 q1 q2 q3 q4 q5
                  go_wp2_with (at_builtin; refine wpList_appI numL Tryd.underlying30 rfl (.tmp 89) (.tmp 91) rfl w6.heap.size V ((List.range k).map (twoF c s d v e u)) (by rfl) O8.out.mine (some ⟨w7.heap.size, 0, none⟩) 1 [x] rfl X8.out (by rw [LQ.out]; simp; omega) O8.out.size ?_; intro V' w8 hm8 hg8 ha8; obtain ⟨A8, c8, rfl, -⟩ := hm8.ints; obtain ⟨y0', y1', y2', y3'⟩ := (O8.out.mid hg8).all)
                  go_roundw
                  case rel => exact ⟨k + 1, _, by omega, by go_num, by rw [map_range_succ, HFK.out]; have hm9 := hm8; rw [List.length_append, LQ.out] at hm9; exact O8.out.app hm9 hg8⟩
                  case measure => simp [intOf]; omega
                · have he1 : decide (0 < e.length) = true := decide_eq_true (by omega)
                  rw [numA_i he0] at hzv
                  have huk := hcu k (hok.2.2 he0)
                  rw [hzv] at huk
                  have p3 : (k : Int) < (u.length : Int) := by have := hok.2.2 he0; omega
                  generalize u.getD 0 0 = z0 at hu0
                  clear hcv hcu hok hd0 he0 hyv hzv
                  go_wp2_with fail
                  refine (refSize_n _ _ D n _ H7.out (by have := HDL.out; unfold maxLen; omega) IFk.out).mono ?_
                  rintro r wx ⟨rfl, rfl⟩
                  go_wp2
                  go_quiet (fail)
                  go_wp2_with fail
                  refine (rdo_b c s y z x _ HX.out yR.out zR.out).mono ?_
                  rintro r w7 ⟨t, rfl, hb⟩
                  have O7 := Lib.hid ((O.out.drewN nq).next hb)
                  have O8 := Lib.hid (O7.out.alloc (.cells #[.int .i64 x] 2))
                  have X8 := Lib.hid (one_new w7 x)
                  have c7 := O7.out.box.c1
                  clear hb q0 q1 q2 q3 q4 q5
                  go_wp2_with (at_builtin; refine wpList_appI numL Tryd.underlying30 rfl (.tmp 89) (.tmp 91) rfl w6.heap.size V ((List.range k).map (twoF c s d v e u)) (by rfl) O8.out.mine (some ⟨w7.heap.size, 0, none⟩) 1 [x] rfl X8.out (by rw [LQ.out]; simp; omega) O8.out.size ?_; intro V' w8 hm8 hg8 ha8; obtain ⟨A8, c8, rfl, -⟩ := hm8.ints; obtain ⟨y0', y1', y2', y3'⟩ := (O8.out.mid hg8).all)
                  go_roundw
                  case rel => exact ⟨k + 1, _, by omega, by go_num, by rw [map_range_succ, HFK.out]; have hm9 := hm8; rw [List.length_append, LQ.out] at hm9; exact O8.out.app hm9 hg8⟩
                  case measure => simp [intOf]; omega
            · obtain rfl : k = n := by omega
              clear hO
              go_wp2_with fail
              refine (refSize_n _ _ D k _ H7.out (by have := HDL.out; unfold maxLen; omega) IFk.out).mono ?_
              rintro r wx ⟨rfl, rfl⟩
              obtain ⟨AV, cV, rfl, -⟩ := O.out.mine.ints
              obtain ⟨x0, x1, -, -⟩ := O.out.box.all
              obtain ⟨y0, y1, y2, y3⟩ := BRk.out.all
              have JJ := Lib.hid (own_grown M6.out BX.out (by decide) O.out.turn)
              generalize (List.range k).map (twoF c s d v e u) = VV at *
              go_wp2
              have T9 := (BRk.out.set0 (.slice A6 D.length c6)).set1 (.slice AV VV.length cV)
              obtain ⟨t0, t1, _, _⟩ := T9.all
              refine bodyPost_ret (v := .tuple #[.agg #[.slice A6 D.length c6, .slice AV VV.length cV], .int .i64 0]) (by simp [results, Tryd.results13, go_sem, t0, t1]) rfl ?_
              have hic := isCell_of (base := w.heap.size) (MineT.box (show MineT 3 _ _ _ D from JJ.out) hgT (.slice A6 D.length c6) (.slice AV VV.length cV)) (O.out.mine.box (by omega) (.slice A6 D.length c6) (.slice AV VV.length cV)) hgL (by omega)
              exact ⟨_, rfl, hic, (LB.out.setCell (by simp; omega) _).setCell (by simp; omega) _⟩
        · obtain ⟨e1, e2, e3⟩ := two_bad4 (s := s) h1 h2 h3 hx h4
          rw [e1, e2, e3]
          have hx0 : (x != 0) = true := by simpa using h4
          have H1 := Lib.hid h1
          have H2 := Lib.hid h2
          have H3 := Lib.hid h3
          have H4 := Lib.hid hx
          have H5 : Hid (fitD d e = []) := Lib.hid (by unfold fitD; rw [hx, if_neg h4])
          clear h1 h2 h3 hx h4 e1 e2 e3
          obtain ⟨hf0, ba0, bb0, hb0, hs0⟩ := w3_all w c s (.slice A d.length c1) (.slice B v.length c2) (.slice A' e.length c1') (.slice B' u.length c2')
          have hb := below_new (W3 w c s (.slice A d.length c1) (.slice B v.length c2) (.slice A' e.length c1') (.slice B' u.length c2')) (.cells #[.slice none 0 0, .slice none 0 0] 32)
          have br0 := Box.new (W3 w c s (.slice A d.length c1) (.slice B v.length c2) (.slice A' e.length c1') (.slice B' u.length c2')) (.slice none 0 0) (.slice none 0 0)
          rw [hs0] at br0
          have FF := Lib.hid (keepFn hb hf0)
          have BA := Lib.hid (ba0.next hb)
          have BB := Lib.hid (bb0.next hb)
          have BR := Lib.hid (br0)
          have L := Lib.hid (Sh.below_next hb0 hb)
          have ID := Lib.hid (id.below L.out)
          have IE := Lib.hid (ie.below L.out)
          have IV := Lib.hid iv
          have IU := Lib.hid iu
          clear hb hf0 ba0 bb0 hb0 hs0 br0 id iv ie iu
          unfold W3 at *
          go_enter Tryd.func13, Tryd.ntmps13
          go_wp2_with fail
          refine (rright_yes _ _ d _ _ _ _ (by unfold maxLen; omega) ID.out H1.out).mono ?_
          rintro r w1 ⟨rfl, hb⟩
          replace FF := Lib.hid (keepFn hb FF.out)
          replace BA := Lib.hid (BA.out.next hb)
          replace BB := Lib.hid (BB.out.next hb)
          replace BR := Lib.hid (BR.out.next hb)
          replace L := Lib.hid (Sh.below_next L.out hb)
          replace ID := Lib.hid (ID.out.below hb)
          replace IE := Lib.hid (IE.out.below hb)
          clear hb
          obtain ⟨qBB0, qBB1, -, -⟩ := BB.out.all
          go_wp2_with fail
          refine (rright_yes _ _ e _ _ _ _ (by unfold maxLen; omega) IE.out H2.out).mono ?_
          rintro r w2 ⟨rfl, hb⟩
          clear qBB0 qBB1
          replace FF := Lib.hid (keepFn hb FF.out)
          replace BA := Lib.hid (BA.out.next hb)
          replace BB := Lib.hid (BB.out.next hb)
          replace BR := Lib.hid (BR.out.next hb)
          replace L := Lib.hid (Sh.below_next L.out hb)
          replace ID := Lib.hid (ID.out.below hb)
          replace IE := Lib.hid (IE.out.below hb)
          clear hb
          obtain ⟨qFF0, qFF1⟩ := FF.out
          go_wp2_with fail
          refine (rhasB c 2 true _ H3.out).mono ?_
          rintro r w3 ⟨rfl, hb⟩
          clear qFF0 qFF1
          replace FF := Lib.hid (keepFn hb FF.out)
          replace BA := Lib.hid (BA.out.next hb)
          replace BB := Lib.hid (BB.out.next hb)
          replace BR := Lib.hid (BR.out.next hb)
          replace L := Lib.hid (Sh.below_next L.out hb)
          replace ID := Lib.hid (ID.out.below hb)
          replace IE := Lib.hid (IE.out.below hb)
          clear hb
          obtain ⟨qBA0, qBA1, -, -⟩ := BA.out.all
          obtain ⟨qBB0, qBB1, -, -⟩ := BB.out.all
          go_wp2_with fail
          refine (rfit_v _ _ d _ _ e _ x [] H4.out H5.out hd he ID.out IE.out).mono ?_
          rintro r w4 ⟨A5, c5, rfl, hi, hb⟩
          clear qBA0 qBA1 qBB0 qBB1
          replace FF := Lib.hid (keepFn hb FF.out)
          replace BA := Lib.hid (BA.out.next hb)
          replace BB := Lib.hid (BB.out.next hb)
          replace BR := Lib.hid (BR.out.next hb)
          replace L := Lib.hid (Sh.below_next L.out hb)
          replace ID := Lib.hid (ID.out.below hb)
          replace IE := Lib.hid (IE.out.below hb)
          clear hb
          clear hi
          obtain ⟨qBR0, qBR1, fBR0, fBR1⟩ := BR.out.all
          go_wp2
          have T9 := (BR.out.set0 (.slice none 0 0)).set1 (.slice none 0 0)
          obtain ⟨t0, t1, _, _⟩ := T9.all
          refine bodyPost_ret (v := .tuple #[.agg #[.slice none 0 0, .slice none 0 0], .int .i64 x]) (by simp [results, Tryd.results13, go_sem, t0, t1]) rfl ?_
          exact ⟨_, rfl, IsCell.none _ _, (L.out.setCell (by simp; omega) _).setCell (by simp; omega) _⟩
      · have H3 := Lib.hid (show Sc.hasB c 2 = false by simpa using h3)
        obtain ⟨e1, e2, e3⟩ := two_bad3 (s := s) h1 h2 H3.out
        rw [e1, e2, e3]
        have H1 := Lib.hid h1
        have H2 := Lib.hid h2
        clear h1 h2 h3 e1 e2 e3
        obtain ⟨hf0, ba0, bb0, hb0, hs0⟩ := w3_all w c s (.slice A d.length c1) (.slice B v.length c2) (.slice A' e.length c1') (.slice B' u.length c2')
        have hb := below_new (W3 w c s (.slice A d.length c1) (.slice B v.length c2) (.slice A' e.length c1') (.slice B' u.length c2')) (.cells #[.slice none 0 0, .slice none 0 0] 32)
        have br0 := Box.new (W3 w c s (.slice A d.length c1) (.slice B v.length c2) (.slice A' e.length c1') (.slice B' u.length c2')) (.slice none 0 0) (.slice none 0 0)
        rw [hs0] at br0
        have FF := Lib.hid (keepFn hb hf0)
        have BA := Lib.hid (ba0.next hb)
        have BB := Lib.hid (bb0.next hb)
        have BR := Lib.hid (br0)
        have L := Lib.hid (Sh.below_next hb0 hb)
        have ID := Lib.hid (id.below L.out)
        have IE := Lib.hid (ie.below L.out)
        have IV := Lib.hid iv
        have IU := Lib.hid iu
        clear hb hf0 ba0 bb0 hb0 hs0 br0 id iv ie iu
        unfold W3 at *
        go_enter Tryd.func13, Tryd.ntmps13
        go_wp2_with fail
        refine (rright_yes _ _ d _ _ _ _ (by unfold maxLen; omega) ID.out H1.out).mono ?_
        rintro r w1 ⟨rfl, hb⟩
        replace FF := Lib.hid (keepFn hb FF.out)
        replace BA := Lib.hid (BA.out.next hb)
        replace BB := Lib.hid (BB.out.next hb)
        replace BR := Lib.hid (BR.out.next hb)
        replace L := Lib.hid (Sh.below_next L.out hb)
        replace ID := Lib.hid (ID.out.below hb)
        replace IE := Lib.hid (IE.out.below hb)
        clear hb
        obtain ⟨qBB0, qBB1, -, -⟩ := BB.out.all
        go_wp2_with fail
        refine (rright_yes _ _ e _ _ _ _ (by unfold maxLen; omega) IE.out H2.out).mono ?_
        rintro r w2 ⟨rfl, hb⟩
        clear qBB0 qBB1
        replace FF := Lib.hid (keepFn hb FF.out)
        replace BA := Lib.hid (BA.out.next hb)
        replace BB := Lib.hid (BB.out.next hb)
        replace BR := Lib.hid (BR.out.next hb)
        replace L := Lib.hid (Sh.below_next L.out hb)
        replace ID := Lib.hid (ID.out.below hb)
        replace IE := Lib.hid (IE.out.below hb)
        clear hb
        obtain ⟨qFF0, qFF1⟩ := FF.out
        go_wp2_with fail
        refine (rhasB c 2 false _ H3.out).mono ?_
        rintro r w3 ⟨rfl, hb⟩
        clear qFF0 qFF1
        replace FF := Lib.hid (keepFn hb FF.out)
        replace BA := Lib.hid (BA.out.next hb)
        replace BB := Lib.hid (BB.out.next hb)
        replace BR := Lib.hid (BR.out.next hb)
        replace L := Lib.hid (Sh.below_next L.out hb)
        replace ID := Lib.hid (ID.out.below hb)
        replace IE := Lib.hid (IE.out.below hb)
        clear hb
        obtain ⟨qBR0, qBR1, fBR0, fBR1⟩ := BR.out.all
        go_wp2
        have T9 := (BR.out.set0 (.slice none 0 0)).set1 (.slice none 0 0)
        obtain ⟨t0, t1, _, _⟩ := T9.all
        refine bodyPost_ret (v := .tuple #[.agg #[.slice none 0 0, .slice none 0 0], .int .i64 13]) (by simp [results, Tryd.results13, go_sem, t0, t1]) rfl ?_
        exact ⟨_, rfl, IsCell.none _ _, (L.out.setCell (by simp; omega) _).setCell (by simp; omega) _⟩
    · have H2 := Lib.hid (show cellB e u.length = false by simpa using h2)
      obtain ⟨e1, e2, e3⟩ := two_bad2 (c := c) (s := s) (d := d) (v := v) H2.out
      rw [e1, e2, e3]
      have H1 := Lib.hid h1
      clear h1 h2 e1 e2 e3
      obtain ⟨hf0, ba0, bb0, hb0, hs0⟩ := w3_all w c s (.slice A d.length c1) (.slice B v.length c2) (.slice A' e.length c1') (.slice B' u.length c2')
      have hb := below_new (W3 w c s (.slice A d.length c1) (.slice B v.length c2) (.slice A' e.length c1') (.slice B' u.length c2')) (.cells #[.slice none 0 0, .slice none 0 0] 32)
      have br0 := Box.new (W3 w c s (.slice A d.length c1) (.slice B v.length c2) (.slice A' e.length c1') (.slice B' u.length c2')) (.slice none 0 0) (.slice none 0 0)
      rw [hs0] at br0
      have FF := Lib.hid (keepFn hb hf0)
      have BA := Lib.hid (ba0.next hb)
      have BB := Lib.hid (bb0.next hb)
      have BR := Lib.hid (br0)
      have L := Lib.hid (Sh.below_next hb0 hb)
      have ID := Lib.hid (id.below L.out)
      have IE := Lib.hid (ie.below L.out)
      have IV := Lib.hid iv
      have IU := Lib.hid iu
      clear hb hf0 ba0 bb0 hb0 hs0 br0 id iv ie iu
      unfold W3 at *
      go_enter Tryd.func13, Tryd.ntmps13
      go_wp2_with fail
      refine (rright_yes _ _ d _ _ _ _ (by unfold maxLen; omega) ID.out H1.out).mono ?_
      rintro r w1 ⟨rfl, hb⟩
      replace FF := Lib.hid (keepFn hb FF.out)
      replace BA := Lib.hid (BA.out.next hb)
      replace BB := Lib.hid (BB.out.next hb)
      replace BR := Lib.hid (BR.out.next hb)
      replace L := Lib.hid (Sh.below_next L.out hb)
      replace ID := Lib.hid (ID.out.below hb)
      replace IE := Lib.hid (IE.out.below hb)
      clear hb
      obtain ⟨qBB0, qBB1, -, -⟩ := BB.out.all
      go_wp2_with fail
      refine (rright_no _ _ e _ _ _ _ (by unfold maxLen; omega) IE.out H2.out).mono ?_
      rintro r w2 ⟨rfl, hb⟩
      clear qBB0 qBB1
      replace FF := Lib.hid (keepFn hb FF.out)
      replace BA := Lib.hid (BA.out.next hb)
      replace BB := Lib.hid (BB.out.next hb)
      replace BR := Lib.hid (BR.out.next hb)
      replace L := Lib.hid (Sh.below_next L.out hb)
      replace ID := Lib.hid (ID.out.below hb)
      replace IE := Lib.hid (IE.out.below hb)
      clear hb
      obtain ⟨qBR0, qBR1, fBR0, fBR1⟩ := BR.out.all
      go_wp2
      have T9 := (BR.out.set0 (.slice none 0 0)).set1 (.slice none 0 0)
      obtain ⟨t0, t1, _, _⟩ := T9.all
      refine bodyPost_ret (v := .tuple #[.agg #[.slice none 0 0, .slice none 0 0], .int .i64 1]) (by simp [results, Tryd.results13, go_sem, t0, t1]) rfl ?_
      exact ⟨_, rfl, IsCell.none _ _, (L.out.setCell (by simp; omega) _).setCell (by simp; omega) _⟩
  · have H1 := Lib.hid (show cellB d v.length = false by simpa using h1)
    obtain ⟨e1, e2, e3⟩ := two_bad1 (c := c) (s := s) (e := e) (u := u) H1.out
    rw [e1, e2, e3]
    clear h1 e1 e2 e3
    obtain ⟨hf0, ba0, bb0, hb0, hs0⟩ := w3_all w c s (.slice A d.length c1) (.slice B v.length c2) (.slice A' e.length c1') (.slice B' u.length c2')
    have hb := below_new (W3 w c s (.slice A d.length c1) (.slice B v.length c2) (.slice A' e.length c1') (.slice B' u.length c2')) (.cells #[.slice none 0 0, .slice none 0 0] 32)
    have br0 := Box.new (W3 w c s (.slice A d.length c1) (.slice B v.length c2) (.slice A' e.length c1') (.slice B' u.length c2')) (.slice none 0 0) (.slice none 0 0)
    rw [hs0] at br0
    have FF := Lib.hid (keepFn hb hf0)
    have BA := Lib.hid (ba0.next hb)
    have BB := Lib.hid (bb0.next hb)
    have BR := Lib.hid (br0)
    have L := Lib.hid (Sh.below_next hb0 hb)
    have ID := Lib.hid (id.below L.out)
    have IE := Lib.hid (ie.below L.out)
    have IV := Lib.hid iv
    have IU := Lib.hid iu
    clear hb hf0 ba0 bb0 hb0 hs0 br0 id iv ie iu
    unfold W3 at *
    go_enter Tryd.func13, Tryd.ntmps13
    go_wp2_with fail
    refine (rright_no _ _ d _ _ _ _ (by unfold maxLen; omega) ID.out H1.out).mono ?_
    rintro r w1 ⟨rfl, hb⟩
    replace FF := Lib.hid (keepFn hb FF.out)
    replace BA := Lib.hid (BA.out.next hb)
    replace BB := Lib.hid (BB.out.next hb)
    replace BR := Lib.hid (BR.out.next hb)
    replace L := Lib.hid (Sh.below_next L.out hb)
    replace ID := Lib.hid (ID.out.below hb)
    replace IE := Lib.hid (IE.out.below hb)
    clear hb
    obtain ⟨qBR0, qBR1, fBR0, fBR1⟩ := BR.out.all
    go_wp2
    have T9 := (BR.out.set0 (.slice none 0 0)).set1 (.slice none 0 0)
    obtain ⟨t0, t1, _, _⟩ := T9.all
    refine bodyPost_ret (v := .tuple #[.agg #[.slice none 0 0, .slice none 0 0], .int .i64 1]) (by simp [results, Tryd.results13, go_sem, t0, t1]) rfl ?_
    exact ⟨_, rfl, IsCell.none _ _, (L.out.setCell (by simp; omega) _).setCell (by simp; omega) _⟩
end Go.Proofs.YthabimjmdnhomaaDoor.Sp
