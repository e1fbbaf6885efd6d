/-
  What riffleref07.Drop answers for any two cells; nothing that was there is written. Condition: at most 100 axes and 1000 numbers.
-/
import Derived.Test.YticicfbllhnpcaaCvDropM
import Derived.Test.YticicfbllhnpcaaCvRTake
import Derived.Deep.QuietTactic
set_option maxRecDepth 100000
namespace Go.Proofs.Yticicfbllhnpcaa.Sh
open Go.RowKit
set_option linter.unusedVariables false

theorem dr_e {dn vn d v : List Int} {E : Int} (h : coE dn vn d v = E) (h0 : ¬ E = 0) : drD dn vn d v = [] ∧ drV dn vn d v = [] := ⟨by unfold drD; rw [h, oL_n h0], by unfold drV; rw [h, oL_n h0]⟩
theorem dr_0 {dn vn d v : List Int} (h : coE dn vn d v = 0) : drD dn vn d v = rowF vn.length (drF (smL vn) (coD vn d)) ∧ drV dn vn d v = shV (rowF vn.length (drF (smL vn) (coD vn d))) (rowF vn.length (drG (smL vn) (coD vn d))) (coD vn d) v := ⟨by unfold drD; rw [h, oL_0], by unfold drV; rw [h, oL_0]⟩
theorem shV_le {dm ah d v : List Int} : (shV dm ah d v).length ≤ 64 := by unfold shV; have := sizeI_bd dm; simp; omega
theorem coD_cell {dn vn d v : List Int} (h : coE dn vn d v = 0) : cellB (coD vn d) v.length = true := by
  obtain ⟨h1, h2, h3, h4⟩ := coE_0 h
  unfold coD
  split
  · rename_i h0
    have hd : d = [] := List.eq_nil_of_length_eq_zero h0.1
    subst hd
    have hv := (cellB_parts h2).2
    have hp : ∀ n : Nat, prod (List.replicate n (1 : Int)) = 1 := fun n => by
      induction n with
      | zero => rfl
      | succ n ih => rw [List.replicate_succ, prod_cons, ih]; rfl
    have hr : rightB (List.replicate vn.length (1 : Int)) = true := rightB_mk (by simp; exact h0.2) (by rw [List.all_eq_true]; intro x hx; rw [List.eq_of_mem_replicate hx]; rfl) (by rw [hp]; omega)
    have hs : sizeI (List.replicate vn.length (1 : Int)) = 1 := by rw [sizeI_mk (by simp; exact h0.2) (by rw [List.all_eq_true]; intro x hx; rw [List.eq_of_mem_replicate hx]; rfl) (by rw [hp]; omega), hp]
    have h1' : sizeI ([] : List Int) = 1 := by decide
    unfold cellB
    rw [hr, hs]
    simp; omega
  · exact h2
theorem pD_right' {D r g : List Int} (ok : DrOk D r g) (h : rightB D = true) (a : Nat) : rightB (dpD D r a) = true := dpD_right (n := 0) ok h a
theorem keepB7 {W w1 : World} {p : Addr} {x : Value} (hb : Below W.heap.size W w1) (h : W.cell? p = some x) : w1.cell? p = some x := (hb.cell (p := p) (World.block_lt_of_cell? W p h)).trans h
set_option maxHeartbeats 4000000 in
theorem rdrop_e (A : Option Addr) (c : Nat) (d : List Int) (B : Option Addr) (c2 : Nat) (v : List Int) (A' : Option Addr) (c' : Nat) (e : List Int) (B' : Option Addr) (c2' : Nat) (u : List Int) (w : World) (id : Ints w A d) (iv : Ints w B v) (ie : Ints w A' e) (iu : Ints w B' u) (hd : d.length ≤ 100) (hv : v.length ≤ 1000) (he : e.length ≤ 100) (hu : u.length ≤ 1000) (E : Int) (hE : coE d v e u = E) (h0 : ¬ E = 0) :
    Calls Try.prog 20 #[.agg #[.slice A d.length c, .slice B v.length c2], .agg #[.slice A' e.length c', .slice B' u.length c2']] w (RetCI w [] [] (.int .i64 E)) := by
  obtain ⟨ba0, bb0, br0, hb0⟩ := w2_all w (.slice A d.length c) (.slice B v.length c2) (.slice A' e.length c') (.slice B' u.length c2')
  have BA := Lib.hid (ba0)
  have BB := Lib.hid (bb0)
  have BR := Lib.hid (br0)
  have L := Lib.hid (hb0)
  have ID := Lib.hid (id.below hb0)
  have IV := Lib.hid (iv.below hb0)
  have IE := Lib.hid (ie.below hb0)
  have IU := Lib.hid (iu.below hb0)
  clear ba0 bb0 br0 hb0 id iv ie iu
  obtain ⟨D, hD⟩ : ∃ D, (if E = 0 then coD v e else e) = D := ⟨_, rfl⟩
  have HE := Lib.hid hE
  have HD := Lib.hid hD
  clear hD hE
  have hq : (E != 0) = true := by simpa using h0
  go_enter Try.func20, Try.ntmps20
  obtain ⟨qBA0, qBA1, -, -⟩ := BA.out.all
  obtain ⟨qBB0, qBB1, -, -⟩ := BB.out.all
  go_wp2_with fail
  refine (meant_e _ _ d _ _ v _ _ e _ _ u E D _ HE.out HD.out ID.out IV.out IE.out IU.out hd hv he hu).mono ?_
  rintro r w1 ⟨A6, c6, B6, e6, rfl, j1, j2, hb⟩
  clear qBA0 qBA1 qBB0 qBB1
  replace BA := Lib.hid (BA.out.next hb)
  replace BB := Lib.hid (BB.out.next hb)
  replace BR := Lib.hid (BR.out.next hb)
  replace L := Lib.hid (below_next L.out hb)
  replace ID := Lib.hid (ID.out.below hb)
  replace IV := Lib.hid (IV.out.below hb)
  replace IE := Lib.hid (IE.out.below hb)
  replace IU := Lib.hid (IU.out.below hb)
  clear hb
  have P6 := Lib.hid j1
  have Q6 := Lib.hid j2
  clear j1 j2
  have KB := Lib.hid (below_new w1 (.cells #[.slice A6 D.length c6, .slice B6 u.length e6] 25))
  have K6 := Lib.hid (Box.new w1 (.slice A6 D.length c6) (.slice B6 u.length e6))
  replace BA := Lib.hid (BA.out.next KB.out)
  replace BB := Lib.hid (BB.out.next KB.out)
  replace BR := Lib.hid (BR.out.next KB.out)
  replace L := Lib.hid (below_next L.out KB.out)
  replace ID := Lib.hid (ID.out.below KB.out)
  replace IV := Lib.hid (IV.out.below KB.out)
  replace IE := Lib.hid (IE.out.below KB.out)
  replace IU := Lib.hid (IU.out.below KB.out)
  replace P6 := Lib.hid (P6.out.below KB.out)
  replace Q6 := Lib.hid (Q6.out.below KB.out)
  go_upto_region 2 with (fail)
  clear KB
  generalize hW : w1.alloc (.cells #[.slice A6 D.length c6, .slice B6 u.length e6] 25) = W6 at *
  clear hW
  generalize w1.heap.size = g6 at *
  obtain ⟨r0, r1, r2, r3⟩ := BR.out.all
  go_wp2
  have T9 := (BR.out.set0 (.slice none 0 0)).set1 (.slice none 0 0)
  obtain ⟨t0, t1, _, _⟩ := T9.all
  refine bodyPost_ret (v := .tuple #[.agg #[.slice none 0 0, .slice none 0 0], .int .i64 E]) (by simp [results, Try.results20, go_sem, t0, t1]) rfl ?_
  exact ⟨none, 0, none, 0, rfl, Ints.nil _ _, Ints.nil _ _, (L.out.setCell (by first | (simp; done) | (simp; omega)) _).setCell (by first | (simp; done) | (simp; omega)) _⟩
set_option maxHeartbeats 8000000 in
theorem rdrop_0 (A : Option Addr) (c : Nat) (d : List Int) (B : Option Addr) (c2 : Nat) (v : List Int) (A' : Option Addr) (c' : Nat) (e : List Int) (B' : Option Addr) (c2' : Nat) (u : List Int) (w : World) (id : Ints w A d) (iv : Ints w B v) (ie : Ints w A' e) (iu : Ints w B' u) (hd : d.length ≤ 100) (hv : v.length ≤ 1000) (he : e.length ≤ 100) (hu : u.length ≤ 1000) (hE : coE d v e u = 0) :
    Calls Try.prog 20 #[.agg #[.slice A d.length c, .slice B v.length c2], .agg #[.slice A' e.length c', .slice B' u.length c2']] w (RetCI w (drD d v e u) (drV d v e u) (.int .i64 0)) := by
  obtain ⟨ba0, bb0, br0, hb0⟩ := w2_all w (.slice A d.length c) (.slice B v.length c2) (.slice A' e.length c') (.slice B' u.length c2')
  have BA := Lib.hid (ba0)
  have BB := Lib.hid (bb0)
  have BR := Lib.hid (br0)
  have L := Lib.hid (hb0)
  have ID := Lib.hid (id.below hb0)
  have IV := Lib.hid (iv.below hb0)
  have IE := Lib.hid (ie.below hb0)
  have IU := Lib.hid (iu.below hb0)
  clear ba0 bb0 br0 hb0 id iv ie iu
  obtain ⟨D, hD⟩ : ∃ D, coD v e = D := ⟨_, rfl⟩
  obtain ⟨r, hr⟩ : ∃ r, rowF v.length (drF (smL v) D) = r := ⟨_, rfl⟩
  obtain ⟨g, hg⟩ : ∃ g, rowF v.length (drG (smL v) D) = g := ⟨_, rfl⟩
  have OK := Lib.hid (show DrOk D r g by rw [← hr, ← hg, ← hD]; exact dr_ok hE)
  have HRA := Lib.hid (show ∀ i, i < v.length → r.getD i 0 = drF (smL v) D i by intro i hi; rw [← hr, rowF_at _ _ _ hi])
  have HGA := Lib.hid (show ∀ i, i < v.length → g.getD i 0 = drG (smL v) D i by intro i hi; rw [← hg, rowF_at _ _ _ hi])
  have HDL := Lib.hid (show v.length = D.length by have := (coE_0 hE).2.2.2; rw [hD] at this; exact this)
  have HCC := Lib.hid (show cellB D u.length = true by rw [← hD]; exact coD_cell hE)
  have HDR := Lib.hid (cellB_parts HCC.out).1
  have HD3 := Lib.hid (rightB_all HDR.out).1
  have HDB := Lib.hid (show ∀ i, i < D.length → 0 ≤ D.getD i 0 ∧ D.getD i 0 ≤ 64 from fun i hi => okAx_at (rightB_all HDR.out).2.1 i hi)
  have HPO := Lib.hid (show drD d v e u = r ∧ drV d v e u = shV r g D u by have h := dr_0 hE; rw [hD, hr, hg] at h; exact h)
  have HE := Lib.hid hE
  have HD0 := Lib.hid (show (if (0 : Int) = 0 then coD v e else e) = D from hD)
  clear hD hE hr hg
  go_enter Try.func20, Try.ntmps20
  obtain ⟨qBA0, qBA1, -, -⟩ := BA.out.all
  obtain ⟨qBB0, qBB1, -, -⟩ := BB.out.all
  go_wp2_with fail
  refine (meant_e _ _ d _ _ v _ _ e _ _ u 0 D _ HE.out HD0.out ID.out IV.out IE.out IU.out hd hv he hu).mono ?_
  rintro r w1 ⟨A6, c6, B6, e6, rfl, j1, j2, hb⟩
  clear qBA0 qBA1 qBB0 qBB1
  replace BA := Lib.hid (BA.out.next hb)
  replace BB := Lib.hid (BB.out.next hb)
  replace BR := Lib.hid (BR.out.next hb)
  replace L := Lib.hid (below_next L.out hb)
  replace ID := Lib.hid (ID.out.below hb)
  replace IV := Lib.hid (IV.out.below hb)
  replace IE := Lib.hid (IE.out.below hb)
  replace IU := Lib.hid (IU.out.below hb)
  clear hb
  have P6 := Lib.hid j1
  have Q6 := Lib.hid j2
  clear j1 j2
  have NA10 := Lib.hid BA.out.lt
  have NA20 := Lib.hid BR.out.lt
  have NW0 := Lib.hid L.out.size
  have IV0 := Lib.hid IV.out
  have L160 := Lib.hid (below_new w1 (.cells #[.slice A6 D.length c6, .slice B6 u.length e6] 25))
  have KB := Lib.hid (below_new w1 (.cells #[.slice A6 D.length c6, .slice B6 u.length e6] 25))
  have K6 := Lib.hid (Box.new w1 (.slice A6 D.length c6) (.slice B6 u.length e6))
  replace BA := Lib.hid (BA.out.next KB.out)
  replace BB := Lib.hid (BB.out.next KB.out)
  replace BR := Lib.hid (BR.out.next KB.out)
  replace L := Lib.hid (below_next L.out KB.out)
  replace ID := Lib.hid (ID.out.below KB.out)
  replace IV := Lib.hid (IV.out.below KB.out)
  replace IE := Lib.hid (IE.out.below KB.out)
  replace IU := Lib.hid (IU.out.below KB.out)
  replace P6 := Lib.hid (P6.out.below KB.out)
  replace Q6 := Lib.hid (Q6.out.below KB.out)
  go_upto_region 2 with (fail)
  clear KB
  generalize hW : w1.alloc (.cells #[.slice A6 D.length c6, .slice B6 u.length e6] 25) = W6 at *
  clear hW
  have L16 := Lib.hid L160.out
  clear L160
  generalize hg6 : w1.heap.size = g6 at *
  have HG6 := Lib.hid hg6
  clear hg6
  have NA1 := Lib.hid (show ¬ w.heap.size = g6 by have := NA10.out; omega)
  have NA2 := Lib.hid (show ¬ w.heap.size + 1 + 1 = g6 by have := NA20.out; omega)
  have NW := Lib.hid (show w.heap.size ≤ g6 from NW0.out)
  clear BB
  clear IE
  clear IU
  have hv3 : v.length ≤ 3 := by rw [HDL.out]; exact HD3.out
  have hgA := BA.out.lt
  have hgR := BR.out.lt
  have hg6 := K6.out.lt
  have hgW := L.out.size
  have HIV := Lib.hid IV.out
  have U0 := Lib.hid (shV_zero (g := g) HCC.out)
  have hd6 := K6.out
  go_wp2
  go_loopw [8] (fun j wr => ∃ (a : Nat) (A9 : Option Addr) (c9 : Nat) (B9 : Option Addr) (e9 : Nat), a ≤ v.length ∧ j = .int .i64 (a : Int) ∧ Box wr g6 (.slice A9 (dpD D r a).length c9) (.slice B9 (shV (dpD D r a) (dpG g D.length a) D u).length e9) ∧ Ints wr A9 (dpD D r a) ∧ Ints wr B9 (shV (dpD D r a) (dpG g D.length a) D u) ∧ W6.grownBy wr (some g6)) (fun j _ => v.length - (intOf j).toNat)
  case atStart => exact ⟨0, A6, c6, B6, e6, Nat.zero_le _, rfl, by rw [dpD_0, U0.out]; exact K6.out, by rw [dpD_0]; exact P6.out, by rw [dpD_0, U0.out]; exact Q6.out, turned_refl _ _⟩
  case round =>
    obtain ⟨a, A9, c9, B9, e9, ha, rfl, hbx, hi1, hi2, hgr⟩ := hrel
    obtain ⟨wo, hwo⟩ : ∃ W, W = wr := ⟨_, rfl⟩
    subst hwo
    have K9 := Lib.hid hbx
    have P9 := Lib.hid hi1
    have Q9 := Lib.hid hi2
    have GR := Lib.hid hgr
    have BAr := Lib.hid (BA.out.grown hgr (fun e => by injection e with e; exact NA1.out e))
    have BRr := Lib.hid (BR.out.grown hgr (fun e => by injection e with e; exact NA2.out e))
    have LWr := Lib.hid (below_turned L.out hgr NW.out)
    have IVr := Lib.hid (IV0.out.below (show Below w1.heap.size w1 wo from below_turned (by rw [HG6.out]; exact L16.out) hgr (by rw [HG6.out]; exact Nat.le_refl _)))
    clear hbx hi1 hi2 hgr
    obtain ⟨p0, p1, -, -⟩ := BAr.out.all
    by_cases hlt : a < v.length
    · have hx : (a : Int) < (v.length : Int) := by omega
      have haD : a < D.length := by rw [← HDL.out]; exact hlt
      have a0 : (0 : Int) ≤ (a : Int) := by omega
      have HPL := Lib.hid (dpD_len D r a)
      have HPA := Lib.hid (show (dpD D r a).getD a 0 = D.getD a 0 by rw [dpD_at _ _ _ _ haD, if_neg (by omega)])
      have HUL := Lib.hid (shV_le (dm := dpD D r a) (ah := dpG g D.length a) (d := D) (v := u))
      have HST := Lib.hid (fun (O : List Int) (n : Nat) hO hn => drop_step (u := u) (O := O) (n := n) OK.out HDR.out haD hO hn)
      have HSR := Lib.hid (pD_right' OK.out HDR.out (a + 1))
      have HSW := Lib.hid (dpD_set (D := D) (r := r) haD (x := r.getD a 0) rfl)
      obtain ⟨hb1, hb2, hb3⟩ := OK.out.b a haD
      have hDa := HDB.out a haD
      obtain ⟨N, hN⟩ : ∃ N : Nat, D.getD a 0 = (N : Int) := ⟨(D.getD a 0).toNat, by omega⟩
      obtain ⟨R, hR⟩ : ∃ R : Nat, r.getD a 0 = (R : Int) := ⟨(r.getD a 0).toNat, by omega⟩
      obtain ⟨G, hG⟩ : ∃ G : Nat, g.getD a 0 = (G : Int) := ⟨(g.getD a 0).toNat, by omega⟩
      obtain ⟨bv, ov, rfl, hbv, hcv⟩ := IVr.out (by omega)
      have xv := hcv a hlt
      clear hcv
      have HSTAY := Lib.hid (show ∀ k : Nat, k < N → (((0 ≤ v.getD a 0 ∧ v.getD a 0 ≤ (k : Int)) ∨ (v.getD a 0 < 0 ∧ (k : Int) - (N : Int) < v.getD a 0)) ↔ (G ≤ k ∧ k < G + R)) by
        intro k hk
        have h := dr_stay (vn := v) (D := D) (k := k) hlt hDa (by omega)
        rw [← HRA.out a hlt, ← HGA.out a hlt, hN, hR, hG] at h
        rw [h]; omega)
      rw [hN] at HPA hDa hb3
      rw [hR] at hb3 HSW
      rw [hG] at hb3
      rw [hG, hR, Int.toNat_natCast] at HST
      clear hN hR hG hb1 hb2
      generalize hP : dpD D r a = P at *
      generalize hU : shV P (dpG g D.length a) D u = U at *
      have HP := Lib.hid hP
      have HU := Lib.hid hU
      clear hP hU
      have ul : U.length ≤ 64 := HUL.out
      generalize v.getD a 0 = y at *
      go_wp2
      go_loopw [9, 10] (fun s j wr => ∃ (k : Nat) (V : Value), k ≤ N ∧ j = .int .i64 (k : Int) ∧ V = s ∧ MineT 3 wr wo.heap.size V (lstL (G : Int) (min k (G + R) - G)) ∧ Below wo.heap.size wo wr) (fun _ j _ => N - (intOf j).toNat)
      case atStart => exact ⟨0, _, Nat.zero_le _, rfl, rfl, by rw [show min 0 (G + R) - G = 0 by omega]; exact MineT.nil _ _ _, Below.refl _ _⟩
      case round =>
        obtain ⟨k, V, hk, rfl, rfl, hM, hB⟩ := hrel
        have MV := Lib.hid hM
        have LB := Lib.hid hB
        clear hM hB
        obtain ⟨bd, od, e9', hbd, hcd⟩ := (P9.out.below LB.out) (by rw [HPL.out]; omega)
        subst e9'
        have xd := hcd a (by rw [HPL.out]; exact haD)
        rw [HPA.out] at xd
        have xv2 := keepB7 LB.out xv
        clear hcd
        obtain ⟨z0, z1, -, -⟩ := (K9.out.next LB.out).all
        obtain ⟨s0, s1, -, -⟩ := (BAr.out.next LB.out).all
        have hxP : (a : Int) < (P.length : Int) := by rw [HPL.out]; omega
        by_cases hkl : k < N
        · have hkx : (k : Int) < (N : Int) := by omega
          have hs := HSTAY.out k hkl
          have u1 : IntKind.i64.wrap ((k : Int) - (N : Int)) = (k : Int) - (N : Int) := IntWalk.i64_in _ (by omega)
          by_cases hin : G ≤ k ∧ k < G + R
          · have HLS := Lib.hid (show lstL (G : Int) (min (k + 1) (G + R) - G) = lstL (G : Int) (min k (G + R) - G) ++ [(k : Int)] by
              rw [show min (k + 1) (G + R) - G = (min k (G + R) - G) + 1 by omega, lstL_succ, show (G : Int) + ((min k (G + R) - G : Nat) : Int) = (k : Int) by omega])
            have HLL := Lib.hid (lstL_len (G : Int) (min k (G + R) - G))
            have h1 := hs.2 hin
            have h64 : min k (G + R) - G ≤ 64 := by omega
            clear hs hin
            generalize lstL (G : Int) (min k (G + R) - G) = T at *
            by_cases hy : 0 ≤ y
            · have hyk : y ≤ (k : Int) := by omega
              go_upto_region 12 with (fail)
              go_quiet (fail)
              have M8 := Lib.hid (MV.out.drewN nq |>.alloc (.cells #[.int .i64 (k : Int)] 3))
              have X8 := Lib.hid (one_newI (wr.drewN nq) (k : Int))
              have L8 := Lib.hid (below_next (below_drewN LB.out nq) (below_new (wr.drewN nq) (.cells #[.int .i64 (k : Int)] 3)))
              go_wp2_with (at_builtin; refine wpList_appI numI Try.underlying22 rfl (.tmp 77) (.tmp 79) rfl wo.heap.size V T (by rfl) M8.out (some ⟨(wr.drewN nq).heap.size, 0, none⟩) 1 [(k : Int)] rfl X8.out (by rw [HLL.out]; simp; omega) L8.out.size ?_; intro V' w8 hm8 hg8 ha8)
              go_roundw
              case rel => exact ⟨k + 1, _, by omega, by go_num, rfl, by rw [HLS.out]; exact hm8, L8.out.grown hg8 L8.out.size M8.out.block⟩
              case measure => simp [intOf]; omega
            · have hy2 : y < 0 := by omega
              have hyk : (k : Int) - (N : Int) < y := by omega
              go_upto_region 12 with (fail)
              go_quiet (fail)
              have M8 := Lib.hid (MV.out.drewN nq |>.alloc (.cells #[.int .i64 (k : Int)] 3))
              have X8 := Lib.hid (one_newI (wr.drewN nq) (k : Int))
              have L8 := Lib.hid (below_next (below_drewN LB.out nq) (below_new (wr.drewN nq) (.cells #[.int .i64 (k : Int)] 3)))
              go_wp2_with (at_builtin; refine wpList_appI numI Try.underlying22 rfl (.tmp 77) (.tmp 79) rfl wo.heap.size V T (by rfl) M8.out (some ⟨(wr.drewN nq).heap.size, 0, none⟩) 1 [(k : Int)] rfl X8.out (by rw [HLL.out]; simp; omega) L8.out.size ?_; intro V' w8 hm8 hg8 ha8)
              go_roundw
              case rel => exact ⟨k + 1, _, by omega, by go_num, rfl, by rw [HLS.out]; exact hm8, L8.out.grown hg8 L8.out.size M8.out.block⟩
              case measure => simp [intOf]; omega
          · have HLS := Lib.hid (show lstL (G : Int) (min (k + 1) (G + R) - G) = lstL (G : Int) (min k (G + R) - G) by rw [show min (k + 1) (G + R) - G = min k (G + R) - G by omega])
            have h1 : ¬ ((0 ≤ y ∧ y ≤ (k : Int)) ∨ (y < 0 ∧ (k : Int) - (N : Int) < y)) := fun h => hin (hs.1 h)
            clear hs hin
            by_cases hy : 0 ≤ y
            · have hyk : ¬ y ≤ (k : Int) := by omega
              have hy2 : ¬ y < 0 := by omega
              go_upto_region 12 with (fail)
              go_quiet (fail)
              go_wp2
              go_roundw
              case rel => exact ⟨k + 1, _, by omega, by go_num, rfl, by rw [HLS.out]; exact MV.out.drewN nq, below_drewN LB.out nq⟩
              case measure => simp [intOf]; omega
            · have hy2 : y < 0 := by omega
              have hyk : ¬ (k : Int) - (N : Int) < y := by omega
              go_upto_region 12 with (fail)
              go_quiet (fail)
              go_wp2
              go_roundw
              case rel => exact ⟨k + 1, _, by omega, by go_num, rfl, by rw [HLS.out]; exact MV.out.drewN nq, below_drewN LB.out nq⟩
              case measure => simp [intOf]; omega
        · obtain rfl : k = N := by omega
          have HLE := Lib.hid (show lstL (G : Int) (min k (G + R) - G) = lstL (G : Int) R by rw [show min k (G + R) - G = R by omega])
          rw [HLE.out] at MV
          obtain ⟨AL, cL, rfl, il⟩ := MV.out.ints
          have IL := Lib.hid il
          have hll := lstL_len (G : Int) R
          clear il
          obtain ⟨O, hO⟩ : ∃ O, withL P (a : Int) ((lstL (G : Int) R).length : Int) = O := ⟨_, rfl⟩
          have HOW := Lib.hid hO
          have HOE := Lib.hid (show O = dpD D r (a + 1) by rw [← hO, hll]; exact HSW.out)
          clear hO
          obtain ⟨n, hn, hn64⟩ := sizeI_nat O (by rw [HOE.out]; exact HSR.out)
          have HNN := Lib.hid hn
          clear hn
          have CH := Lib.hid (fun W i1 i2 i3 => chosen_any (some ⟨bd, od, none⟩) c9 P B9 e9 U a AL cL (lstL (G : Int) R) O n W (by rw [HPL.out]; have := HD3.out; omega) (by omega) (by rw [HPL.out]; exact haD) (by rw [hll]; omega) HOW.out HNN.out i1 i2 i3)
          have HSS := Lib.hid (HST.out O n HOW.out HNN.out)
          obtain ⟨U2, hU2⟩ : ∃ U2, (List.range n).map (chF P U (lstL (G : Int) R) a O) = U2 := ⟨_, rfl⟩
          rw [hU2] at CH HSS
          generalize lstL (G : Int) R = T at *
          clear hU2 hll
          go_wp2_with fail
          refine (CH.out _ (P9.out.below LB.out) (Q9.out.below LB.out) IL.out).mono ?_
          rintro w' w14 ⟨A14, c14, B14, e14, rfl, j1, j2, hb⟩
          have J1 := Lib.hid j1
          have J2 := Lib.hid j2
          have K14 := Lib.hid ((K9.out.next LB.out).next hb)
          have G14 := Lib.hid (turned_below (turned_below GR.out LB.out) hb)
          clear j1 j2 hb z0 z1 xd xv2 s0 s1
          obtain ⟨z0, z1, z2, z3⟩ := K14.out.all
          go_wp2
          go_roundw
          case rel => exact ⟨a + 1, A14, c14, B14, e14, by omega, by go_num, by rw [← HSS.out.2, ← HSS.out.1]; exact (K14.out.set0 _).set1 _, by rw [← HSS.out.1]; exact J1.out.set_box K14.out _ _, by rw [← HSS.out.2]; exact J2.out.set_box K14.out _ _, turned_set (turned_set G14.out 0 _) 1 _⟩
          case measure => simp [intOf]; omega
    · obtain rfl : a = v.length := by omega
      have hx : ¬ (v.length : Int) < (v.length : Int) := by omega
      have EP := Lib.hid (show dpD D r v.length = r by rw [HDL.out]; exact dpD_n OK.out.hr)
      have EG := Lib.hid (show dpG g D.length v.length = g by rw [HDL.out]; exact dpG_n OK.out.hg)
      rw [EP.out, EG.out] at K9 Q9
      rw [EP.out] at P9
      obtain ⟨U, hU⟩ : ∃ U, shV r g D u = U := ⟨_, rfl⟩
      rw [hU] at K9 Q9
      have HU := Lib.hid hU
      clear hU
      obtain ⟨q0, q1, -, -⟩ := K9.out.all
      obtain ⟨r0, r1, r2, r3⟩ := BRr.out.all
      have hlr := LWr.out.size
      go_wp2
      have T9 := (BRr.out.set0 (.slice A9 r.length c9)).set1 (.slice B9 U.length e9)
      obtain ⟨t0, t1, _, _⟩ := T9.all
      refine bodyPost_ret (v := .tuple #[.agg #[.slice A9 r.length c9, .slice B9 U.length e9], .int .i64 0]) (by simp [results, Try.results20, go_sem, t0, t1]) rfl ?_
      rw [HPO.out.1, HPO.out.2, HU.out]
      exact ⟨A9, c9, B9, e9, rfl, P9.out.set_box BRr.out _ _, Q9.out.set_box BRr.out _ _, (LWr.out.setCell (by first | (simp; done) | (simp; omega)) _).setCell (by first | (simp; done) | (simp; omega)) _⟩
theorem rdrop_any (A : Option Addr) (c : Nat) (d : List Int) (B : Option Addr) (c2 : Nat) (v : List Int) (A' : Option Addr) (c' : Nat) (e : List Int) (B' : Option Addr) (c2' : Nat) (u : List Int) (w : World) (id : Ints w A d) (iv : Ints w B v) (ie : Ints w A' e) (iu : Ints w B' u) (hd : d.length ≤ 100) (hv : v.length ≤ 1000) (he : e.length ≤ 100) (hu : u.length ≤ 1000) :
    Calls Try.prog 20 #[.agg #[.slice A d.length c, .slice B v.length c2], .agg #[.slice A' e.length c', .slice B' u.length c2']] w (RetCI w (drD d v e u) (drV d v e u) (.int .i64 (coE d v e u))) := by
  by_cases h0 : coE d v e u = 0
  · rw [h0]; exact rdrop_0 A c d B c2 v A' c' e B' c2' u w id iv ie iu hd hv he hu h0
  · obtain ⟨e2, e3⟩ := dr_e (dn := d) (vn := v) (d := e) (v := u) rfl h0
    rw [e2, e3]
    exact rdrop_e A c d B c2 v A' c' e B' c2' u w id iv ie iu hd hv he hu _ rfl h0
end Go.Proofs.Yticicfbllhnpcaa.Sh
