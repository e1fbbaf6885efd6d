/-
  What riffleref07.Take answers for any two cells; nothing that was there is written. Condition: at most 100 axes and 1000 numbers.
-/
import Derived.Test.YticicfbllhnpcaaCvMeant
import Derived.Deep.QuietTactic
set_option maxRecDepth 100000
namespace Go.Proofs.Yticicfbllhnpcaa.Sh
open Go.RowKit
set_option linter.unusedVariables false

def smallN (v : List Int) : Prop := ∀ i, i < v.length → -64 ≤ v.getD i 0 ∧ v.getD i 0 ≤ 64
theorem tk_small {v : List Int} (h : smallN v) : rowF v.length (tkF (smL v)) = v.map absI := by
  unfold rowF
  apply List.ext_getElem?
  intro i
  rcases Nat.lt_or_ge i v.length with hi | hi
  · have h1 := h i hi
    have h2 : v.getD i 0 = v[i] := by simp [List.getD, hi]
    rw [List.getElem?_map, List.getElem?_range hi, List.getElem?_map, List.getElem?_eq_getElem hi]
    simp only [Option.map_some, tkF]
    rw [smL_at v i hi, h2]
    rw [h2] at h1
    congr 2
    unfold sm65; omega
  · rw [List.getElem?_eq_none (by simp; omega), List.getElem?_eq_none (by simp; omega)]
theorem tk_big {v : List Int} {i : Nat} (hi : i < v.length) (h : ¬ (-64 ≤ v.getD i 0 ∧ v.getD i 0 ≤ 64)) : rightB (rowF v.length (tkF (smL v))) = false := by
  cases hr : rightB (rowF v.length (tkF (smL v)))
  · rfl
  · have h1 := (rightB_all hr).2.1
    have hx : (rowF v.length (tkF (smL v))).getD i 0 ∈ rowF v.length (tkF (smL v)) := by
      have : i < (rowF v.length (tkF (smL v))).length := by rw [rowF_len]; exact hi
      simp [List.getD, this]
    have h2 := List.all_eq_true.1 h1 _ hx
    rw [rowF_at _ _ _ hi] at h2
    simp only [tkF, smL_at v i hi, okAx, Bool.and_eq_true, decide_eq_true_eq] at h2
    unfold absI sm65 at h2
    omega
theorem ta_e {dn vn d v : List Int} {E : Int} (h : coE dn vn d v = E) (h0 : ¬ E = 0) : taE dn vn d v = E ∧ taD dn vn d v = [] ∧ taV dn vn d v = [] := by
  have e : taE dn vn d v = E := by unfold taE; rw [h, if_neg h0]
  exact ⟨e, by unfold taD; rw [e, oL_n h0], by unfold taV; rw [e, oL_n h0]⟩
theorem ta_4 {dn vn d v : List Int} (h : coE dn vn d v = 0) (h4 : rightB (rowF vn.length (tkF (smL vn))) = false) : taE dn vn d v = 4 ∧ taD dn vn d v = [] ∧ taV dn vn d v = [] := by
  have e : taE dn vn d v = 4 := by unfold taE; rw [h, if_pos rfl, if_neg (by simp [h4])]
  exact ⟨e, by unfold taD; rw [e, oL_n (by decide)], by unfold taV; rw [e, oL_n (by decide)]⟩
theorem ta_0 {dn vn d v : List Int} (h : coE dn vn d v = 0) (h4 : rightB (rowF vn.length (tkF (smL vn))) = true) : taE dn vn d v = 0 ∧ taD dn vn d v = rowF vn.length (tkF (smL vn)) ∧ taV dn vn d v = shV (rowF vn.length (tkF (smL vn))) (rowF vn.length (tkG (smL vn) (coD vn d))) (coD vn d) v := by
  have e : taE dn vn d v = 0 := by unfold taE; rw [h, if_pos rfl, if_pos h4]
  exact ⟨e, by unfold taD; rw [e, oL_0], by unfold taV; rw [e, oL_0]⟩
/-- A place whose first numbers are moved. -/
def mixL (ah p : List Int) (a : Nat) : List Int := (List.range p.length).map fun i => if i < a then p.getD i 0 + ah.getD i 0 else p.getD i 0
theorem mixL_len (ah p : List Int) (a : Nat) : (mixL ah p a).length = p.length := by simp [mixL]
theorem mixL_0 (ah p : List Int) : mixL ah p 0 = p := by
  apply List.ext_getElem?
  intro i
  rcases Nat.lt_or_ge i p.length with h | h
  · simp [mixL, h, List.getD]
  · rw [List.getElem?_eq_none (by rw [mixL_len]; exact h), List.getElem?_eq_none h]
theorem mixL_n (ah p : List Int) : mixL ah p p.length = shP ah p := by
  unfold mixL shP
  exact List.map_congr_left fun i hi => if_pos (by simpa using hi)
theorem mixL_at (ah p : List Int) (a i : Nat) (h : i < p.length) : (mixL ah p a).getD i 0 = if i < a then p.getD i 0 + ah.getD i 0 else p.getD i 0 := by simp [mixL, List.getD, h]
theorem mixL_set (ah p : List Int) (a : Nat) (h : a < p.length) : (mixL ah p a).set a (p.getD a 0 + ah.getD a 0) = mixL ah p (a + 1) := by
  apply List.ext_getElem?
  intro i
  rcases Nat.lt_or_ge i p.length with hi | hi
  · rw [List.getElem?_set]
    by_cases he : a = i
    · subst he; simp [mixL, hi]
    · rw [if_neg he]; simp only [mixL, List.getElem?_map, List.getElem?_range hi, Option.map_some]; congr 1
      by_cases h1 : i < a
      · rw [if_pos h1, if_pos (by omega)]
      · rw [if_neg h1, if_neg (by omega)]
  · rw [List.getElem?_eq_none (by simp [mixL_len]; omega), List.getElem?_eq_none (by rw [mixL_len]; exact hi)]
theorem mixL_same (ah p : List Int) (a : Nat) (h : ah.getD a 0 = 0) : mixL ah p (a + 1) = mixL ah p a := by
  unfold mixL
  refine List.map_congr_left fun i hi => ?_
  by_cases he : i = a
  · subst he; rw [if_pos (by omega), if_neg (by omega), h, Int.add_zero]
  · by_cases h1 : i < a
    · rw [if_pos h1, if_pos (by omega)]
    · rw [if_neg h1, if_neg (by omega)]
theorem meant_e (A : Option Addr) (c : Nat) (d : List Int) (B : Option Addr) (c2 : Nat) (v : List Int) (A' : Option Addr) (c' : Nat) (e : List Int) (B' : Option Addr) (c2' : Nat) (u : List Int) (E : Int) (D : List Int) (w : World) (hE : coE d v e u = E) (hD : (if E = 0 then coD v e else e) = D) (id : Ints w A d) (iv : Ints w B v) (ie : Ints w A' e) (iu : Ints w B' u) (hd : d.length ≤ 100) (hv : v.length ≤ 1000) (he : e.length ≤ 100) (hu : u.length ≤ 1000) :
    Calls Try.prog 46 #[.agg #[.slice A d.length c, .slice B v.length c2], .agg #[.slice A' e.length c', .slice B' u.length c2']] w (RetCI w D u (.int .i64 E)) := by
  subst hE hD
  exact meant_any A c d B c2 v A' c' e B' c2' u w id iv ie iu hd hv he hu
set_option maxHeartbeats 4000000 in
theorem rtake_e (A : Option Addr) (c : Nat) (d : List Int) (B : Option Addr) (c2 : Nat) (v : List Int) (A' : Option Addr) (c' : Nat) (e : List Int) (B' : Option Addr) (c2' : Nat) (u : List Int) (w : World) (id : Ints w A d) (iv : Ints w B v) (ie : Ints w A' e) (iu : Ints w B' u) (hd : d.length ≤ 100) (hv : v.length ≤ 1000) (he : e.length ≤ 100) (hu : u.length ≤ 1000) (E : Int) (hE : coE d v e u = E) (h0 : ¬ E = 0) :
    Calls Try.prog 18 #[.agg #[.slice A d.length c, .slice B v.length c2], .agg #[.slice A' e.length c', .slice B' u.length c2']] w (RetCI w [] [] (.int .i64 E)) := by
  obtain ⟨ba0, bb0, br0, hb0⟩ := w2_all w (.slice A d.length c) (.slice B v.length c2) (.slice A' e.length c') (.slice B' u.length c2')
  have BA := Lib.hid (ba0)
  have BB := Lib.hid (bb0)
  have BR := Lib.hid (br0)
  have L := Lib.hid (hb0)
  have ID := Lib.hid (id.below hb0)
  have IV := Lib.hid (iv.below hb0)
  have IE := Lib.hid (ie.below hb0)
  have IU := Lib.hid (iu.below hb0)
  clear ba0 bb0 br0 hb0 id iv ie iu
  obtain ⟨D, hD⟩ : ∃ D, (if E = 0 then coD v e else e) = D := ⟨_, rfl⟩
  have HE := Lib.hid hE
  have HD := Lib.hid hD
  clear hD hE
  have hq : (E != 0) = true := by simpa using h0
  go_enter Try.func18, Try.ntmps18
  obtain ⟨qBA0, qBA1, -, -⟩ := BA.out.all
  obtain ⟨qBB0, qBB1, -, -⟩ := BB.out.all
  go_wp2_with fail
  refine (meant_e _ _ d _ _ v _ _ e _ _ u E D _ HE.out HD.out ID.out IV.out IE.out IU.out hd hv he hu).mono ?_
  rintro r w1 ⟨A6, c6, B6, e6, rfl, j1, j2, hb⟩
  clear qBA0 qBA1 qBB0 qBB1
  replace BA := Lib.hid (BA.out.next hb)
  replace BB := Lib.hid (BB.out.next hb)
  replace BR := Lib.hid (BR.out.next hb)
  replace L := Lib.hid (below_next L.out hb)
  replace ID := Lib.hid (ID.out.below hb)
  replace IV := Lib.hid (IV.out.below hb)
  replace IE := Lib.hid (IE.out.below hb)
  replace IU := Lib.hid (IU.out.below hb)
  clear hb
  have P6 := Lib.hid j1
  have Q6 := Lib.hid j2
  clear j1 j2
  have KB := Lib.hid (below_new w1 (.cells #[.slice A6 D.length c6, .slice B6 u.length e6] 25))
  have K6 := Lib.hid (Box.new w1 (.slice A6 D.length c6) (.slice B6 u.length e6))
  replace BA := Lib.hid (BA.out.next KB.out)
  replace BB := Lib.hid (BB.out.next KB.out)
  replace BR := Lib.hid (BR.out.next KB.out)
  replace L := Lib.hid (below_next L.out KB.out)
  replace ID := Lib.hid (ID.out.below KB.out)
  replace IV := Lib.hid (IV.out.below KB.out)
  replace IE := Lib.hid (IE.out.below KB.out)
  replace IU := Lib.hid (IU.out.below KB.out)
  replace P6 := Lib.hid (P6.out.below KB.out)
  replace Q6 := Lib.hid (Q6.out.below KB.out)
  go_upto_region 2 with (fail)
  clear KB
  generalize hW : w1.alloc (.cells #[.slice A6 D.length c6, .slice B6 u.length e6] 25) = W6 at *
  clear hW
  generalize w1.heap.size = g6 at *
  obtain ⟨r0, r1, r2, r3⟩ := BR.out.all
  go_wp2
  have T9 := (BR.out.set0 (.slice none 0 0)).set1 (.slice none 0 0)
  obtain ⟨t0, t1, _, _⟩ := T9.all
  refine bodyPost_ret (v := .tuple #[.agg #[.slice none 0 0, .slice none 0 0], .int .i64 E]) (by simp [results, Try.results18, go_sem, t0, t1]) rfl ?_
  exact ⟨none, 0, none, 0, rfl, Ints.nil _ _, Ints.nil _ _, (L.out.setCell (by first | (simp; done) | (simp; omega)) _).setCell (by first | (simp; done) | (simp; omega)) _⟩
set_option maxHeartbeats 8000000 in
theorem rtake_0 (A : Option Addr) (c : Nat) (d : List Int) (B : Option Addr) (c2 : Nat) (v : List Int) (A' : Option Addr) (c' : Nat) (e : List Int) (B' : Option Addr) (c2' : Nat) (u : List Int) (w : World) (id : Ints w A d) (iv : Ints w B v) (ie : Ints w A' e) (iu : Ints w B' u) (hd : d.length ≤ 100) (hv : v.length ≤ 1000) (he : e.length ≤ 100) (hu : u.length ≤ 1000) (hE : coE d v e u = 0) :
    Calls Try.prog 18 #[.agg #[.slice A d.length c, .slice B v.length c2], .agg #[.slice A' e.length c', .slice B' u.length c2']] w (RetCI w (taD d v e u) (taV d v e u) (.int .i64 (taE d v e u))) := by
  obtain ⟨ba0, bb0, br0, hb0⟩ := w2_all w (.slice A d.length c) (.slice B v.length c2) (.slice A' e.length c') (.slice B' u.length c2')
  have BA := Lib.hid (ba0)
  have BB := Lib.hid (bb0)
  have BR := Lib.hid (br0)
  have L := Lib.hid (hb0)
  have ID := Lib.hid (id.below hb0)
  have IV := Lib.hid (iv.below hb0)
  have IE := Lib.hid (ie.below hb0)
  have IU := Lib.hid (iu.below hb0)
  clear ba0 bb0 br0 hb0 id iv ie iu
  obtain ⟨D, hD⟩ : ∃ D, coD v e = D := ⟨_, rfl⟩
  have HE := Lib.hid hE
  have HD := Lib.hid hD
  have HD0 := Lib.hid (show (if (0 : Int) = 0 then coD v e else e) = D from hD)
  clear hD hE
  go_enter Try.func18, Try.ntmps18
  obtain ⟨qBA0, qBA1, -, -⟩ := BA.out.all
  obtain ⟨qBB0, qBB1, -, -⟩ := BB.out.all
  go_wp2_with fail
  refine (meant_e _ _ d _ _ v _ _ e _ _ u 0 D _ HE.out HD0.out ID.out IV.out IE.out IU.out hd hv he hu).mono ?_
  rintro r w1 ⟨A6, c6, B6, e6, rfl, j1, j2, hb⟩
  clear qBA0 qBA1 qBB0 qBB1
  replace BA := Lib.hid (BA.out.next hb)
  replace BB := Lib.hid (BB.out.next hb)
  replace BR := Lib.hid (BR.out.next hb)
  replace L := Lib.hid (below_next L.out hb)
  replace ID := Lib.hid (ID.out.below hb)
  replace IV := Lib.hid (IV.out.below hb)
  replace IE := Lib.hid (IE.out.below hb)
  replace IU := Lib.hid (IU.out.below hb)
  clear hb
  have P6 := Lib.hid j1
  have Q6 := Lib.hid j2
  clear j1 j2
  have KB := Lib.hid (below_new w1 (.cells #[.slice A6 D.length c6, .slice B6 u.length e6] 25))
  have K6 := Lib.hid (Box.new w1 (.slice A6 D.length c6) (.slice B6 u.length e6))
  replace BA := Lib.hid (BA.out.next KB.out)
  replace BB := Lib.hid (BB.out.next KB.out)
  replace BR := Lib.hid (BR.out.next KB.out)
  replace L := Lib.hid (below_next L.out KB.out)
  replace ID := Lib.hid (ID.out.below KB.out)
  replace IV := Lib.hid (IV.out.below KB.out)
  replace IE := Lib.hid (IE.out.below KB.out)
  replace IU := Lib.hid (IU.out.below KB.out)
  replace P6 := Lib.hid (P6.out.below KB.out)
  replace Q6 := Lib.hid (Q6.out.below KB.out)
  go_upto_region 2 with (fail)
  clear KB
  generalize hW : w1.alloc (.cells #[.slice A6 D.length c6, .slice B6 u.length e6] 25) = W6 at *
  clear hW
  generalize w1.heap.size = g6 at *
  have hl3 : v.length ≤ 3 := by
    have h1 := coE_0 HE.out
    have h2 := (coD_right (vn := v) (d := e) (cellB_parts h1.2.1).1).2.1
    omega
  clear BB
  clear IE
  clear IU
  go_wp2
  go_loopw [8, 9] (fun s j wr => ∃ (k : Nat) (V : Value), k ≤ v.length ∧ j = .int .i64 (k : Int) ∧ V = s ∧ MineT 3 wr W6.heap.size V ((v.take k).map absI) ∧ smallN (v.take k) ∧ Below W6.heap.size W6 wr) (fun _ j _ => v.length - (intOf j).toNat)
  case atStart => exact ⟨0, _, Nat.zero_le _, rfl, rfl, MineT.nil _ _ _, fun i hi => absurd hi (by simp), Below.refl _ _⟩
  case round =>
    obtain ⟨k, V, hk, rfl, rfl, hM, hsm, hB⟩ := hrel
    have MV := Lib.hid hM
    have LBk := Lib.hid hB
    have HSM := Lib.hid hsm
    clear hM hB hsm
    replace BA := Lib.hid (BA.out.next LBk.out)
    replace BR := Lib.hid (BR.out.next LBk.out)
    replace L := Lib.hid (below_next L.out LBk.out)
    replace ID := Lib.hid (ID.out.below LBk.out)
    replace IV := Lib.hid (IV.out.below LBk.out)
    replace P6 := Lib.hid (P6.out.below LBk.out)
    replace Q6 := Lib.hid (Q6.out.below LBk.out)
    replace K6 := Lib.hid (K6.out.next LBk.out)
    obtain ⟨qBA0, qBA1, -, -⟩ := BA.out.all
    by_cases hlt : k < v.length
    · have hx : (k : Int) < (v.length : Int) := by omega
      have k0 : (0 : Int) ≤ (k : Int) := by omega
      obtain ⟨bv, ov, rfl, hbv, hcv⟩ := IV.out (by omega)
      have xv := hcv k hlt
      clear hcv
      have HTK := Lib.hid (take_snoc v k hlt)
      obtain ⟨y, hy⟩ : ∃ y, v.getD k 0 = y := ⟨_, rfl⟩
      rw [hy] at xv HTK
      have HY := Lib.hid hy
      clear hy
      by_cases hbig : 64 < y
      · have HBG := Lib.hid (tk_big hlt (by rw [HY.out]; omega))
        obtain ⟨r0, r1, r2, r3⟩ := BR.out.all
        go_wp2
        have T9 := (BR.out.set0 (.slice none 0 0)).set1 (.slice none 0 0)
        obtain ⟨t0, t1, _, _⟩ := T9.all
        refine bodyPost_ret (v := .tuple #[.agg #[.slice none 0 0, .slice none 0 0], .int .i64 4]) (by simp [results, Try.results18, go_sem, t0, t1]) rfl ?_
        rw [(ta_4 HE.out HBG.out).1, (ta_4 HE.out HBG.out).2.1, (ta_4 HE.out HBG.out).2.2]
        exact ⟨none, 0, none, 0, rfl, Ints.nil _ _, Ints.nil _ _, (L.out.setCell (by first | (simp; done) | (simp; omega)) _).setCell (by first | (simp; done) | (simp; omega)) _⟩
      by_cases hsml : y < -64
      · have HBG := Lib.hid (tk_big hlt (by rw [HY.out]; omega))
        obtain ⟨r0, r1, r2, r3⟩ := BR.out.all
        go_wp2
        have T9 := (BR.out.set0 (.slice none 0 0)).set1 (.slice none 0 0)
        obtain ⟨t0, t1, _, _⟩ := T9.all
        refine bodyPost_ret (v := .tuple #[.agg #[.slice none 0 0, .slice none 0 0], .int .i64 4]) (by simp [results, Try.results18, go_sem, t0, t1]) rfl ?_
        rw [(ta_4 HE.out HBG.out).1, (ta_4 HE.out HBG.out).2.1, (ta_4 HE.out HBG.out).2.2]
        exact ⟨none, 0, none, 0, rfl, Ints.nil _ _, Ints.nil _ _, (L.out.setCell (by first | (simp; done) | (simp; omega)) _).setCell (by first | (simp; done) | (simp; omega)) _⟩
      have HSM2 := Lib.hid (show smallN (v.take (k + 1)) by
        intro i hi
        rw [HTK.out]
        rcases Nat.lt_or_ge i (v.take k).length with h | h
        · have := HSM.out i h
          rw [show (v.take k ++ [y]).getD i 0 = (v.take k).getD i 0 by simp only [List.getD]; rw [List.getElem?_append_left h]]
          exact this
        · have hl : (v.take k).length = k := by simp; omega
          have : i = k := by simp at hi; omega
          subst this
          rw [show (v.take i ++ [y]).getD i 0 = y by simp only [List.getD]; rw [List.getElem?_append_right (by omega), hl]; simp]
          omega)
      have HLK := Lib.hid (show ((v.take k).map absI).length = k by simp; omega)
      have HMP := Lib.hid (show (v.take (k + 1)).map absI = (v.take k).map absI ++ [absI y] by rw [HTK.out, List.map_append]; rfl)
      have hb1 : ¬ (64 : Int) < y := hbig
      obtain ⟨T, hT⟩ : ∃ T, (v.take k).map absI = T := ⟨_, rfl⟩
      rw [hT] at MV HLK HMP
      clear hT hbig
      by_cases hneg : y < 0
      · have HAB := Lib.hid (show absI y = (-y) by unfold absI; omega)
        rw [HAB.out] at HMP
        have M8 := Lib.hid (MV.out.alloc (.cells #[.int .i64 (-y)] 3))
        have X8 := Lib.hid (one_newI wr (-y))
        have L8 := Lib.hid (below_next LBk.out (below_new wr (.cells #[.int .i64 (-y)] 3)))
        go_wp2_with (at_builtin; refine wpList_appI numI Try.underlying22 rfl (.tmp 59) (.tmp 61) rfl W6.heap.size V T (by rfl) M8.out (some ⟨wr.heap.size, 0, none⟩) 1 [(-y)] rfl X8.out (by rw [HLK.out]; simp; omega) L8.out.size ?_; intro V' w8 hm8 hg8 ha8)
        go_roundw
        case rel => exact ⟨k + 1, _, by omega, by go_num, rfl, by rw [HMP.out]; exact hm8, HSM2.out, L8.out.grown hg8 L8.out.size M8.out.block⟩
        case measure => simp [intOf]; omega
      · have HAB := Lib.hid (show absI y = y by unfold absI; omega)
        rw [HAB.out] at HMP
        have M8 := Lib.hid (MV.out.alloc (.cells #[.int .i64 y] 3))
        have X8 := Lib.hid (one_newI wr y)
        have L8 := Lib.hid (below_next LBk.out (below_new wr (.cells #[.int .i64 y] 3)))
        go_wp2_with (at_builtin; refine wpList_appI numI Try.underlying22 rfl (.tmp 59) (.tmp 61) rfl W6.heap.size V T (by rfl) M8.out (some ⟨wr.heap.size, 0, none⟩) 1 [y] rfl X8.out (by rw [HLK.out]; simp; omega) L8.out.size ?_; intro V' w8 hm8 hg8 ha8)
        go_roundw
        case rel => exact ⟨k + 1, _, by omega, by go_num, rfl, by rw [HMP.out]; exact hm8, HSM2.out, L8.out.grown hg8 L8.out.size M8.out.block⟩
        case measure => simp [intOf]; omega
    · obtain rfl : k = v.length := by omega
      have HSA := Lib.hid (show smallN v by have := HSM.out; rwa [List.take_length] at this)
      rw [List.take_length] at MV
      have HDM := Lib.hid (tk_small HSA.out)
      obtain ⟨A8, c8, rfl, i8⟩ := MV.out.ints
      obtain ⟨dm, hdm⟩ : ∃ dm, v.map absI = dm := ⟨_, rfl⟩
      have HML := Lib.hid (show dm.length = v.length by rw [← hdm]; simp)
      have HMA := Lib.hid (show ∀ i, i < v.length → dm.getD i 0 = absI (v.getD i 0) by intro i hi; rw [← hdm]; simp [List.getD, hi])
      rw [hdm] at i8 HDM ⊢
      have I8 := Lib.hid i8
      clear i8 hdm MV
      by_cases h4 : rightB dm = true
      rotate_left
      · have H4 := Lib.hid (show rightB dm = false by simpa using h4)
        clear h4
        go_wp2_with fail
        refine (refRightB_no _ _ dm _ H4.out (by rw [HML.out]; unfold maxLen; omega) I8.out).mono ?_
        rintro r w11 ⟨rfl, hb⟩
        clear qBA0 qBA1
        replace BA := Lib.hid (BA.out.next hb)
        replace BR := Lib.hid (BR.out.next hb)
        replace L := Lib.hid (below_next L.out hb)
        replace ID := Lib.hid (ID.out.below hb)
        replace IV := Lib.hid (IV.out.below hb)
        replace P6 := Lib.hid (P6.out.below hb)
        replace Q6 := Lib.hid (Q6.out.below hb)
        replace K6 := Lib.hid (K6.out.next hb)
        replace LBk := Lib.hid (below_next LBk.out hb)
        replace I8 := Lib.hid (I8.out.below hb)
        clear hb
        obtain ⟨r0, r1, r2, r3⟩ := BR.out.all
        go_wp2
        have T9 := (BR.out.set0 (.slice none 0 0)).set1 (.slice none 0 0)
        obtain ⟨t0, t1, _, _⟩ := T9.all
        refine bodyPost_ret (v := .tuple #[.agg #[.slice none 0 0, .slice none 0 0], .int .i64 4]) (by simp [results, Try.results18, go_sem, t0, t1]) rfl ?_
        have EQ := ta_4 HE.out (by rw [HDM.out]; exact H4.out)
        rw [EQ.1, EQ.2.1, EQ.2.2]
        exact ⟨none, 0, none, 0, rfl, Ints.nil _ _, Ints.nil _ _, (L.out.setCell (by first | (simp; done) | (simp; omega)) _).setCell (by first | (simp; done) | (simp; omega)) _⟩
      have H4 := Lib.hid h4
      clear h4
      go_wp2_with fail
      refine (refRightB_yes _ _ dm _ H4.out (by rw [HML.out]; unfold maxLen; omega) I8.out).mono ?_
      rintro r w11 ⟨rfl, hb⟩
      clear qBA0 qBA1
      replace BA := Lib.hid (BA.out.next hb)
      replace BR := Lib.hid (BR.out.next hb)
      replace L := Lib.hid (below_next L.out hb)
      replace ID := Lib.hid (ID.out.below hb)
      replace IV := Lib.hid (IV.out.below hb)
      replace P6 := Lib.hid (P6.out.below hb)
      replace Q6 := Lib.hid (Q6.out.below hb)
      replace K6 := Lib.hid (K6.out.next hb)
      replace LBk := Lib.hid (below_next LBk.out hb)
      replace I8 := Lib.hid (I8.out.below hb)
      clear hb
      obtain ⟨N, hN, hN64⟩ := sizeI_nat dm H4.out
      have HN := Lib.hid hN
      clear hN
      have hgA := BA.out.lt
      have hgR := BR.out.lt
      have hgK := K6.out.lt
      have hgW := L.out.size
      have IV1 := Lib.hid IV.out
      have I81 := Lib.hid I8.out
      have P61 := Lib.hid P6.out
      have Q61 := Lib.hid Q6.out
      have L11 := Lib.hid (Below.refl w11.heap.size w11)
      have KB := Lib.hid (below_new w11 (.cells #[.slice A8 dm.length c8, .slice none 0 0] 25))
      have BX := Lib.hid (Box.new w11 (.slice A8 dm.length c8) (.slice none 0 0))
      replace BA := Lib.hid (BA.out.next KB.out)
      replace BR := Lib.hid (BR.out.next KB.out)
      replace L := Lib.hid (below_next L.out KB.out)
      replace ID := Lib.hid (ID.out.below KB.out)
      replace IV := Lib.hid (IV.out.below KB.out)
      replace P6 := Lib.hid (P6.out.below KB.out)
      replace Q6 := Lib.hid (Q6.out.below KB.out)
      replace K6 := Lib.hid (K6.out.next KB.out)
      replace LBk := Lib.hid (below_next LBk.out KB.out)
      replace I8 := Lib.hid (I8.out.below KB.out)
      replace L11 := Lib.hid (below_next L11.out KB.out)
      clear KB
      have hgo := BX.out.lt
      go_wp2_with fail
      refine (places_p _ _ dm N _ HN.out (by rw [HML.out]; omega) I8.out).mono ?_
      rintro r w12 ⟨AP, cP8, rfl, hp8, hb⟩
      replace BA := Lib.hid (BA.out.next hb)
      replace BR := Lib.hid (BR.out.next hb)
      replace L := Lib.hid (below_next L.out hb)
      replace ID := Lib.hid (ID.out.below hb)
      replace IV := Lib.hid (IV.out.below hb)
      replace P6 := Lib.hid (P6.out.below hb)
      replace Q6 := Lib.hid (Q6.out.below hb)
      replace K6 := Lib.hid (K6.out.next hb)
      replace LBk := Lib.hid (below_next LBk.out hb)
      replace I8 := Lib.hid (I8.out.below hb)
      replace L11 := Lib.hid (below_next L11.out hb)
      replace BX := Lib.hid (BX.out.next hb)
      clear hb
      have PL := Lib.hid hp8
      clear hp8
      generalize hW7 : w11.alloc (.cells #[.slice A8 dm.length c8, .slice none 0 0] 25) = W7 at *
      clear hW7
      have O0 := Lib.hid (show OutSt w12 w12 w11.heap.size (.slice A8 dm.length c8) (.slice none 0 0) [] from ⟨turned_refl _ _, BX.out, MineT.nil _ _ _, BX.out.lt⟩)
      obtain ⟨ah, hah⟩ : ∃ ah, rowF v.length (tkG (smL v) D) = ah := ⟨_, rfl⟩
      have HAH := Lib.hid hah
      have HAG := Lib.hid (show ∀ i, i < v.length → ah.getD i 0 = if v.getD i 0 < 0 then D.getD i 0 - dm.getD i 0 else 0 by
        intro i hi
        have h1 := HSA.out i hi
        rw [← hah, rowF_at _ _ _ hi]
        unfold tkG
        rw [smL_at v i hi, show sm65 (v.getD i 0) = v.getD i 0 by unfold sm65; omega, HMA.out i hi])
      have HDL := Lib.hid (show v.length = D.length by have := (coE_0 HE.out).2.2.2; rw [HD.out] at this; exact this)
      have HDB := Lib.hid (show ∀ i, i < D.length → 0 ≤ D.getD i 0 ∧ D.getD i 0 ≤ 64 by
        intro i hi
        have h2 := (coD_right (vn := v) (d := e) (cellB_parts (coE_0 HE.out).2.1).1).1
        rw [HD.out] at h2
        have hx : D.getD i 0 ∈ D := by simp [List.getD, hi]
        simpa [okAx] using List.all_eq_true.1 h2 _ hx)
      clear hah
      obtain ⟨FF, hF⟩ : ∃ F : Nat → Int, (fun k : Nat => atI D u (shP ah (dg dm (k : Int)))) = F := ⟨_, rfl⟩
      have HF := Lib.hid hF
      clear hF
      go_wp2
      go_loopw [13] (fun j wr => ∃ (k : Nat) (V : Value), k ≤ N ∧ j = .int .i64 (k : Int) ∧ OutSt w12 wr w11.heap.size (.slice A8 dm.length c8) V ((List.range k).map FF)) (fun j _ => N - (intOf j).toNat)
      case atStart => exact ⟨0, _, Nat.zero_le _, rfl, O0.out⟩
      case round =>
        obtain ⟨k, V, hk, rfl, hO⟩ := hrel
        obtain ⟨wo, hwo⟩ : ∃ W, W = wr := ⟨_, rfl⟩
        subst hwo
        have Q := Lib.hid hO
        have PLr := Lib.hid (PL.out.grown hO.1 hgo)
        clear hO O0
        have BAr := Lib.hid (BA.out.grown Q.out.1 (fun e => by injection e with e; omega))
        have K6r := Lib.hid (K6.out.grown Q.out.1 (fun e => by injection e with e; omega))
        have BRr := Lib.hid (BR.out.grown Q.out.1 (fun e => by injection e with e; omega))
        have LWr := Lib.hid (below_turned L.out Q.out.1 (by omega))
        have L11r := Lib.hid (show Below w11.heap.size w11 wo from below_turned L11.out Q.out.1 (Nat.le_refl _))
        have IVr := Lib.hid (IV1.out.below L11r.out)
        have I8r := Lib.hid (I81.out.below L11r.out)
        have P6r := Lib.hid (P61.out.below L11r.out)
        have Q6r := Lib.hid (Q61.out.below L11r.out)
        by_cases hlt : k < N
        · obtain ⟨bp, At, ct, rfl, hbp1, hbp2, hcp, hfp⟩ := PLr.out k hlt
          have HPL := Lib.hid (show posL dm from (sizeI_pos (d := dm) (i := (k : Int)) (by omega) (by rw [HN.out]; omega)).2.2)
          have HMX := Lib.hid (show (List.range (k + 1)).map FF = (List.range k).map FF ++ [FF k] by rw [List.range_succ, List.map_append]; rfl)
          have LQ := Lib.hid (show ((List.range k).map FF).length = k by simp)
          have HFK := Lib.hid (show atI D u (shP ah (dg dm (k : Int))) = FF k by rw [← HF.out])
          have HQB := Lib.hid (show ∀ i, i < v.length → 0 ≤ (dg dm (k : Int)).getD i 0 ∧ (dg dm (k : Int)).getD i 0 < 64 by
            intro i hi
            have hi2 : i < dm.length := by rw [HML.out]; exact hi
            rw [dg_at dm k i hi2]
            have h1 := posL_at HPL.out hi2
            have h2 := HMA.out i hi
            have h3 := HSA.out i hi
            have h5 : dm.getD i 0 ≤ 64 := by rw [h2]; unfold absI; omega
            have h4 := Int.emod_lt_of_pos ((k : Int) / prod (dm.drop (i + 1))) (show 0 < dm.getD i 0 by omega)
            exact ⟨Int.emod_nonneg _ (by omega), by omega⟩)
          have HQL := Lib.hid (show (dg dm (k : Int)).length = v.length by rw [dg_length, HML.out])
          have HQL2 := Lib.hid (dg_length dm (k : Int))
          generalize FF k = x at *
          generalize hys : (List.range k).map FF = ys at *
          clear hys
          generalize dg dm (k : Int) = q at *
          rw [← HQL2.out] at hcp
          have IQ := Lib.hid hfp.ints
          clear hfp
          have k0 : (0 : Int) ≤ (k : Int) := by omega
          have k1 : (k : Int) < (N : Int) := by omega
          go_wp2_with (at_builtin; refine wpList_copyI numI Try.underlying22 rfl (.tmp 77) (.tmp 81) rfl rfl At ct q rfl IQ.out (by rw [HQL.out]; omega) ?_; intro A9 c9 w9 hm9 hb9; have M9 := Lib.hid hm9; have L9 := Lib.hid hb9; clear hm9 hb9)
          have hl9 := L9.out.size
          go_loopw [15] (fun j wr => ∃ a : Nat, a ≤ v.length ∧ j = .int .i64 (a : Int) ∧ MineT 3 wr wo.heap.size (.slice A9 q.length c9) (mixL ah q a) ∧ Below wo.heap.size wo wr) (fun j _ => v.length - (intOf j).toNat)
          case atStart => exact ⟨0, Nat.zero_le _, rfl, by rw [mixL_0]; exact M9.out, L9.out⟩
          case round =>
            obtain ⟨a, ha, rfl, hMx, hBx⟩ := hrel
            have MX := Lib.hid hMx
            have LX := Lib.hid hBx
            have HXL := Lib.hid (mixL_len ah q a)
            clear hMx hBx M9 L9
            obtain ⟨p0, p1, -, -⟩ := (BAr.out.next LX.out).all
            obtain ⟨z0, z1, -, -⟩ := (K6r.out.next LX.out).all
            have ml : (dm.length : Int) = (v.length : Int) := by rw [HML.out]
            by_cases hla : a < v.length
            · have hx1 : (a : Int) < (dm.length : Int) := by omega
              have hx2 : (a : Int) < (v.length : Int) := by omega
              have a0 : (0 : Int) ≤ (a : Int) := by omega
              obtain ⟨bv, ov, rfl, hbv, hcv⟩ := (IVr.out.below LX.out) (by omega)
              have xv := hcv a hla
              clear hcv
              have HG := HAG.out a hla
              obtain ⟨y, hy⟩ : ∃ y, v.getD a 0 = y := ⟨_, rfl⟩
              rw [hy] at xv HG
              clear hy
              by_cases hneg : y < 0
              · rw [if_pos hneg] at HG
                obtain ⟨g9, rfl, hg9, hg9l, hz9, hc9⟩ := MX.out.has (by rw [HXL.out, HQL.out]; omega)
                have hq9 := hc9 a (by rw [HXL.out, HQL.out]; exact hla)
                rw [mixL_at ah q a a (by rw [HQL.out]; exact hla), if_neg (by omega)] at hq9
                have hf9 := hz9 a
                obtain ⟨bd, od, rfl, hbd, hcd⟩ := (P6r.out.below LX.out) (by rw [← HDL.out]; omega)
                have xd := hcd a (by rw [← HDL.out]; exact hla)
                obtain ⟨bm, om, rfl, hbm, hcm⟩ := (I8r.out.below LX.out) (by rw [HML.out]; omega)
                have xm := hcm a (by rw [HML.out]; exact hla)
                have bQ := HQB.out a hla
                have bD := HDB.out a (by rw [← HDL.out]; exact hla)
                have bM : 0 ≤ dm.getD a 0 ∧ dm.getD a 0 ≤ 64 := by have h1 := HMA.out a hla; have h2 := HSA.out a hla; rw [h1]; unfold absI; omega
                have HST := Lib.hid (mixL_set ah q a (by rw [HQL.out]; exact hla))
                rw [HG, ← Int.add_sub_assoc] at HST
                clear hc9 hz9 hcd hcm HG
                have hx3 : (a : Int) < (q.length : Int) := by rw [HQL.out]; omega
                have hx4 : (a : Int) < (D.length : Int) := by rw [← HDL.out]; omega
                generalize q.getD a 0 = s1 at *
                generalize D.getD a 0 = s2 at *
                generalize dm.getD a 0 = s3 at *
                have u1 : IntKind.i64.wrap (s1 + s2) = s1 + s2 := IntWalk.i64_in _ (by omega)
                have u2 : IntKind.i64.wrap (s1 + s2 - s3) = s1 + s2 - s3 := IntWalk.i64_in _ (by omega)
                go_upto_region 26 with (fail)
                go_region
                go_wp2
                go_roundw
                case rel => exact ⟨a + 1, by omega, by go_num, by rw [← HST.out]; exact (MX.out.drew).set_ a _ (by rw [HXL.out, HQL.out]; exact hla), LX.out.drew.setCell (by simp; omega) _⟩
                case measure => simp [intOf]; omega
              · rw [if_neg hneg] at HG
                have HSS := Lib.hid (mixL_same ah q a HG)
                clear HG
                go_wp2
                go_roundw
                case rel => exact ⟨a + 1, by omega, by go_num, by rw [HSS.out]; exact MX.out, LX.out⟩
                case measure => simp [intOf]; omega
            · obtain rfl : a = v.length := by omega
              have hx1 : ¬ (v.length : Int) < (dm.length : Int) := by omega
              have HXE := Lib.hid (show mixL ah q v.length = shP ah q by rw [← HQL.out]; exact mixL_n ah q)
              have MX2 := Lib.hid (show Ints wr A9 (shP ah q) by rw [← HXE.out]; exact MX.out.ints')
              have P6x := Lib.hid (P6r.out.below LX.out)
              have Q6x := Lib.hid (Q6r.out.below LX.out)
              have HSL := Lib.hid (shP_len ah q)
              go_wp2_with fail
              refine (rat_n _ _ D _ _ u _ q.length c9 (shP ah q) x _ HSL.out HFK.out (by rw [← HDL.out]; omega) (by omega) (by rw [HQL.out]; omega) P6x.out Q6x.out MX2.out).mono ?_
              rintro r w14 ⟨tb, rfl, hb⟩
              have O7 := Lib.hid ((Q.out.next LX.out).next hb)
              have O8 := Lib.hid (O7.out.alloc (.cells #[.int .i64 x] 2))
              have X8 := Lib.hid (one_new w14 x)
              have c7 := O7.out.box.c1
              clear hb p0 p1 z0 z1
              go_wp2_with (at_builtin; refine wpList_appI numL Try.underlying23 rfl (.tmp 120) (.tmp 122) rfl w12.heap.size V ys (by rfl) O8.out.mine (some ⟨w14.heap.size, 0, none⟩) 1 [x] rfl X8.out (by rw [LQ.out]; simp; omega) O8.out.size ?_; intro V' w15 hm8 hg8 ha8; obtain ⟨A10, c10, rfl, -⟩ := hm8.ints; obtain ⟨y0', y1', y2', y3'⟩ := (O8.out.mid hg8).all)
              go_roundw
              case rel => exact ⟨k + 1, _, by omega, by go_num, by rw [HMX.out]; have hm9 := hm8; rw [List.length_append] at hm9; exact O8.out.app hm9 hg8⟩
              case measure => simp [intOf]; omega
        · obtain rfl : k = N := by omega
          generalize hys : (List.range k).map FF = ys at *
          have HY := Lib.hid (show shV dm ah D u = ys by unfold shV; rw [HN.out, Int.toNat_natCast, HF.out]; exact hys)
          clear hys
          obtain ⟨AV, cV, rfl, -⟩ := Q.out.mine.ints
          obtain ⟨q0, q1, -, -⟩ := Q.out.box.all
          obtain ⟨r0, r1, r2, r3⟩ := BRr.out.all
          have hlr := LWr.out.size
          have EQ := Lib.hid (ta_0 HE.out (by rw [HDM.out]; exact H4.out))
          go_wp2
          have T9 := (BRr.out.set0 (.slice A8 dm.length c8)).set1 (.slice AV ys.length cV)
          obtain ⟨t0, t1, _, _⟩ := T9.all
          refine bodyPost_ret (v := .tuple #[.agg #[.slice A8 dm.length c8, .slice AV ys.length cV], .int .i64 0]) (by simp [results, Try.results18, go_sem, t0, t1]) rfl ?_
          rw [EQ.out.1, EQ.out.2.1, EQ.out.2.2, HDM.out, HD.out, HAH.out, HY.out]
          exact ⟨A8, c8, AV, cV, rfl, I8r.out.set_box BRr.out _ _, Q.out.mine.ints'.set_box BRr.out _ _, (LWr.out.setCell (by simp; omega) _).setCell (by simp; omega) _⟩
theorem rtake_any (A : Option Addr) (c : Nat) (d : List Int) (B : Option Addr) (c2 : Nat) (v : List Int) (A' : Option Addr) (c' : Nat) (e : List Int) (B' : Option Addr) (c2' : Nat) (u : List Int) (w : World) (id : Ints w A d) (iv : Ints w B v) (ie : Ints w A' e) (iu : Ints w B' u) (hd : d.length ≤ 100) (hv : v.length ≤ 1000) (he : e.length ≤ 100) (hu : u.length ≤ 1000) :
    Calls Try.prog 18 #[.agg #[.slice A d.length c, .slice B v.length c2], .agg #[.slice A' e.length c', .slice B' u.length c2']] w (RetCI w (taD d v e u) (taV d v e u) (.int .i64 (taE d v e u))) := by
  by_cases h0 : coE d v e u = 0
  · exact rtake_0 A c d B c2 v A' c' e B' c2' u w id iv ie iu hd hv he hu h0
  · obtain ⟨e1, e2, e3⟩ := ta_e (dn := d) (vn := v) (d := e) (v := u) rfl h0
    rw [e1, e2, e3]
    exact rtake_e A c d B c2 v A' c' e B' c2' u w id iv ie iu hd hv he hu _ rfl h0
end Go.Proofs.Yticicfbllhnpcaa.Sh
