/-
  Proved: for any cell, any int64 and any bool rifflelaw07.CarveBack returns true, and each argument reads afterwards as it read before. No other condition.
-/
import Derived.Test.YtfnpdflapmbnjaaPkW
import Derived.Test.YtfnpdflapmbnjaaPkO
namespace Go.Proofs.Ytfnpdflapmbnjaa.carveBack
open Go.Proofs.Ytfnpdflapmbnjaa.Sh
open Go.Joins Go.ChangeShapes Go.WideShapes Go.ChangeAt Go.RowKit Go.Deep
set_option linter.unusedVariables false

theorem flip_w (A : Option Addr) (c : Nat) (d : List Int) (B : Option Addr) (c2 : Nat) (v V : List Int) (b : Bool) (w : World) (hV : mvV flI d v b = V) (h : cellB d v.length = true) (id : Ints w A d) (iv : Ints w B v) :
    Calls Try.prog 22 #[.agg #[.slice A d.length c, .slice B v.length c2], .bool b] w (RetCI w d V (.int .i64 0)) := by
  obtain ⟨h1, h2⟩ := cellB_small h
  have := flip_any A c d B c2 v b w id iv (by omega) (by omega)
  rw [(ok_yes h d).2, (ok_yes h _).2, (ok_yes h d).1, hV] at this
  exact this.mono fun _ _ h => h.ci
theorem turn_w (A : Option Addr) (c : Nat) (d D : List Int) (B : Option Addr) (c2 : Nat) (v V : List Int) (w : World) (hD : d.reverse = D) (hV : tuV d v = V) (h : cellB d v.length = true) (id : Ints w A d) (iv : Ints w B v) :
    Calls Try.prog 26 #[.agg #[.slice A d.length c, .slice B v.length c2]] w (RetCI w D V (.int .i64 0)) := by
  obtain ⟨h1, h2⟩ := cellB_small h
  have := turn_any A c d B c2 v w id iv (by omega) (by omega)
  rw [(ok_yes h _).2, (ok_yes h _).2, (ok_yes h d).1, hV, hD] at this
  exact this.mono fun _ _ h => h.ci
theorem roll_w (B : Option Addr) (c2 : Nat) (x : Int) (A' : Option Addr) (c' : Nat) (e : List Int) (B' : Option Addr) (c2' : Nat) (u V : List Int) (b : Bool) (w : World) (hV : mvV (rollI x) e u b = V) (h : cellB e u.length = true) (iv : Ints w B [x]) (ie : Ints w A' e) (iu : Ints w B' u) :
    Calls Try.prog 24 #[.agg #[.slice none 0 0, .slice B 1 c2], .agg #[.slice A' e.length c', .slice B' u.length c2'], .bool b] w (RetCI w e V (.int .i64 0)) := by
  obtain ⟨h1, h2⟩ := cellB_small h
  have := roll_any none 0 [] B c2 [x] A' c' e B' c2' u b w (Ints.nil _ _) iv ie iu (by simp) (by simp) (by omega) (by omega)
  obtain ⟨e1, e2, e3⟩ := ro_0 (dn := []) (vn := [x]) (d := e) (v := u) (b := b) (show cellB [] 1 = true by decide) h rfl
  rw [e1, e2, e3, show ([x] : List Int).getD 0 0 = x from rfl, hV] at this
  exact this.mono fun _ _ h => h.ci
set_option maxHeartbeats 8000000 in
set_option maxRecDepth 100000 in
theorem walk (A : Option Addr) (c1 : Nat) (d : List Int) (B : Option Addr) (c2 : Nat) (v : List Int) (x : Int) (b : Bool) (w : World)
    (id : Ints w A d) (iv : Ints w B v) :
    Calls Try.prog 8 #[.agg #[.slice A d.length c1, .slice B v.length c2], .int .i64 x, .bool b] w fun e w' => e = .returned (.bool true) ∧ Below w.heap.size w w' := by
  by_cases h1 : d.length ≤ 10 ∧ v.length ≤ 200
  rotate_left
  · have H1 := Lib.hid h1
    clear h1
    have BA := Lib.hid (Box.new w (.slice A d.length c1) (.slice B v.length c2))
    have L := Lib.hid (below_new w (.cells #[.slice A d.length c1, .slice B v.length c2] 25))
    clear id iv
    go_enter Try.func8, Try.ntmps8
    obtain ⟨qBA0, qBA1, -, -⟩ := BA.out.all
    go_wp2_with fail
    refine (great_yes _ _ _ _ _ _ _ H1.out).mono ?_
    rintro r w1 ⟨rfl, hb⟩
    clear qBA0 qBA1
    replace BA := Lib.hid (BA.out.next hb)
    replace L := Lib.hid (below_next L.out hb)
    clear hb
    go_wp2_with fail
    refine (lives7_any _).mono ?_
    rintro r w2 ⟨rfl, hb⟩
    replace BA := Lib.hid (BA.out.next hb)
    replace L := Lib.hid (below_next L.out hb)
    clear hb
    go_wp2
    go_ret
    exact ⟨rfl, L.out⟩
  obtain ⟨hd, hv⟩ := h1
  by_cases h3 : cellB d v.length = true
  rotate_left
  · have H3 := Lib.hid (show cellB d v.length = false by simpa using h3)
    clear h3
    have BA := Lib.hid (Box.new w (.slice A d.length c1) (.slice B v.length c2))
    have L := Lib.hid (below_new w (.cells #[.slice A d.length c1, .slice B v.length c2] 25))
    have ID := Lib.hid (id.below L.out)
    have IV := Lib.hid (iv.below L.out)
    clear id iv
    go_enter Try.func8, Try.ntmps8
    obtain ⟨qBA0, qBA1, -, -⟩ := BA.out.all
    go_wp2_with fail
    refine (great_no _ _ _ _ _ _ _ hd hv).mono ?_
    rintro r w1 ⟨rfl, hb⟩
    clear qBA0 qBA1
    replace BA := Lib.hid (BA.out.next hb)
    replace L := Lib.hid (below_next L.out hb)
    replace ID := Lib.hid (ID.out.below hb)
    replace IV := Lib.hid (IV.out.below hb)
    clear hb
    obtain ⟨qBA0, qBA1, -, -⟩ := BA.out.all
    go_wp2_with fail
    refine (cright_no _ _ d _ _ _ _ (by unfold maxLen; omega) ID.out H3.out).mono ?_
    rintro r w2 ⟨rfl, hb⟩
    clear qBA0 qBA1
    replace BA := Lib.hid (BA.out.next hb)
    replace L := Lib.hid (below_next L.out hb)
    replace ID := Lib.hid (ID.out.below hb)
    replace IV := Lib.hid (IV.out.below hb)
    clear hb
    go_wp2_with fail
    refine (lives7_any _).mono ?_
    rintro r w3 ⟨rfl, hb⟩
    replace BA := Lib.hid (BA.out.next hb)
    replace L := Lib.hid (below_next L.out hb)
    replace ID := Lib.hid (ID.out.below hb)
    replace IV := Lib.hid (IV.out.below hb)
    clear hb
    go_wp2
    go_ret
    exact ⟨rfl, L.out⟩
  have H3 := Lib.hid h3
  obtain ⟨hd3, hv64⟩ := cellB_small h3
  obtain ⟨VF, hVF⟩ : ∃ V, mvV flI d v b = V := ⟨_, rfl⟩
  obtain ⟨VR, hVR⟩ : ∃ V, mvV (rollI x) d v b = V := ⟨_, rfl⟩
  obtain ⟨VT, hVT⟩ : ∃ V, tuV d v = V := ⟨_, rfl⟩
  obtain ⟨DT, hDT⟩ : ∃ V, d.reverse = V := ⟨_, rfl⟩
  have HF := Lib.hid hVF
  have HR := Lib.hid hVR
  have HT := Lib.hid hVT
  have HD := Lib.hid hDT
  have HFC := Lib.hid (show cellB d VF.length = true by rw [← hVF, mvV_len h3]; exact h3)
  have HRC := Lib.hid (show cellB d VR.length = true by rw [← hVR, mvV_len h3]; exact h3)
  have HTC := Lib.hid (show cellB DT VT.length = true by rw [← hVT, ← hDT, tuV_len h3]; exact rev_cell h3)
  have HF2 := Lib.hid (show mvV flI d VF b = v by rw [← hVF]; exact flip_flip h3)
  have HD2 := Lib.hid (show DT.reverse = d by rw [← hDT, List.reverse_reverse])
  have HT2 := Lib.hid (show tuV DT VT = v by rw [← hVT, ← hDT]; exact turn_turn h3)
  obtain ⟨n, hn⟩ : ∃ n, onesP d = n := ⟨_, rfl⟩
  have hnb := onesP_bd (rightB_all (cellB_parts h3).1).2.1 d.length (Nat.le_refl _) hd3
  rw [List.take_length, hn] at hnb
  have hn1 : 1 ≤ n := hnb.1
  have hn2 : n ≤ 262144 := Int.le_trans hnb.2 (by
    have : d.length = 0 ∨ d.length = 1 ∨ d.length = 2 ∨ d.length = 3 := by omega
    rcases this with h | h | h | h <;> rw [h] <;> decide)
  have HR2 := Lib.hid (show mvV (rollI (-(x.tmod n))) d VR b = v by rw [← hVR]; exact roll_back h3 fun a ha h1 => back_div (by rw [← hn]; exact onesP_div d a ha h1))
  have HN := Lib.hid hn
  have htm := tmod_bd x (show 0 < n by omega)
  have HTM := Lib.hid htm
  clear hVF hVR hVT hDT hn hnb h3 htm
  have BA := Lib.hid (Box.new w (.slice A d.length c1) (.slice B v.length c2))
  have L := Lib.hid (below_new w (.cells #[.slice A d.length c1, .slice B v.length c2] 25))
  have ID := Lib.hid (id.below L.out)
  have IV := Lib.hid (iv.below L.out)
  clear id iv
  go_enter Try.func8, Try.ntmps8
  obtain ⟨qBA0, qBA1, -, -⟩ := BA.out.all
  go_wp2_with fail
  refine (great_no _ _ _ _ _ _ _ hd hv).mono ?_
  rintro r w1 ⟨rfl, hb⟩
  clear qBA0 qBA1
  replace BA := Lib.hid (BA.out.next hb)
  replace L := Lib.hid (below_next L.out hb)
  replace ID := Lib.hid (ID.out.below hb)
  replace IV := Lib.hid (IV.out.below hb)
  clear hb
  obtain ⟨qBA0, qBA1, -, -⟩ := BA.out.all
  go_wp2_with fail
  refine (cright_yes _ _ d _ _ _ _ (by unfold maxLen; omega) ID.out H3.out).mono ?_
  rintro r w2 ⟨rfl, hb⟩
  clear qBA0 qBA1
  replace BA := Lib.hid (BA.out.next hb)
  replace L := Lib.hid (below_next L.out hb)
  replace ID := Lib.hid (ID.out.below hb)
  replace IV := Lib.hid (IV.out.below hb)
  clear hb
  obtain ⟨qBA0, qBA1, -, -⟩ := BA.out.all
  go_wp2_with fail
  refine (flip_w _ _ d _ _ v VF b _ HF.out H3.out ID.out IV.out).mono ?_
  rintro r w3 ⟨A7, k7, B7, e7, rfl, j1, j2, hb⟩
  clear qBA0 qBA1
  replace BA := Lib.hid (BA.out.next hb)
  replace L := Lib.hid (below_next L.out hb)
  replace ID := Lib.hid (ID.out.below hb)
  replace IV := Lib.hid (IV.out.below hb)
  clear hb
  have P7 := Lib.hid j1
  have Q7 := Lib.hid j2
  clear j1 j2
  have KB := Lib.hid (below_new w3 (.cells #[.slice A7 d.length k7, .slice B7 VF.length e7] 25))
  have K7 := Lib.hid (Box.new w3 (.slice A7 d.length k7) (.slice B7 VF.length e7))
  have hg7 : w.heap.size ≤ w3.heap.size := L.out.size
  have n7_BA := Nat.ne_of_lt BA.out.lt
  replace BA := Lib.hid (BA.out.next KB.out)
  replace L := Lib.hid (below_next L.out KB.out)
  replace ID := Lib.hid (ID.out.below KB.out)
  replace IV := Lib.hid (IV.out.below KB.out)
  replace P7 := Lib.hid (P7.out.below KB.out)
  replace Q7 := Lib.hid (Q7.out.below KB.out)
  go_upto_region 4 with (fail)
  clear KB
  generalize hW : w3.alloc (.cells #[.slice A7 d.length k7, .slice B7 VF.length e7] 25) = W7 at *
  clear hW
  generalize w3.heap.size = g7 at *
  obtain ⟨qK70, qK71, -, -⟩ := K7.out.all
  go_wp2_with fail
  refine (flip_w _ _ d _ _ VF v b _ HF2.out HFC.out P7.out Q7.out).mono ?_
  rintro r w4 ⟨A8, k8, B8, e8, rfl, j1, j2, hb⟩
  clear qK70 qK71
  replace BA := Lib.hid (BA.out.next hb)
  replace L := Lib.hid (below_next L.out hb)
  replace ID := Lib.hid (ID.out.below hb)
  replace IV := Lib.hid (IV.out.below hb)
  replace P7 := Lib.hid (P7.out.below hb)
  replace Q7 := Lib.hid (Q7.out.below hb)
  replace K7 := Lib.hid (K7.out.next hb)
  clear hb
  clear P7
  clear Q7
  have P7 := Lib.hid j1
  have Q7 := Lib.hid j2
  clear j1 j2
  obtain ⟨qK70, qK71, fK70, fK71⟩ := K7.out.all
  replace BA := Lib.hid ((BA.out.far (p := ⟨g7, 0, none⟩) (show _ ≠ _ from n7_BA) (.slice A8 d.length k8)).far (p := ⟨g7, 1, none⟩) (show _ ≠ _ from n7_BA) (.slice B8 v.length e8))
  replace L := Lib.hid ((L.out.setCell (p := ⟨g7, 0, none⟩) hg7 (.slice A8 d.length k8)).setCell (p := ⟨g7, 1, none⟩) hg7 (.slice B8 v.length e8))
  replace ID := Lib.hid (ID.out.set_box K7.out (.slice A8 d.length k8) (.slice B8 v.length e8))
  replace IV := Lib.hid (IV.out.set_box K7.out (.slice A8 d.length k8) (.slice B8 v.length e8))
  replace P7 := Lib.hid (P7.out.set_box K7.out (.slice A8 d.length k8) (.slice B8 v.length e8))
  replace Q7 := Lib.hid (Q7.out.set_box K7.out (.slice A8 d.length k8) (.slice B8 v.length e8))
  have KT := Lib.hid ((K7.out.set0 (.slice A8 d.length k8)).set1 (.slice B8 v.length e8))
  go_upto_region 5 with (fail)
  clear qK70 qK71 fK70 fK71
  replace K7 := KT
  clear KT
  generalize hW : (w4.setCell ⟨g7, 0, none⟩ (.slice A8 d.length k8)).setCell ⟨g7, 1, none⟩ (.slice B8 v.length e8) = W7b at *
  clear hW
  obtain ⟨qBA0, qBA1, -, -⟩ := BA.out.all
  go_wp2_with fail
  refine (turn_w _ _ d DT _ _ v VT _ HD.out HT.out H3.out ID.out IV.out).mono ?_
  rintro r w5 ⟨A9, k9, B9, e9, rfl, j1, j2, hb⟩
  clear qBA0 qBA1
  replace BA := Lib.hid (BA.out.next hb)
  replace L := Lib.hid (below_next L.out hb)
  replace ID := Lib.hid (ID.out.below hb)
  replace IV := Lib.hid (IV.out.below hb)
  replace K7 := Lib.hid (K7.out.next hb)
  replace P7 := Lib.hid (P7.out.below hb)
  replace Q7 := Lib.hid (Q7.out.below hb)
  clear hb
  have P9 := Lib.hid j1
  have Q9 := Lib.hid j2
  clear j1 j2
  have KB := Lib.hid (below_new w5 (.cells #[.slice A9 DT.length k9, .slice B9 VT.length e9] 25))
  have K9 := Lib.hid (Box.new w5 (.slice A9 DT.length k9) (.slice B9 VT.length e9))
  have hg9 : w.heap.size ≤ w5.heap.size := L.out.size
  have n9_BA := Nat.ne_of_lt BA.out.lt
  have n9_K7 := Nat.ne_of_lt K7.out.lt
  replace BA := Lib.hid (BA.out.next KB.out)
  replace L := Lib.hid (below_next L.out KB.out)
  replace ID := Lib.hid (ID.out.below KB.out)
  replace IV := Lib.hid (IV.out.below KB.out)
  replace K7 := Lib.hid (K7.out.next KB.out)
  replace P7 := Lib.hid (P7.out.below KB.out)
  replace Q7 := Lib.hid (Q7.out.below KB.out)
  replace P9 := Lib.hid (P9.out.below KB.out)
  replace Q9 := Lib.hid (Q9.out.below KB.out)
  go_upto_region 6 with (fail)
  clear KB
  generalize hW : w5.alloc (.cells #[.slice A9 DT.length k9, .slice B9 VT.length e9] 25) = W9 at *
  clear hW
  generalize w5.heap.size = g9 at *
  obtain ⟨qK90, qK91, -, -⟩ := K9.out.all
  go_wp2_with fail
  refine (turn_w _ _ DT d _ _ VT v _ HD2.out HT2.out HTC.out P9.out Q9.out).mono ?_
  rintro r w6 ⟨A10, k10, B10, e10, rfl, j1, j2, hb⟩
  clear qK90 qK91
  replace BA := Lib.hid (BA.out.next hb)
  replace L := Lib.hid (below_next L.out hb)
  replace ID := Lib.hid (ID.out.below hb)
  replace IV := Lib.hid (IV.out.below hb)
  replace K7 := Lib.hid (K7.out.next hb)
  replace P7 := Lib.hid (P7.out.below hb)
  replace Q7 := Lib.hid (Q7.out.below hb)
  replace P9 := Lib.hid (P9.out.below hb)
  replace Q9 := Lib.hid (Q9.out.below hb)
  replace K9 := Lib.hid (K9.out.next hb)
  clear hb
  clear P9
  clear Q9
  have P9 := Lib.hid j1
  have Q9 := Lib.hid j2
  clear j1 j2
  obtain ⟨qK90, qK91, fK90, fK91⟩ := K9.out.all
  replace BA := Lib.hid ((BA.out.far (p := ⟨g9, 0, none⟩) (show _ ≠ _ from n9_BA) (.slice A10 d.length k10)).far (p := ⟨g9, 1, none⟩) (show _ ≠ _ from n9_BA) (.slice B10 v.length e10))
  replace L := Lib.hid ((L.out.setCell (p := ⟨g9, 0, none⟩) hg9 (.slice A10 d.length k10)).setCell (p := ⟨g9, 1, none⟩) hg9 (.slice B10 v.length e10))
  replace ID := Lib.hid (ID.out.set_box K9.out (.slice A10 d.length k10) (.slice B10 v.length e10))
  replace IV := Lib.hid (IV.out.set_box K9.out (.slice A10 d.length k10) (.slice B10 v.length e10))
  replace K7 := Lib.hid ((K7.out.far (p := ⟨g9, 0, none⟩) (show _ ≠ _ from n9_K7) (.slice A10 d.length k10)).far (p := ⟨g9, 1, none⟩) (show _ ≠ _ from n9_K7) (.slice B10 v.length e10))
  replace P7 := Lib.hid (P7.out.set_box K9.out (.slice A10 d.length k10) (.slice B10 v.length e10))
  replace Q7 := Lib.hid (Q7.out.set_box K9.out (.slice A10 d.length k10) (.slice B10 v.length e10))
  replace P9 := Lib.hid (P9.out.set_box K9.out (.slice A10 d.length k10) (.slice B10 v.length e10))
  replace Q9 := Lib.hid (Q9.out.set_box K9.out (.slice A10 d.length k10) (.slice B10 v.length e10))
  have KT := Lib.hid ((K9.out.set0 (.slice A10 d.length k10)).set1 (.slice B10 v.length e10))
  go_upto_region 7 with (fail)
  clear qK90 qK91 fK90 fK91
  replace K9 := KT
  clear KT
  generalize hW : (w6.setCell ⟨g9, 0, none⟩ (.slice A10 d.length k10)).setCell ⟨g9, 1, none⟩ (.slice B10 v.length e10) = W9b at *
  clear hW
  have KB := Lib.hid (below_new W9b (.cells #[.int .i64 x] 2))
  have R1 := Lib.hid (one_new W9b x)
  replace BA := Lib.hid (BA.out.next KB.out)
  replace L := Lib.hid (below_next L.out KB.out)
  replace ID := Lib.hid (ID.out.below KB.out)
  replace IV := Lib.hid (IV.out.below KB.out)
  replace K7 := Lib.hid (K7.out.next KB.out)
  replace P7 := Lib.hid (P7.out.below KB.out)
  replace Q7 := Lib.hid (Q7.out.below KB.out)
  replace K9 := Lib.hid (K9.out.next KB.out)
  replace P9 := Lib.hid (P9.out.below KB.out)
  replace Q9 := Lib.hid (Q9.out.below KB.out)
  clear KB
  obtain ⟨qBA0, qBA1, -, -⟩ := BA.out.all
  go_wp2_with fail
  refine (roll_w _ _ x _ _ d _ _ v VR b _ HR.out H3.out R1.out ID.out IV.out).mono ?_
  rintro r w7 ⟨A11, k11, B11, e11, rfl, j1, j2, hb⟩
  clear qBA0 qBA1
  replace BA := Lib.hid (BA.out.next hb)
  replace L := Lib.hid (below_next L.out hb)
  replace ID := Lib.hid (ID.out.below hb)
  replace IV := Lib.hid (IV.out.below hb)
  replace K7 := Lib.hid (K7.out.next hb)
  replace P7 := Lib.hid (P7.out.below hb)
  replace Q7 := Lib.hid (Q7.out.below hb)
  replace K9 := Lib.hid (K9.out.next hb)
  replace P9 := Lib.hid (P9.out.below hb)
  replace Q9 := Lib.hid (Q9.out.below hb)
  replace R1 := Lib.hid (R1.out.below hb)
  clear hb
  clear R1
  have P11 := Lib.hid j1
  have Q11 := Lib.hid j2
  clear j1 j2
  have KB := Lib.hid (below_new w7 (.cells #[.slice A11 d.length k11, .slice B11 VR.length e11] 25))
  have K11 := Lib.hid (Box.new w7 (.slice A11 d.length k11) (.slice B11 VR.length e11))
  have hg11 : w.heap.size ≤ w7.heap.size := L.out.size
  have n11_BA := Nat.ne_of_lt BA.out.lt
  have n11_K7 := Nat.ne_of_lt K7.out.lt
  have n11_K9 := Nat.ne_of_lt K9.out.lt
  replace BA := Lib.hid (BA.out.next KB.out)
  replace L := Lib.hid (below_next L.out KB.out)
  replace ID := Lib.hid (ID.out.below KB.out)
  replace IV := Lib.hid (IV.out.below KB.out)
  replace K7 := Lib.hid (K7.out.next KB.out)
  replace P7 := Lib.hid (P7.out.below KB.out)
  replace Q7 := Lib.hid (Q7.out.below KB.out)
  replace K9 := Lib.hid (K9.out.next KB.out)
  replace P9 := Lib.hid (P9.out.below KB.out)
  replace Q9 := Lib.hid (Q9.out.below KB.out)
  replace P11 := Lib.hid (P11.out.below KB.out)
  replace Q11 := Lib.hid (Q11.out.below KB.out)
  go_upto_region 8 with (fail)
  clear KB
  generalize hW : w7.alloc (.cells #[.slice A11 d.length k11, .slice B11 VR.length e11] 25) = W11 at *
  clear hW
  generalize w7.heap.size = g11 at *
  obtain ⟨qBA0, qBA1, -, -⟩ := BA.out.all
  go_wp2
  go_loopw [15, 61] (fun s j wr => ∃ k : Nat, k ≤ d.length ∧ j = .int .i64 (k : Int) ∧ s = .int .i64 (onesP (d.take k)) ∧ wr = W11) (fun _ j _ => d.length - (intOf j).toNat)
  case atStart => exact ⟨0, Nat.zero_le _, rfl, rfl, rfl⟩
  case round =>
    obtain ⟨k, hk, rfl, rfl, rfl⟩ := hrel
    by_cases hlt : k < d.length
    · obtain ⟨bb, off, rfl, hbb, hcs⟩ := ID.out (by omega)
      have hck := hcs k hlt
      have i0 : (0 : Int) ≤ (k : Int) := by omega
      have i1 : (k : Int) < (d.length : Int) := by omega
      have hok := (rightB_all (cellB_parts H3.out).1).2.1
      have hx := okAx_at hok k hlt
      have hb1 := onesP_bd hok k (by omega) (by omega)
      have HS := Lib.hid (onesP_take d k hlt)
      have hb2 : onesP (d.take k) ≤ 4096 := Int.le_trans hb1.2 (by
        have : k = 0 ∨ k = 1 ∨ k = 2 := by omega
        rcases this with h | h | h <;> rw [h] <;> decide)
      have hb0 := hb1.1
      clear hcs hok hb1
      generalize d.getD k 0 = y at *
      generalize onesP (d.take k) = s at *
      have hm := mul_bd (show 0 ≤ s by omega) hb2 (show 0 ≤ max y 1 by omega) (show max y 1 ≤ 64 by omega)
      go_wp2
      go_roundw
      case rel => exact ⟨k + 1, by omega, by go_num, by rw [HS.out], by first | rfl | trivial⟩
      case measure => simp [intOf]; omega
    · obtain rfl : k = d.length := by omega
      clear qBA0 qBA1
      rw [List.take_length, HN.out]
      have htm := HTM.out
      have hn0 : ¬ n = 0 := by omega
      obtain ⟨qK110, qK111, fK110, fK111⟩ := K11.out.all
      obtain ⟨T, hT⟩ : ∃ T, -(x.tmod n) = T := ⟨_, rfl⟩
      rw [hT] at HR2
      have HTT := Lib.hid hT
      clear hT
      have KB := Lib.hid (Below.drew (below_new wr (.cells #[.int .i64 T] 2)))
      have R1 := Lib.hid (show Ints (wr.alloc (.cells #[.int .i64 T] 2)).drew (some ⟨wr.heap.size, 0, none⟩) [T] from one_new wr T)
      rw [← HTT.out] at KB R1
      have RW := Lib.hid (fun (W : World) i1 i2 i3 => roll_w (some ⟨wr.heap.size, 0, none⟩) 1 T A11 k11 d B11 e11 VR v b W HR2.out HRC.out i1 i2 i3)
      rw [← HTT.out] at RW
      have i5 : IntKind.i64.wrap (-(x.tmod n)) = -(x.tmod n) := IntWalk.i64_in _ (by omega)
      have n0 := World.new_ne wr _ qK110
      have n1 := World.new_ne wr _ qK111
      have k0 := (K11.out.next KB.out).c0
      have k1 := (K11.out.next KB.out).c1
      go_upto_region 14 with (fail)
      go_region_with (go_at_call 24; refine (RW.out _ R1.out (P11.out.below KB.out) (Q11.out.below KB.out)).mono ?_; rintro r w8 ⟨A12, k12, B12, e12, rfl, j1, j2, hb⟩; obtain ⟨s0, s1, s2, s3⟩ := ((K11.out.next KB.out).next hb).all)
      all_goals
        have HB := Lib.hid (below_next KB.out hb)
        clear qK110 qK111 fK110 fK111 k0 k1 s0 s1 s2 s3 n0 n1 i5 htm hn0
        replace BA := Lib.hid (BA.out.next HB.out)
        replace L := Lib.hid (below_next L.out HB.out)
        replace ID := Lib.hid (ID.out.below HB.out)
        replace IV := Lib.hid (IV.out.below HB.out)
        replace K7 := Lib.hid (K7.out.next HB.out)
        replace P7 := Lib.hid (P7.out.below HB.out)
        replace Q7 := Lib.hid (Q7.out.below HB.out)
        replace K9 := Lib.hid (K9.out.next HB.out)
        replace P9 := Lib.hid (P9.out.below HB.out)
        replace Q9 := Lib.hid (Q9.out.below HB.out)
        replace P11 := Lib.hid (P11.out.below HB.out)
        replace Q11 := Lib.hid (Q11.out.below HB.out)
        replace K11 := Lib.hid (K11.out.next HB.out)
        clear HB KB R1 RW hb
        clear P11
        clear Q11
        have P11 := Lib.hid j1
        have Q11 := Lib.hid j2
        clear j1 j2
        replace BA := Lib.hid ((BA.out.far (p := ⟨g11, 0, none⟩) (show _ ≠ _ from n11_BA) (.slice A12 d.length k12)).far (p := ⟨g11, 1, none⟩) (show _ ≠ _ from n11_BA) (.slice B12 v.length e12))
        replace L := Lib.hid ((L.out.setCell (p := ⟨g11, 0, none⟩) hg11 (.slice A12 d.length k12)).setCell (p := ⟨g11, 1, none⟩) hg11 (.slice B12 v.length e12))
        replace ID := Lib.hid (ID.out.set_box K11.out (.slice A12 d.length k12) (.slice B12 v.length e12))
        replace IV := Lib.hid (IV.out.set_box K11.out (.slice A12 d.length k12) (.slice B12 v.length e12))
        replace K7 := Lib.hid ((K7.out.far (p := ⟨g11, 0, none⟩) (show _ ≠ _ from n11_K7) (.slice A12 d.length k12)).far (p := ⟨g11, 1, none⟩) (show _ ≠ _ from n11_K7) (.slice B12 v.length e12))
        replace P7 := Lib.hid (P7.out.set_box K11.out (.slice A12 d.length k12) (.slice B12 v.length e12))
        replace Q7 := Lib.hid (Q7.out.set_box K11.out (.slice A12 d.length k12) (.slice B12 v.length e12))
        replace K9 := Lib.hid ((K9.out.far (p := ⟨g11, 0, none⟩) (show _ ≠ _ from n11_K9) (.slice A12 d.length k12)).far (p := ⟨g11, 1, none⟩) (show _ ≠ _ from n11_K9) (.slice B12 v.length e12))
        replace P9 := Lib.hid (P9.out.set_box K11.out (.slice A12 d.length k12) (.slice B12 v.length e12))
        replace Q9 := Lib.hid (Q9.out.set_box K11.out (.slice A12 d.length k12) (.slice B12 v.length e12))
        replace P11 := Lib.hid (P11.out.set_box K11.out (.slice A12 d.length k12) (.slice B12 v.length e12))
        replace Q11 := Lib.hid (Q11.out.set_box K11.out (.slice A12 d.length k12) (.slice B12 v.length e12))
        replace K11 := Lib.hid ((K11.out.set0 (.slice A12 d.length k12)).set1 (.slice B12 v.length e12))
        go_upto_region 15 with (fail)
        generalize hW : (w8.setCell ⟨g11, 0, none⟩ (.slice A12 d.length k12)).setCell ⟨g11, 1, none⟩ (.slice B12 v.length e12) = W12 at *
        clear hW
        obtain ⟨qK70, qK71, -, -⟩ := K7.out.all
        obtain ⟨qBA0, qBA1, -, -⟩ := BA.out.all
        go_wp2_with fail
        refine (rsame_eq _ _ d _ _ v _ _ _ _ _ (by omega) (by omega) P7.out Q7.out ID.out IV.out).mono ?_
        rintro r w9 ⟨rfl, hb⟩
        clear qK70 qK71 qBA0 qBA1
        replace BA := Lib.hid (BA.out.next hb)
        replace L := Lib.hid (below_next L.out hb)
        replace ID := Lib.hid (ID.out.below hb)
        replace IV := Lib.hid (IV.out.below hb)
        replace K7 := Lib.hid (K7.out.next hb)
        replace P7 := Lib.hid (P7.out.below hb)
        replace Q7 := Lib.hid (Q7.out.below hb)
        replace K9 := Lib.hid (K9.out.next hb)
        replace P9 := Lib.hid (P9.out.below hb)
        replace Q9 := Lib.hid (Q9.out.below hb)
        replace K11 := Lib.hid (K11.out.next hb)
        replace P11 := Lib.hid (P11.out.below hb)
        replace Q11 := Lib.hid (Q11.out.below hb)
        clear hb
        obtain ⟨qK90, qK91, -, -⟩ := K9.out.all
        obtain ⟨qBA0, qBA1, -, -⟩ := BA.out.all
        go_wp2_with fail
        refine (rsame_eq _ _ d _ _ v _ _ _ _ _ (by omega) (by omega) P9.out Q9.out ID.out IV.out).mono ?_
        rintro r w10 ⟨rfl, hb⟩
        clear qK90 qK91 qBA0 qBA1
        replace BA := Lib.hid (BA.out.next hb)
        replace L := Lib.hid (below_next L.out hb)
        replace ID := Lib.hid (ID.out.below hb)
        replace IV := Lib.hid (IV.out.below hb)
        replace K7 := Lib.hid (K7.out.next hb)
        replace P7 := Lib.hid (P7.out.below hb)
        replace Q7 := Lib.hid (Q7.out.below hb)
        replace K9 := Lib.hid (K9.out.next hb)
        replace P9 := Lib.hid (P9.out.below hb)
        replace Q9 := Lib.hid (Q9.out.below hb)
        replace K11 := Lib.hid (K11.out.next hb)
        replace P11 := Lib.hid (P11.out.below hb)
        replace Q11 := Lib.hid (Q11.out.below hb)
        clear hb
        obtain ⟨qK110, qK111, -, -⟩ := K11.out.all
        obtain ⟨qBA0, qBA1, -, -⟩ := BA.out.all
        go_wp2_with fail
        refine (rsame_eq _ _ d _ _ v _ _ _ _ _ (by omega) (by omega) P11.out Q11.out ID.out IV.out).mono ?_
        rintro r w11 ⟨rfl, hb⟩
        clear qK110 qK111 qBA0 qBA1
        replace BA := Lib.hid (BA.out.next hb)
        replace L := Lib.hid (below_next L.out hb)
        replace ID := Lib.hid (ID.out.below hb)
        replace IV := Lib.hid (IV.out.below hb)
        replace K7 := Lib.hid (K7.out.next hb)
        replace P7 := Lib.hid (P7.out.below hb)
        replace Q7 := Lib.hid (Q7.out.below hb)
        replace K9 := Lib.hid (K9.out.next hb)
        replace P9 := Lib.hid (P9.out.below hb)
        replace Q9 := Lib.hid (Q9.out.below hb)
        replace K11 := Lib.hid (K11.out.next hb)
        replace P11 := Lib.hid (P11.out.below hb)
        replace Q11 := Lib.hid (Q11.out.below hb)
        clear hb
        go_wp2_with fail
        refine (lives7_any _).mono ?_
        rintro r w12 ⟨rfl, hb⟩
        replace BA := Lib.hid (BA.out.next hb)
        replace L := Lib.hid (below_next L.out hb)
        replace ID := Lib.hid (ID.out.below hb)
        replace IV := Lib.hid (IV.out.below hb)
        replace K7 := Lib.hid (K7.out.next hb)
        replace P7 := Lib.hid (P7.out.below hb)
        replace Q7 := Lib.hid (Q7.out.below hb)
        replace K9 := Lib.hid (K9.out.next hb)
        replace P9 := Lib.hid (P9.out.below hb)
        replace Q9 := Lib.hid (Q9.out.below hb)
        replace K11 := Lib.hid (K11.out.next hb)
        replace P11 := Lib.hid (P11.out.below hb)
        replace Q11 := Lib.hid (Q11.out.below hb)
        clear hb
        go_wp2
        go_ret
        exact ⟨rfl, L.out⟩

set_option maxRecDepth 100000 in
theorem lifted (os : Os) (started : os.Started) (H : Type) (enc : TypeId × Value → H) :
    ReturnsInHanded {} Try.checked os 8 .any (Rows.carveBackSpec.pre6 enc Try.prog Try.f8 Rows.carveBackRow.domain false) (Rows.carveBackSpec.post enc Try.prog Try.f8 false true false false) := by
  refine returnsInHanded_of_change (C := Try.checked) own started (by kernel_rfl) Try.func8
    (ChangeSpec.witness6 (enc := enc) (C := Try.checked) false ⟨#[], #[.agg #[.slice none 0 0, .slice none 0 0], .int .i64 0, .bool false], []⟩ 8 (by kernel_rfl) (by kernel_rfl) (by kernel_rfl) (by kernel_rfl)) ?_
  intro W base args ds gs before hval0 hW hcnd _
  have hval : ∀ (j : Nat) t v, Try.f8.params[j]? = some t → args[j]? = some v → Value.okWide Try.prog W .any base t v := hval0
  have hW' := hW
  obtain ⟨p, q, hA0, hV, rfl, hfz, hnd⟩ := hW
  have hA : DataW.TrodAll enc Try.prog W 0 (fun _ => true) true Try.f8.params.toList args.toList ds p := hA0
  rw [Try.params8] at hA hval
  obtain ⟨v0, vs0, dd0, ds0, p0, q0, hargs, rfl, rfl, h0, r0⟩ := trodAll_cons hA
  obtain ⟨v1, vs1, dd1, ds1, p1, q1, rfl, rfl, rfl, h1, r1⟩ := trodAll_cons r0
  obtain ⟨v2, vs2, dd2, ds2, p2, q2, rfl, rfl, rfl, h2, r2⟩ := trodAll_cons r1
  obtain ⟨rfl, rfl, rfl⟩ := trodAll_nil r2
  obtain rfl : args = #[v0, v1, v2] := by cases args; simp_all
  obtain ⟨rfl, rfl⟩ := trodVars_none hV
  have k0 := h0
  have lt0 : ∀ x ∈ p0, x.block < W.heap.size := by obtain ⟨m, hm⟩ := k0; exact DataW.trod_lt m _ _ _ hm
  obtain ⟨A0, c0, l0, B0, e0, m0, rfl, hl0, hm0⟩ := cell_arg (hval 0 25 v0 rfl rfl) h0
  have k1 := h1
  have lt1 : ∀ x ∈ p1, x.block < W.heap.size := by obtain ⟨m, hm⟩ := k1; exact DataW.trod_lt m _ _ _ hm
  obtain ⟨n1, rfl, wf1⟩ := int_arg Try.underlying2 (hval 1 2 v1 rfl rfl) h1
  have k2 := h2
  have lt2 : ∀ x ∈ p2, x.block < W.heap.size := by obtain ⟨m, hm⟩ := k2; exact DataW.trod_lt m _ _ _ hm
  obtain ⟨b2, rfl, _, _⟩ := open_bool Try.underlying4 (hval 2 4 v2 rfl rfl) h2
  clear hA0 hval0
  refine (walk A0 c0 l0 B0 e0 m0 n1 b2 W hl0.1 hm0.1).mono fun e W' ⟨he, bel⟩ => ?_
  subst he
  exact ⟨_, rfl, _, _, _, [], _, [], hW', trodAll_mk1 (shut_bool Try.underlying4 _), (trodAll_cons_mk (Below.trod laidOut (by kernel_rfl) (of_decide_eq_true (by kernel_rfl)) k0 bel lt0) (trodAll_cons_mk (Below.trod laidOut (by kernel_rfl) (of_decide_eq_true (by kernel_rfl)) k1 bel lt1) (trodAll_cons_mk (Below.trod laidOut (by kernel_rfl) (of_decide_eq_true (by kernel_rfl)) k2 bel lt2) trodAll_mk0))), rfl, bel.frame _, fun h => by cases h⟩

theorem over : Rows.carveBackRow.holds Try.pinned (OpenSpec.ofChange Rows.carveBackSpec) :=
  OpenClaim.holds_of_wide 8 Try.f8 rfl rfl rfl rfl rfl rfl rfl ⟨rfl, rfl, rfl, rfl, rfl⟩ rfl rfl rfl rfl rfl (by kernel_rfl) Try.func8 (by kernel_rfl)
    (of_decide_eq_true (by kernel_rfl)) (by unfold Func.isWrapper; first | (rw [if_pos (by decide +kernel)]; kernel_rfl) | (rw [if_neg (by decide +kernel)]; exact ⟨rfl, rfl⟩))
    (fun os started H enc _ => lifted os started H enc)

theorem proved : Rows.CarveBackSaid := over
end Go.Proofs.Ytfnpdflapmbnjaa.carveBack
