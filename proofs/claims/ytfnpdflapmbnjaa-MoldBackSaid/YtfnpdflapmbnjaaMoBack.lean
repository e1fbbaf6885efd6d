/-
  Proved: for any two cells and any bool rifflelaw06.MoldBack returns true, and each argument reads afterwards as it read before. No other condition.
-/
import Derived.Test.YtfnpdflapmbnjaaPkO
import Derived.Test.YtfnpdflapmbnjaaPkP
import Derived.Test.YtfnpdflapmbnjaaPkR
namespace Go.Proofs.Ytfnpdflapmbnjaa.moldBack
open Go.Proofs.Ytfnpdflapmbnjaa.Sh
open Go.Joins Go.ChangeShapes Go.WideShapes Go.ChangeAt Go.RowKit Go.Deep
set_option linter.unusedVariables false

theorem dims_ok (A : Option Addr) (c : Nat) (d : List Int) (B : Option Addr) (c2 : Nat) (v : List Int) (w : World) (id : Ints w A d) (iv : Ints w B v) (h : cellB d v.length = true) :
    Calls Try.prog 16 #[.agg #[.slice A d.length c, .slice B v.length c2]] w (RetCI w [(d.length : Int)] d (.int .i64 0)) := by
  obtain ⟨h1, h2⟩ := cellB_small h
  have := dims_any A c d B c2 v w id iv (by omega) (by omega)
  rw [(ok_yes h [(d.length : Int)]).2, (ok_yes h d).2, (ok_yes h d).1] at this
  exact this.mono fun _ _ h => h.ci
theorem ravel_ok (A : Option Addr) (c : Nat) (d : List Int) (B : Option Addr) (c2 : Nat) (v : List Int) (w : World) (id : Ints w A d) (iv : Ints w B v) (h : cellB d v.length = true) :
    Calls Try.prog 17 #[.agg #[.slice A d.length c, .slice B v.length c2]] w (RetCI w [(v.length : Int)] v (.int .i64 0)) := by
  obtain ⟨h1, h2⟩ := cellB_small h
  have := ravel_any A c d B c2 v w id iv (by omega) (by omega)
  rw [(ok_yes h [(v.length : Int)]).2, (ok_yes h v).2, (ok_yes h v).1] at this
  exact this.mono fun _ _ h => h.ci
theorem lens_self {d : List Int} (h : d.all okAx = true) : lensL d = d := by
  unfold lensL
  rw [List.map_congr_left (g := fun x => x) (fun x hx => by have := okAx_bd (List.all_eq_true.1 h x hx); unfold len65; omega)]
  simp
theorem neg_self {d : List Int} (h : d.all okAx = true) : negB d = false := by
  unfold negB
  rw [List.any_eq_false]
  intro x hx
  have := okAx_bd (List.all_eq_true.1 h x hx)
  simp; omega
theorem list_cell {l : List Int} (h : l.length ≤ 64) : cellB [(l.length : Int)] l.length = true := by
  unfold cellB
  rw [(list_right h).1, ← (list_right h).2]; simp
theorem reshape_ok (A : Option Addr) (c : Nat) (d : List Int) (B : Option Addr) (c2 : Nat) (A' : Option Addr) (c' : Nat) (v : List Int) (B' : Option Addr) (c2' : Nat) (w : World) (h : cellB d v.length = true) (id : Ints w A [(d.length : Int)]) (iv : Ints w B d) (ie : Ints w A' [(v.length : Int)]) (iu : Ints w B' v) :
    Calls Try.prog 18 #[.agg #[.slice A 1 c, .slice B d.length c2], .agg #[.slice A' 1 c', .slice B' v.length c2']] w (RetCI w d v (.int .i64 0)) := by
  obtain ⟨h1, h2⟩ := cellB_small h
  have hr := cellB_parts h
  have ha := (rightB_all hr.1).2.1
  have := reshape_any A c [(d.length : Int)] B c2 d A' c' [(v.length : Int)] B' c2' v w id iv ie iu (by simp) (by omega) (by simp) (by omega)
  have hL := lens_self ha
  obtain ⟨e1, e2, e3⟩ := rs_6 (d := [(d.length : Int)]) (v := d) (e := [(v.length : Int)]) (u := v) (list_cell (by omega)) (list_cell h2) (by simp) (neg_self ha) (by rw [hL]; exact hr.1) (n := v.length) (by rw [hL]; exact hr.2.symm)
  have hf := fillL_self h
  unfold fillL at hf
  rw [← hr.2, Int.toNat_natCast] at hf
  rw [e1, e2, e3, hL, hf] at this
  exact this.mono fun _ _ h => h.ci
theorem copy_one (B : Option Addr) (c2 : Nat) (A' : Option Addr) (c' : Nat) (e : List Int) (B' : Option Addr) (c2' : Nat) (u : List Int) (b : Bool) (w : World) (h : cellB e u.length = true) (iv : Ints w B [1]) (ie : Ints w A' e) (iu : Ints w B' u) (hcu : u.length ≤ c2') (hcm : c2' ≤ maxLen) :
    Calls Try.prog 12 #[.agg #[.slice none 0 0, .slice B 1 c2], .agg #[.slice A' e.length c', .slice B' u.length c2'], .bool b] w (RetCI w (listedL e) u (.int .i64 0)) := by
  obtain ⟨h1, h2⟩ := cellB_small h
  have hP := cP_nat (b := b) h
  have hT : cT [] [1] e b = List.replicate (cP e b).toNat 1 := by unfold cT timesL; rw [if_pos (show ([] : List Int).length = 0 from rfl)]; rfl
  have hc1 : cellB [] ([1] : List Int).length = true := by decide
  have hR : rightB (cDim [] [1] e b) = true := by
    unfold cDim
    rw [hT, sum_ones, ← hP.1]
    have := listed_right (cellB_parts h).1
    have he : withL (listedL e) (cA e b : Int) (cP e b) = listedL e := by
      rw [withL_at _ _ (cA_lt e b)]
      exact (split_at (listedL e) (cA e b) (cA_lt e b)).symm
    rw [he]; exact this
  have ok := copyOk_of (d := []) (v := [1]) (e := e) (u := u) (b := b) hc1 h (by simp) (by simp) (by decide) hR
  rw [hT] at ok
  obtain ⟨o1, o2⟩ := copV_one ok
  obtain ⟨e1, e2, e3⟩ := cp_0 (d := []) (v := [1]) (e := e) (u := u) (b := b) hc1 h (by simp) (by simp) (by decide) hR
  have := copy_any none 0 [] B c2 [1] A' c' e B' c2' u b w (Ints.nil _ _) iv ie iu hcu hcm (by simp) (by simp) (by omega) (by omega)
  rw [e1, e2, e3, hT, o1] at this
  have hD : cDim [] [1] e b = listedL e := by unfold cDim; rw [hT]; exact o2
  rw [hD] at this
  exact this.mono fun _ _ h => h.ci
theorem join_w (A : Option Addr) (c : Nat) (d : List Int) (B : Option Addr) (c2 : Nat) (v : List Int) (A' : Option Addr) (c' : Nat) (e : List Int) (B' : Option Addr) (c2' : Nat) (u : List Int) (w : World) (E : Int) (D V : List Int) (hE : joE d v e u = E) (hD : joD d v e u = D) (hV : joV d v e u = V)
    (id : Ints w A d) (iv : Ints w B v) (ie : Ints w A' e) (iu : Ints w B' u) (hd : d.length ≤ 100) (hv : v.length ≤ 1000) (he : e.length ≤ 100) (hu : u.length ≤ 1000) (hcd : d.length ≤ c) (hcm : c ≤ maxLen) (hce : e.length ≤ c') (hcm' : c' ≤ maxLen) :
    Calls Try.prog 20 #[.agg #[.slice A d.length c, .slice B v.length c2], .agg #[.slice A' e.length c', .slice B' u.length c2']] w (RetCI w D V (.int .i64 E)) := by
  subst hE hD hV; exact (join_any A c d B c2 v A' c' e B' c2' u w id iv ie iu hd hv he hu hcd hcm hce hcm').mono fun _ _ h => h.ci
theorem jo_right {d v e u : List Int} (h1 : cellB d v.length = true) (h : joE d v e u = 0) : cellB (joD d v e u) (joV d v e u).length = true := by
  by_cases h2 : cellB e u.length = true
  · obtain ⟨X, x, y, n, N, La, Lb, ok, hl, e1, e2, e3⟩ := jo_0 h1 h2 h
    rw [e1, e3]
    unfold cellB
    rw [ok.rj, ok.hN]; simp
  · exact absurd h (by rw [(jo_1' (d := d) (v := v) (e := e) (u := u) (by simpa using h2)).1]; decide)
theorem jo_sum {d v e u : List Int} (h1 : cellB d v.length = true) (h : joE d v e u = 0) (hd : ¬ d.length = 0) (he : ¬ e.length = 0) : (joV d v e u).length = v.length + u.length := by
  by_cases h2 : cellB e u.length = true
  · obtain ⟨X, x, y, n, N, La, Lb, ok, hl, e1, e2, e3⟩ := jo_0 h1 h2 h
    have a1 := ok.la
    have a2 := ok.lb
    rw [beside_self hd, ← (cellB_parts h1).2] at a1
    rw [beside_self he, ← (cellB_parts h2).2] at a2
    rw [e3, ok.sum]; omega
  · exact absurd h (by rw [(jo_1' (d := d) (v := v) (e := e) (u := u) (by simpa using h2)).1]; decide)
theorem rsame_x (A : Option Addr) (c : Nat) (D : List Int) (B : Option Addr) (c2 : Nat) (v : List Int) (A' : Option Addr) (c' : Nat) (d : List Int) (B' : Option Addr) (c2' : Nat) (w : World) (h : D = d) (hd : d.length ≤ 1000) (hv : v.length ≤ 1000) (id : Ints w A D) (iv : Ints w B v) (ie : Ints w A' d) (iu : Ints w B' v) :
    Calls Try.prog 14 #[.agg #[.slice A D.length c, .slice B v.length c2], .agg #[.slice A' d.length c', .slice B' v.length c2']] w fun r w' => r = .returned (.bool true) ∧ Below w.heap.size w w' := by
  subst h; exact rsame_eq A c D B c2 v A' c' B' c2' w hd hv id iv ie iu
theorem cright_v (A : Option Addr) (c : Nat) (d : List Int) (B : Option Addr) (n c2 : Nat) (t : Bool) (w : World) (ht : cellB d n = t) (hl : d.length ≤ 100) (hi : Ints w A d) :
    Calls Try.prog 15 #[.agg #[.slice A d.length c, .slice B n c2]] w fun e w' => e = .returned (.bool t) ∧ Below w.heap.size w w' := by
  subst ht; exact cright_any A c d B n c2 w (by unfold maxLen; omega) hi
set_option maxHeartbeats 8000000 in
set_option maxRecDepth 100000 in
theorem walk (A : Option Addr) (c1 : Nat) (d : List Int) (B : Option Addr) (c2 : Nat) (v : List Int) (A' : Option Addr) (c1' : Nat) (e : List Int) (B' : Option Addr) (c2' : Nat) (u : List Int) (b : Bool) (w : World)
    (id : Ints w A d) (iv : Ints w B v) (ie : Ints w A' e) (iu : Ints w B' u) (hcd : d.length ≤ c1) (hcdm : c1 ≤ maxLen) (hcv : v.length ≤ c2) (hcvm : c2 ≤ maxLen) (hce : e.length ≤ c1') (hcem : c1' ≤ maxLen) :
    Calls Try.prog 4 #[.agg #[.slice A d.length c1, .slice B v.length c2], .agg #[.slice A' e.length c1', .slice B' u.length c2'], .bool b] w fun e w' => e = .returned (.bool true) ∧ Below w.heap.size w w' := by
  have HCD := Lib.hid hcd
  have HCDm := Lib.hid hcdm
  have HCV := Lib.hid hcv
  have HCVm := Lib.hid hcvm
  have HCE := Lib.hid hce
  have HCEm := Lib.hid hcem
  clear hcd hcdm hcv hcvm hce hcem
  by_cases h1 : d.length ≤ 10 ∧ v.length ≤ 200
  rotate_left
  · have H1 := Lib.hid h1
    clear h1
    have b1 := below_new w (.cells #[.slice A d.length c1, .slice B v.length c2] 25)
    have b2 := below_new (w.alloc (.cells #[.slice A d.length c1, .slice B v.length c2] 25)) (.cells #[.slice A' e.length c1', .slice B' u.length c2'] 25)
    have bb0 := Box.new (w.alloc (.cells #[.slice A d.length c1, .slice B v.length c2] 25)) (.slice A' e.length c1') (.slice B' u.length c2')
    rw [show (w.alloc (.cells #[.slice A d.length c1, .slice B v.length c2] 25)).heap.size = w.heap.size + 1 from by simp] at bb0
    have BB := Lib.hid (bb0)
    have L := Lib.hid (below_next b1 b2)
    clear b1 b2 bb0 id iv ie iu
    go_enter Try.func4, Try.ntmps4
    go_wp2_with fail
    refine (great_yes _ _ _ _ _ _ _ H1.out).mono ?_
    rintro r w1 ⟨rfl, hb⟩
    replace BB := Lib.hid (BB.out.next hb)
    replace L := Lib.hid (below_next L.out hb)
    clear hb
    go_wp2_with fail
    refine (lives_any _).mono ?_
    rintro r w2 ⟨rfl, hb⟩
    replace BB := Lib.hid (BB.out.next hb)
    replace L := Lib.hid (below_next L.out hb)
    clear hb
    go_wp2
    go_ret
    exact ⟨rfl, L.out⟩
  by_cases h2 : e.length ≤ 10 ∧ u.length ≤ 200
  rotate_left
  · have H1 := Lib.hid h1
    have H2 := Lib.hid h2
    clear h1 h2
    have b1 := below_new w (.cells #[.slice A d.length c1, .slice B v.length c2] 25)
    have b2 := below_new (w.alloc (.cells #[.slice A d.length c1, .slice B v.length c2] 25)) (.cells #[.slice A' e.length c1', .slice B' u.length c2'] 25)
    have bb0 := Box.new (w.alloc (.cells #[.slice A d.length c1, .slice B v.length c2] 25)) (.slice A' e.length c1') (.slice B' u.length c2')
    rw [show (w.alloc (.cells #[.slice A d.length c1, .slice B v.length c2] 25)).heap.size = w.heap.size + 1 from by simp] at bb0
    have BB := Lib.hid (bb0)
    have L := Lib.hid (below_next b1 b2)
    clear b1 b2 bb0 id iv ie iu
    go_enter Try.func4, Try.ntmps4
    go_wp2_with fail
    refine (great_no _ _ _ _ _ _ _ H1.out.1 H1.out.2).mono ?_
    rintro r w1 ⟨rfl, hb⟩
    replace BB := Lib.hid (BB.out.next hb)
    replace L := Lib.hid (below_next L.out hb)
    clear hb
    obtain ⟨qBB0, qBB1, -, -⟩ := BB.out.all
    go_wp2_with fail
    refine (great_yes _ _ _ _ _ _ _ H2.out).mono ?_
    rintro r w2 ⟨rfl, hb⟩
    clear qBB0 qBB1
    replace BB := Lib.hid (BB.out.next hb)
    replace L := Lib.hid (below_next L.out hb)
    clear hb
    go_wp2_with fail
    refine (lives_any _).mono ?_
    rintro r w3 ⟨rfl, hb⟩
    replace BB := Lib.hid (BB.out.next hb)
    replace L := Lib.hid (below_next L.out hb)
    clear hb
    go_wp2
    go_ret
    exact ⟨rfl, L.out⟩
  obtain ⟨hd, hv⟩ := h1
  obtain ⟨he, hu⟩ := h2
  by_cases h3 : cellB d v.length = true
  rotate_left
  · have H3 := Lib.hid (show cellB d v.length = false by simpa using h3)
    clear h3
    have b1 := below_new w (.cells #[.slice A d.length c1, .slice B v.length c2] 25)
    have b2 := below_new (w.alloc (.cells #[.slice A d.length c1, .slice B v.length c2] 25)) (.cells #[.slice A' e.length c1', .slice B' u.length c2'] 25)
    have bb0 := Box.new (w.alloc (.cells #[.slice A d.length c1, .slice B v.length c2] 25)) (.slice A' e.length c1') (.slice B' u.length c2')
    rw [show (w.alloc (.cells #[.slice A d.length c1, .slice B v.length c2] 25)).heap.size = w.heap.size + 1 from by simp] at bb0
    have BB := Lib.hid (bb0)
    have L := Lib.hid (below_next b1 b2)
    have BA := Lib.hid ((Box.new w (.slice A d.length c1) (.slice B v.length c2)).next b2)
    have ID := Lib.hid (id.below L.out)
    have IV := Lib.hid (iv.below L.out)
    have IE := Lib.hid (ie.below L.out)
    have IU := Lib.hid (iu.below L.out)
    clear b1 b2 bb0 id iv ie iu
    go_enter Try.func4, Try.ntmps4
    go_wp2_with fail
    refine (great_no _ _ _ _ _ _ _ hd hv).mono ?_
    rintro r w1 ⟨rfl, hb⟩
    replace BB := Lib.hid (BB.out.next hb)
    replace L := Lib.hid (below_next L.out hb)
    replace BA := Lib.hid (BA.out.next hb)
    replace ID := Lib.hid (ID.out.below hb)
    replace IV := Lib.hid (IV.out.below hb)
    replace IE := Lib.hid (IE.out.below hb)
    replace IU := Lib.hid (IU.out.below hb)
    clear hb
    obtain ⟨qBB0, qBB1, -, -⟩ := BB.out.all
    go_wp2_with fail
    refine (great_no _ _ _ _ _ _ _ he hu).mono ?_
    rintro r w2 ⟨rfl, hb⟩
    clear qBB0 qBB1
    replace BB := Lib.hid (BB.out.next hb)
    replace L := Lib.hid (below_next L.out hb)
    replace BA := Lib.hid (BA.out.next hb)
    replace ID := Lib.hid (ID.out.below hb)
    replace IV := Lib.hid (IV.out.below hb)
    replace IE := Lib.hid (IE.out.below hb)
    replace IU := Lib.hid (IU.out.below hb)
    clear hb
    obtain ⟨qBA0, qBA1, -, -⟩ := BA.out.all
    go_wp2_with fail
    refine (cright_no _ _ d _ _ _ _ (by unfold maxLen; omega) ID.out H3.out).mono ?_
    rintro r w3 ⟨rfl, hb⟩
    clear qBA0 qBA1
    replace BB := Lib.hid (BB.out.next hb)
    replace L := Lib.hid (below_next L.out hb)
    replace BA := Lib.hid (BA.out.next hb)
    replace ID := Lib.hid (ID.out.below hb)
    replace IV := Lib.hid (IV.out.below hb)
    replace IE := Lib.hid (IE.out.below hb)
    replace IU := Lib.hid (IU.out.below hb)
    clear hb
    go_wp2_with fail
    refine (lives_any _).mono ?_
    rintro r w4 ⟨rfl, hb⟩
    replace BB := Lib.hid (BB.out.next hb)
    replace L := Lib.hid (below_next L.out hb)
    replace BA := Lib.hid (BA.out.next hb)
    replace ID := Lib.hid (ID.out.below hb)
    replace IV := Lib.hid (IV.out.below hb)
    replace IE := Lib.hid (IE.out.below hb)
    replace IU := Lib.hid (IU.out.below hb)
    clear hb
    go_wp2
    go_ret
    exact ⟨rfl, L.out⟩
  have H3 := Lib.hid h3
  obtain ⟨hd3, hv64⟩ := cellB_small h3
  clear h3
  obtain ⟨E, hE⟩ : ∃ E, joE d v e u = E := ⟨_, rfl⟩
  obtain ⟨D, hD⟩ : ∃ D, joD d v e u = D := ⟨_, rfl⟩
  obtain ⟨V, hV⟩ : ∃ V, joV d v e u = V := ⟨_, rfl⟩
  have HJ := Lib.hid (joD_len (d := d) (v := v) (e := e) (u := u))
  rw [hD, hV] at HJ
  have hDl : D.length ≤ 3 := HJ.out.1
  have hVl : V.length ≤ 64 := HJ.out.2
  have HE := Lib.hid hE
  have HD := Lib.hid hD
  have HV := Lib.hid hV
  clear hE hD hV
  have b1 := below_new w (.cells #[.slice A d.length c1, .slice B v.length c2] 25)
  have b2 := below_new (w.alloc (.cells #[.slice A d.length c1, .slice B v.length c2] 25)) (.cells #[.slice A' e.length c1', .slice B' u.length c2'] 25)
  have bb0 := Box.new (w.alloc (.cells #[.slice A d.length c1, .slice B v.length c2] 25)) (.slice A' e.length c1') (.slice B' u.length c2')
  rw [show (w.alloc (.cells #[.slice A d.length c1, .slice B v.length c2] 25)).heap.size = w.heap.size + 1 from by simp] at bb0
  have BB := Lib.hid (bb0)
  have L := Lib.hid (below_next b1 b2)
  have BA := Lib.hid ((Box.new w (.slice A d.length c1) (.slice B v.length c2)).next b2)
  have ID := Lib.hid (id.below L.out)
  have IV := Lib.hid (iv.below L.out)
  have IE := Lib.hid (ie.below L.out)
  have IU := Lib.hid (iu.below L.out)
  clear b1 b2 bb0 id iv ie iu
  go_enter Try.func4, Try.ntmps4
  go_wp2_with fail
  refine (great_no _ _ _ _ _ _ _ hd hv).mono ?_
  rintro r w1 ⟨rfl, hb⟩
  replace BB := Lib.hid (BB.out.next hb)
  replace L := Lib.hid (below_next L.out hb)
  replace BA := Lib.hid (BA.out.next hb)
  replace ID := Lib.hid (ID.out.below hb)
  replace IV := Lib.hid (IV.out.below hb)
  replace IE := Lib.hid (IE.out.below hb)
  replace IU := Lib.hid (IU.out.below hb)
  clear hb
  obtain ⟨qBB0, qBB1, -, -⟩ := BB.out.all
  go_wp2_with fail
  refine (great_no _ _ _ _ _ _ _ he hu).mono ?_
  rintro r w2 ⟨rfl, hb⟩
  clear qBB0 qBB1
  replace BB := Lib.hid (BB.out.next hb)
  replace L := Lib.hid (below_next L.out hb)
  replace BA := Lib.hid (BA.out.next hb)
  replace ID := Lib.hid (ID.out.below hb)
  replace IV := Lib.hid (IV.out.below hb)
  replace IE := Lib.hid (IE.out.below hb)
  replace IU := Lib.hid (IU.out.below hb)
  clear hb
  obtain ⟨qBA0, qBA1, -, -⟩ := BA.out.all
  go_wp2_with fail
  refine (cright_yes _ _ d _ _ _ _ (by unfold maxLen; omega) ID.out H3.out).mono ?_
  rintro r w3 ⟨rfl, hb⟩
  clear qBA0 qBA1
  replace BB := Lib.hid (BB.out.next hb)
  replace L := Lib.hid (below_next L.out hb)
  replace BA := Lib.hid (BA.out.next hb)
  replace ID := Lib.hid (ID.out.below hb)
  replace IV := Lib.hid (IV.out.below hb)
  replace IE := Lib.hid (IE.out.below hb)
  replace IU := Lib.hid (IU.out.below hb)
  clear hb
  obtain ⟨qBA0, qBA1, -, -⟩ := BA.out.all
  go_wp2_with fail
  refine (dims_ok _ _ d _ _ v _ ID.out IV.out H3.out).mono ?_
  rintro r w4 ⟨A7, k7, B7, e7, rfl, j1, j2, hb⟩
  clear qBA0 qBA1
  replace BB := Lib.hid (BB.out.next hb)
  replace L := Lib.hid (below_next L.out hb)
  replace BA := Lib.hid (BA.out.next hb)
  replace ID := Lib.hid (ID.out.below hb)
  replace IV := Lib.hid (IV.out.below hb)
  replace IE := Lib.hid (IE.out.below hb)
  replace IU := Lib.hid (IU.out.below hb)
  clear hb
  have P7 := Lib.hid j1
  have Q7 := Lib.hid j2
  clear j1 j2
  have KB := Lib.hid (below_new w4 (.cells #[.slice A7 1 k7, .slice B7 d.length e7] 25))
  have K7 := Lib.hid (Box.new w4 (.slice A7 1 k7) (.slice B7 d.length e7))
  replace BB := Lib.hid (BB.out.next KB.out)
  replace L := Lib.hid (below_next L.out KB.out)
  replace BA := Lib.hid (BA.out.next KB.out)
  replace ID := Lib.hid (ID.out.below KB.out)
  replace IV := Lib.hid (IV.out.below KB.out)
  replace IE := Lib.hid (IE.out.below KB.out)
  replace IU := Lib.hid (IU.out.below KB.out)
  replace P7 := Lib.hid (P7.out.below KB.out)
  replace Q7 := Lib.hid (Q7.out.below KB.out)
  go_upto_region 4 with (fail)
  clear KB
  generalize hW : w4.alloc (.cells #[.slice A7 1 k7, .slice B7 d.length e7] 25) = W7 at *
  clear hW
  generalize w4.heap.size = g7 at *
  obtain ⟨qBA0, qBA1, -, -⟩ := BA.out.all
  go_wp2_with fail
  refine (ravel_ok _ _ d _ _ v _ ID.out IV.out H3.out).mono ?_
  rintro r w5 ⟨A8, k8, B8, e8, rfl, j1, j2, hb⟩
  clear qBA0 qBA1
  replace BB := Lib.hid (BB.out.next hb)
  replace L := Lib.hid (below_next L.out hb)
  replace BA := Lib.hid (BA.out.next hb)
  replace ID := Lib.hid (ID.out.below hb)
  replace IV := Lib.hid (IV.out.below hb)
  replace IE := Lib.hid (IE.out.below hb)
  replace IU := Lib.hid (IU.out.below hb)
  replace P7 := Lib.hid (P7.out.below hb)
  replace Q7 := Lib.hid (Q7.out.below hb)
  replace K7 := Lib.hid (K7.out.next hb)
  clear hb
  have P8 := Lib.hid j1
  have Q8 := Lib.hid j2
  clear j1 j2
  have KB := Lib.hid (below_new w5 (.cells #[.slice A8 1 k8, .slice B8 v.length e8] 25))
  have K8 := Lib.hid (Box.new w5 (.slice A8 1 k8) (.slice B8 v.length e8))
  replace BB := Lib.hid (BB.out.next KB.out)
  replace L := Lib.hid (below_next L.out KB.out)
  replace BA := Lib.hid (BA.out.next KB.out)
  replace ID := Lib.hid (ID.out.below KB.out)
  replace IV := Lib.hid (IV.out.below KB.out)
  replace IE := Lib.hid (IE.out.below KB.out)
  replace IU := Lib.hid (IU.out.below KB.out)
  replace P7 := Lib.hid (P7.out.below KB.out)
  replace Q7 := Lib.hid (Q7.out.below KB.out)
  replace K7 := Lib.hid (K7.out.next KB.out)
  replace P8 := Lib.hid (P8.out.below KB.out)
  replace Q8 := Lib.hid (Q8.out.below KB.out)
  go_upto_region 5 with (fail)
  clear KB
  generalize hW : w5.alloc (.cells #[.slice A8 1 k8, .slice B8 v.length e8] 25) = W8 at *
  clear hW
  generalize w5.heap.size = g8 at *
  obtain ⟨qK70, qK71, -, -⟩ := K7.out.all
  obtain ⟨qK80, qK81, -, -⟩ := K8.out.all
  go_wp2_with fail
  refine (reshape_ok _ _ d _ _ _ _ v _ _ _ H3.out P7.out Q7.out P8.out Q8.out).mono ?_
  rintro r w6 ⟨A9, k9, B9, e9, rfl, j1, j2, hb⟩
  clear qK70 qK71 qK80 qK81
  replace BB := Lib.hid (BB.out.next hb)
  replace L := Lib.hid (below_next L.out hb)
  replace BA := Lib.hid (BA.out.next hb)
  replace ID := Lib.hid (ID.out.below hb)
  replace IV := Lib.hid (IV.out.below hb)
  replace IE := Lib.hid (IE.out.below hb)
  replace IU := Lib.hid (IU.out.below hb)
  replace P7 := Lib.hid (P7.out.below hb)
  replace Q7 := Lib.hid (Q7.out.below hb)
  replace K7 := Lib.hid (K7.out.next hb)
  replace P8 := Lib.hid (P8.out.below hb)
  replace Q8 := Lib.hid (Q8.out.below hb)
  replace K8 := Lib.hid (K8.out.next hb)
  clear hb
  have P9 := Lib.hid j1
  have Q9 := Lib.hid j2
  clear j1 j2
  have KB := Lib.hid (below_new w6 (.cells #[.slice A9 d.length k9, .slice B9 v.length e9] 25))
  have K9 := Lib.hid (Box.new w6 (.slice A9 d.length k9) (.slice B9 v.length e9))
  replace BB := Lib.hid (BB.out.next KB.out)
  replace L := Lib.hid (below_next L.out KB.out)
  replace BA := Lib.hid (BA.out.next KB.out)
  replace ID := Lib.hid (ID.out.below KB.out)
  replace IV := Lib.hid (IV.out.below KB.out)
  replace IE := Lib.hid (IE.out.below KB.out)
  replace IU := Lib.hid (IU.out.below KB.out)
  replace P7 := Lib.hid (P7.out.below KB.out)
  replace Q7 := Lib.hid (Q7.out.below KB.out)
  replace K7 := Lib.hid (K7.out.next KB.out)
  replace P8 := Lib.hid (P8.out.below KB.out)
  replace Q8 := Lib.hid (Q8.out.below KB.out)
  replace K8 := Lib.hid (K8.out.next KB.out)
  replace P9 := Lib.hid (P9.out.below KB.out)
  replace Q9 := Lib.hid (Q9.out.below KB.out)
  go_upto_region 6 with (fail)
  clear KB
  generalize hW : w6.alloc (.cells #[.slice A9 d.length k9, .slice B9 v.length e9] 25) = W9 at *
  clear hW
  generalize w6.heap.size = g9 at *
  clear P7
  clear Q7
  clear P8
  clear Q8
  clear K7
  clear K8
  obtain ⟨qK90, qK91, -, -⟩ := K9.out.all
  obtain ⟨qBA0, qBA1, -, -⟩ := BA.out.all
  go_wp2_with fail
  refine (rsame_eq _ _ d _ _ v _ _ _ _ _ (by omega) (by omega) P9.out Q9.out ID.out IV.out).mono ?_
  rintro r w7 ⟨rfl, hb⟩
  clear qK90 qK91 qBA0 qBA1
  replace BB := Lib.hid (BB.out.next hb)
  replace L := Lib.hid (below_next L.out hb)
  replace BA := Lib.hid (BA.out.next hb)
  replace ID := Lib.hid (ID.out.below hb)
  replace IV := Lib.hid (IV.out.below hb)
  replace IE := Lib.hid (IE.out.below hb)
  replace IU := Lib.hid (IU.out.below hb)
  replace P9 := Lib.hid (P9.out.below hb)
  replace Q9 := Lib.hid (Q9.out.below hb)
  replace K9 := Lib.hid (K9.out.next hb)
  clear hb
  clear P9
  clear Q9
  clear K9
  obtain ⟨qBA0, qBA1, -, -⟩ := BA.out.all
  have KB := Lib.hid (below_new w7 (.cells #[.int .i64 1] 2))
  have R1 := Lib.hid (one_new w7 1)
  clear qBA0 qBA1
  replace BB := Lib.hid (BB.out.next KB.out)
  replace L := Lib.hid (below_next L.out KB.out)
  replace BA := Lib.hid (BA.out.next KB.out)
  replace ID := Lib.hid (ID.out.below KB.out)
  replace IV := Lib.hid (IV.out.below KB.out)
  replace IE := Lib.hid (IE.out.below KB.out)
  replace IU := Lib.hid (IU.out.below KB.out)
  clear KB
  obtain ⟨qBA0, qBA1, -, -⟩ := BA.out.all
  go_wp2_with fail
  refine (copy_one _ _ _ _ d _ _ v b _ H3.out R1.out ID.out IV.out HCV.out HCVm.out).mono ?_
  rintro r w8 ⟨A10, k10, B10, e10, rfl, j1, j2, hb⟩
  clear qBA0 qBA1
  replace BB := Lib.hid (BB.out.next hb)
  replace L := Lib.hid (below_next L.out hb)
  replace BA := Lib.hid (BA.out.next hb)
  replace ID := Lib.hid (ID.out.below hb)
  replace IV := Lib.hid (IV.out.below hb)
  replace IE := Lib.hid (IE.out.below hb)
  replace IU := Lib.hid (IU.out.below hb)
  replace R1 := Lib.hid (R1.out.below hb)
  clear hb
  clear R1
  generalize hLD : listedL d = LD at *
  have HLD := Lib.hid hLD
  have hLDl : LD.length ≤ 3 := by rw [← hLD]; exact (rightB_all (listed_right (cellB_parts H3.out).1)).1
  clear hLD
  have P10 := Lib.hid j1
  have Q10 := Lib.hid j2
  clear j1 j2
  have KB := Lib.hid (below_new w8 (.cells #[.slice A10 LD.length k10, .slice B10 v.length e10] 25))
  have K10 := Lib.hid (Box.new w8 (.slice A10 LD.length k10) (.slice B10 v.length e10))
  replace BB := Lib.hid (BB.out.next KB.out)
  replace L := Lib.hid (below_next L.out KB.out)
  replace BA := Lib.hid (BA.out.next KB.out)
  replace ID := Lib.hid (ID.out.below KB.out)
  replace IV := Lib.hid (IV.out.below KB.out)
  replace IE := Lib.hid (IE.out.below KB.out)
  replace IU := Lib.hid (IU.out.below KB.out)
  replace P10 := Lib.hid (P10.out.below KB.out)
  replace Q10 := Lib.hid (Q10.out.below KB.out)
  go_upto_region 9 with (fail)
  clear KB
  generalize hW : w8.alloc (.cells #[.slice A10 LD.length k10, .slice B10 v.length e10] 25) = W10 at *
  clear hW
  generalize w8.heap.size = g10 at *
  obtain ⟨qK100, qK101, -, -⟩ := K10.out.all
  obtain ⟨qBA0, qBA1, -, -⟩ := BA.out.all
  go_wp2_with fail
  refine (nums_eq _ _ v _ _ _ (by omega) Q10.out IV.out).mono ?_
  rintro r w9 ⟨rfl, hb⟩
  clear qK100 qK101 qBA0 qBA1
  replace BB := Lib.hid (BB.out.next hb)
  replace L := Lib.hid (below_next L.out hb)
  replace BA := Lib.hid (BA.out.next hb)
  replace ID := Lib.hid (ID.out.below hb)
  replace IV := Lib.hid (IV.out.below hb)
  replace IE := Lib.hid (IE.out.below hb)
  replace IU := Lib.hid (IU.out.below hb)
  replace P10 := Lib.hid (P10.out.below hb)
  replace Q10 := Lib.hid (Q10.out.below hb)
  replace K10 := Lib.hid (K10.out.next hb)
  clear hb
  by_cases hd0 : d.length = 0
  · have z1 : decide (0 < d.length) = false := by simp [hd0]
    clear hd0
    obtain ⟨qBA0, qBA1, -, -⟩ := BA.out.all
    obtain ⟨qBB0, qBB1, -, -⟩ := BB.out.all
    go_wp2_with fail
    refine (join_w _ _ d _ _ v _ _ e _ _ u _ E D V HE.out HD.out HV.out ID.out IV.out IE.out IU.out (by omega) (by omega) (by omega) (by omega) HCD.out HCDm.out HCE.out HCEm.out).mono ?_
    rintro r w10 ⟨A11, k11, B11, e11, rfl, j1, j2, hb⟩
    clear qBA0 qBA1 qBB0 qBB1
    replace BB := Lib.hid (BB.out.next hb)
    replace L := Lib.hid (below_next L.out hb)
    replace BA := Lib.hid (BA.out.next hb)
    replace ID := Lib.hid (ID.out.below hb)
    replace IV := Lib.hid (IV.out.below hb)
    replace IE := Lib.hid (IE.out.below hb)
    replace IU := Lib.hid (IU.out.below hb)
    replace P10 := Lib.hid (P10.out.below hb)
    replace Q10 := Lib.hid (Q10.out.below hb)
    replace K10 := Lib.hid (K10.out.next hb)
    clear hb
    have P11 := Lib.hid j1
    have Q11 := Lib.hid j2
    clear j1 j2
    have KB := Lib.hid (below_new w10 (.cells #[.slice A11 D.length k11, .slice B11 V.length e11] 25))
    have K11 := Lib.hid (Box.new w10 (.slice A11 D.length k11) (.slice B11 V.length e11))
    replace BB := Lib.hid (BB.out.next KB.out)
    replace L := Lib.hid (below_next L.out KB.out)
    replace BA := Lib.hid (BA.out.next KB.out)
    replace ID := Lib.hid (ID.out.below KB.out)
    replace IV := Lib.hid (IV.out.below KB.out)
    replace IE := Lib.hid (IE.out.below KB.out)
    replace IU := Lib.hid (IU.out.below KB.out)
    replace P10 := Lib.hid (P10.out.below KB.out)
    replace Q10 := Lib.hid (Q10.out.below KB.out)
    replace K10 := Lib.hid (K10.out.next KB.out)
    replace P11 := Lib.hid (P11.out.below KB.out)
    replace Q11 := Lib.hid (Q11.out.below KB.out)
    go_upto_region 12 with (fail)
    clear KB
    generalize hW : w10.alloc (.cells #[.slice A11 D.length k11, .slice B11 V.length e11] 25) = W11 at *
    clear hW
    generalize w10.heap.size = g11 at *
    by_cases hE0 : E = 0
    · subst hE0
      have HT := Lib.hid (show cellB D V.length = true by rw [← HD.out, ← HV.out]; exact jo_right H3.out HE.out)
      obtain ⟨qBA0, qBA1, -, -⟩ := BA.out.all
      obtain ⟨qK110, qK111, -, -⟩ := K11.out.all
      go_wp2_with fail
      refine (cright_v _ _ D _ V.length _ true _ HT.out (by omega) P11.out).mono ?_
      rintro r w11 ⟨rfl, hb⟩
      clear qBA0 qBA1 qK110 qK111
      replace BB := Lib.hid (BB.out.next hb)
      replace L := Lib.hid (below_next L.out hb)
      replace BA := Lib.hid (BA.out.next hb)
      replace ID := Lib.hid (ID.out.below hb)
      replace IV := Lib.hid (IV.out.below hb)
      replace IE := Lib.hid (IE.out.below hb)
      replace IU := Lib.hid (IU.out.below hb)
      replace P10 := Lib.hid (P10.out.below hb)
      replace Q10 := Lib.hid (Q10.out.below hb)
      replace K10 := Lib.hid (K10.out.next hb)
      replace P11 := Lib.hid (P11.out.below hb)
      replace Q11 := Lib.hid (Q11.out.below hb)
      replace K11 := Lib.hid (K11.out.next hb)
      clear hb
      go_wp2_with fail
      refine (lives_any _).mono ?_
      rintro r w12 ⟨rfl, hb⟩
      replace BB := Lib.hid (BB.out.next hb)
      replace L := Lib.hid (below_next L.out hb)
      replace BA := Lib.hid (BA.out.next hb)
      replace ID := Lib.hid (ID.out.below hb)
      replace IV := Lib.hid (IV.out.below hb)
      replace IE := Lib.hid (IE.out.below hb)
      replace IU := Lib.hid (IU.out.below hb)
      replace P10 := Lib.hid (P10.out.below hb)
      replace Q10 := Lib.hid (Q10.out.below hb)
      replace K10 := Lib.hid (K10.out.next hb)
      replace P11 := Lib.hid (P11.out.below hb)
      replace Q11 := Lib.hid (Q11.out.below hb)
      replace K11 := Lib.hid (K11.out.next hb)
      clear hb
      go_wp2
      go_ret
      exact ⟨rfl, L.out⟩
    · have z5 : (E == 0) = false := by simpa using hE0
      obtain rfl : D = [] := by rw [← HD.out]; exact (jo_n (by rw [HE.out]; exact hE0)).1
      obtain rfl : V = [] := by rw [← HV.out]; exact (jo_n (by rw [HE.out]; exact hE0)).2
      have HT := Lib.hid (show cellB [] ([] : List Int).length = false by decide)
      clear hE0
      obtain ⟨qBA0, qBA1, -, -⟩ := BA.out.all
      obtain ⟨qK110, qK111, -, -⟩ := K11.out.all
      go_wp2_with fail
      refine (cright_v A11 k11 [] B11 0 e11 false _ HT.out (by simp) (Ints.nil _ _)).mono ?_
      rintro r w11 ⟨rfl, hb⟩
      clear qBA0 qBA1 qK110 qK111
      replace BB := Lib.hid (BB.out.next hb)
      replace L := Lib.hid (below_next L.out hb)
      replace BA := Lib.hid (BA.out.next hb)
      replace ID := Lib.hid (ID.out.below hb)
      replace IV := Lib.hid (IV.out.below hb)
      replace IE := Lib.hid (IE.out.below hb)
      replace IU := Lib.hid (IU.out.below hb)
      replace P10 := Lib.hid (P10.out.below hb)
      replace Q10 := Lib.hid (Q10.out.below hb)
      replace K10 := Lib.hid (K10.out.next hb)
      replace P11 := Lib.hid (P11.out.below hb)
      replace Q11 := Lib.hid (Q11.out.below hb)
      replace K11 := Lib.hid (K11.out.next hb)
      clear hb
      go_wp2_with fail
      refine (lives_any _).mono ?_
      rintro r w12 ⟨rfl, hb⟩
      replace BB := Lib.hid (BB.out.next hb)
      replace L := Lib.hid (below_next L.out hb)
      replace BA := Lib.hid (BA.out.next hb)
      replace ID := Lib.hid (ID.out.below hb)
      replace IV := Lib.hid (IV.out.below hb)
      replace IE := Lib.hid (IE.out.below hb)
      replace IU := Lib.hid (IU.out.below hb)
      replace P10 := Lib.hid (P10.out.below hb)
      replace Q10 := Lib.hid (Q10.out.below hb)
      replace K10 := Lib.hid (K10.out.next hb)
      replace P11 := Lib.hid (P11.out.below hb)
      replace Q11 := Lib.hid (Q11.out.below hb)
      replace K11 := Lib.hid (K11.out.next hb)
      clear hb
      go_wp2
      go_ret
      exact ⟨rfl, L.out⟩
  · have z1 : decide (0 < d.length) = true := decide_eq_true (by omega)
    have HLE := Lib.hid (show LD = d by rw [← HLD.out]; unfold listedL; rw [if_neg hd0])
    have hd1 : 0 < d.length := by omega
    clear hd0
    obtain ⟨qBA0, qBA1, -, -⟩ := BA.out.all
    obtain ⟨qK100, qK101, -, -⟩ := K10.out.all
    go_wp2_with fail
    refine (rsame_x _ _ LD _ _ v _ _ d _ _ _ HLE.out (by omega) (by omega) P10.out Q10.out ID.out IV.out).mono ?_
    rintro r w10 ⟨rfl, hb⟩
    clear qBA0 qBA1 qK100 qK101
    replace BB := Lib.hid (BB.out.next hb)
    replace L := Lib.hid (below_next L.out hb)
    replace BA := Lib.hid (BA.out.next hb)
    replace ID := Lib.hid (ID.out.below hb)
    replace IV := Lib.hid (IV.out.below hb)
    replace IE := Lib.hid (IE.out.below hb)
    replace IU := Lib.hid (IU.out.below hb)
    replace P10 := Lib.hid (P10.out.below hb)
    replace Q10 := Lib.hid (Q10.out.below hb)
    replace K10 := Lib.hid (K10.out.next hb)
    clear hb
    obtain ⟨qBA0, qBA1, -, -⟩ := BA.out.all
    obtain ⟨qBB0, qBB1, -, -⟩ := BB.out.all
    go_wp2_with fail
    refine (join_w _ _ d _ _ v _ _ e _ _ u _ E D V HE.out HD.out HV.out ID.out IV.out IE.out IU.out (by omega) (by omega) (by omega) (by omega) HCD.out HCDm.out HCE.out HCEm.out).mono ?_
    rintro r w11 ⟨A11, k11, B11, e11, rfl, j1, j2, hb⟩
    clear qBA0 qBA1 qBB0 qBB1
    replace BB := Lib.hid (BB.out.next hb)
    replace L := Lib.hid (below_next L.out hb)
    replace BA := Lib.hid (BA.out.next hb)
    replace ID := Lib.hid (ID.out.below hb)
    replace IV := Lib.hid (IV.out.below hb)
    replace IE := Lib.hid (IE.out.below hb)
    replace IU := Lib.hid (IU.out.below hb)
    replace P10 := Lib.hid (P10.out.below hb)
    replace Q10 := Lib.hid (Q10.out.below hb)
    replace K10 := Lib.hid (K10.out.next hb)
    clear hb
    have P11 := Lib.hid j1
    have Q11 := Lib.hid j2
    clear j1 j2
    have KB := Lib.hid (below_new w11 (.cells #[.slice A11 D.length k11, .slice B11 V.length e11] 25))
    have K11 := Lib.hid (Box.new w11 (.slice A11 D.length k11) (.slice B11 V.length e11))
    replace BB := Lib.hid (BB.out.next KB.out)
    replace L := Lib.hid (below_next L.out KB.out)
    replace BA := Lib.hid (BA.out.next KB.out)
    replace ID := Lib.hid (ID.out.below KB.out)
    replace IV := Lib.hid (IV.out.below KB.out)
    replace IE := Lib.hid (IE.out.below KB.out)
    replace IU := Lib.hid (IU.out.below KB.out)
    replace P10 := Lib.hid (P10.out.below KB.out)
    replace Q10 := Lib.hid (Q10.out.below KB.out)
    replace K10 := Lib.hid (K10.out.next KB.out)
    replace P11 := Lib.hid (P11.out.below KB.out)
    replace Q11 := Lib.hid (Q11.out.below KB.out)
    go_upto_region 12 with (fail)
    clear KB
    generalize hW : w11.alloc (.cells #[.slice A11 D.length k11, .slice B11 V.length e11] 25) = W11 at *
    clear hW
    generalize w11.heap.size = g11 at *
    by_cases hE0 : E = 0
    · subst hE0
      have HT := Lib.hid (show cellB D V.length = true by rw [← HD.out, ← HV.out]; exact jo_right H3.out HE.out)
      by_cases he0 : e.length = 0
      · have z2 : decide (0 < e.length) = false := by simp [he0]
        clear he0
        obtain ⟨qBA0, qBA1, -, -⟩ := BA.out.all
        obtain ⟨qBB0, qBB1, -, -⟩ := BB.out.all
        obtain ⟨qK110, qK111, -, -⟩ := K11.out.all
        go_wp2_with fail
        refine (cright_v _ _ D _ V.length _ true _ HT.out (by omega) P11.out).mono ?_
        rintro r w12 ⟨rfl, hb⟩
        clear qBA0 qBA1 qBB0 qBB1 qK110 qK111
        replace BB := Lib.hid (BB.out.next hb)
        replace L := Lib.hid (below_next L.out hb)
        replace BA := Lib.hid (BA.out.next hb)
        replace ID := Lib.hid (ID.out.below hb)
        replace IV := Lib.hid (IV.out.below hb)
        replace IE := Lib.hid (IE.out.below hb)
        replace IU := Lib.hid (IU.out.below hb)
        replace P10 := Lib.hid (P10.out.below hb)
        replace Q10 := Lib.hid (Q10.out.below hb)
        replace K10 := Lib.hid (K10.out.next hb)
        replace P11 := Lib.hid (P11.out.below hb)
        replace Q11 := Lib.hid (Q11.out.below hb)
        replace K11 := Lib.hid (K11.out.next hb)
        clear hb
        go_wp2_with fail
        refine (lives_any _).mono ?_
        rintro r w13 ⟨rfl, hb⟩
        replace BB := Lib.hid (BB.out.next hb)
        replace L := Lib.hid (below_next L.out hb)
        replace BA := Lib.hid (BA.out.next hb)
        replace ID := Lib.hid (ID.out.below hb)
        replace IV := Lib.hid (IV.out.below hb)
        replace IE := Lib.hid (IE.out.below hb)
        replace IU := Lib.hid (IU.out.below hb)
        replace P10 := Lib.hid (P10.out.below hb)
        replace Q10 := Lib.hid (Q10.out.below hb)
        replace K10 := Lib.hid (K10.out.next hb)
        replace P11 := Lib.hid (P11.out.below hb)
        replace Q11 := Lib.hid (Q11.out.below hb)
        replace K11 := Lib.hid (K11.out.next hb)
        clear hb
        go_wp2
        go_ret
        exact ⟨rfl, L.out⟩
      · have z2 : decide (0 < e.length) = true := decide_eq_true (by omega)
        have z3 : ((V.length : Int) != (v.length : Int) + (u.length : Int)) = false := by
          have := jo_sum H3.out HE.out (by omega) he0
          rw [HV.out] at this
          simp; omega
        clear he0
        obtain ⟨qBA0, qBA1, -, -⟩ := BA.out.all
        obtain ⟨qBB0, qBB1, -, -⟩ := BB.out.all
        obtain ⟨qK110, qK111, -, -⟩ := K11.out.all
        go_wp2_with fail
        refine (cright_v _ _ D _ V.length _ true _ HT.out (by omega) P11.out).mono ?_
        rintro r w12 ⟨rfl, hb⟩
        clear qBA0 qBA1 qBB0 qBB1 qK110 qK111
        replace BB := Lib.hid (BB.out.next hb)
        replace L := Lib.hid (below_next L.out hb)
        replace BA := Lib.hid (BA.out.next hb)
        replace ID := Lib.hid (ID.out.below hb)
        replace IV := Lib.hid (IV.out.below hb)
        replace IE := Lib.hid (IE.out.below hb)
        replace IU := Lib.hid (IU.out.below hb)
        replace P10 := Lib.hid (P10.out.below hb)
        replace Q10 := Lib.hid (Q10.out.below hb)
        replace K10 := Lib.hid (K10.out.next hb)
        replace P11 := Lib.hid (P11.out.below hb)
        replace Q11 := Lib.hid (Q11.out.below hb)
        replace K11 := Lib.hid (K11.out.next hb)
        clear hb
        go_wp2_with fail
        refine (lives_any _).mono ?_
        rintro r w13 ⟨rfl, hb⟩
        replace BB := Lib.hid (BB.out.next hb)
        replace L := Lib.hid (below_next L.out hb)
        replace BA := Lib.hid (BA.out.next hb)
        replace ID := Lib.hid (ID.out.below hb)
        replace IV := Lib.hid (IV.out.below hb)
        replace IE := Lib.hid (IE.out.below hb)
        replace IU := Lib.hid (IU.out.below hb)
        replace P10 := Lib.hid (P10.out.below hb)
        replace Q10 := Lib.hid (Q10.out.below hb)
        replace K10 := Lib.hid (K10.out.next hb)
        replace P11 := Lib.hid (P11.out.below hb)
        replace Q11 := Lib.hid (Q11.out.below hb)
        replace K11 := Lib.hid (K11.out.next hb)
        clear hb
        go_wp2
        go_ret
        exact ⟨rfl, L.out⟩
    · have z5 : (E == 0) = false := by simpa using hE0
      obtain rfl : D = [] := by rw [← HD.out]; exact (jo_n (by rw [HE.out]; exact hE0)).1
      obtain rfl : V = [] := by rw [← HV.out]; exact (jo_n (by rw [HE.out]; exact hE0)).2
      have HT := Lib.hid (show cellB [] ([] : List Int).length = false by decide)
      clear hE0
      obtain ⟨qBA0, qBA1, -, -⟩ := BA.out.all
      obtain ⟨qK110, qK111, -, -⟩ := K11.out.all
      go_wp2_with fail
      refine (cright_v A11 k11 [] B11 0 e11 false _ HT.out (by simp) (Ints.nil _ _)).mono ?_
      rintro r w12 ⟨rfl, hb⟩
      clear qBA0 qBA1 qK110 qK111
      replace BB := Lib.hid (BB.out.next hb)
      replace L := Lib.hid (below_next L.out hb)
      replace BA := Lib.hid (BA.out.next hb)
      replace ID := Lib.hid (ID.out.below hb)
      replace IV := Lib.hid (IV.out.below hb)
      replace IE := Lib.hid (IE.out.below hb)
      replace IU := Lib.hid (IU.out.below hb)
      replace P10 := Lib.hid (P10.out.below hb)
      replace Q10 := Lib.hid (Q10.out.below hb)
      replace K10 := Lib.hid (K10.out.next hb)
      replace P11 := Lib.hid (P11.out.below hb)
      replace Q11 := Lib.hid (Q11.out.below hb)
      replace K11 := Lib.hid (K11.out.next hb)
      clear hb
      go_wp2_with fail
      refine (lives_any _).mono ?_
      rintro r w13 ⟨rfl, hb⟩
      replace BB := Lib.hid (BB.out.next hb)
      replace L := Lib.hid (below_next L.out hb)
      replace BA := Lib.hid (BA.out.next hb)
      replace ID := Lib.hid (ID.out.below hb)
      replace IV := Lib.hid (IV.out.below hb)
      replace IE := Lib.hid (IE.out.below hb)
      replace IU := Lib.hid (IU.out.below hb)
      replace P10 := Lib.hid (P10.out.below hb)
      replace Q10 := Lib.hid (Q10.out.below hb)
      replace K10 := Lib.hid (K10.out.next hb)
      replace P11 := Lib.hid (P11.out.below hb)
      replace Q11 := Lib.hid (Q11.out.below hb)
      replace K11 := Lib.hid (K11.out.next hb)
      clear hb
      go_wp2
      go_ret
      exact ⟨rfl, L.out⟩

set_option maxRecDepth 100000 in
theorem lifted (os : Os) (started : os.Started) (H : Type) (enc : TypeId × Value → H) :
    ReturnsInHanded {} Try.checked os 4 .any (Rows.moldBackSpec.pre6 enc Try.prog Try.f4 Rows.moldBackRow.domain false) (Rows.moldBackSpec.post enc Try.prog Try.f4 false true false false) := by
  refine returnsInHanded_of_change (C := Try.checked) own started (by kernel_rfl) Try.func4
    (ChangeSpec.witness6 (enc := enc) (C := Try.checked) false ⟨#[], #[.agg #[.slice none 0 0, .slice none 0 0], .agg #[.slice none 0 0, .slice none 0 0], .bool false], []⟩ 8 (by kernel_rfl) (by kernel_rfl) (by kernel_rfl) (by kernel_rfl)) ?_
  intro W base args ds gs before hval0 hW hcnd _
  have hval : ∀ (j : Nat) t v, Try.f4.params[j]? = some t → args[j]? = some v → Value.okWide Try.prog W .any base t v := hval0
  have hW' := hW
  obtain ⟨p, q, hA0, hV, rfl, hfz, hnd⟩ := hW
  have hA : DataW.TrodAll enc Try.prog W 0 (fun _ => true) true Try.f4.params.toList args.toList ds p := hA0
  rw [Try.params4] at hA hval
  obtain ⟨v0, vs0, dd0, ds0, p0, q0, hargs, rfl, rfl, h0, r0⟩ := trodAll_cons hA
  obtain ⟨v1, vs1, dd1, ds1, p1, q1, rfl, rfl, rfl, h1, r1⟩ := trodAll_cons r0
  obtain ⟨v2, vs2, dd2, ds2, p2, q2, rfl, rfl, rfl, h2, r2⟩ := trodAll_cons r1
  obtain ⟨rfl, rfl, rfl⟩ := trodAll_nil r2
  obtain rfl : args = #[v0, v1, v2] := by cases args; simp_all
  obtain ⟨rfl, rfl⟩ := trodVars_none hV
  have k0 := h0
  have lt0 : ∀ x ∈ p0, x.block < W.heap.size := by obtain ⟨m, hm⟩ := k0; exact DataW.trod_lt m _ _ _ hm
  obtain ⟨A0, c0, l0, B0, e0, m0, rfl, hl0, hm0⟩ := cell_arg (hval 0 25 v0 rfl rfl) h0
  have k1 := h1
  have lt1 : ∀ x ∈ p1, x.block < W.heap.size := by obtain ⟨m, hm⟩ := k1; exact DataW.trod_lt m _ _ _ hm
  obtain ⟨A1, c1, l1, B1, e1, m1, rfl, hl1, hm1⟩ := cell_arg (hval 1 25 v1 rfl rfl) h1
  have k2 := h2
  have lt2 : ∀ x ∈ p2, x.block < W.heap.size := by obtain ⟨m, hm⟩ := k2; exact DataW.trod_lt m _ _ _ hm
  obtain ⟨b2, rfl, _, _⟩ := open_bool Try.underlying4 (hval 2 4 v2 rfl rfl) h2
  clear hA0 hval0
  refine (walk A0 c0 l0 B0 e0 m0 A1 c1 l1 B1 e1 m1 b2 W hl0.1 hm0.1 hl1.1 hm1.1 hl0.2.1 hl0.2.2.1 hm0.2.1 hm0.2.2.1 hl1.2.1 hl1.2.2.1).mono fun e W' ⟨he, bel⟩ => ?_
  subst he
  exact ⟨_, rfl, _, _, _, [], _, [], hW', trodAll_mk1 (shut_bool Try.underlying4 _), (trodAll_cons_mk (Below.trod laidOut (by kernel_rfl) (of_decide_eq_true (by kernel_rfl)) k0 bel lt0) (trodAll_cons_mk (Below.trod laidOut (by kernel_rfl) (of_decide_eq_true (by kernel_rfl)) k1 bel lt1) (trodAll_cons_mk (Below.trod laidOut (by kernel_rfl) (of_decide_eq_true (by kernel_rfl)) k2 bel lt2) trodAll_mk0))), rfl, bel.frame _, fun h => by cases h⟩

theorem over : Rows.moldBackRow.holds Try.pinned (OpenSpec.ofChange Rows.moldBackSpec) :=
  OpenClaim.holds_of_wide 4 Try.f4 rfl rfl rfl rfl rfl rfl rfl ⟨rfl, rfl, rfl, rfl, rfl⟩ rfl rfl rfl rfl rfl (by kernel_rfl) Try.func4 (by kernel_rfl)
    (of_decide_eq_true (by kernel_rfl)) (by unfold Func.isWrapper; first | (rw [if_pos (by decide +kernel)]; kernel_rfl) | (rw [if_neg (by decide +kernel)]; exact ⟨rfl, rfl⟩))
    (fun os started H enc _ => lifted os started H enc)

theorem proved : Rows.MoldBackSaid := over
end Go.Proofs.Ytfnpdflapmbnjaa.moldBack
