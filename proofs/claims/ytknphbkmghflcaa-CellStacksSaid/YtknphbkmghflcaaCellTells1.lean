/-
  rifflelaw03.CellTells returns true for any two cells and any place that has a number. Condition: at most 10 axes and 200 numbers.
-/
import Derived.Test.YtknphbkmghflcaaCellRItem2
import Derived.Test.YtknphbkmghflcaaCellLives
import Derived.Deep.DeepCutAuto
namespace Go.Proofs.Ytknphbkmghflcaa.Sh
open Go.RowKit
set_option linter.unusedVariables false

theorem item_any (A : Option Addr) (c : Nat) (d : List Int) (B : Option Addr) (c2 : Nat) (v : List Int) (i : Int) (w : World) (hd : d.length ≤ 100) (hc : v.length ≤ c2) (hcm : c2 ≤ maxLen) (id : Ints w A d) (iv : Ints w B v) :
    Calls Try.prog 11 #[.agg #[.slice A d.length c, .slice B v.length c2], .int .i64 i] w (RetC w (itemD d v.length i) (itemV d v i) (.bool (itemB d v.length i))) := by
  by_cases h : itemB d v.length i = true
  · rw [(item_is h).1, (item_is h).2, h]
    exact item_yes A c d B c2 v i w hc hcm id iv h
  · have h' : itemB d v.length i = false := by simpa using h
    rw [(item_not h').1, (item_not h').2, h']
    exact item_no A c d B c2 v.length i w hd id h'
theorem ritem_any (A : Option Addr) (c : Nat) (d : List Int) (B : Option Addr) (c2 : Nat) (v : List Int) (i : Int) (w : World) (hd : d.length ≤ 100) (hcd : d.length ≤ c) (hcm : c ≤ maxLen) (id : Ints w A d) (iv : Ints w B v) :
    Calls Try.prog 12 #[.agg #[.slice A d.length c, .slice B v.length c2], .int .i64 i] w (RetC w (itemD d v.length i) (itemV d v i) (.bool (itemB d v.length i))) := by
  by_cases h : itemB d v.length i = true
  · rw [(item_is h).1, (item_is h).2, h]
    exact ritem_yes A c d B c2 v i w hcd hcm id iv h
  · have h' : itemB d v.length i = false := by simpa using h
    rw [(item_not h').1, (item_not h').2, h']
    exact ritem_no A c d B c2 v.length i w hd id h'
theorem itemD_len (d : List Int) (n : Nat) (i : Int) : (itemD d n i).length ≤ d.length := by unfold itemD; split <;> simp
theorem itemV_len (d v : List Int) (i : Int) : (itemV d v i).length ≤ v.length := by
  unfold itemV
  split
  · simp [piece]; omega
  · simp
theorem rsame_refl (A : Option Addr) (c : Nat) (d : List Int) (B : Option Addr) (c2 : Nat) (v : List Int) (A' : Option Addr) (c' : Nat) (B' : Option Addr) (c2' : Nat) (w : World)
    (hd : d.length ≤ 1000) (hv : v.length ≤ 1000) (id : Ints w A d) (iv : Ints w B v) (ie : Ints w A' d) (iu : Ints w B' v) :
    Calls Try.prog 16 #[.agg #[.slice A d.length c, .slice B v.length c2], .agg #[.slice A' d.length c', .slice B' v.length c2']] w fun r w' => r = .returned (.bool true) ∧ Below w.heap.size w w' := by
  refine (rsame_any A c d B c2 v A' c' d B' c2' v w (by unfold maxLen; omega) (by unfold maxLen; omega) (by unfold maxLen; omega) (by unfold maxLen; omega) id iv ie iu).mono ?_
  rintro r w' ⟨rfl, hb⟩
  exact ⟨by simp [sameB], hb⟩
section
variable (A : Option Addr) (c : Nat) (d : List Int) (B : Option Addr) (n c2 : Nat) (w : World) (cb : Bool) (hcb : cellB d n = cb) (hl : d.length ≤ maxLen) (hi : Ints w A d)
include hcb hl hi
theorem cright_b : Calls Try.prog 13 #[.agg #[.slice A d.length c, .slice B n c2]] w fun e w' => e = .returned (.bool cb) ∧ Below w.heap.size w w' := by
  rw [← hcb]; exact cright_any A c d B n c2 w hl hi
theorem rright_b : Calls Try.prog 14 #[.agg #[.slice A d.length c, .slice B n c2]] w fun e w' => e = .returned (.bool cb) ∧ Below w.heap.size w w' := by
  rw [← hcb]; exact rright_any A c d B n c2 w hl hi
end
section
variable (A : Option Addr) (c : Nat) (d : List Int) (B : Option Addr) (c2 : Nat) (v : List Int) (A' : Option Addr) (c' : Nat) (e : List Int) (B' : Option Addr) (c2' : Nat) (u : List Int) (w : World) (sb : Bool) (hsb : sameB d v e u = sb)
    (hd : d.length ≤ maxLen) (hv : v.length ≤ maxLen) (he : e.length ≤ maxLen) (hu : u.length ≤ maxLen) (id : Ints w A d) (iv : Ints w B v) (ie : Ints w A' e) (iu : Ints w B' u)
include hsb hd hv he hu id iv ie iu
theorem csame_b : Calls Try.prog 15 #[.agg #[.slice A d.length c, .slice B v.length c2], .agg #[.slice A' e.length c', .slice B' u.length c2']] w fun r w' => r = .returned (.bool sb) ∧ Below w.heap.size w w' := by
  rw [← hsb]; exact csame_any A c d B c2 v A' c' e B' c2' u w hd hv he hu id iv ie iu
theorem rsame_b : Calls Try.prog 16 #[.agg #[.slice A d.length c, .slice B v.length c2], .agg #[.slice A' e.length c', .slice B' u.length c2']] w fun r w' => r = .returned (.bool sb) ∧ Below w.heap.size w w' := by
  rw [← hsb]; exact rsame_any A c d B c2 v A' c' e B' c2' u w hd hv he hu id iv ie iu
end
/-- Four boxes of cells stay as they are. -/
theorem keepS {W w1 : World} {g0 g1 g2 g3 : Nat} {x0 y0 x1 y1 x2 y2 x3 y3 : Value} (hb : Below W.heap.size W w1)
    (h : W.cell? ⟨g0, 0, none⟩ = some x0 ∧ W.cell? ⟨g0, 1, none⟩ = some y0 ∧ W.cell? ⟨g1, 0, none⟩ = some x1 ∧ W.cell? ⟨g1, 1, none⟩ = some y1 ∧ W.cell? ⟨g2, 0, none⟩ = some x2 ∧ W.cell? ⟨g2, 1, none⟩ = some y2 ∧ W.cell? ⟨g3, 0, none⟩ = some x3 ∧ W.cell? ⟨g3, 1, none⟩ = some y3) :
    w1.cell? ⟨g0, 0, none⟩ = some x0 ∧ w1.cell? ⟨g0, 1, none⟩ = some y0 ∧ w1.cell? ⟨g1, 0, none⟩ = some x1 ∧ w1.cell? ⟨g1, 1, none⟩ = some y1 ∧ w1.cell? ⟨g2, 0, none⟩ = some x2 ∧ w1.cell? ⟨g2, 1, none⟩ = some y2 ∧ w1.cell? ⟨g3, 0, none⟩ = some x3 ∧ w1.cell? ⟨g3, 1, none⟩ = some y3 := by
  obtain ⟨h0, h1, h2, h3, h4, h5, h6, h7⟩ := h
  have k0 := keepC hb ⟨h0, h1⟩
  have k1 := keepC hb ⟨h2, h3⟩
  have k2 := keepC hb ⟨h4, h5⟩
  have k3 := keepC hb ⟨h6, h7⟩
  exact ⟨k0.1, k0.2, k1.1, k1.2, k2.1, k2.2, k3.1, k3.2⟩

set_option maxHeartbeats 6400000 in
set_option maxRecDepth 100000 in
theorem tells_some (A : Option Addr) (c : Nat) (d : List Int) (B : Option Addr) (c2 : Nat) (v : List Int) (A' : Option Addr) (c' : Nat) (e : List Int) (B' : Option Addr) (c2' : Nat) (u : List Int) (C : Option Addr) (c3 : Nat) (p : List Int) (w : World)
    (hd : d.length ≤ 10) (hv : v.length ≤ 200) (he : e.length ≤ 10) (hu : u.length ≤ 200) (hp : p.length ≤ 10) (hcd : d.length ≤ c) (hcm : c ≤ maxLen) (hcv : v.length ≤ c2) (hcm2 : c2 ≤ maxLen)
    (id : Ints w A d) (iv : Ints w B v) (ie : Ints w A' e) (iu : Ints w B' u) (ip : Ints w C p) (hpp : 0 < p.length) :
    Calls Try.prog 3 #[.agg #[.slice A d.length c, .slice B v.length c2], .agg #[.slice A' e.length c', .slice B' u.length c2'], .slice C p.length c3] w fun r w' => r = .returned (.bool true) ∧ Below w.heap.size w w' := by
  have hS0 := (Box.new w (.slice A d.length c) (.slice B v.length c2)).alloc (.cells #[.slice A' e.length c', .slice B' u.length c2'] 25)
  have hS1 := Box.new (w.alloc (.cells #[.slice A d.length c, .slice B v.length c2] 25)) (.slice A' e.length c') (.slice B' u.length c2')
  rw [show (w.alloc (.cells #[.slice A d.length c, .slice B v.length c2] 25)).heap.size = w.heap.size + 1 from by simp] at hS1
  have C0 := Lib.hid hS0
  have D0 := Lib.hid hS1
  have L0 := Lib.hid (below_box (below_box (Below.refl ((w.alloc (.cells #[.slice A d.length c, .slice B v.length c2] 25)).alloc (.cells #[.slice A' e.length c', .slice B' u.length c2'] 25)).heap.size _)))
  have ID := Lib.hid id
  have IV := Lib.hid iv
  have IE := Lib.hid ie
  have IU := Lib.hid iu
  have IP := Lib.hid ip
  have HCM := Lib.hid hcm
  have HCM2 := Lib.hid hcm2
  clear hS0 hS1 id iv ie iu ip hcm hcm2
  go_enter Try.func3, Try.ntmps3
  go_wp2_with fail
  refine (great_no _ _ _ _ _ _ _ hd hv).mono ?_
  rintro r w1 ⟨rfl, hb1⟩
  have C1 := Lib.hid (C0.out.next hb1)
  have D1 := Lib.hid (D0.out.next hb1)
  have L1 := Lib.hid (below_next L0.out hb1)
  obtain ⟨q0, q1, _, _⟩ := D1.out.all
  clear hb1 C0 D0 L0
  go_wp2_with fail
  refine (great_no _ _ _ _ _ _ _ he hu).mono ?_
  rintro r w2 ⟨rfl, hb2⟩
  have C2 := Lib.hid (C1.out.next hb2)
  have D2 := Lib.hid (D1.out.next hb2)
  have L2 := Lib.hid (below_next L1.out hb2)
  obtain ⟨q0, q1, _, _⟩ := C2.out.all
  clear hb2 C1 D1 L1
  go_wp2_with fail
  refine (cat_any _ _ d _ _ v _ _ p _ (by unfold maxLen; omega) (by unfold maxLen; omega) (by unfold maxLen; omega) (ID.out.below L2.out) (IV.out.below L2.out) (IP.out.below L2.out)).mono ?_
  rintro r w3 ⟨rfl, hb3⟩
  have C3 := Lib.hid (C2.out.next hb3)
  have D3 := Lib.hid (D2.out.next hb3)
  have L3 := Lib.hid (below_next L2.out hb3)
  obtain ⟨q0, q1, _, _⟩ := C3.out.all
  clear hb3 C2 D2 L2
  go_wp2_with fail
  refine (rat_any _ _ d _ _ v _ _ p _ (by unfold maxLen; omega) (by unfold maxLen; omega) (by unfold maxLen; omega) (ID.out.below L3.out) (IV.out.below L3.out) (IP.out.below L3.out)).mono ?_
  rintro r w4 ⟨rfl, hb4⟩
  have C4 := Lib.hid (C3.out.next hb4)
  have D4 := Lib.hid (D3.out.next hb4)
  have L4 := Lib.hid (below_next L3.out hb4)
  obtain ⟨q0, q1, _, _⟩ := C4.out.all
  clear hb4 C3 D3 L3
  generalize atI d v p = ai at *
  generalize atB d v p = ab at *
  obtain ⟨bp, op, rfl, hbp, hcp⟩ := IP.out.below L4.out hpp
  have hp0 : w4.cell? ⟨bp, op, none⟩ = some (.int .i64 (p.getD 0 0)) := hcp 0 hpp
  have hpi : (0 : Int) < (p.length : Int) := by omega
  clear hcp
  generalize p.getD 0 0 = pi at *
  go_wp2_with fail
  refine (item_any _ _ d _ _ v _ _ (by omega) hcv HCM2.out (ID.out.below L4.out) (IV.out.below L4.out)).mono ?_
  rintro r w5 ⟨x, rfl, ⟨A7, c7, B7, e7, rfl, j1, j2, j3⟩, hb5⟩
  have C5 := Lib.hid ((C4.out.next hb5).alloc (.cells #[.slice A7 (itemD d v.length pi).length c7, .slice B7 (itemV d v pi).length e7] 25))
  have D5 := Lib.hid ((D4.out.next hb5).alloc (.cells #[.slice A7 (itemD d v.length pi).length c7, .slice B7 (itemV d v pi).length e7] 25))
  have E5 := Lib.hid (Box.new w5 (.slice A7 (itemD d v.length pi).length c7) (.slice B7 (itemV d v pi).length e7))
  have L5 := Lib.hid ((below_next L4.out hb5).alloc (below_next L4.out hb5).size (.cells #[.slice A7 (itemD d v.length pi).length c7, .slice B7 (itemV d v pi).length e7] 25))
  have P5 := Lib.hid (j1.alloc (.cells #[.slice A7 (itemD d v.length pi).length c7, .slice B7 (itemV d v pi).length e7] 25)).ints
  have Q5 := Lib.hid (j2.alloc (.cells #[.slice A7 (itemD d v.length pi).length c7, .slice B7 (itemV d v pi).length e7] 25)).ints
  clear hb5 j1 j2 j3 C4 D4 L4
  go_upto_region 9 with (fail)
  generalize w5.alloc (.cells #[.slice A7 (itemD d v.length pi).length c7, .slice B7 (itemV d v pi).length e7] 25) = W5 at *
  generalize w5.heap.size = g2 at *
  obtain ⟨q0, q1, _, _⟩ := C5.out.all
  go_wp2_with fail
  refine (ritem_any _ _ d _ _ v _ _ (by omega) hcd HCM.out (ID.out.below L5.out) (IV.out.below L5.out)).mono ?_
  rintro r w6 ⟨x, rfl, ⟨A8, c8, B8, e8, rfl, j1, j2, j3⟩, hb6⟩
  have C6 := Lib.hid ((C5.out.next hb6).alloc (.cells #[.slice A8 (itemD d v.length pi).length c8, .slice B8 (itemV d v pi).length e8] 25))
  have D6 := Lib.hid ((D5.out.next hb6).alloc (.cells #[.slice A8 (itemD d v.length pi).length c8, .slice B8 (itemV d v pi).length e8] 25))
  have E6 := Lib.hid ((E5.out.next hb6).alloc (.cells #[.slice A8 (itemD d v.length pi).length c8, .slice B8 (itemV d v pi).length e8] 25))
  have F6 := Lib.hid (Box.new w6 (.slice A8 (itemD d v.length pi).length c8) (.slice B8 (itemV d v pi).length e8))
  have L6 := Lib.hid ((below_next L5.out hb6).alloc (below_next L5.out hb6).size (.cells #[.slice A8 (itemD d v.length pi).length c8, .slice B8 (itemV d v pi).length e8] 25))
  have P6 := Lib.hid (j1.alloc (.cells #[.slice A8 (itemD d v.length pi).length c8, .slice B8 (itemV d v pi).length e8] 25)).ints
  have Q6 := Lib.hid (j2.alloc (.cells #[.slice A8 (itemD d v.length pi).length c8, .slice B8 (itemV d v pi).length e8] 25)).ints
  have P56 := Lib.hid ((P5.out.below hb6).below (below_box (Below.refl (w6.alloc (.cells #[.slice A8 (itemD d v.length pi).length c8, .slice B8 (itemV d v pi).length e8] 25)).heap.size _)))
  have Q56 := Lib.hid ((Q5.out.below hb6).below (below_box (Below.refl (w6.alloc (.cells #[.slice A8 (itemD d v.length pi).length c8, .slice B8 (itemV d v pi).length e8] 25)).heap.size _)))
  have hDl := Nat.le_trans (itemD_len d v.length pi) hd
  have hVl := Nat.le_trans (itemV_len d v pi) hv
  clear hb6 j1 j2 j3 C5 D5 E5 L5 P5 Q5
  go_upto_region 10 with (fail)
  generalize w6.alloc (.cells #[.slice A8 (itemD d v.length pi).length c8, .slice B8 (itemV d v pi).length e8] 25) = W6 at *
  generalize w6.heap.size = g3 at *
  generalize itemB d v.length pi = ib at *
  generalize itemD d v.length pi = iD at *
  generalize itemV d v pi = iV at *
  obtain ⟨a0, a1, _, _⟩ := C6.out.all
  obtain ⟨a2, a3, _, _⟩ := D6.out.all
  obtain ⟨a4, a5, _, _⟩ := E6.out.all
  obtain ⟨a6, a7, _, _⟩ := F6.out.all
  have id0 := ID.out.below L6.out
  have iv0 := IV.out.below L6.out
  have ie0 := IE.out.below L6.out
  have iu0 := IU.out.below L6.out
  have ip0 := P56.out
  have iq0 := Q56.out
  have ir0 := P6.out
  have is0 := Q6.out
  generalize w.heap.size + 1 = g1 at *
  generalize hg0 : w.heap.size = g0 at *
  have HG0 := Lib.hid hg0
  clear hg0
  rw [← HG0.out] at L6
  clear C6 D6 E6 F6 P56 Q56 P6 Q6
  have hdm : d.length ≤ maxLen := by unfold maxLen; omega
  have hvm : v.length ≤ maxLen := by unfold maxLen; omega
  have hem : e.length ≤ maxLen := by unfold maxLen; omega
  have hum : u.length ≤ maxLen := by unfold maxLen; omega
  have hDl2 : iD.length ≤ 1000 := by omega
  have hVl2 : iV.length ≤ 1000 := by omega
  obtain ⟨cb, hcb⟩ : ∃ cb, cellB d v.length = cb := ⟨_, rfl⟩
  obtain ⟨sb, hsb⟩ : ∃ sb, sameB d v e u = sb := ⟨_, rfl⟩
  have HCB := Lib.hid hcb
  have HSB := Lib.hid hsb
  clear hcb hsb
  go_region_held3 (fun w' => w'.cell? ⟨g0, 0, none⟩ = some (.slice A d.length c) ∧ w'.cell? ⟨g0, 1, none⟩ = some (.slice B v.length c2) ∧ w'.cell? ⟨g1, 0, none⟩ = some (.slice A' e.length c') ∧ w'.cell? ⟨g1, 1, none⟩ = some (.slice B' u.length c2') ∧ w'.cell? ⟨g2, 0, none⟩ = some (.slice A7 iD.length c7) ∧ w'.cell? ⟨g2, 1, none⟩ = some (.slice B7 iV.length e7) ∧ w'.cell? ⟨g3, 0, none⟩ = some (.slice A8 iD.length c8) ∧ w'.cell? ⟨g3, 1, none⟩ = some (.slice B8 iV.length e8))
    (first
      | go_keep
      | exact ⟨a0, a1, a2, a3, a4, a5, a6, a7⟩
      | exact keepS hb1 (by go_keep)
      | exact keepS hb2 (by go_keep)
      | exact keepS hb3 (by go_keep)
      | exact keepS hb4 (by go_keep)
      | exact keepS hb5 (by go_keep)
      | exact keepS hb6 (by go_keep))
    (first
      | (go_at_call 13; refine (cright_b A _ d _ _ _ _ cb HCB.out (by unfold maxLen; omega) (by exact id0)).mono ?_; rintro r w1 ⟨rfl, hb1⟩; have id1 := Ints.below (A := A) (l := d) (by exact id0) hb1; have iv1 := Ints.below (A := B) (l := v) (by exact iv0) hb1; have ie1 := Ints.below (A := A') (l := e) (by exact ie0) hb1; have iu1 := Ints.below (A := B') (l := u) (by exact iu0) hb1; have ip1 := Ints.below (A := A7) (l := iD) (by exact ip0) hb1; have iq1 := Ints.below (A := B7) (l := iV) (by exact iq0) hb1; have ir1 := Ints.below (A := A8) (l := iD) (by exact ir0) hb1; have is1 := Ints.below (A := B8) (l := iV) (by exact is0) hb1; have M1 := Lib.hid (Go.Proofs.Ytknphbkmghflcaa.Sh.below_next (a := w) (by first | exact L6.out | exact L6.out.drew | exact below_drewN L6.out _) hb1))
      | (go_at_call 14; refine (rright_b A _ d _ _ _ _ cb HCB.out (by unfold maxLen; omega) (by exact id1)).mono ?_; rintro r w2 ⟨rfl, hb2⟩; have id2 := Ints.below (A := A) (l := d) (by exact id1) hb2; have iv2 := Ints.below (A := B) (l := v) (by exact iv1) hb2; have ie2 := Ints.below (A := A') (l := e) (by exact ie1) hb2; have iu2 := Ints.below (A := B') (l := u) (by exact iu1) hb2; have ip2 := Ints.below (A := A7) (l := iD) (by exact ip1) hb2; have iq2 := Ints.below (A := B7) (l := iV) (by exact iq1) hb2; have ir2 := Ints.below (A := A8) (l := iD) (by exact ir1) hb2; have is2 := Ints.below (A := B8) (l := iV) (by exact is1) hb2; have M2 := Lib.hid (Go.Proofs.Ytknphbkmghflcaa.Sh.below_next (a := w) (by first | exact M1.out | exact M1.out.drew | exact below_drewN M1.out _) hb2))
      | (go_at_call 15; refine (csame_b A _ d B _ v A' _ e B' _ u _ sb HSB.out (by unfold maxLen; omega) (by unfold maxLen; omega) (by unfold maxLen; omega) (by unfold maxLen; omega) (by exact id2) (by exact iv2) (by exact ie2) (by exact iu2)).mono ?_; rintro r w3 ⟨rfl, hb3⟩; have id3 := Ints.below (A := A) (l := d) (by exact id2) hb3; have iv3 := Ints.below (A := B) (l := v) (by exact iv2) hb3; have ie3 := Ints.below (A := A') (l := e) (by exact ie2) hb3; have iu3 := Ints.below (A := B') (l := u) (by exact iu2) hb3; have ip3 := Ints.below (A := A7) (l := iD) (by exact ip2) hb3; have iq3 := Ints.below (A := B7) (l := iV) (by exact iq2) hb3; have ir3 := Ints.below (A := A8) (l := iD) (by exact ir2) hb3; have is3 := Ints.below (A := B8) (l := iV) (by exact is2) hb3; have M3 := Lib.hid (Go.Proofs.Ytknphbkmghflcaa.Sh.below_next (a := w) (by first | exact M2.out | exact M2.out.drew | exact below_drewN M2.out _) hb3))
      | (go_at_call 16; (with_reducible refine (rsame_b A _ d B _ v A' _ e B' _ u _ sb HSB.out hdm hvm hem hum id3 iv3 ie3 iu3).mono ?_); rintro r w4 ⟨rfl, hb4⟩; have id4 := Ints.below (A := A) (l := d) (by exact id3) hb4; have iv4 := Ints.below (A := B) (l := v) (by exact iv3) hb4; have ie4 := Ints.below (A := A') (l := e) (by exact ie3) hb4; have iu4 := Ints.below (A := B') (l := u) (by exact iu3) hb4; have ip4 := Ints.below (A := A7) (l := iD) (by exact ip3) hb4; have iq4 := Ints.below (A := B7) (l := iV) (by exact iq3) hb4; have ir4 := Ints.below (A := A8) (l := iD) (by exact ir3) hb4; have is4 := Ints.below (A := B8) (l := iV) (by exact is3) hb4; have M4 := Lib.hid (Go.Proofs.Ytknphbkmghflcaa.Sh.below_next (a := w) (by first | exact M3.out | exact M3.out.drew | exact below_drewN M3.out _) hb4))
      | (go_at_call 16; (with_reducible refine (rsame_refl A7 _ iD B7 _ iV A8 _ B8 _ _ hDl2 hVl2 ip4 iq4 ir4 is4).mono ?_); rintro r w5 ⟨rfl, hb5⟩; have M5 := Lib.hid (Go.Proofs.Ytknphbkmghflcaa.Sh.below_next (a := w) (by first | exact M4.out | exact M4.out.drew | exact below_drewN M4.out _) hb5))
      | (go_at_call 8; refine (lives_any _).mono ?_; rintro r w6 ⟨rfl, hb6⟩; have M6 := Lib.hid (Go.Proofs.Ytknphbkmghflcaa.Sh.below_next (a := w) (by first | exact M5.out | exact M5.out.drew | exact below_drewN M5.out _) hb6)))
  go_wp2
  go_ret
  exact ⟨ret_bool (by first | rfl | simp), by first | exact M6.out | exact M6.out.drew | exact below_drewN M6.out _⟩
end Go.Proofs.Ytknphbkmghflcaa.Sh
