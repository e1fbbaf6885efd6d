/-
  Proved: for any two cells and any place rifflelaw03.CellTells returns true, and each argument reads afterwards as it read before. No condition.
-/
import Derived.Test.YtknphbkmghflcaaRows
import Derived.Test.YtknphbkmghflcaaShapeRow
import Derived.Test.YtknphbkmghflcaaCellTells1
import Derived.Lib.SmallJoins
import Derived.WalkKit
import Derived.ProofKit
import Derived.OpenShut
import Derived.ChangeOld
import Derived.Below
namespace Go.Proofs.Ytknphbkmghflcaa.cellTells
open Go.Proofs.Ytknphbkmghflcaa.Sh
open Go.Joins Go.ChangeShapes Go.WideShapes Go.ChangeAt Go.RowKit Go.Deep
set_option linter.unusedVariables false

theorem own : ownKnob Try.prog.godebug = none := by kernel_rfl
theorem laidOut : laidOutB Try.prog = true := by kernel_rfl

set_option maxHeartbeats 6400000 in
set_option maxRecDepth 100000 in
theorem tells_none (A : Option Addr) (c : Nat) (d : List Int) (B : Option Addr) (c2 : Nat) (v : List Int) (A' : Option Addr) (c' : Nat) (e : List Int) (B' : Option Addr) (c2' : Nat) (u : List Int) (C : Option Addr) (c3 : Nat) (p : List Int) (w : World)
    (hd : d.length ≤ 10) (hv : v.length ≤ 200) (he : e.length ≤ 10) (hu : u.length ≤ 200) (hp : p.length ≤ 10) (hcd : d.length ≤ c) (hcm : c ≤ maxLen) (hcv : v.length ≤ c2) (hcm2 : c2 ≤ maxLen)
    (id : Ints w A d) (iv : Ints w B v) (ie : Ints w A' e) (iu : Ints w B' u) (ip : Ints w C p) (hpp : p.length = 0) :
    Calls Try.prog 3 #[.agg #[.slice A d.length c, .slice B v.length c2], .agg #[.slice A' e.length c', .slice B' u.length c2'], .slice C p.length c3] w fun r w' => r = .returned (.bool true) ∧ Below w.heap.size w w' := by
  obtain rfl : p = [] := List.eq_nil_of_length_eq_zero hpp
  clear hpp hp
  have hS0 := (Box.new w (.slice A d.length c) (.slice B v.length c2)).alloc (.cells #[.slice A' e.length c', .slice B' u.length c2'] 25)
  have hS1 := Box.new (w.alloc (.cells #[.slice A d.length c, .slice B v.length c2] 25)) (.slice A' e.length c') (.slice B' u.length c2')
  rw [show (w.alloc (.cells #[.slice A d.length c, .slice B v.length c2] 25)).heap.size = w.heap.size + 1 from by simp] at hS1
  have C0 := Lib.hid hS0
  have D0 := Lib.hid hS1
  have L0 := Lib.hid (below_box (below_box (Below.refl ((w.alloc (.cells #[.slice A d.length c, .slice B v.length c2] 25)).alloc (.cells #[.slice A' e.length c', .slice B' u.length c2'] 25)).heap.size _)))
  have ID := Lib.hid id
  have IV := Lib.hid iv
  have IE := Lib.hid ie
  have IU := Lib.hid iu
  have IP := Lib.hid ip
  have HCM := Lib.hid hcm
  have HCM2 := Lib.hid hcm2
  clear hS0 hS1 id iv ie iu ip hcm hcm2
  go_enter Try.func3, Try.ntmps3
  go_wp2_with fail
  refine (great_no _ _ _ _ _ _ _ hd hv).mono ?_
  rintro r w1 ⟨rfl, hb1⟩
  have C1 := Lib.hid (C0.out.next hb1)
  have D1 := Lib.hid (D0.out.next hb1)
  have L1 := Lib.hid (below_next L0.out hb1)
  obtain ⟨q0, q1, _, _⟩ := D1.out.all
  clear hb1 C0 D0 L0
  go_wp2_with fail
  refine (great_no _ _ _ _ _ _ _ he hu).mono ?_
  rintro r w2 ⟨rfl, hb2⟩
  have C2 := Lib.hid (C1.out.next hb2)
  have D2 := Lib.hid (D1.out.next hb2)
  have L2 := Lib.hid (below_next L1.out hb2)
  obtain ⟨q0, q1, _, _⟩ := C2.out.all
  clear hb2 C1 D1 L1
  go_wp2_with fail
  refine (cat_any _ _ d _ _ v _ _ [] _ (by unfold maxLen; omega) (by unfold maxLen; omega) (by simp) (ID.out.below L2.out) (IV.out.below L2.out) (IP.out.below L2.out)).mono ?_
  rintro r w3 ⟨rfl, hb3⟩
  have C3 := Lib.hid (C2.out.next hb3)
  have D3 := Lib.hid (D2.out.next hb3)
  have L3 := Lib.hid (below_next L2.out hb3)
  obtain ⟨q0, q1, _, _⟩ := C3.out.all
  clear hb3 C2 D2 L2
  go_wp2_with fail
  refine (rat_any _ _ d _ _ v _ _ [] _ (by unfold maxLen; omega) (by unfold maxLen; omega) (by simp) (ID.out.below L3.out) (IV.out.below L3.out) (IP.out.below L3.out)).mono ?_
  rintro r w4 ⟨rfl, hb4⟩
  have C4 := Lib.hid (C3.out.next hb4)
  have D4 := Lib.hid (D3.out.next hb4)
  have L4 := Lib.hid (below_next L3.out hb4)
  obtain ⟨q0, q1, _, _⟩ := C4.out.all
  clear hb4 C3 D3 L3
  generalize atI d v [] = ai at *
  generalize atB d v [] = ab at *

  go_wp2_with fail
  refine (item_any _ _ d _ _ v _ _ (by omega) hcv HCM2.out (ID.out.below L4.out) (IV.out.below L4.out)).mono ?_
  rintro r w5 ⟨x, rfl, ⟨A7, c7, B7, e7, rfl, j1, j2, j3⟩, hb5⟩
  have C5 := Lib.hid ((C4.out.next hb5).alloc (.cells #[.slice A7 (itemD d v.length 0).length c7, .slice B7 (itemV d v 0).length e7] 25))
  have D5 := Lib.hid ((D4.out.next hb5).alloc (.cells #[.slice A7 (itemD d v.length 0).length c7, .slice B7 (itemV d v 0).length e7] 25))
  have E5 := Lib.hid (Box.new w5 (.slice A7 (itemD d v.length 0).length c7) (.slice B7 (itemV d v 0).length e7))
  have L5 := Lib.hid ((below_next L4.out hb5).alloc (below_next L4.out hb5).size (.cells #[.slice A7 (itemD d v.length 0).length c7, .slice B7 (itemV d v 0).length e7] 25))
  have P5 := Lib.hid (j1.alloc (.cells #[.slice A7 (itemD d v.length 0).length c7, .slice B7 (itemV d v 0).length e7] 25)).ints
  have Q5 := Lib.hid (j2.alloc (.cells #[.slice A7 (itemD d v.length 0).length c7, .slice B7 (itemV d v 0).length e7] 25)).ints
  clear hb5 j1 j2 j3 C4 D4 L4
  go_upto_region 9 with (fail)
  generalize w5.alloc (.cells #[.slice A7 (itemD d v.length 0).length c7, .slice B7 (itemV d v 0).length e7] 25) = W5 at *
  generalize w5.heap.size = g2 at *
  obtain ⟨q0, q1, _, _⟩ := C5.out.all
  go_wp2_with fail
  refine (ritem_any _ _ d _ _ v _ _ (by omega) hcd HCM.out (ID.out.below L5.out) (IV.out.below L5.out)).mono ?_
  rintro r w6 ⟨x, rfl, ⟨A8, c8, B8, e8, rfl, j1, j2, j3⟩, hb6⟩
  have C6 := Lib.hid ((C5.out.next hb6).alloc (.cells #[.slice A8 (itemD d v.length 0).length c8, .slice B8 (itemV d v 0).length e8] 25))
  have D6 := Lib.hid ((D5.out.next hb6).alloc (.cells #[.slice A8 (itemD d v.length 0).length c8, .slice B8 (itemV d v 0).length e8] 25))
  have E6 := Lib.hid ((E5.out.next hb6).alloc (.cells #[.slice A8 (itemD d v.length 0).length c8, .slice B8 (itemV d v 0).length e8] 25))
  have F6 := Lib.hid (Box.new w6 (.slice A8 (itemD d v.length 0).length c8) (.slice B8 (itemV d v 0).length e8))
  have L6 := Lib.hid ((below_next L5.out hb6).alloc (below_next L5.out hb6).size (.cells #[.slice A8 (itemD d v.length 0).length c8, .slice B8 (itemV d v 0).length e8] 25))
  have P6 := Lib.hid (j1.alloc (.cells #[.slice A8 (itemD d v.length 0).length c8, .slice B8 (itemV d v 0).length e8] 25)).ints
  have Q6 := Lib.hid (j2.alloc (.cells #[.slice A8 (itemD d v.length 0).length c8, .slice B8 (itemV d v 0).length e8] 25)).ints
  have P56 := Lib.hid ((P5.out.below hb6).below (below_box (Below.refl (w6.alloc (.cells #[.slice A8 (itemD d v.length 0).length c8, .slice B8 (itemV d v 0).length e8] 25)).heap.size _)))
  have Q56 := Lib.hid ((Q5.out.below hb6).below (below_box (Below.refl (w6.alloc (.cells #[.slice A8 (itemD d v.length 0).length c8, .slice B8 (itemV d v 0).length e8] 25)).heap.size _)))
  have hDl := Nat.le_trans (itemD_len d v.length 0) hd
  have hVl := Nat.le_trans (itemV_len d v 0) hv
  clear hb6 j1 j2 j3 C5 D5 E5 L5 P5 Q5
  go_upto_region 10 with (fail)
  generalize w6.alloc (.cells #[.slice A8 (itemD d v.length 0).length c8, .slice B8 (itemV d v 0).length e8] 25) = W6 at *
  generalize w6.heap.size = g3 at *
  generalize itemB d v.length 0 = ib at *
  generalize itemD d v.length 0 = iD at *
  generalize itemV d v 0 = iV at *
  obtain ⟨a0, a1, _, _⟩ := C6.out.all
  obtain ⟨a2, a3, _, _⟩ := D6.out.all
  obtain ⟨a4, a5, _, _⟩ := E6.out.all
  obtain ⟨a6, a7, _, _⟩ := F6.out.all
  have id0 := ID.out.below L6.out
  have iv0 := IV.out.below L6.out
  have ie0 := IE.out.below L6.out
  have iu0 := IU.out.below L6.out
  have ip0 := P56.out
  have iq0 := Q56.out
  have ir0 := P6.out
  have is0 := Q6.out
  generalize w.heap.size + 1 = g1 at *
  generalize hg0 : w.heap.size = g0 at *
  have HG0 := Lib.hid hg0
  clear hg0
  rw [← HG0.out] at L6
  clear C6 D6 E6 F6 P56 Q56 P6 Q6
  have hdm : d.length ≤ maxLen := by unfold maxLen; omega
  have hvm : v.length ≤ maxLen := by unfold maxLen; omega
  have hem : e.length ≤ maxLen := by unfold maxLen; omega
  have hum : u.length ≤ maxLen := by unfold maxLen; omega
  have hDl2 : iD.length ≤ 1000 := by omega
  have hVl2 : iV.length ≤ 1000 := by omega
  obtain ⟨cb, hcb⟩ : ∃ cb, cellB d v.length = cb := ⟨_, rfl⟩
  obtain ⟨sb, hsb⟩ : ∃ sb, sameB d v e u = sb := ⟨_, rfl⟩
  have HCB := Lib.hid hcb
  have HSB := Lib.hid hsb
  clear hcb hsb
  go_region_held3 (fun w' => w'.cell? ⟨g0, 0, none⟩ = some (.slice A d.length c) ∧ w'.cell? ⟨g0, 1, none⟩ = some (.slice B v.length c2) ∧ w'.cell? ⟨g1, 0, none⟩ = some (.slice A' e.length c') ∧ w'.cell? ⟨g1, 1, none⟩ = some (.slice B' u.length c2') ∧ w'.cell? ⟨g2, 0, none⟩ = some (.slice A7 iD.length c7) ∧ w'.cell? ⟨g2, 1, none⟩ = some (.slice B7 iV.length e7) ∧ w'.cell? ⟨g3, 0, none⟩ = some (.slice A8 iD.length c8) ∧ w'.cell? ⟨g3, 1, none⟩ = some (.slice B8 iV.length e8))
    (first
      | go_keep
      | exact ⟨a0, a1, a2, a3, a4, a5, a6, a7⟩
      | exact keepS hb1 (by go_keep)
      | exact keepS hb2 (by go_keep)
      | exact keepS hb3 (by go_keep)
      | exact keepS hb4 (by go_keep)
      | exact keepS hb5 (by go_keep)
      | exact keepS hb6 (by go_keep))
    (first
      | (go_at_call 13; refine (cright_b A _ d _ _ _ _ cb HCB.out (by unfold maxLen; omega) (by exact id0)).mono ?_; rintro r w1 ⟨rfl, hb1⟩; have id1 := Ints.below (A := A) (l := d) (by exact id0) hb1; have iv1 := Ints.below (A := B) (l := v) (by exact iv0) hb1; have ie1 := Ints.below (A := A') (l := e) (by exact ie0) hb1; have iu1 := Ints.below (A := B') (l := u) (by exact iu0) hb1; have ip1 := Ints.below (A := A7) (l := iD) (by exact ip0) hb1; have iq1 := Ints.below (A := B7) (l := iV) (by exact iq0) hb1; have ir1 := Ints.below (A := A8) (l := iD) (by exact ir0) hb1; have is1 := Ints.below (A := B8) (l := iV) (by exact is0) hb1; have M1 := Lib.hid (Go.Proofs.Ytknphbkmghflcaa.Sh.below_next (a := w) (by first | exact L6.out | exact L6.out.drew | exact below_drewN L6.out _) hb1))
      | (go_at_call 14; refine (rright_b A _ d _ _ _ _ cb HCB.out (by unfold maxLen; omega) (by exact id1)).mono ?_; rintro r w2 ⟨rfl, hb2⟩; have id2 := Ints.below (A := A) (l := d) (by exact id1) hb2; have iv2 := Ints.below (A := B) (l := v) (by exact iv1) hb2; have ie2 := Ints.below (A := A') (l := e) (by exact ie1) hb2; have iu2 := Ints.below (A := B') (l := u) (by exact iu1) hb2; have ip2 := Ints.below (A := A7) (l := iD) (by exact ip1) hb2; have iq2 := Ints.below (A := B7) (l := iV) (by exact iq1) hb2; have ir2 := Ints.below (A := A8) (l := iD) (by exact ir1) hb2; have is2 := Ints.below (A := B8) (l := iV) (by exact is1) hb2; have M2 := Lib.hid (Go.Proofs.Ytknphbkmghflcaa.Sh.below_next (a := w) (by first | exact M1.out | exact M1.out.drew | exact below_drewN M1.out _) hb2))
      | (go_at_call 15; refine (csame_b A _ d B _ v A' _ e B' _ u _ sb HSB.out (by unfold maxLen; omega) (by unfold maxLen; omega) (by unfold maxLen; omega) (by unfold maxLen; omega) (by exact id2) (by exact iv2) (by exact ie2) (by exact iu2)).mono ?_; rintro r w3 ⟨rfl, hb3⟩; have id3 := Ints.below (A := A) (l := d) (by exact id2) hb3; have iv3 := Ints.below (A := B) (l := v) (by exact iv2) hb3; have ie3 := Ints.below (A := A') (l := e) (by exact ie2) hb3; have iu3 := Ints.below (A := B') (l := u) (by exact iu2) hb3; have ip3 := Ints.below (A := A7) (l := iD) (by exact ip2) hb3; have iq3 := Ints.below (A := B7) (l := iV) (by exact iq2) hb3; have ir3 := Ints.below (A := A8) (l := iD) (by exact ir2) hb3; have is3 := Ints.below (A := B8) (l := iV) (by exact is2) hb3; have M3 := Lib.hid (Go.Proofs.Ytknphbkmghflcaa.Sh.below_next (a := w) (by first | exact M2.out | exact M2.out.drew | exact below_drewN M2.out _) hb3))
      | (go_at_call 16; (with_reducible refine (rsame_b A _ d B _ v A' _ e B' _ u _ sb HSB.out hdm hvm hem hum id3 iv3 ie3 iu3).mono ?_); rintro r w4 ⟨rfl, hb4⟩; have id4 := Ints.below (A := A) (l := d) (by exact id3) hb4; have iv4 := Ints.below (A := B) (l := v) (by exact iv3) hb4; have ie4 := Ints.below (A := A') (l := e) (by exact ie3) hb4; have iu4 := Ints.below (A := B') (l := u) (by exact iu3) hb4; have ip4 := Ints.below (A := A7) (l := iD) (by exact ip3) hb4; have iq4 := Ints.below (A := B7) (l := iV) (by exact iq3) hb4; have ir4 := Ints.below (A := A8) (l := iD) (by exact ir3) hb4; have is4 := Ints.below (A := B8) (l := iV) (by exact is3) hb4; have M4 := Lib.hid (Go.Proofs.Ytknphbkmghflcaa.Sh.below_next (a := w) (by first | exact M3.out | exact M3.out.drew | exact below_drewN M3.out _) hb4))
      | (go_at_call 16; (with_reducible refine (rsame_refl A7 _ iD B7 _ iV A8 _ B8 _ _ hDl2 hVl2 ip4 iq4 ir4 is4).mono ?_); rintro r w5 ⟨rfl, hb5⟩; have M5 := Lib.hid (Go.Proofs.Ytknphbkmghflcaa.Sh.below_next (a := w) (by first | exact M4.out | exact M4.out.drew | exact below_drewN M4.out _) hb5))
      | (go_at_call 8; refine (lives_any _).mono ?_; rintro r w6 ⟨rfl, hb6⟩; have M6 := Lib.hid (Go.Proofs.Ytknphbkmghflcaa.Sh.below_next (a := w) (by first | exact M5.out | exact M5.out.drew | exact below_drewN M5.out _) hb6)))
  go_wp2
  go_ret
  exact ⟨ret_bool (by first | rfl | simp), by first | exact M6.out | exact M6.out.drew | exact below_drewN M6.out _⟩

set_option maxHeartbeats 1000000 in
theorem tells_any (A : Option Addr) (c : Nat) (d : List Int) (B : Option Addr) (c2 : Nat) (v : List Int) (A' : Option Addr) (c' : Nat) (e : List Int) (B' : Option Addr) (c2' : Nat) (u : List Int) (C : Option Addr) (c3 : Nat) (p : List Int) (w : World)
    (hcd : d.length ≤ c) (hcm : c ≤ maxLen) (hcv : v.length ≤ c2) (hcm2 : c2 ≤ maxLen)
    (id : Ints w A d) (iv : Ints w B v) (ie : Ints w A' e) (iu : Ints w B' u) (ip : Ints w C p) :
    Calls Try.prog 3 #[.agg #[.slice A d.length c, .slice B v.length c2], .agg #[.slice A' e.length c', .slice B' u.length c2'], .slice C p.length c3] w fun r w' => r = .returned (.bool true) ∧ Below w.heap.size w w' := by
  have hD0 := Box.new (w.alloc (.cells #[.slice A d.length c, .slice B v.length c2] 25)) (.slice A' e.length c') (.slice B' u.length c2')
  rw [show (w.alloc (.cells #[.slice A d.length c, .slice B v.length c2] 25)).heap.size = w.heap.size + 1 from by simp] at hD0
  have D0 := Lib.hid hD0
  have L0 := Lib.hid (below_box (below_box (Below.refl ((w.alloc (.cells #[.slice A d.length c, .slice B v.length c2] 25)).alloc (.cells #[.slice A' e.length c', .slice B' u.length c2'] 25)).heap.size _)))
  clear hD0
  by_cases h1 : d.length ≤ 10 ∧ v.length ≤ 200
  · by_cases h2 : e.length ≤ 10 ∧ u.length ≤ 200
    · by_cases h3 : p.length ≤ 10
      · by_cases h4 : 0 < p.length
        · exact tells_some A c d B c2 v A' c' e B' c2' u C c3 p w h1.1 h1.2 h2.1 h2.2 h3 hcd hcm hcv hcm2 id iv ie iu ip h4
        · exact tells_none A c d B c2 v A' c' e B' c2' u C c3 p w h1.1 h1.2 h2.1 h2.2 h3 hcd hcm hcv hcm2 id iv ie iu ip (by omega)
      · have h4 : 10 < p.length := by omega
        have H1 := Lib.hid h1
        have H2 := Lib.hid h2
        clear id iv ie iu ip hcd hcm hcv hcm2 h1 h2 h3
        go_enter Try.func3, Try.ntmps3
        go_wp2_with fail
        refine (great_no _ _ _ _ _ _ _ H1.out.1 H1.out.2).mono ?_
        rintro r w1 ⟨rfl, hb1⟩
        have L1 := Lib.hid (below_next L0.out hb1)
        obtain ⟨q0, q1, _, _⟩ := (D0.out.next hb1).all
        clear hb1
        go_wp2_with fail
        refine (great_no _ _ _ _ _ _ _ H2.out.1 H2.out.2).mono ?_
        rintro r w2 ⟨rfl, hb2⟩
        have L2 := Lib.hid (below_next L1.out hb2)
        clear hb2
        go_wp2_with fail
        refine (lives_any _).mono ?_
        rintro r w3 ⟨rfl, hb3⟩
        have L3 := Lib.hid (below_next L2.out hb3)
        clear hb3
        go_wp2
        go_ret
        exact ⟨rfl, L3.out⟩
    · have H1 := Lib.hid h1
      have H2 := Lib.hid h2
      clear id iv ie iu ip hcd hcm hcv hcm2 h1 h2
      go_enter Try.func3, Try.ntmps3
      go_wp2_with fail
      refine (great_no _ _ _ _ _ _ _ H1.out.1 H1.out.2).mono ?_
      rintro r w1 ⟨rfl, hb1⟩
      have L1 := Lib.hid (below_next L0.out hb1)
      obtain ⟨q0, q1, _, _⟩ := (D0.out.next hb1).all
      clear hb1
      go_wp2_with fail
      refine (great_yes _ _ _ _ _ _ _ H2.out).mono ?_
      rintro r w2 ⟨rfl, hb2⟩
      have L2 := Lib.hid (below_next L1.out hb2)
      clear hb2
      go_wp2_with fail
      refine (lives_any _).mono ?_
      rintro r w3 ⟨rfl, hb3⟩
      have L3 := Lib.hid (below_next L2.out hb3)
      clear hb3
      go_wp2
      go_ret
      exact ⟨rfl, L3.out⟩
  · have H1 := Lib.hid h1
    clear id iv ie iu ip hcd hcm hcv hcm2 h1
    go_enter Try.func3, Try.ntmps3
    go_wp2_with fail
    refine (great_yes _ _ _ _ _ _ _ H1.out).mono ?_
    rintro r w1 ⟨rfl, hb1⟩
    have L1 := Lib.hid (below_next L0.out hb1)
    clear hb1
    go_wp2_with fail
    refine (lives_any _).mono ?_
    rintro r w3 ⟨rfl, hb3⟩
    have L3 := Lib.hid (below_next L1.out hb3)
    clear hb3
    go_wp2
    go_ret
    exact ⟨rfl, L3.out⟩

theorem view_caps {w : World} {a : Option Addr} {len cap : Nat} {zs : List Int} (h : IsRow .i64 w a len cap zs) : len ≤ cap ∧ cap ≤ maxLen := by
  rcases h with ⟨_, rfl, rfl, _⟩ | ⟨x, _, h1, h2, _⟩
  · simp
  · exact ⟨h1, h2⟩
/-- The law returns true and writes nothing that was there. -/
theorem walk (a0 : Option Addr) (len0 cap0 : Nat) (z0 : List Int) (b0 : Option Addr) (ln0 cp0 : Nat) (u0 : List Int) (a1 : Option Addr) (len1 cap1 : Nat) (z1 : List Int) (b1 : Option Addr) (ln1 cp1 : Nat) (u1 : List Int) (a2 : Option Addr) (len2 cap2 : Nat) (z2 : List Int) (w : World)
    (w0 : IsRow .i64 w a0 len0 cap0 z0) (q0 : IsRow .i64 w b0 ln0 cp0 u0) (w1 : IsRow .i64 w a1 len1 cap1 z1) (q1 : IsRow .i64 w b1 ln1 cp1 u1) (w2 : IsRow .i64 w a2 len2 cap2 z2) :
    Calls Try.prog 3 #[.agg #[.slice a0 len0 cap0, .slice b0 ln0 cp0], .agg #[.slice a1 len1 cap1, .slice b1 ln1 cp1], .slice a2 len2 cap2] w fun e w' => e = .returned (.bool true) ∧ Below w.heap.size w w' := by
  have k0 := view_caps w0
  have k1 := view_caps q0
  obtain ⟨d, rfl, hd, id, _⟩ := w0.view
  obtain ⟨v, rfl, hv, iv, _⟩ := q0.view
  obtain ⟨e, rfl, he, ie, _⟩ := w1.view
  obtain ⟨u, rfl, hu, iu, _⟩ := q1.view
  obtain ⟨p, rfl, hp, ip, _⟩ := w2.view
  exact tells_any a0 cap0 d b0 cp0 v a1 cap1 e b1 cp1 u a2 cap2 p w k0.1 k0.2 k1.1 k1.2 id iv ie iu ip

/-! ### THE ROW's STEP: WRITTEN OUT: LEAVE IT -/
set_option maxRecDepth 100000 in
theorem lifted (os : Os) (started : os.Started) (H : Type) (enc : TypeId × Value → H) :
    ReturnsInHanded {} Try.checked os 3 .any (Rows.cellTellsSpec.pre6 enc Try.prog Try.f3 Rows.cellTellsRow.domain false) (Rows.cellTellsSpec.post enc Try.prog Try.f3 false true false false) := by
  refine returnsInHanded_of_change (C := Try.checked) own started (by kernel_rfl) Try.func3
    (ChangeSpec.witness6 (enc := enc) (C := Try.checked) false ⟨#[], #[.agg #[.slice none 0 0, .slice none 0 0], .agg #[.slice none 0 0, .slice none 0 0], .slice none 0 0], []⟩ 8 (by kernel_rfl) (by kernel_rfl) (by kernel_rfl) (by kernel_rfl)) ?_
  intro W base args ds gs before hval0 hW hcnd _
  have hval : ∀ (j : Nat) t v, Try.f3.params[j]? = some t → args[j]? = some v → Value.okWide Try.prog W .any base t v := hval0
  have hW' := hW
  obtain ⟨p, q, hA0, hV, rfl, hfz, hnd⟩ := hW
  have hA : DataW.TrodAll enc Try.prog W 0 (fun _ => true) true Try.f3.params.toList args.toList ds p := hA0
  rw [Try.params3] at hA hval
  obtain ⟨v0, vs0, d0, ds0, p0, q0, hargs, rfl, rfl, h0, r0⟩ := trodAll_cons hA
  obtain ⟨v1, vs1, d1, ds1, p1, q1, rfl, rfl, rfl, h1, r1⟩ := trodAll_cons r0
  obtain ⟨v2, vs2, d2, ds2, p2, q2, rfl, rfl, rfl, h2, r2⟩ := trodAll_cons r1
  obtain ⟨rfl, rfl, rfl⟩ := trodAll_nil r2
  obtain rfl : args = #[v0, v1, v2] := by cases args; simp_all
  obtain ⟨rfl, rfl⟩ := trodVars_none hV
  have k0 := h0
  have lt0 : ∀ x ∈ p0, x.block < W.heap.size := by obtain ⟨m, hm⟩ := k0; exact DataW.trod_lt m _ _ _ hm
  obtain ⟨x0, y0, ya0, yb0, fu0, rfl, _, _, ta0, tb0⟩ := open_agg2 Try.underlying25 (by kernel_rfl) (by kernel_rfl) (hval 0 25 v0 rfl rfl) h0
  obtain ⟨a0, len0, cap0, z0, rfl, w0⟩ : ∃ a len cap zs, x0 = .slice a len cap ∧ IsRow .i64 W a len cap zs := by
    rcases open_ints Try.underlying22 Try.underlying3 (by kernel_rfl) ta0 with ⟨hcs, _⟩ | ⟨x, l, c, zs, hcs, _, hl, hm, hz, _, hcell, hwz⟩
    · injection hcs with hcs
      exact ⟨none, 0, 0, [], hcs, .inl ⟨rfl, rfl, rfl, rfl⟩⟩
    · injection hcs with hcs
      exact ⟨_, l, c, zs, hcs, .inr ⟨_, rfl, hl, hm, by simpa using hz, hcell, hwz⟩⟩
  obtain ⟨b0, ln0, cp0, u0, rfl, q0w⟩ : ∃ a len cap zs, y0 = .slice a len cap ∧ IsRow .i64 W a len cap zs := by
    rcases open_ints Try.underlying23 Try.underlying2 (by kernel_rfl) tb0 with ⟨hcs, _⟩ | ⟨x, l, c, zs, hcs, _, hl, hm, hz, _, hcell, hwz⟩
    · injection hcs with hcs
      exact ⟨none, 0, 0, [], hcs, .inl ⟨rfl, rfl, rfl, rfl⟩⟩
    · injection hcs with hcs
      exact ⟨_, l, c, zs, hcs, .inr ⟨_, rfl, hl, hm, by simpa using hz, hcell, hwz⟩⟩
  have k1 := h1
  have lt1 : ∀ x ∈ p1, x.block < W.heap.size := by obtain ⟨m, hm⟩ := k1; exact DataW.trod_lt m _ _ _ hm
  obtain ⟨x1, y1, ya1, yb1, fu1, rfl, _, _, ta1, tb1⟩ := open_agg2 Try.underlying25 (by kernel_rfl) (by kernel_rfl) (hval 1 25 v1 rfl rfl) h1
  obtain ⟨a1, len1, cap1, z1, rfl, w1⟩ : ∃ a len cap zs, x1 = .slice a len cap ∧ IsRow .i64 W a len cap zs := by
    rcases open_ints Try.underlying22 Try.underlying3 (by kernel_rfl) ta1 with ⟨hcs, _⟩ | ⟨x, l, c, zs, hcs, _, hl, hm, hz, _, hcell, hwz⟩
    · injection hcs with hcs
      exact ⟨none, 0, 0, [], hcs, .inl ⟨rfl, rfl, rfl, rfl⟩⟩
    · injection hcs with hcs
      exact ⟨_, l, c, zs, hcs, .inr ⟨_, rfl, hl, hm, by simpa using hz, hcell, hwz⟩⟩
  obtain ⟨b1, ln1, cp1, u1, rfl, q1w⟩ : ∃ a len cap zs, y1 = .slice a len cap ∧ IsRow .i64 W a len cap zs := by
    rcases open_ints Try.underlying23 Try.underlying2 (by kernel_rfl) tb1 with ⟨hcs, _⟩ | ⟨x, l, c, zs, hcs, _, hl, hm, hz, _, hcell, hwz⟩
    · injection hcs with hcs
      exact ⟨none, 0, 0, [], hcs, .inl ⟨rfl, rfl, rfl, rfl⟩⟩
    · injection hcs with hcs
      exact ⟨_, l, c, zs, hcs, .inr ⟨_, rfl, hl, hm, by simpa using hz, hcell, hwz⟩⟩
  obtain ⟨a2, len2, cap2, rfl⟩ := okWide_slice Try.underlying22 (hval 2 22 v2 rfl rfl)
  have k2 := h2
  have lt2 : ∀ x ∈ p2, x.block < W.heap.size := by obtain ⟨m, hm⟩ := k2; exact DataW.trod_lt m _ _ _ hm
  obtain ⟨z2, w2⟩ : ∃ zs, IsRow .i64 W a2 len2 cap2 zs := by
    obtain ⟨fuel, hf⟩ := h2
    rcases open_ints Try.underlying22 Try.underlying3 (by kernel_rfl) hf with ⟨hcs, _⟩ | ⟨x, l, c, zs, hcs, _, hl, hm, hz, _, hcell, hwz⟩
    · simp [Value.cells] at hcs
      obtain ⟨rfl, rfl, rfl⟩ := hcs
      exact ⟨[], .inl ⟨rfl, rfl, rfl, rfl⟩⟩
    · simp [Value.cells] at hcs
      obtain ⟨rfl, rfl, rfl⟩ := hcs
      exact ⟨zs, .inr ⟨_, rfl, hl, hm, by simpa using hz, hcell, hwz⟩⟩
  clear hA0 hval0
  refine (walk a0 len0 cap0 z0 b0 ln0 cp0 u0 a1 len1 cap1 z1 b1 ln1 cp1 u1 a2 len2 cap2 z2 W w0 q0w w1 q1w w2).mono fun e W' ⟨he, bel⟩ => ?_
  subst he
  exact ⟨_, rfl, _, _, _, [], _, [], hW', trodAll_mk1 (shut_bool Try.underlying4 _), (trodAll_cons_mk (Below.trod laidOut (by kernel_rfl) (of_decide_eq_true (by kernel_rfl)) k0 bel lt0) (trodAll_cons_mk (Below.trod laidOut (by kernel_rfl) (of_decide_eq_true (by kernel_rfl)) k1 bel lt1) (trodAll_cons_mk (Below.trod laidOut (by kernel_rfl) (of_decide_eq_true (by kernel_rfl)) k2 bel lt2) trodAll_mk0))), rfl, bel.frame _, fun h => by cases h⟩

theorem over : Rows.cellTellsRow.holds Try.pinned (OpenSpec.ofChange Rows.cellTellsSpec) :=
  OpenClaim.holds_of_wide 3 Try.f3 rfl rfl rfl rfl rfl rfl rfl ⟨rfl, rfl, rfl, rfl, rfl⟩ rfl rfl rfl rfl rfl (by kernel_rfl) Try.func3 (by kernel_rfl)
    (of_decide_eq_true (by kernel_rfl)) (by unfold Func.isWrapper; first | (rw [if_pos (by decide +kernel)]; kernel_rfl) | (rw [if_neg (by decide +kernel)]; exact ⟨rfl, rfl⟩))
    (fun os started H enc _ => lifted os started H enc)

/-- ████ THE STATEMENT ████ -/
theorem proved : Rows.CellTellsSaid := over
end Go.Proofs.Ytknphbkmghflcaa.cellTells
