/-
  Proved: for any two cells and any bool rifflelaw07.CarveTurns returns true, and each argument reads afterwards as it read before. No other condition.
-/
import Derived.Test.YticicfbllhnpcaaRows
import Derived.Test.YticicfbllhnpcaaCvRTurn
import Derived.Test.YticicfbllhnpcaaCvRPerm
import Derived.Test.YticicfbllhnpcaaPkW
import Derived.Test.YticicfbllhnpcaaPkC
set_option maxRecDepth 100000
namespace Go.Proofs.Yticicfbllhnpcaa.carveTurns
open Go.Proofs.Yticicfbllhnpcaa.Sh
open Go.Joins Go.ChangeShapes Go.WideShapes Go.ChangeAt Go.RowKit Go.Deep
set_option linter.unusedVariables false

theorem rsame_eq7 (A : Option Addr) (c : Nat) (d : List Int) (B : Option Addr) (c2 : Nat) (v : List Int) (A' : Option Addr) (c' : Nat) (B' : Option Addr) (c2' : Nat) (w : World) (hd : d.length ≤ 1000) (hv : v.length ≤ 1000) (id : Ints w A d) (iv : Ints w B v) (ie : Ints w A' d) (iu : Ints w B' v) :
    Calls Try.prog 16 #[.agg #[.slice A d.length c, .slice B v.length c2], .agg #[.slice A' d.length c', .slice B' v.length c2']] w fun r w' => r = .returned (.bool true) ∧ Below w.heap.size w w' :=
  (rsame_any A c d B c2 v A' c' d B' c2' v w (by unfold maxLen; omega) (by unfold maxLen; omega) (by unfold maxLen; omega) (by unfold maxLen; omega) id iv ie iu).mono fun _ _ ⟨h1, h2⟩ => ⟨by rw [h1]; simp [sameB], h2⟩
theorem pf_w (A : Option Addr) (c : Nat) (d : List Int) (B : Option Addr) (c2 : Nat) (v : List Int) (b : Bool) (w : World) (E : Int) (D V : List Int) (hE : okE d v.length = E) (hD : okL d v.length d = D) (hV : okL d v.length (mvV flI d v b) = V) (id : Ints w A d) (iv : Ints w B v) (hd : d.length ≤ 100) (hv : v.length ≤ 1000) :
    Calls Try.prog 8 #[.agg #[.slice A d.length c, .slice B v.length c2], .bool b] w (RetCI w D V (.int .i64 E)) := by
  subst hE hD hV
  exact (flip_any A c d B c2 v b w id iv hd hv).mono fun _ _ h => h.ci
theorem rf_w (A : Option Addr) (c : Nat) (d : List Int) (B : Option Addr) (c2 : Nat) (v : List Int) (b : Bool) (w : World) (E : Int) (D V : List Int) (hE : okE d v.length = E) (hD : okL d v.length d = D) (hV : okL d v.length (mvV flI d v b) = V) (id : Ints w A d) (iv : Ints w B v) (hd : d.length ≤ 100) (hv : v.length ≤ 1000) :
    Calls Try.prog 9 #[.agg #[.slice A d.length c, .slice B v.length c2], .bool b] w (RetCI w D V (.int .i64 E)) := by
  subst hE hD hV
  exact rflip_any A c d B c2 v b w id iv hd hv
theorem pr_w (A : Option Addr) (c : Nat) (d : List Int) (B : Option Addr) (c2 : Nat) (v : List Int) (A' : Option Addr) (c' : Nat) (e : List Int) (B' : Option Addr) (c2' : Nat) (u : List Int) (b : Bool) (w : World) (E : Int) (D V : List Int) (hE : roE d v e u = E) (hD : roD d v e u = D) (hV : roV d v e u b = V) (id : Ints w A d) (iv : Ints w B v) (ie : Ints w A' e) (iu : Ints w B' u) (hd : d.length ≤ 100) (hv : v.length ≤ 1000) (he : e.length ≤ 100) (hu : u.length ≤ 1000) :
    Calls Try.prog 10 #[.agg #[.slice A d.length c, .slice B v.length c2], .agg #[.slice A' e.length c', .slice B' u.length c2'], .bool b] w (RetCI w D V (.int .i64 E)) := by
  subst hE hD hV
  exact (roll_any A c d B c2 v A' c' e B' c2' u b w id iv ie iu hd hv he hu).mono fun _ _ h => h.ci
theorem rr_w (A : Option Addr) (c : Nat) (d : List Int) (B : Option Addr) (c2 : Nat) (v : List Int) (A' : Option Addr) (c' : Nat) (e : List Int) (B' : Option Addr) (c2' : Nat) (u : List Int) (b : Bool) (w : World) (E : Int) (D V : List Int) (hE : roE d v e u = E) (hD : roD d v e u = D) (hV : roV d v e u b = V) (id : Ints w A d) (iv : Ints w B v) (ie : Ints w A' e) (iu : Ints w B' u) (hd : d.length ≤ 100) (hv : v.length ≤ 1000) (he : e.length ≤ 100) (hu : u.length ≤ 1000) :
    Calls Try.prog 11 #[.agg #[.slice A d.length c, .slice B v.length c2], .agg #[.slice A' e.length c', .slice B' u.length c2'], .bool b] w (RetCI w D V (.int .i64 E)) := by
  subst hE hD hV
  exact rroll_any A c d B c2 v A' c' e B' c2' u b w id iv ie iu hd hv he hu
theorem pt_w (A : Option Addr) (c : Nat) (d : List Int) (B : Option Addr) (c2 : Nat) (v : List Int) (w : World) (E : Int) (D V : List Int) (hE : okE d v.length = E) (hD : okL d v.length d.reverse = D) (hV : okL d v.length (tuV d v) = V) (id : Ints w A d) (iv : Ints w B v) (hd : d.length ≤ 100) (hv : v.length ≤ 1000) :
    Calls Try.prog 12 #[.agg #[.slice A d.length c, .slice B v.length c2]] w (RetCI w D V (.int .i64 E)) := by
  subst hE hD hV
  exact (turn_any A c d B c2 v w id iv hd hv).mono fun _ _ h => h.ci
theorem rt_w (A : Option Addr) (c : Nat) (d : List Int) (B : Option Addr) (c2 : Nat) (v : List Int) (w : World) (E : Int) (D V : List Int) (hE : okE d v.length = E) (hD : okL d v.length d.reverse = D) (hV : okL d v.length (tuV d v) = V) (id : Ints w A d) (iv : Ints w B v) (hd : d.length ≤ 100) (hv : v.length ≤ 1000) :
    Calls Try.prog 13 #[.agg #[.slice A d.length c, .slice B v.length c2]] w (RetCI w D V (.int .i64 E)) := by
  subst hE hD hV
  exact rturn_any A c d B c2 v w id iv hd hv
theorem pp_w (A : Option Addr) (c : Nat) (d : List Int) (B : Option Addr) (c2 : Nat) (v : List Int) (A' : Option Addr) (c' : Nat) (e : List Int) (B' : Option Addr) (c2' : Nat) (u : List Int) (w : World) (E : Int) (D V : List Int) (hE : peE d v e u.length = E) (hD : peD d v e u.length = D) (hV : peV d v e u = V) (id : Ints w A d) (iv : Ints w B v) (ie : Ints w A' e) (iu : Ints w B' u) (hd : d.length ≤ 100) (hv : v.length ≤ 1000) (he : e.length ≤ 100) (hu : u.length ≤ 1000) :
    Calls Try.prog 14 #[.agg #[.slice A d.length c, .slice B v.length c2], .agg #[.slice A' e.length c', .slice B' u.length c2']] w (RetCI w D V (.int .i64 E)) := by
  subst hE hD hV
  exact permute_any A c d B c2 v A' c' e B' c2' u w id iv ie iu hd hv he hu
theorem rp_w (A : Option Addr) (c : Nat) (d : List Int) (B : Option Addr) (c2 : Nat) (v : List Int) (A' : Option Addr) (c' : Nat) (e : List Int) (B' : Option Addr) (c2' : Nat) (u : List Int) (w : World) (E : Int) (D V : List Int) (hE : peE d v e u.length = E) (hD : peD d v e u.length = D) (hV : peV d v e u = V) (id : Ints w A d) (iv : Ints w B v) (ie : Ints w A' e) (iu : Ints w B' u) (hd : d.length ≤ 100) (hv : v.length ≤ 1000) (he : e.length ≤ 100) (hu : u.length ≤ 1000) :
    Calls Try.prog 15 #[.agg #[.slice A d.length c, .slice B v.length c2], .agg #[.slice A' e.length c', .slice B' u.length c2']] w (RetCI w D V (.int .i64 E)) := by
  subst hE hD hV
  exact rpermute_any A c d B c2 v A' c' e B' c2' u w id iv ie iu hd hv he hu
theorem okL_len {d : List Int} {n : Nat} {l : List Int} {m : Nat} (h : l.length ≤ m) : (okL d n l).length ≤ m := by
  unfold okL; split
  · exact h
  · simp
theorem mvV_64 {f : Int → Int → Int} {d v : List Int} {b : Bool} : (mvV f d v b).length ≤ 64 := by unfold mvV; have := sizeI_bd d; simp; omega
theorem tuV_64 {d v : List Int} : (tuV d v).length ≤ 64 := by unfold tuV; have := sizeI_bd d.reverse; simp; omega
theorem pick_len (d p : List Int) : (pickB d p).length ≤ d.length := by unfold pickB; split <;> simp
theorem roD_len {dn vn d v : List Int} : (roD dn vn d v).length ≤ d.length := by unfold roD; split <;> simp
theorem roV_len {dn vn d v : List Int} {b : Bool} : (roV dn vn d v b).length ≤ 64 := by
  unfold roV; split
  · exact mvV_64
  · simp
theorem peD_len {dn pn d : List Int} {n : Nat} : (peD dn pn d n).length ≤ d.length := by
  unfold peD; split
  · exact pick_len _ _
  · simp
theorem peV_len {dn pn d v : List Int} : (peV dn pn d v).length ≤ 64 := by
  unfold peV; split
  · have := sizeI_bd (pickB d (smL pn)); simp; omega
  · simp
set_option maxHeartbeats 8000000 in
theorem walk (A : Option Addr) (c1 : Nat) (d : List Int) (B : Option Addr) (c2 : Nat) (v : List Int) (A' : Option Addr) (c1' : Nat) (e : List Int) (B' : Option Addr) (c2' : Nat) (u : List Int) (b : Bool) (w : World) (id : Ints w A d) (iv : Ints w B v) (ie : Ints w A' e) (iu : Ints w B' u) :
    Calls Try.prog 3 #[.agg #[.slice A d.length c1, .slice B v.length c2], .agg #[.slice A' e.length c1', .slice B' u.length c2'], .bool b] w fun e w' => e = .returned (.bool true) ∧ Below w.heap.size w w' := by
  by_cases h1 : d.length ≤ 10 ∧ v.length ≤ 200
  · by_cases h2 : e.length ≤ 10 ∧ u.length ≤ 200
    · obtain ⟨hd, hv⟩ := h1
      obtain ⟨he, hu⟩ := h2
      obtain ⟨E1, hE1⟩ : ∃ X, okE e u.length = X := ⟨_, rfl⟩
      obtain ⟨D1, hD1⟩ : ∃ X, okL e u.length e = X := ⟨_, rfl⟩
      obtain ⟨V1, hV1⟩ : ∃ X, okL e u.length (mvV flI e u b) = X := ⟨_, rfl⟩
      have hl1 : D1.length ≤ 64 := by rw [← hD1]; exact okL_len (Nat.le_trans he (by omega))
      have hm1 : V1.length ≤ 64 := by rw [← hV1]; exact okL_len mvV_64
      have HE1 := Lib.hid hE1
      have HD1 := Lib.hid hD1
      have HV1 := Lib.hid hV1
      clear hE1 hD1 hV1
      obtain ⟨E2, hE2⟩ : ∃ X, roE d v e u = X := ⟨_, rfl⟩
      obtain ⟨D2, hD2⟩ : ∃ X, roD d v e u = X := ⟨_, rfl⟩
      obtain ⟨V2, hV2⟩ : ∃ X, roV d v e u b = X := ⟨_, rfl⟩
      have hl2 : D2.length ≤ 64 := by rw [← hD2]; exact Nat.le_trans roD_len (Nat.le_trans he (by omega))
      have hm2 : V2.length ≤ 64 := by rw [← hV2]; exact roV_len
      have HE2 := Lib.hid hE2
      have HD2 := Lib.hid hD2
      have HV2 := Lib.hid hV2
      clear hE2 hD2 hV2
      obtain ⟨E3, hE3⟩ : ∃ X, okE e u.length = X := ⟨_, rfl⟩
      obtain ⟨D3, hD3⟩ : ∃ X, okL e u.length e.reverse = X := ⟨_, rfl⟩
      obtain ⟨V3, hV3⟩ : ∃ X, okL e u.length (tuV e u) = X := ⟨_, rfl⟩
      have hl3 : D3.length ≤ 64 := by rw [← hD3]; exact okL_len (by rw [List.length_reverse]; omega)
      have hm3 : V3.length ≤ 64 := by rw [← hV3]; exact okL_len tuV_64
      have HE3 := Lib.hid hE3
      have HD3 := Lib.hid hD3
      have HV3 := Lib.hid hV3
      clear hE3 hD3 hV3
      obtain ⟨E4, hE4⟩ : ∃ X, peE d v e u.length = X := ⟨_, rfl⟩
      obtain ⟨D4, hD4⟩ : ∃ X, peD d v e u.length = X := ⟨_, rfl⟩
      obtain ⟨V4, hV4⟩ : ∃ X, peV d v e u = X := ⟨_, rfl⟩
      have hl4 : D4.length ≤ 64 := by rw [← hD4]; exact Nat.le_trans peD_len (Nat.le_trans he (by omega))
      have hm4 : V4.length ≤ 64 := by rw [← hV4]; exact peV_len
      have HE4 := Lib.hid hE4
      have HD4 := Lib.hid hD4
      have HV4 := Lib.hid hV4
      clear hE4 hD4 hV4
      have b1 := below_new w (.cells #[.slice A d.length c1, .slice B v.length c2] 25)
      have b2 := below_new (w.alloc (.cells #[.slice A d.length c1, .slice B v.length c2] 25)) (.cells #[.slice A' e.length c1', .slice B' u.length c2'] 25)
      have bb0 := Box.new (w.alloc (.cells #[.slice A d.length c1, .slice B v.length c2] 25)) (.slice A' e.length c1') (.slice B' u.length c2')
      rw [show (w.alloc (.cells #[.slice A d.length c1, .slice B v.length c2] 25)).heap.size = w.heap.size + 1 from by simp] at bb0
      have BB := Lib.hid (bb0)
      have L := Lib.hid (below_next b1 b2)
      have BA := Lib.hid ((Box.new w (.slice A d.length c1) (.slice B v.length c2)).next b2)
      have ID := Lib.hid (id.below L.out)
      have IV := Lib.hid (iv.below L.out)
      have IE := Lib.hid (ie.below L.out)
      have IU := Lib.hid (iu.below L.out)
      clear b1 b2 bb0 id iv ie iu
      go_enter Try.func3, Try.ntmps3
      go_wp2_with fail
      refine (great_no _ _ _ _ _ _ _ hd hv).mono ?_
      rintro r w1 ⟨rfl, hb⟩
      replace BB := Lib.hid (BB.out.next hb)
      replace L := Lib.hid (below_next L.out hb)
      replace BA := Lib.hid (BA.out.next hb)
      replace ID := Lib.hid (ID.out.below hb)
      replace IV := Lib.hid (IV.out.below hb)
      replace IE := Lib.hid (IE.out.below hb)
      replace IU := Lib.hid (IU.out.below hb)
      clear hb
      obtain ⟨qBB0, qBB1, -, -⟩ := BB.out.all
      go_wp2_with fail
      refine (great_no _ _ _ _ _ _ _ he hu).mono ?_
      rintro r w2 ⟨rfl, hb⟩
      clear qBB0 qBB1
      replace BB := Lib.hid (BB.out.next hb)
      replace L := Lib.hid (below_next L.out hb)
      replace BA := Lib.hid (BA.out.next hb)
      replace ID := Lib.hid (ID.out.below hb)
      replace IV := Lib.hid (IV.out.below hb)
      replace IE := Lib.hid (IE.out.below hb)
      replace IU := Lib.hid (IU.out.below hb)
      clear hb
      obtain ⟨qBB0, qBB1, -, -⟩ := BB.out.all
      go_wp2_with fail
      refine (pf_w _ _ e _ _ u b _ E1 D1 V1 HE1.out HD1.out HV1.out IE.out IU.out (by omega) (by omega)).mono ?_
      rintro r w3 ⟨X1a, y1a, Z1a, t1a, rfl, j1, j2, hb⟩
      clear qBB0 qBB1
      replace BB := Lib.hid (BB.out.next hb)
      replace L := Lib.hid (below_next L.out hb)
      replace BA := Lib.hid (BA.out.next hb)
      replace ID := Lib.hid (ID.out.below hb)
      replace IV := Lib.hid (IV.out.below hb)
      replace IE := Lib.hid (IE.out.below hb)
      replace IU := Lib.hid (IU.out.below hb)
      clear hb
      have P1a := Lib.hid j1
      have Q1a := Lib.hid j2
      clear j1 j2
      have KB := Lib.hid (below_new w3 (.cells #[.slice X1a D1.length y1a, .slice Z1a V1.length t1a] 25))
      have K1a := Lib.hid (Box.new w3 (.slice X1a D1.length y1a) (.slice Z1a V1.length t1a))
      replace BB := Lib.hid (BB.out.next KB.out)
      replace L := Lib.hid (below_next L.out KB.out)
      replace BA := Lib.hid (BA.out.next KB.out)
      replace ID := Lib.hid (ID.out.below KB.out)
      replace IV := Lib.hid (IV.out.below KB.out)
      replace IE := Lib.hid (IE.out.below KB.out)
      replace IU := Lib.hid (IU.out.below KB.out)
      replace P1a := Lib.hid (P1a.out.below KB.out)
      replace Q1a := Lib.hid (Q1a.out.below KB.out)
      go_upto_region 4 with (fail)
      clear KB
      generalize hW : w3.alloc (.cells #[.slice X1a D1.length y1a, .slice Z1a V1.length t1a] 25) = W1a at *
      clear hW
      generalize w3.heap.size = g1a at *
      obtain ⟨qBB0, qBB1, -, -⟩ := BB.out.all
      go_wp2_with fail
      refine (rf_w _ _ e _ _ u b _ E1 D1 V1 HE1.out HD1.out HV1.out IE.out IU.out (by omega) (by omega)).mono ?_
      rintro r w4 ⟨X1b, y1b, Z1b, t1b, rfl, j1, j2, hb⟩
      clear qBB0 qBB1
      replace BB := Lib.hid (BB.out.next hb)
      replace L := Lib.hid (below_next L.out hb)
      replace BA := Lib.hid (BA.out.next hb)
      replace ID := Lib.hid (ID.out.below hb)
      replace IV := Lib.hid (IV.out.below hb)
      replace IE := Lib.hid (IE.out.below hb)
      replace IU := Lib.hid (IU.out.below hb)
      replace P1a := Lib.hid (P1a.out.below hb)
      replace Q1a := Lib.hid (Q1a.out.below hb)
      replace K1a := Lib.hid (K1a.out.next hb)
      clear hb
      have P1b := Lib.hid j1
      have Q1b := Lib.hid j2
      clear j1 j2
      have KB := Lib.hid (below_new w4 (.cells #[.slice X1b D1.length y1b, .slice Z1b V1.length t1b] 25))
      have K1b := Lib.hid (Box.new w4 (.slice X1b D1.length y1b) (.slice Z1b V1.length t1b))
      replace BB := Lib.hid (BB.out.next KB.out)
      replace L := Lib.hid (below_next L.out KB.out)
      replace BA := Lib.hid (BA.out.next KB.out)
      replace ID := Lib.hid (ID.out.below KB.out)
      replace IV := Lib.hid (IV.out.below KB.out)
      replace IE := Lib.hid (IE.out.below KB.out)
      replace IU := Lib.hid (IU.out.below KB.out)
      replace P1a := Lib.hid (P1a.out.below KB.out)
      replace Q1a := Lib.hid (Q1a.out.below KB.out)
      replace K1a := Lib.hid (K1a.out.next KB.out)
      replace P1b := Lib.hid (P1b.out.below KB.out)
      replace Q1b := Lib.hid (Q1b.out.below KB.out)
      go_upto_region 5 with (fail)
      clear KB
      generalize hW : w4.alloc (.cells #[.slice X1b D1.length y1b, .slice Z1b V1.length t1b] 25) = W1b at *
      clear hW
      generalize w4.heap.size = g1b at *
      obtain ⟨qBA0, qBA1, -, -⟩ := BA.out.all
      obtain ⟨qBB0, qBB1, -, -⟩ := BB.out.all
      go_wp2_with fail
      refine (pr_w _ _ d _ _ v _ _ e _ _ u b _ E2 D2 V2 HE2.out HD2.out HV2.out ID.out IV.out IE.out IU.out (by omega) (by omega) (by omega) (by omega)).mono ?_
      rintro r w5 ⟨X2a, y2a, Z2a, t2a, rfl, j1, j2, hb⟩
      clear qBA0 qBA1 qBB0 qBB1
      replace BB := Lib.hid (BB.out.next hb)
      replace L := Lib.hid (below_next L.out hb)
      replace BA := Lib.hid (BA.out.next hb)
      replace ID := Lib.hid (ID.out.below hb)
      replace IV := Lib.hid (IV.out.below hb)
      replace IE := Lib.hid (IE.out.below hb)
      replace IU := Lib.hid (IU.out.below hb)
      replace P1a := Lib.hid (P1a.out.below hb)
      replace Q1a := Lib.hid (Q1a.out.below hb)
      replace K1a := Lib.hid (K1a.out.next hb)
      replace P1b := Lib.hid (P1b.out.below hb)
      replace Q1b := Lib.hid (Q1b.out.below hb)
      replace K1b := Lib.hid (K1b.out.next hb)
      clear hb
      have P2a := Lib.hid j1
      have Q2a := Lib.hid j2
      clear j1 j2
      have KB := Lib.hid (below_new w5 (.cells #[.slice X2a D2.length y2a, .slice Z2a V2.length t2a] 25))
      have K2a := Lib.hid (Box.new w5 (.slice X2a D2.length y2a) (.slice Z2a V2.length t2a))
      replace BB := Lib.hid (BB.out.next KB.out)
      replace L := Lib.hid (below_next L.out KB.out)
      replace BA := Lib.hid (BA.out.next KB.out)
      replace ID := Lib.hid (ID.out.below KB.out)
      replace IV := Lib.hid (IV.out.below KB.out)
      replace IE := Lib.hid (IE.out.below KB.out)
      replace IU := Lib.hid (IU.out.below KB.out)
      replace P1a := Lib.hid (P1a.out.below KB.out)
      replace Q1a := Lib.hid (Q1a.out.below KB.out)
      replace K1a := Lib.hid (K1a.out.next KB.out)
      replace P1b := Lib.hid (P1b.out.below KB.out)
      replace Q1b := Lib.hid (Q1b.out.below KB.out)
      replace K1b := Lib.hid (K1b.out.next KB.out)
      replace P2a := Lib.hid (P2a.out.below KB.out)
      replace Q2a := Lib.hid (Q2a.out.below KB.out)
      go_upto_region 6 with (fail)
      clear KB
      generalize hW : w5.alloc (.cells #[.slice X2a D2.length y2a, .slice Z2a V2.length t2a] 25) = W2a at *
      clear hW
      generalize w5.heap.size = g2a at *
      obtain ⟨qBA0, qBA1, -, -⟩ := BA.out.all
      obtain ⟨qBB0, qBB1, -, -⟩ := BB.out.all
      go_wp2_with fail
      refine (rr_w _ _ d _ _ v _ _ e _ _ u b _ E2 D2 V2 HE2.out HD2.out HV2.out ID.out IV.out IE.out IU.out (by omega) (by omega) (by omega) (by omega)).mono ?_
      rintro r w6 ⟨X2b, y2b, Z2b, t2b, rfl, j1, j2, hb⟩
      clear qBA0 qBA1 qBB0 qBB1
      replace BB := Lib.hid (BB.out.next hb)
      replace L := Lib.hid (below_next L.out hb)
      replace BA := Lib.hid (BA.out.next hb)
      replace ID := Lib.hid (ID.out.below hb)
      replace IV := Lib.hid (IV.out.below hb)
      replace IE := Lib.hid (IE.out.below hb)
      replace IU := Lib.hid (IU.out.below hb)
      replace P1a := Lib.hid (P1a.out.below hb)
      replace Q1a := Lib.hid (Q1a.out.below hb)
      replace K1a := Lib.hid (K1a.out.next hb)
      replace P1b := Lib.hid (P1b.out.below hb)
      replace Q1b := Lib.hid (Q1b.out.below hb)
      replace K1b := Lib.hid (K1b.out.next hb)
      replace P2a := Lib.hid (P2a.out.below hb)
      replace Q2a := Lib.hid (Q2a.out.below hb)
      replace K2a := Lib.hid (K2a.out.next hb)
      clear hb
      have P2b := Lib.hid j1
      have Q2b := Lib.hid j2
      clear j1 j2
      have KB := Lib.hid (below_new w6 (.cells #[.slice X2b D2.length y2b, .slice Z2b V2.length t2b] 25))
      have K2b := Lib.hid (Box.new w6 (.slice X2b D2.length y2b) (.slice Z2b V2.length t2b))
      replace BB := Lib.hid (BB.out.next KB.out)
      replace L := Lib.hid (below_next L.out KB.out)
      replace BA := Lib.hid (BA.out.next KB.out)
      replace ID := Lib.hid (ID.out.below KB.out)
      replace IV := Lib.hid (IV.out.below KB.out)
      replace IE := Lib.hid (IE.out.below KB.out)
      replace IU := Lib.hid (IU.out.below KB.out)
      replace P1a := Lib.hid (P1a.out.below KB.out)
      replace Q1a := Lib.hid (Q1a.out.below KB.out)
      replace K1a := Lib.hid (K1a.out.next KB.out)
      replace P1b := Lib.hid (P1b.out.below KB.out)
      replace Q1b := Lib.hid (Q1b.out.below KB.out)
      replace K1b := Lib.hid (K1b.out.next KB.out)
      replace P2a := Lib.hid (P2a.out.below KB.out)
      replace Q2a := Lib.hid (Q2a.out.below KB.out)
      replace K2a := Lib.hid (K2a.out.next KB.out)
      replace P2b := Lib.hid (P2b.out.below KB.out)
      replace Q2b := Lib.hid (Q2b.out.below KB.out)
      go_upto_region 7 with (fail)
      clear KB
      generalize hW : w6.alloc (.cells #[.slice X2b D2.length y2b, .slice Z2b V2.length t2b] 25) = W2b at *
      clear hW
      generalize w6.heap.size = g2b at *
      obtain ⟨qBB0, qBB1, -, -⟩ := BB.out.all
      go_wp2_with fail
      refine (pt_w _ _ e _ _ u _ E3 D3 V3 HE3.out HD3.out HV3.out IE.out IU.out (by omega) (by omega)).mono ?_
      rintro r w7 ⟨X3a, y3a, Z3a, t3a, rfl, j1, j2, hb⟩
      clear qBB0 qBB1
      replace BB := Lib.hid (BB.out.next hb)
      replace L := Lib.hid (below_next L.out hb)
      replace BA := Lib.hid (BA.out.next hb)
      replace ID := Lib.hid (ID.out.below hb)
      replace IV := Lib.hid (IV.out.below hb)
      replace IE := Lib.hid (IE.out.below hb)
      replace IU := Lib.hid (IU.out.below hb)
      replace P1a := Lib.hid (P1a.out.below hb)
      replace Q1a := Lib.hid (Q1a.out.below hb)
      replace K1a := Lib.hid (K1a.out.next hb)
      replace P1b := Lib.hid (P1b.out.below hb)
      replace Q1b := Lib.hid (Q1b.out.below hb)
      replace K1b := Lib.hid (K1b.out.next hb)
      replace P2a := Lib.hid (P2a.out.below hb)
      replace Q2a := Lib.hid (Q2a.out.below hb)
      replace K2a := Lib.hid (K2a.out.next hb)
      replace P2b := Lib.hid (P2b.out.below hb)
      replace Q2b := Lib.hid (Q2b.out.below hb)
      replace K2b := Lib.hid (K2b.out.next hb)
      clear hb
      have P3a := Lib.hid j1
      have Q3a := Lib.hid j2
      clear j1 j2
      have KB := Lib.hid (below_new w7 (.cells #[.slice X3a D3.length y3a, .slice Z3a V3.length t3a] 25))
      have K3a := Lib.hid (Box.new w7 (.slice X3a D3.length y3a) (.slice Z3a V3.length t3a))
      replace BB := Lib.hid (BB.out.next KB.out)
      replace L := Lib.hid (below_next L.out KB.out)
      replace BA := Lib.hid (BA.out.next KB.out)
      replace ID := Lib.hid (ID.out.below KB.out)
      replace IV := Lib.hid (IV.out.below KB.out)
      replace IE := Lib.hid (IE.out.below KB.out)
      replace IU := Lib.hid (IU.out.below KB.out)
      replace P1a := Lib.hid (P1a.out.below KB.out)
      replace Q1a := Lib.hid (Q1a.out.below KB.out)
      replace K1a := Lib.hid (K1a.out.next KB.out)
      replace P1b := Lib.hid (P1b.out.below KB.out)
      replace Q1b := Lib.hid (Q1b.out.below KB.out)
      replace K1b := Lib.hid (K1b.out.next KB.out)
      replace P2a := Lib.hid (P2a.out.below KB.out)
      replace Q2a := Lib.hid (Q2a.out.below KB.out)
      replace K2a := Lib.hid (K2a.out.next KB.out)
      replace P2b := Lib.hid (P2b.out.below KB.out)
      replace Q2b := Lib.hid (Q2b.out.below KB.out)
      replace K2b := Lib.hid (K2b.out.next KB.out)
      replace P3a := Lib.hid (P3a.out.below KB.out)
      replace Q3a := Lib.hid (Q3a.out.below KB.out)
      go_upto_region 8 with (fail)
      clear KB
      generalize hW : w7.alloc (.cells #[.slice X3a D3.length y3a, .slice Z3a V3.length t3a] 25) = W3a at *
      clear hW
      generalize w7.heap.size = g3a at *
      obtain ⟨qBB0, qBB1, -, -⟩ := BB.out.all
      go_wp2_with fail
      refine (rt_w _ _ e _ _ u _ E3 D3 V3 HE3.out HD3.out HV3.out IE.out IU.out (by omega) (by omega)).mono ?_
      rintro r w8 ⟨X3b, y3b, Z3b, t3b, rfl, j1, j2, hb⟩
      clear qBB0 qBB1
      replace BB := Lib.hid (BB.out.next hb)
      replace L := Lib.hid (below_next L.out hb)
      replace BA := Lib.hid (BA.out.next hb)
      replace ID := Lib.hid (ID.out.below hb)
      replace IV := Lib.hid (IV.out.below hb)
      replace IE := Lib.hid (IE.out.below hb)
      replace IU := Lib.hid (IU.out.below hb)
      replace P1a := Lib.hid (P1a.out.below hb)
      replace Q1a := Lib.hid (Q1a.out.below hb)
      replace K1a := Lib.hid (K1a.out.next hb)
      replace P1b := Lib.hid (P1b.out.below hb)
      replace Q1b := Lib.hid (Q1b.out.below hb)
      replace K1b := Lib.hid (K1b.out.next hb)
      replace P2a := Lib.hid (P2a.out.below hb)
      replace Q2a := Lib.hid (Q2a.out.below hb)
      replace K2a := Lib.hid (K2a.out.next hb)
      replace P2b := Lib.hid (P2b.out.below hb)
      replace Q2b := Lib.hid (Q2b.out.below hb)
      replace K2b := Lib.hid (K2b.out.next hb)
      replace P3a := Lib.hid (P3a.out.below hb)
      replace Q3a := Lib.hid (Q3a.out.below hb)
      replace K3a := Lib.hid (K3a.out.next hb)
      clear hb
      have P3b := Lib.hid j1
      have Q3b := Lib.hid j2
      clear j1 j2
      have KB := Lib.hid (below_new w8 (.cells #[.slice X3b D3.length y3b, .slice Z3b V3.length t3b] 25))
      have K3b := Lib.hid (Box.new w8 (.slice X3b D3.length y3b) (.slice Z3b V3.length t3b))
      replace BB := Lib.hid (BB.out.next KB.out)
      replace L := Lib.hid (below_next L.out KB.out)
      replace BA := Lib.hid (BA.out.next KB.out)
      replace ID := Lib.hid (ID.out.below KB.out)
      replace IV := Lib.hid (IV.out.below KB.out)
      replace IE := Lib.hid (IE.out.below KB.out)
      replace IU := Lib.hid (IU.out.below KB.out)
      replace P1a := Lib.hid (P1a.out.below KB.out)
      replace Q1a := Lib.hid (Q1a.out.below KB.out)
      replace K1a := Lib.hid (K1a.out.next KB.out)
      replace P1b := Lib.hid (P1b.out.below KB.out)
      replace Q1b := Lib.hid (Q1b.out.below KB.out)
      replace K1b := Lib.hid (K1b.out.next KB.out)
      replace P2a := Lib.hid (P2a.out.below KB.out)
      replace Q2a := Lib.hid (Q2a.out.below KB.out)
      replace K2a := Lib.hid (K2a.out.next KB.out)
      replace P2b := Lib.hid (P2b.out.below KB.out)
      replace Q2b := Lib.hid (Q2b.out.below KB.out)
      replace K2b := Lib.hid (K2b.out.next KB.out)
      replace P3a := Lib.hid (P3a.out.below KB.out)
      replace Q3a := Lib.hid (Q3a.out.below KB.out)
      replace K3a := Lib.hid (K3a.out.next KB.out)
      replace P3b := Lib.hid (P3b.out.below KB.out)
      replace Q3b := Lib.hid (Q3b.out.below KB.out)
      go_upto_region 9 with (fail)
      clear KB
      generalize hW : w8.alloc (.cells #[.slice X3b D3.length y3b, .slice Z3b V3.length t3b] 25) = W3b at *
      clear hW
      generalize w8.heap.size = g3b at *
      obtain ⟨qBA0, qBA1, -, -⟩ := BA.out.all
      obtain ⟨qBB0, qBB1, -, -⟩ := BB.out.all
      go_wp2_with fail
      refine (pp_w _ _ d _ _ v _ _ e _ _ u _ E4 D4 V4 HE4.out HD4.out HV4.out ID.out IV.out IE.out IU.out (by omega) (by omega) (by omega) (by omega)).mono ?_
      rintro r w9 ⟨X4a, y4a, Z4a, t4a, rfl, j1, j2, hb⟩
      clear qBA0 qBA1 qBB0 qBB1
      replace BB := Lib.hid (BB.out.next hb)
      replace L := Lib.hid (below_next L.out hb)
      replace BA := Lib.hid (BA.out.next hb)
      replace ID := Lib.hid (ID.out.below hb)
      replace IV := Lib.hid (IV.out.below hb)
      replace IE := Lib.hid (IE.out.below hb)
      replace IU := Lib.hid (IU.out.below hb)
      replace P1a := Lib.hid (P1a.out.below hb)
      replace Q1a := Lib.hid (Q1a.out.below hb)
      replace K1a := Lib.hid (K1a.out.next hb)
      replace P1b := Lib.hid (P1b.out.below hb)
      replace Q1b := Lib.hid (Q1b.out.below hb)
      replace K1b := Lib.hid (K1b.out.next hb)
      replace P2a := Lib.hid (P2a.out.below hb)
      replace Q2a := Lib.hid (Q2a.out.below hb)
      replace K2a := Lib.hid (K2a.out.next hb)
      replace P2b := Lib.hid (P2b.out.below hb)
      replace Q2b := Lib.hid (Q2b.out.below hb)
      replace K2b := Lib.hid (K2b.out.next hb)
      replace P3a := Lib.hid (P3a.out.below hb)
      replace Q3a := Lib.hid (Q3a.out.below hb)
      replace K3a := Lib.hid (K3a.out.next hb)
      replace P3b := Lib.hid (P3b.out.below hb)
      replace Q3b := Lib.hid (Q3b.out.below hb)
      replace K3b := Lib.hid (K3b.out.next hb)
      clear hb
      have P4a := Lib.hid j1
      have Q4a := Lib.hid j2
      clear j1 j2
      have KB := Lib.hid (below_new w9 (.cells #[.slice X4a D4.length y4a, .slice Z4a V4.length t4a] 25))
      have K4a := Lib.hid (Box.new w9 (.slice X4a D4.length y4a) (.slice Z4a V4.length t4a))
      replace BB := Lib.hid (BB.out.next KB.out)
      replace L := Lib.hid (below_next L.out KB.out)
      replace BA := Lib.hid (BA.out.next KB.out)
      replace ID := Lib.hid (ID.out.below KB.out)
      replace IV := Lib.hid (IV.out.below KB.out)
      replace IE := Lib.hid (IE.out.below KB.out)
      replace IU := Lib.hid (IU.out.below KB.out)
      replace P1a := Lib.hid (P1a.out.below KB.out)
      replace Q1a := Lib.hid (Q1a.out.below KB.out)
      replace K1a := Lib.hid (K1a.out.next KB.out)
      replace P1b := Lib.hid (P1b.out.below KB.out)
      replace Q1b := Lib.hid (Q1b.out.below KB.out)
      replace K1b := Lib.hid (K1b.out.next KB.out)
      replace P2a := Lib.hid (P2a.out.below KB.out)
      replace Q2a := Lib.hid (Q2a.out.below KB.out)
      replace K2a := Lib.hid (K2a.out.next KB.out)
      replace P2b := Lib.hid (P2b.out.below KB.out)
      replace Q2b := Lib.hid (Q2b.out.below KB.out)
      replace K2b := Lib.hid (K2b.out.next KB.out)
      replace P3a := Lib.hid (P3a.out.below KB.out)
      replace Q3a := Lib.hid (Q3a.out.below KB.out)
      replace K3a := Lib.hid (K3a.out.next KB.out)
      replace P3b := Lib.hid (P3b.out.below KB.out)
      replace Q3b := Lib.hid (Q3b.out.below KB.out)
      replace K3b := Lib.hid (K3b.out.next KB.out)
      replace P4a := Lib.hid (P4a.out.below KB.out)
      replace Q4a := Lib.hid (Q4a.out.below KB.out)
      go_upto_region 10 with (fail)
      clear KB
      generalize hW : w9.alloc (.cells #[.slice X4a D4.length y4a, .slice Z4a V4.length t4a] 25) = W4a at *
      clear hW
      generalize w9.heap.size = g4a at *
      obtain ⟨qBA0, qBA1, -, -⟩ := BA.out.all
      obtain ⟨qBB0, qBB1, -, -⟩ := BB.out.all
      go_wp2_with fail
      refine (rp_w _ _ d _ _ v _ _ e _ _ u _ E4 D4 V4 HE4.out HD4.out HV4.out ID.out IV.out IE.out IU.out (by omega) (by omega) (by omega) (by omega)).mono ?_
      rintro r w10 ⟨X4b, y4b, Z4b, t4b, rfl, j1, j2, hb⟩
      clear qBA0 qBA1 qBB0 qBB1
      replace BB := Lib.hid (BB.out.next hb)
      replace L := Lib.hid (below_next L.out hb)
      replace BA := Lib.hid (BA.out.next hb)
      replace ID := Lib.hid (ID.out.below hb)
      replace IV := Lib.hid (IV.out.below hb)
      replace IE := Lib.hid (IE.out.below hb)
      replace IU := Lib.hid (IU.out.below hb)
      replace P1a := Lib.hid (P1a.out.below hb)
      replace Q1a := Lib.hid (Q1a.out.below hb)
      replace K1a := Lib.hid (K1a.out.next hb)
      replace P1b := Lib.hid (P1b.out.below hb)
      replace Q1b := Lib.hid (Q1b.out.below hb)
      replace K1b := Lib.hid (K1b.out.next hb)
      replace P2a := Lib.hid (P2a.out.below hb)
      replace Q2a := Lib.hid (Q2a.out.below hb)
      replace K2a := Lib.hid (K2a.out.next hb)
      replace P2b := Lib.hid (P2b.out.below hb)
      replace Q2b := Lib.hid (Q2b.out.below hb)
      replace K2b := Lib.hid (K2b.out.next hb)
      replace P3a := Lib.hid (P3a.out.below hb)
      replace Q3a := Lib.hid (Q3a.out.below hb)
      replace K3a := Lib.hid (K3a.out.next hb)
      replace P3b := Lib.hid (P3b.out.below hb)
      replace Q3b := Lib.hid (Q3b.out.below hb)
      replace K3b := Lib.hid (K3b.out.next hb)
      replace P4a := Lib.hid (P4a.out.below hb)
      replace Q4a := Lib.hid (Q4a.out.below hb)
      replace K4a := Lib.hid (K4a.out.next hb)
      clear hb
      have P4b := Lib.hid j1
      have Q4b := Lib.hid j2
      clear j1 j2
      have KB := Lib.hid (below_new w10 (.cells #[.slice X4b D4.length y4b, .slice Z4b V4.length t4b] 25))
      have K4b := Lib.hid (Box.new w10 (.slice X4b D4.length y4b) (.slice Z4b V4.length t4b))
      replace BB := Lib.hid (BB.out.next KB.out)
      replace L := Lib.hid (below_next L.out KB.out)
      replace BA := Lib.hid (BA.out.next KB.out)
      replace ID := Lib.hid (ID.out.below KB.out)
      replace IV := Lib.hid (IV.out.below KB.out)
      replace IE := Lib.hid (IE.out.below KB.out)
      replace IU := Lib.hid (IU.out.below KB.out)
      replace P1a := Lib.hid (P1a.out.below KB.out)
      replace Q1a := Lib.hid (Q1a.out.below KB.out)
      replace K1a := Lib.hid (K1a.out.next KB.out)
      replace P1b := Lib.hid (P1b.out.below KB.out)
      replace Q1b := Lib.hid (Q1b.out.below KB.out)
      replace K1b := Lib.hid (K1b.out.next KB.out)
      replace P2a := Lib.hid (P2a.out.below KB.out)
      replace Q2a := Lib.hid (Q2a.out.below KB.out)
      replace K2a := Lib.hid (K2a.out.next KB.out)
      replace P2b := Lib.hid (P2b.out.below KB.out)
      replace Q2b := Lib.hid (Q2b.out.below KB.out)
      replace K2b := Lib.hid (K2b.out.next KB.out)
      replace P3a := Lib.hid (P3a.out.below KB.out)
      replace Q3a := Lib.hid (Q3a.out.below KB.out)
      replace K3a := Lib.hid (K3a.out.next KB.out)
      replace P3b := Lib.hid (P3b.out.below KB.out)
      replace Q3b := Lib.hid (Q3b.out.below KB.out)
      replace K3b := Lib.hid (K3b.out.next KB.out)
      replace P4a := Lib.hid (P4a.out.below KB.out)
      replace Q4a := Lib.hid (Q4a.out.below KB.out)
      replace K4a := Lib.hid (K4a.out.next KB.out)
      replace P4b := Lib.hid (P4b.out.below KB.out)
      replace Q4b := Lib.hid (Q4b.out.below KB.out)
      go_upto_region 11 with (fail)
      clear KB
      generalize hW : w10.alloc (.cells #[.slice X4b D4.length y4b, .slice Z4b V4.length t4b] 25) = W4b at *
      clear hW
      generalize w10.heap.size = g4b at *
      clear BA
      clear BB
      clear ID
      clear IV
      clear IE
      clear IU
      obtain ⟨qK1a0, qK1a1, -, -⟩ := K1a.out.all
      obtain ⟨qK1b0, qK1b1, -, -⟩ := K1b.out.all
      go_wp2_with fail
      refine (rsame_eq7 _ _ D1 _ _ V1 _ _ _ _ _ (by omega) (by omega) P1a.out Q1a.out P1b.out Q1b.out).mono ?_
      rintro r w11 ⟨rfl, hb⟩
      clear qK1a0 qK1a1 qK1b0 qK1b1
      replace L := Lib.hid (below_next L.out hb)
      replace P1a := Lib.hid (P1a.out.below hb)
      replace Q1a := Lib.hid (Q1a.out.below hb)
      replace K1a := Lib.hid (K1a.out.next hb)
      replace P1b := Lib.hid (P1b.out.below hb)
      replace Q1b := Lib.hid (Q1b.out.below hb)
      replace K1b := Lib.hid (K1b.out.next hb)
      replace P2a := Lib.hid (P2a.out.below hb)
      replace Q2a := Lib.hid (Q2a.out.below hb)
      replace K2a := Lib.hid (K2a.out.next hb)
      replace P2b := Lib.hid (P2b.out.below hb)
      replace Q2b := Lib.hid (Q2b.out.below hb)
      replace K2b := Lib.hid (K2b.out.next hb)
      replace P3a := Lib.hid (P3a.out.below hb)
      replace Q3a := Lib.hid (Q3a.out.below hb)
      replace K3a := Lib.hid (K3a.out.next hb)
      replace P3b := Lib.hid (P3b.out.below hb)
      replace Q3b := Lib.hid (Q3b.out.below hb)
      replace K3b := Lib.hid (K3b.out.next hb)
      replace P4a := Lib.hid (P4a.out.below hb)
      replace Q4a := Lib.hid (Q4a.out.below hb)
      replace K4a := Lib.hid (K4a.out.next hb)
      replace P4b := Lib.hid (P4b.out.below hb)
      replace Q4b := Lib.hid (Q4b.out.below hb)
      replace K4b := Lib.hid (K4b.out.next hb)
      clear hb
      obtain ⟨qK2a0, qK2a1, -, -⟩ := K2a.out.all
      obtain ⟨qK2b0, qK2b1, -, -⟩ := K2b.out.all
      go_wp2_with fail
      refine (rsame_eq7 _ _ D2 _ _ V2 _ _ _ _ _ (by omega) (by omega) P2a.out Q2a.out P2b.out Q2b.out).mono ?_
      rintro r w12 ⟨rfl, hb⟩
      clear qK2a0 qK2a1 qK2b0 qK2b1
      replace L := Lib.hid (below_next L.out hb)
      replace P1a := Lib.hid (P1a.out.below hb)
      replace Q1a := Lib.hid (Q1a.out.below hb)
      replace K1a := Lib.hid (K1a.out.next hb)
      replace P1b := Lib.hid (P1b.out.below hb)
      replace Q1b := Lib.hid (Q1b.out.below hb)
      replace K1b := Lib.hid (K1b.out.next hb)
      replace P2a := Lib.hid (P2a.out.below hb)
      replace Q2a := Lib.hid (Q2a.out.below hb)
      replace K2a := Lib.hid (K2a.out.next hb)
      replace P2b := Lib.hid (P2b.out.below hb)
      replace Q2b := Lib.hid (Q2b.out.below hb)
      replace K2b := Lib.hid (K2b.out.next hb)
      replace P3a := Lib.hid (P3a.out.below hb)
      replace Q3a := Lib.hid (Q3a.out.below hb)
      replace K3a := Lib.hid (K3a.out.next hb)
      replace P3b := Lib.hid (P3b.out.below hb)
      replace Q3b := Lib.hid (Q3b.out.below hb)
      replace K3b := Lib.hid (K3b.out.next hb)
      replace P4a := Lib.hid (P4a.out.below hb)
      replace Q4a := Lib.hid (Q4a.out.below hb)
      replace K4a := Lib.hid (K4a.out.next hb)
      replace P4b := Lib.hid (P4b.out.below hb)
      replace Q4b := Lib.hid (Q4b.out.below hb)
      replace K4b := Lib.hid (K4b.out.next hb)
      clear hb
      obtain ⟨qK3a0, qK3a1, -, -⟩ := K3a.out.all
      obtain ⟨qK3b0, qK3b1, -, -⟩ := K3b.out.all
      go_wp2_with fail
      refine (rsame_eq7 _ _ D3 _ _ V3 _ _ _ _ _ (by omega) (by omega) P3a.out Q3a.out P3b.out Q3b.out).mono ?_
      rintro r w13 ⟨rfl, hb⟩
      clear qK3a0 qK3a1 qK3b0 qK3b1
      replace L := Lib.hid (below_next L.out hb)
      replace P1a := Lib.hid (P1a.out.below hb)
      replace Q1a := Lib.hid (Q1a.out.below hb)
      replace K1a := Lib.hid (K1a.out.next hb)
      replace P1b := Lib.hid (P1b.out.below hb)
      replace Q1b := Lib.hid (Q1b.out.below hb)
      replace K1b := Lib.hid (K1b.out.next hb)
      replace P2a := Lib.hid (P2a.out.below hb)
      replace Q2a := Lib.hid (Q2a.out.below hb)
      replace K2a := Lib.hid (K2a.out.next hb)
      replace P2b := Lib.hid (P2b.out.below hb)
      replace Q2b := Lib.hid (Q2b.out.below hb)
      replace K2b := Lib.hid (K2b.out.next hb)
      replace P3a := Lib.hid (P3a.out.below hb)
      replace Q3a := Lib.hid (Q3a.out.below hb)
      replace K3a := Lib.hid (K3a.out.next hb)
      replace P3b := Lib.hid (P3b.out.below hb)
      replace Q3b := Lib.hid (Q3b.out.below hb)
      replace K3b := Lib.hid (K3b.out.next hb)
      replace P4a := Lib.hid (P4a.out.below hb)
      replace Q4a := Lib.hid (Q4a.out.below hb)
      replace K4a := Lib.hid (K4a.out.next hb)
      replace P4b := Lib.hid (P4b.out.below hb)
      replace Q4b := Lib.hid (Q4b.out.below hb)
      replace K4b := Lib.hid (K4b.out.next hb)
      clear hb
      obtain ⟨qK4a0, qK4a1, -, -⟩ := K4a.out.all
      obtain ⟨qK4b0, qK4b1, -, -⟩ := K4b.out.all
      go_wp2_with fail
      refine (rsame_eq7 _ _ D4 _ _ V4 _ _ _ _ _ (by omega) (by omega) P4a.out Q4a.out P4b.out Q4b.out).mono ?_
      rintro r w14 ⟨rfl, hb⟩
      clear qK4a0 qK4a1 qK4b0 qK4b1
      replace L := Lib.hid (below_next L.out hb)
      replace P1a := Lib.hid (P1a.out.below hb)
      replace Q1a := Lib.hid (Q1a.out.below hb)
      replace K1a := Lib.hid (K1a.out.next hb)
      replace P1b := Lib.hid (P1b.out.below hb)
      replace Q1b := Lib.hid (Q1b.out.below hb)
      replace K1b := Lib.hid (K1b.out.next hb)
      replace P2a := Lib.hid (P2a.out.below hb)
      replace Q2a := Lib.hid (Q2a.out.below hb)
      replace K2a := Lib.hid (K2a.out.next hb)
      replace P2b := Lib.hid (P2b.out.below hb)
      replace Q2b := Lib.hid (Q2b.out.below hb)
      replace K2b := Lib.hid (K2b.out.next hb)
      replace P3a := Lib.hid (P3a.out.below hb)
      replace Q3a := Lib.hid (Q3a.out.below hb)
      replace K3a := Lib.hid (K3a.out.next hb)
      replace P3b := Lib.hid (P3b.out.below hb)
      replace Q3b := Lib.hid (Q3b.out.below hb)
      replace K3b := Lib.hid (K3b.out.next hb)
      replace P4a := Lib.hid (P4a.out.below hb)
      replace Q4a := Lib.hid (Q4a.out.below hb)
      replace K4a := Lib.hid (K4a.out.next hb)
      replace P4b := Lib.hid (P4b.out.below hb)
      replace Q4b := Lib.hid (Q4b.out.below hb)
      replace K4b := Lib.hid (K4b.out.next hb)
      clear hb
      go_wp2_with fail
      refine (lives7_any _).mono ?_
      rintro r w15 ⟨rfl, hb⟩
      replace L := Lib.hid (below_next L.out hb)
      replace P1a := Lib.hid (P1a.out.below hb)
      replace Q1a := Lib.hid (Q1a.out.below hb)
      replace K1a := Lib.hid (K1a.out.next hb)
      replace P1b := Lib.hid (P1b.out.below hb)
      replace Q1b := Lib.hid (Q1b.out.below hb)
      replace K1b := Lib.hid (K1b.out.next hb)
      replace P2a := Lib.hid (P2a.out.below hb)
      replace Q2a := Lib.hid (Q2a.out.below hb)
      replace K2a := Lib.hid (K2a.out.next hb)
      replace P2b := Lib.hid (P2b.out.below hb)
      replace Q2b := Lib.hid (Q2b.out.below hb)
      replace K2b := Lib.hid (K2b.out.next hb)
      replace P3a := Lib.hid (P3a.out.below hb)
      replace Q3a := Lib.hid (Q3a.out.below hb)
      replace K3a := Lib.hid (K3a.out.next hb)
      replace P3b := Lib.hid (P3b.out.below hb)
      replace Q3b := Lib.hid (Q3b.out.below hb)
      replace K3b := Lib.hid (K3b.out.next hb)
      replace P4a := Lib.hid (P4a.out.below hb)
      replace Q4a := Lib.hid (Q4a.out.below hb)
      replace K4a := Lib.hid (K4a.out.next hb)
      replace P4b := Lib.hid (P4b.out.below hb)
      replace Q4b := Lib.hid (Q4b.out.below hb)
      replace K4b := Lib.hid (K4b.out.next hb)
      clear hb
      go_wp2
      go_ret
      exact ⟨ret_bool (by simp), L.out⟩
    · have H1 := Lib.hid h1
      have H2 := Lib.hid h2
      clear h1 h2
      have b1 := below_new w (.cells #[.slice A d.length c1, .slice B v.length c2] 25)
      have b2 := below_new (w.alloc (.cells #[.slice A d.length c1, .slice B v.length c2] 25)) (.cells #[.slice A' e.length c1', .slice B' u.length c2'] 25)
      have bb0 := Box.new (w.alloc (.cells #[.slice A d.length c1, .slice B v.length c2] 25)) (.slice A' e.length c1') (.slice B' u.length c2')
      rw [show (w.alloc (.cells #[.slice A d.length c1, .slice B v.length c2] 25)).heap.size = w.heap.size + 1 from by simp] at bb0
      have BB := Lib.hid (bb0)
      have L := Lib.hid (below_next b1 b2)
      clear b1 b2 bb0 id iv ie iu
      go_enter Try.func3, Try.ntmps3
      go_wp2_with fail
      refine (great_no _ _ _ _ _ _ _ H1.out.1 H1.out.2).mono ?_
      rintro r w1 ⟨rfl, hb⟩
      replace BB := Lib.hid (BB.out.next hb)
      replace L := Lib.hid (below_next L.out hb)
      clear hb
      obtain ⟨qBB0, qBB1, -, -⟩ := BB.out.all
      go_wp2_with fail
      refine (great_yes _ _ _ _ _ _ _ H2.out).mono ?_
      rintro r w2 ⟨rfl, hb⟩
      clear qBB0 qBB1
      replace BB := Lib.hid (BB.out.next hb)
      replace L := Lib.hid (below_next L.out hb)
      clear hb
      go_wp2_with fail
      refine (lives7_any _).mono ?_
      rintro r w3 ⟨rfl, hb⟩
      replace BB := Lib.hid (BB.out.next hb)
      replace L := Lib.hid (below_next L.out hb)
      clear hb
      go_wp2
      go_ret
      exact ⟨rfl, L.out⟩
  · have H1 := Lib.hid h1
    clear h1
    have b1 := below_new w (.cells #[.slice A d.length c1, .slice B v.length c2] 25)
    have b2 := below_new (w.alloc (.cells #[.slice A d.length c1, .slice B v.length c2] 25)) (.cells #[.slice A' e.length c1', .slice B' u.length c2'] 25)
    have bb0 := Box.new (w.alloc (.cells #[.slice A d.length c1, .slice B v.length c2] 25)) (.slice A' e.length c1') (.slice B' u.length c2')
    rw [show (w.alloc (.cells #[.slice A d.length c1, .slice B v.length c2] 25)).heap.size = w.heap.size + 1 from by simp] at bb0
    have BB := Lib.hid (bb0)
    have L := Lib.hid (below_next b1 b2)
    clear b1 b2 bb0 id iv ie iu
    go_enter Try.func3, Try.ntmps3
    go_wp2_with fail
    refine (great_yes _ _ _ _ _ _ _ H1.out).mono ?_
    rintro r w1 ⟨rfl, hb⟩
    replace BB := Lib.hid (BB.out.next hb)
    replace L := Lib.hid (below_next L.out hb)
    clear hb
    go_wp2_with fail
    refine (lives7_any _).mono ?_
    rintro r w2 ⟨rfl, hb⟩
    replace BB := Lib.hid (BB.out.next hb)
    replace L := Lib.hid (below_next L.out hb)
    clear hb
    go_wp2
    go_ret
    exact ⟨rfl, L.out⟩

set_option maxRecDepth 100000 in
theorem lifted (os : Os) (started : os.Started) (H : Type) (enc : TypeId × Value → H) :
    ReturnsInHanded {} Try.checked os 3 .any (Rows.carveTurnsSpec.pre6 enc Try.prog Try.f3 Rows.carveTurnsRow.domain false) (Rows.carveTurnsSpec.post enc Try.prog Try.f3 false true false false) := by
  refine returnsInHanded_of_change (C := Try.checked) own started (by kernel_rfl) Try.func3
    (ChangeSpec.witness6 (enc := enc) (C := Try.checked) false ⟨#[], #[.agg #[.slice none 0 0, .slice none 0 0], .agg #[.slice none 0 0, .slice none 0 0], .bool false], []⟩ 8 (by kernel_rfl) (by kernel_rfl) (by kernel_rfl) (by kernel_rfl)) ?_
  intro W base args ds gs before hval0 hW hcnd _
  have hval : ∀ (j : Nat) t v, Try.f3.params[j]? = some t → args[j]? = some v → Value.okWide Try.prog W .any base t v := hval0
  have hW' := hW
  obtain ⟨p, q, hA0, hV, rfl, hfz, hnd⟩ := hW
  have hA : DataW.TrodAll enc Try.prog W 0 (fun _ => true) true Try.f3.params.toList args.toList ds p := hA0
  rw [Try.params3] at hA hval
  obtain ⟨v0, vs0, dd0, ds0, p0, q0, hargs, rfl, rfl, h0, r0⟩ := trodAll_cons hA
  obtain ⟨v1, vs1, dd1, ds1, p1, q1, rfl, rfl, rfl, h1, r1⟩ := trodAll_cons r0
  obtain ⟨v2, vs2, dd2, ds2, p2, q2, rfl, rfl, rfl, h2, r2⟩ := trodAll_cons r1
  obtain ⟨rfl, rfl, rfl⟩ := trodAll_nil r2
  obtain rfl : args = #[v0, v1, v2] := by cases args; simp_all
  obtain ⟨rfl, rfl⟩ := trodVars_none hV
  have k0 := h0
  have lt0 : ∀ x ∈ p0, x.block < W.heap.size := by obtain ⟨m, hm⟩ := k0; exact DataW.trod_lt m _ _ _ hm
  obtain ⟨A0, c0, l0, B0, e0, m0, rfl, hl0, hm0⟩ := cell_arg (hval 0 25 v0 rfl rfl) h0
  have k1 := h1
  have lt1 : ∀ x ∈ p1, x.block < W.heap.size := by obtain ⟨m, hm⟩ := k1; exact DataW.trod_lt m _ _ _ hm
  obtain ⟨A1, c1, l1, B1, e1, m1, rfl, hl1, hm1⟩ := cell_arg (hval 1 25 v1 rfl rfl) h1
  have k2 := h2
  have lt2 : ∀ x ∈ p2, x.block < W.heap.size := by obtain ⟨m, hm⟩ := k2; exact DataW.trod_lt m _ _ _ hm
  obtain ⟨b2, rfl, _, _⟩ := open_bool Try.underlying4 (hval 2 4 v2 rfl rfl) h2
  clear hA0 hval0
  refine (walk A0 c0 l0 B0 e0 m0 A1 c1 l1 B1 e1 m1 b2 W hl0.1 hm0.1 hl1.1 hm1.1).mono fun e W' ⟨he, bel⟩ => ?_
  subst he
  exact ⟨_, rfl, _, _, _, [], _, [], hW', trodAll_mk1 (shut_bool Try.underlying4 _), (trodAll_cons_mk (Below.trod laidOut (by kernel_rfl) (of_decide_eq_true (by kernel_rfl)) k0 bel lt0) (trodAll_cons_mk (Below.trod laidOut (by kernel_rfl) (of_decide_eq_true (by kernel_rfl)) k1 bel lt1) (trodAll_cons_mk (Below.trod laidOut (by kernel_rfl) (of_decide_eq_true (by kernel_rfl)) k2 bel lt2) trodAll_mk0))), rfl, bel.frame _, fun h => by cases h⟩

theorem over : Rows.carveTurnsRow.holds Try.pinned (OpenSpec.ofChange Rows.carveTurnsSpec) :=
  OpenClaim.holds_of_wide 3 Try.f3 rfl rfl rfl rfl rfl rfl rfl ⟨rfl, rfl, rfl, rfl, rfl⟩ rfl rfl rfl rfl rfl (by kernel_rfl) Try.func3 (by kernel_rfl)
    (of_decide_eq_true (by kernel_rfl)) (by unfold Func.isWrapper; first | (rw [if_pos (by decide +kernel)]; kernel_rfl) | (rw [if_neg (by decide +kernel)]; exact ⟨rfl, rfl⟩))
    (fun os started H enc _ => lifted os started H enc)

theorem proved : Rows.CarveTurnsSaid := over
end Go.Proofs.Yticicfbllhnpcaa.carveTurns
