/-
  Proved: for any cell rifflelaw06.MoldTells returns true, and the argument reads afterwards as it read before. No other condition.
-/
import Derived.Test.YthabimjmdnhomaaMoTell5
namespace Go.Proofs.Ythabimjmdnhomaa.moldTells
open Go.Proofs.Ythabimjmdnhomaa.Sh
open Go.Joins Go.ChangeShapes Go.WideShapes Go.ChangeAt Go.RowKit Go.Deep
set_option linter.unusedVariables false

theorem dims_w (A : Option Addr) (c : Nat) (d : List Int) (B : Option Addr) (c2 : Nat) (v : List Int) (w : World) (E : Int) (D V : List Int) (hE : okE d v.length = E) (hD : okL d v.length [(d.length : Int)] = D) (hV : okL d v.length d = V) (id : Ints w A d) (iv : Ints w B v) (hd : d.length ≤ 100) (hv : v.length ≤ 1000) :
    Calls Try.prog 9 #[.agg #[.slice A d.length c, .slice B v.length c2]] w (RetC w D V (.int .i64 E)) := by subst hE hD hV; exact dims_any A c d B c2 v w id iv hd hv
theorem rdims_w (A : Option Addr) (c : Nat) (d : List Int) (B : Option Addr) (c2 : Nat) (v : List Int) (w : World) (E : Int) (D V : List Int) (hE : okE d v.length = E) (hD : okL d v.length [(d.length : Int)] = D) (hV : okL d v.length d = V) (id : Ints w A d) (iv : Ints w B v) (hd : d.length ≤ 100) (hv : v.length ≤ 1000) :
    Calls Try.prog 10 #[.agg #[.slice A d.length c, .slice B v.length c2]] w (RetC w D V (.int .i64 E)) := by subst hE hD hV; exact rdims_any A c d B c2 v w id iv hd hv
theorem tally_w (A : Option Addr) (c : Nat) (d : List Int) (B : Option Addr) (c2 : Nat) (v : List Int) (w : World) (E : Int) (D V : List Int) (hE : okE d v.length = E) (hD : okL d v.length [] = D) (hV : okL d v.length [(listedL d).getD 0 0] = V) (id : Ints w A d) (iv : Ints w B v) (hd : d.length ≤ 100) (hv : v.length ≤ 1000) :
    Calls Try.prog 11 #[.agg #[.slice A d.length c, .slice B v.length c2]] w (RetC w D V (.int .i64 E)) := by subst hE hD hV; exact tally_any A c d B c2 v w id iv hd hv
theorem rtally_w (A : Option Addr) (c : Nat) (d : List Int) (B : Option Addr) (c2 : Nat) (v : List Int) (w : World) (E : Int) (D V : List Int) (hE : okE d v.length = E) (hD : okL d v.length [] = D) (hV : okL d v.length [(listedL d).getD 0 0] = V) (id : Ints w A d) (iv : Ints w B v) (hd : d.length ≤ 100) (hv : v.length ≤ 1000) :
    Calls Try.prog 12 #[.agg #[.slice A d.length c, .slice B v.length c2]] w (RetC w D V (.int .i64 E)) := by subst hE hD hV; exact rtally_any A c d B c2 v w id iv hd hv
theorem ravel_w (A : Option Addr) (c : Nat) (d : List Int) (B : Option Addr) (c2 : Nat) (v : List Int) (w : World) (E : Int) (D V : List Int) (hE : okE d v.length = E) (hD : okL d v.length [(v.length : Int)] = D) (hV : okL d v.length v = V) (id : Ints w A d) (iv : Ints w B v) (hd : d.length ≤ 100) (hv : v.length ≤ 1000) :
    Calls Try.prog 13 #[.agg #[.slice A d.length c, .slice B v.length c2]] w (RetC w D V (.int .i64 E)) := by subst hE hD hV; exact ravel_any A c d B c2 v w id iv hd hv
theorem rravel_w (A : Option Addr) (c : Nat) (d : List Int) (B : Option Addr) (c2 : Nat) (v : List Int) (w : World) (E : Int) (D V : List Int) (hE : okE d v.length = E) (hD : okL d v.length [(v.length : Int)] = D) (hV : okL d v.length v = V) (id : Ints w A d) (iv : Ints w B v) (hd : d.length ≤ 100) (hv : v.length ≤ 1000) :
    Calls Try.prog 14 #[.agg #[.slice A d.length c, .slice B v.length c2]] w (RetC w D V (.int .i64 E)) := by subst hE hD hV; exact rravel_any A c d B c2 v w id iv hd hv
theorem count_w (A : Option Addr) (c : Nat) (d : List Int) (B : Option Addr) (c2 : Nat) (v : List Int) (w : World) (E : Int) (D V : List Int) (hE : cnE d v = E) (hD : cnD d v = D) (hV : cnV d v = V) (id : Ints w A d) (iv : Ints w B v) (hd : d.length ≤ 100) (hv : v.length ≤ 1000) :
    Calls Try.prog 15 #[.agg #[.slice A d.length c, .slice B v.length c2]] w (RetC w D V (.int .i64 E)) := by subst hE hD hV; exact count_any A c d B c2 v w id iv hd hv
theorem rcount_w (A : Option Addr) (c : Nat) (d : List Int) (B : Option Addr) (c2 : Nat) (v : List Int) (w : World) (E : Int) (D V : List Int) (hE : cnE d v = E) (hD : cnD d v = D) (hV : cnV d v = V) (id : Ints w A d) (iv : Ints w B v) (hd : d.length ≤ 100) (hv : v.length ≤ 1000) :
    Calls Try.prog 16 #[.agg #[.slice A d.length c, .slice B v.length c2]] w (RetC w D V (.int .i64 E)) := by subst hE hD hV; exact rcount_any A c d B c2 v w id iv hd hv
theorem okL_len {d : List Int} {n : Nat} {l : List Int} {k : Nat} (h : l.length ≤ k) : (okL d n l).length ≤ k := by
  unfold okL; split
  · exact h
  · simp
theorem cn_len {d v : List Int} : (cnD d v).length ≤ 1 ∧ (cnV d v).length ≤ 64 := by
  unfold cnD cnV; split
  · rename_i h
    refine ⟨by simp, ?_⟩
    have : ¬ 64 < v.getD 0 0 := by
      unfold cnE at h
      split at h
      · split at h
        · split at h
          · omega
          · split at h
            · omega
            · assumption
        · omega
      · omega
    simp only [List.length_map, List.length_range]; omega
  · simp

set_option maxHeartbeats 8000000 in
set_option maxRecDepth 100000 in
theorem walk (A : Option Addr) (c : Nat) (d : List Int) (B : Option Addr) (c2 : Nat) (v : List Int) (w : World) (id : Ints w A d) (iv : Ints w B v) :
    Calls Try.prog 3 #[.agg #[.slice A d.length c, .slice B v.length c2]] w fun e w' => e = .returned (.bool true) ∧ Below w.heap.size w w' := by
  by_cases h1 : d.length ≤ 10 ∧ v.length ≤ 200
  · obtain ⟨hd, hv⟩ := h1
    obtain ⟨E1, hE1⟩ : ∃ E, okE d v.length = E := ⟨_, rfl⟩
    obtain ⟨D1, hD1⟩ : ∃ D, okL d v.length [(d.length : Int)] = D := ⟨_, rfl⟩
    obtain ⟨V1, hV1⟩ : ∃ V, okL d v.length d = V := ⟨_, rfl⟩
    have hDl1 : D1.length ≤ 200 := by rw [← hD1]; exact okL_len (by simp)
    have hVl1 : V1.length ≤ 200 := by rw [← hV1]; exact okL_len (by omega)
    have HE1 := Lib.hid hE1
    have HD1 := Lib.hid hD1
    have HV1 := Lib.hid hV1
    obtain ⟨E2, hE2⟩ : ∃ E, okE d v.length = E := ⟨_, rfl⟩
    obtain ⟨D2, hD2⟩ : ∃ D, okL d v.length [] = D := ⟨_, rfl⟩
    obtain ⟨V2, hV2⟩ : ∃ V, okL d v.length [(listedL d).getD 0 0] = V := ⟨_, rfl⟩
    have hDl2 : D2.length ≤ 200 := by rw [← hD2]; exact okL_len (by simp)
    have hVl2 : V2.length ≤ 200 := by rw [← hV2]; exact okL_len (by simp)
    have HE2 := Lib.hid hE2
    have HD2 := Lib.hid hD2
    have HV2 := Lib.hid hV2
    obtain ⟨E3, hE3⟩ : ∃ E, okE d v.length = E := ⟨_, rfl⟩
    obtain ⟨D3, hD3⟩ : ∃ D, okL d v.length [(v.length : Int)] = D := ⟨_, rfl⟩
    obtain ⟨V3, hV3⟩ : ∃ V, okL d v.length v = V := ⟨_, rfl⟩
    have hDl3 : D3.length ≤ 200 := by rw [← hD3]; exact okL_len (by simp)
    have hVl3 : V3.length ≤ 200 := by rw [← hV3]; exact okL_len (by omega)
    have HE3 := Lib.hid hE3
    have HD3 := Lib.hid hD3
    have HV3 := Lib.hid hV3
    obtain ⟨E4, hE4⟩ : ∃ E, cnE d v = E := ⟨_, rfl⟩
    obtain ⟨D4, hD4⟩ : ∃ D, cnD d v = D := ⟨_, rfl⟩
    obtain ⟨V4, hV4⟩ : ∃ V, cnV d v = V := ⟨_, rfl⟩
    have hDl4 : D4.length ≤ 200 := by rw [← hD4]; exact Nat.le_trans cn_len.1 (by omega)
    have hVl4 : V4.length ≤ 200 := by rw [← hV4]; exact Nat.le_trans cn_len.2 (by omega)
    have HE4 := Lib.hid hE4
    have HD4 := Lib.hid hD4
    have HV4 := Lib.hid hV4
    clear hE1 hD1 hV1 hE2 hD2 hV2 hE3 hD3 hV3 hE4 hD4 hV4
    have b1 := below_new w (.cells #[.slice A d.length c, .slice B v.length c2] 25)
    have L := Lib.hid (b1)
    have BA := Lib.hid (Box.new w (.slice A d.length c) (.slice B v.length c2))
    have ID := Lib.hid (id.below b1)
    have IV := Lib.hid (iv.below b1)
    clear b1 id iv
    go_enter Try.func3, Try.ntmps3
    go_wp2_with fail
    refine (great_no _ _ _ _ _ _ _ hd hv).mono ?_
    rintro r w1 ⟨rfl, hb⟩
    replace L := Lib.hid (below_next L.out hb)
    replace BA := Lib.hid (BA.out.next hb)
    replace ID := Lib.hid (ID.out.below hb)
    replace IV := Lib.hid (IV.out.below hb)
    clear hb
    obtain ⟨qBA0, qBA1, -, -⟩ := BA.out.all
    go_wp2_with fail
    refine (dims_w _ _ d _ _ v _ E1 D1 V1 HE1.out HD1.out HV1.out ID.out IV.out (by omega) (by omega)).mono ?_
    rintro r w2 ⟨x, rfl, ⟨A1a, c1a, B1a, e1a, rfl, j1, j2, -⟩, hb⟩
    clear qBA0 qBA1
    replace L := Lib.hid (below_next L.out hb)
    replace BA := Lib.hid (BA.out.next hb)
    replace ID := Lib.hid (ID.out.below hb)
    replace IV := Lib.hid (IV.out.below hb)
    clear hb
    have P1a := Lib.hid j1.ints
    have Q1a := Lib.hid j2.ints
    clear j1 j2
    have KB := Lib.hid (below_new w2 (.cells #[.slice A1a D1.length c1a, .slice B1a V1.length e1a] 25))
    have K1a := Lib.hid (Box.new w2 (.slice A1a D1.length c1a) (.slice B1a V1.length e1a))
    replace L := Lib.hid (below_next L.out KB.out)
    replace BA := Lib.hid (BA.out.next KB.out)
    replace ID := Lib.hid (ID.out.below KB.out)
    replace IV := Lib.hid (IV.out.below KB.out)
    replace P1a := Lib.hid (P1a.out.below KB.out)
    replace Q1a := Lib.hid (Q1a.out.below KB.out)
    go_upto_region 4 with (fail)
    clear KB
    generalize hW : w2.alloc (.cells #[.slice A1a D1.length c1a, .slice B1a V1.length e1a] 25) = W1a at *
    clear hW
    generalize w2.heap.size = g1a at *
    obtain ⟨qBA0, qBA1, -, -⟩ := BA.out.all
    go_wp2_with fail
    refine (rdims_w _ _ d _ _ v _ E1 D1 V1 HE1.out HD1.out HV1.out ID.out IV.out (by omega) (by omega)).mono ?_
    rintro r w3 ⟨x, rfl, ⟨A1b, c1b, B1b, e1b, rfl, j1, j2, -⟩, hb⟩
    clear qBA0 qBA1
    replace L := Lib.hid (below_next L.out hb)
    replace BA := Lib.hid (BA.out.next hb)
    replace ID := Lib.hid (ID.out.below hb)
    replace IV := Lib.hid (IV.out.below hb)
    replace P1a := Lib.hid (P1a.out.below hb)
    replace Q1a := Lib.hid (Q1a.out.below hb)
    replace K1a := Lib.hid (K1a.out.next hb)
    clear hb
    have P1b := Lib.hid j1.ints
    have Q1b := Lib.hid j2.ints
    clear j1 j2
    have KB := Lib.hid (below_new w3 (.cells #[.slice A1b D1.length c1b, .slice B1b V1.length e1b] 25))
    have K1b := Lib.hid (Box.new w3 (.slice A1b D1.length c1b) (.slice B1b V1.length e1b))
    replace L := Lib.hid (below_next L.out KB.out)
    replace BA := Lib.hid (BA.out.next KB.out)
    replace ID := Lib.hid (ID.out.below KB.out)
    replace IV := Lib.hid (IV.out.below KB.out)
    replace P1a := Lib.hid (P1a.out.below KB.out)
    replace Q1a := Lib.hid (Q1a.out.below KB.out)
    replace K1a := Lib.hid (K1a.out.next KB.out)
    replace P1b := Lib.hid (P1b.out.below KB.out)
    replace Q1b := Lib.hid (Q1b.out.below KB.out)
    go_upto_region 5 with (fail)
    clear KB
    generalize hW : w3.alloc (.cells #[.slice A1b D1.length c1b, .slice B1b V1.length e1b] 25) = W1b at *
    clear hW
    generalize w3.heap.size = g1b at *
    obtain ⟨qBA0, qBA1, -, -⟩ := BA.out.all
    go_wp2_with fail
    refine (tally_w _ _ d _ _ v _ E2 D2 V2 HE2.out HD2.out HV2.out ID.out IV.out (by omega) (by omega)).mono ?_
    rintro r w4 ⟨x, rfl, ⟨A2a, c2a, B2a, e2a, rfl, j1, j2, -⟩, hb⟩
    clear qBA0 qBA1
    replace L := Lib.hid (below_next L.out hb)
    replace BA := Lib.hid (BA.out.next hb)
    replace ID := Lib.hid (ID.out.below hb)
    replace IV := Lib.hid (IV.out.below hb)
    replace P1a := Lib.hid (P1a.out.below hb)
    replace Q1a := Lib.hid (Q1a.out.below hb)
    replace K1a := Lib.hid (K1a.out.next hb)
    replace P1b := Lib.hid (P1b.out.below hb)
    replace Q1b := Lib.hid (Q1b.out.below hb)
    replace K1b := Lib.hid (K1b.out.next hb)
    clear hb
    have P2a := Lib.hid j1.ints
    have Q2a := Lib.hid j2.ints
    clear j1 j2
    have KB := Lib.hid (below_new w4 (.cells #[.slice A2a D2.length c2a, .slice B2a V2.length e2a] 25))
    have K2a := Lib.hid (Box.new w4 (.slice A2a D2.length c2a) (.slice B2a V2.length e2a))
    replace L := Lib.hid (below_next L.out KB.out)
    replace BA := Lib.hid (BA.out.next KB.out)
    replace ID := Lib.hid (ID.out.below KB.out)
    replace IV := Lib.hid (IV.out.below KB.out)
    replace P1a := Lib.hid (P1a.out.below KB.out)
    replace Q1a := Lib.hid (Q1a.out.below KB.out)
    replace K1a := Lib.hid (K1a.out.next KB.out)
    replace P1b := Lib.hid (P1b.out.below KB.out)
    replace Q1b := Lib.hid (Q1b.out.below KB.out)
    replace K1b := Lib.hid (K1b.out.next KB.out)
    replace P2a := Lib.hid (P2a.out.below KB.out)
    replace Q2a := Lib.hid (Q2a.out.below KB.out)
    go_upto_region 6 with (fail)
    clear KB
    generalize hW : w4.alloc (.cells #[.slice A2a D2.length c2a, .slice B2a V2.length e2a] 25) = W2a at *
    clear hW
    generalize w4.heap.size = g2a at *
    obtain ⟨qBA0, qBA1, -, -⟩ := BA.out.all
    go_wp2_with fail
    refine (rtally_w _ _ d _ _ v _ E2 D2 V2 HE2.out HD2.out HV2.out ID.out IV.out (by omega) (by omega)).mono ?_
    rintro r w5 ⟨x, rfl, ⟨A2b, c2b, B2b, e2b, rfl, j1, j2, -⟩, hb⟩
    clear qBA0 qBA1
    replace L := Lib.hid (below_next L.out hb)
    replace BA := Lib.hid (BA.out.next hb)
    replace ID := Lib.hid (ID.out.below hb)
    replace IV := Lib.hid (IV.out.below hb)
    replace P1a := Lib.hid (P1a.out.below hb)
    replace Q1a := Lib.hid (Q1a.out.below hb)
    replace K1a := Lib.hid (K1a.out.next hb)
    replace P1b := Lib.hid (P1b.out.below hb)
    replace Q1b := Lib.hid (Q1b.out.below hb)
    replace K1b := Lib.hid (K1b.out.next hb)
    replace P2a := Lib.hid (P2a.out.below hb)
    replace Q2a := Lib.hid (Q2a.out.below hb)
    replace K2a := Lib.hid (K2a.out.next hb)
    clear hb
    have P2b := Lib.hid j1.ints
    have Q2b := Lib.hid j2.ints
    clear j1 j2
    have KB := Lib.hid (below_new w5 (.cells #[.slice A2b D2.length c2b, .slice B2b V2.length e2b] 25))
    have K2b := Lib.hid (Box.new w5 (.slice A2b D2.length c2b) (.slice B2b V2.length e2b))
    replace L := Lib.hid (below_next L.out KB.out)
    replace BA := Lib.hid (BA.out.next KB.out)
    replace ID := Lib.hid (ID.out.below KB.out)
    replace IV := Lib.hid (IV.out.below KB.out)
    replace P1a := Lib.hid (P1a.out.below KB.out)
    replace Q1a := Lib.hid (Q1a.out.below KB.out)
    replace K1a := Lib.hid (K1a.out.next KB.out)
    replace P1b := Lib.hid (P1b.out.below KB.out)
    replace Q1b := Lib.hid (Q1b.out.below KB.out)
    replace K1b := Lib.hid (K1b.out.next KB.out)
    replace P2a := Lib.hid (P2a.out.below KB.out)
    replace Q2a := Lib.hid (Q2a.out.below KB.out)
    replace K2a := Lib.hid (K2a.out.next KB.out)
    replace P2b := Lib.hid (P2b.out.below KB.out)
    replace Q2b := Lib.hid (Q2b.out.below KB.out)
    go_upto_region 7 with (fail)
    clear KB
    generalize hW : w5.alloc (.cells #[.slice A2b D2.length c2b, .slice B2b V2.length e2b] 25) = W2b at *
    clear hW
    generalize w5.heap.size = g2b at *
    obtain ⟨qBA0, qBA1, -, -⟩ := BA.out.all
    go_wp2_with fail
    refine (ravel_w _ _ d _ _ v _ E3 D3 V3 HE3.out HD3.out HV3.out ID.out IV.out (by omega) (by omega)).mono ?_
    rintro r w6 ⟨x, rfl, ⟨A3a, c3a, B3a, e3a, rfl, j1, j2, -⟩, hb⟩
    clear qBA0 qBA1
    replace L := Lib.hid (below_next L.out hb)
    replace BA := Lib.hid (BA.out.next hb)
    replace ID := Lib.hid (ID.out.below hb)
    replace IV := Lib.hid (IV.out.below hb)
    replace P1a := Lib.hid (P1a.out.below hb)
    replace Q1a := Lib.hid (Q1a.out.below hb)
    replace K1a := Lib.hid (K1a.out.next hb)
    replace P1b := Lib.hid (P1b.out.below hb)
    replace Q1b := Lib.hid (Q1b.out.below hb)
    replace K1b := Lib.hid (K1b.out.next hb)
    replace P2a := Lib.hid (P2a.out.below hb)
    replace Q2a := Lib.hid (Q2a.out.below hb)
    replace K2a := Lib.hid (K2a.out.next hb)
    replace P2b := Lib.hid (P2b.out.below hb)
    replace Q2b := Lib.hid (Q2b.out.below hb)
    replace K2b := Lib.hid (K2b.out.next hb)
    clear hb
    have P3a := Lib.hid j1.ints
    have Q3a := Lib.hid j2.ints
    clear j1 j2
    have KB := Lib.hid (below_new w6 (.cells #[.slice A3a D3.length c3a, .slice B3a V3.length e3a] 25))
    have K3a := Lib.hid (Box.new w6 (.slice A3a D3.length c3a) (.slice B3a V3.length e3a))
    replace L := Lib.hid (below_next L.out KB.out)
    replace BA := Lib.hid (BA.out.next KB.out)
    replace ID := Lib.hid (ID.out.below KB.out)
    replace IV := Lib.hid (IV.out.below KB.out)
    replace P1a := Lib.hid (P1a.out.below KB.out)
    replace Q1a := Lib.hid (Q1a.out.below KB.out)
    replace K1a := Lib.hid (K1a.out.next KB.out)
    replace P1b := Lib.hid (P1b.out.below KB.out)
    replace Q1b := Lib.hid (Q1b.out.below KB.out)
    replace K1b := Lib.hid (K1b.out.next KB.out)
    replace P2a := Lib.hid (P2a.out.below KB.out)
    replace Q2a := Lib.hid (Q2a.out.below KB.out)
    replace K2a := Lib.hid (K2a.out.next KB.out)
    replace P2b := Lib.hid (P2b.out.below KB.out)
    replace Q2b := Lib.hid (Q2b.out.below KB.out)
    replace K2b := Lib.hid (K2b.out.next KB.out)
    replace P3a := Lib.hid (P3a.out.below KB.out)
    replace Q3a := Lib.hid (Q3a.out.below KB.out)
    go_upto_region 8 with (fail)
    clear KB
    generalize hW : w6.alloc (.cells #[.slice A3a D3.length c3a, .slice B3a V3.length e3a] 25) = W3a at *
    clear hW
    generalize w6.heap.size = g3a at *
    obtain ⟨qBA0, qBA1, -, -⟩ := BA.out.all
    go_wp2_with fail
    refine (rravel_w _ _ d _ _ v _ E3 D3 V3 HE3.out HD3.out HV3.out ID.out IV.out (by omega) (by omega)).mono ?_
    rintro r w7 ⟨x, rfl, ⟨A3b, c3b, B3b, e3b, rfl, j1, j2, -⟩, hb⟩
    clear qBA0 qBA1
    replace L := Lib.hid (below_next L.out hb)
    replace BA := Lib.hid (BA.out.next hb)
    replace ID := Lib.hid (ID.out.below hb)
    replace IV := Lib.hid (IV.out.below hb)
    replace P1a := Lib.hid (P1a.out.below hb)
    replace Q1a := Lib.hid (Q1a.out.below hb)
    replace K1a := Lib.hid (K1a.out.next hb)
    replace P1b := Lib.hid (P1b.out.below hb)
    replace Q1b := Lib.hid (Q1b.out.below hb)
    replace K1b := Lib.hid (K1b.out.next hb)
    replace P2a := Lib.hid (P2a.out.below hb)
    replace Q2a := Lib.hid (Q2a.out.below hb)
    replace K2a := Lib.hid (K2a.out.next hb)
    replace P2b := Lib.hid (P2b.out.below hb)
    replace Q2b := Lib.hid (Q2b.out.below hb)
    replace K2b := Lib.hid (K2b.out.next hb)
    replace P3a := Lib.hid (P3a.out.below hb)
    replace Q3a := Lib.hid (Q3a.out.below hb)
    replace K3a := Lib.hid (K3a.out.next hb)
    clear hb
    have P3b := Lib.hid j1.ints
    have Q3b := Lib.hid j2.ints
    clear j1 j2
    have KB := Lib.hid (below_new w7 (.cells #[.slice A3b D3.length c3b, .slice B3b V3.length e3b] 25))
    have K3b := Lib.hid (Box.new w7 (.slice A3b D3.length c3b) (.slice B3b V3.length e3b))
    replace L := Lib.hid (below_next L.out KB.out)
    replace BA := Lib.hid (BA.out.next KB.out)
    replace ID := Lib.hid (ID.out.below KB.out)
    replace IV := Lib.hid (IV.out.below KB.out)
    replace P1a := Lib.hid (P1a.out.below KB.out)
    replace Q1a := Lib.hid (Q1a.out.below KB.out)
    replace K1a := Lib.hid (K1a.out.next KB.out)
    replace P1b := Lib.hid (P1b.out.below KB.out)
    replace Q1b := Lib.hid (Q1b.out.below KB.out)
    replace K1b := Lib.hid (K1b.out.next KB.out)
    replace P2a := Lib.hid (P2a.out.below KB.out)
    replace Q2a := Lib.hid (Q2a.out.below KB.out)
    replace K2a := Lib.hid (K2a.out.next KB.out)
    replace P2b := Lib.hid (P2b.out.below KB.out)
    replace Q2b := Lib.hid (Q2b.out.below KB.out)
    replace K2b := Lib.hid (K2b.out.next KB.out)
    replace P3a := Lib.hid (P3a.out.below KB.out)
    replace Q3a := Lib.hid (Q3a.out.below KB.out)
    replace K3a := Lib.hid (K3a.out.next KB.out)
    replace P3b := Lib.hid (P3b.out.below KB.out)
    replace Q3b := Lib.hid (Q3b.out.below KB.out)
    go_upto_region 9 with (fail)
    clear KB
    generalize hW : w7.alloc (.cells #[.slice A3b D3.length c3b, .slice B3b V3.length e3b] 25) = W3b at *
    clear hW
    generalize w7.heap.size = g3b at *
    obtain ⟨qBA0, qBA1, -, -⟩ := BA.out.all
    go_wp2_with fail
    refine (count_w _ _ d _ _ v _ E4 D4 V4 HE4.out HD4.out HV4.out ID.out IV.out (by omega) (by omega)).mono ?_
    rintro r w8 ⟨x, rfl, ⟨A4a, c4a, B4a, e4a, rfl, j1, j2, -⟩, hb⟩
    clear qBA0 qBA1
    replace L := Lib.hid (below_next L.out hb)
    replace BA := Lib.hid (BA.out.next hb)
    replace ID := Lib.hid (ID.out.below hb)
    replace IV := Lib.hid (IV.out.below hb)
    replace P1a := Lib.hid (P1a.out.below hb)
    replace Q1a := Lib.hid (Q1a.out.below hb)
    replace K1a := Lib.hid (K1a.out.next hb)
    replace P1b := Lib.hid (P1b.out.below hb)
    replace Q1b := Lib.hid (Q1b.out.below hb)
    replace K1b := Lib.hid (K1b.out.next hb)
    replace P2a := Lib.hid (P2a.out.below hb)
    replace Q2a := Lib.hid (Q2a.out.below hb)
    replace K2a := Lib.hid (K2a.out.next hb)
    replace P2b := Lib.hid (P2b.out.below hb)
    replace Q2b := Lib.hid (Q2b.out.below hb)
    replace K2b := Lib.hid (K2b.out.next hb)
    replace P3a := Lib.hid (P3a.out.below hb)
    replace Q3a := Lib.hid (Q3a.out.below hb)
    replace K3a := Lib.hid (K3a.out.next hb)
    replace P3b := Lib.hid (P3b.out.below hb)
    replace Q3b := Lib.hid (Q3b.out.below hb)
    replace K3b := Lib.hid (K3b.out.next hb)
    clear hb
    have P4a := Lib.hid j1.ints
    have Q4a := Lib.hid j2.ints
    clear j1 j2
    have KB := Lib.hid (below_new w8 (.cells #[.slice A4a D4.length c4a, .slice B4a V4.length e4a] 25))
    have K4a := Lib.hid (Box.new w8 (.slice A4a D4.length c4a) (.slice B4a V4.length e4a))
    replace L := Lib.hid (below_next L.out KB.out)
    replace BA := Lib.hid (BA.out.next KB.out)
    replace ID := Lib.hid (ID.out.below KB.out)
    replace IV := Lib.hid (IV.out.below KB.out)
    replace P1a := Lib.hid (P1a.out.below KB.out)
    replace Q1a := Lib.hid (Q1a.out.below KB.out)
    replace K1a := Lib.hid (K1a.out.next KB.out)
    replace P1b := Lib.hid (P1b.out.below KB.out)
    replace Q1b := Lib.hid (Q1b.out.below KB.out)
    replace K1b := Lib.hid (K1b.out.next KB.out)
    replace P2a := Lib.hid (P2a.out.below KB.out)
    replace Q2a := Lib.hid (Q2a.out.below KB.out)
    replace K2a := Lib.hid (K2a.out.next KB.out)
    replace P2b := Lib.hid (P2b.out.below KB.out)
    replace Q2b := Lib.hid (Q2b.out.below KB.out)
    replace K2b := Lib.hid (K2b.out.next KB.out)
    replace P3a := Lib.hid (P3a.out.below KB.out)
    replace Q3a := Lib.hid (Q3a.out.below KB.out)
    replace K3a := Lib.hid (K3a.out.next KB.out)
    replace P3b := Lib.hid (P3b.out.below KB.out)
    replace Q3b := Lib.hid (Q3b.out.below KB.out)
    replace K3b := Lib.hid (K3b.out.next KB.out)
    replace P4a := Lib.hid (P4a.out.below KB.out)
    replace Q4a := Lib.hid (Q4a.out.below KB.out)
    go_upto_region 10 with (fail)
    clear KB
    generalize hW : w8.alloc (.cells #[.slice A4a D4.length c4a, .slice B4a V4.length e4a] 25) = W4a at *
    clear hW
    generalize w8.heap.size = g4a at *
    obtain ⟨qBA0, qBA1, -, -⟩ := BA.out.all
    go_wp2_with fail
    refine (rcount_w _ _ d _ _ v _ E4 D4 V4 HE4.out HD4.out HV4.out ID.out IV.out (by omega) (by omega)).mono ?_
    rintro r w9 ⟨x, rfl, ⟨A4b, c4b, B4b, e4b, rfl, j1, j2, -⟩, hb⟩
    clear qBA0 qBA1
    replace L := Lib.hid (below_next L.out hb)
    replace BA := Lib.hid (BA.out.next hb)
    replace ID := Lib.hid (ID.out.below hb)
    replace IV := Lib.hid (IV.out.below hb)
    replace P1a := Lib.hid (P1a.out.below hb)
    replace Q1a := Lib.hid (Q1a.out.below hb)
    replace K1a := Lib.hid (K1a.out.next hb)
    replace P1b := Lib.hid (P1b.out.below hb)
    replace Q1b := Lib.hid (Q1b.out.below hb)
    replace K1b := Lib.hid (K1b.out.next hb)
    replace P2a := Lib.hid (P2a.out.below hb)
    replace Q2a := Lib.hid (Q2a.out.below hb)
    replace K2a := Lib.hid (K2a.out.next hb)
    replace P2b := Lib.hid (P2b.out.below hb)
    replace Q2b := Lib.hid (Q2b.out.below hb)
    replace K2b := Lib.hid (K2b.out.next hb)
    replace P3a := Lib.hid (P3a.out.below hb)
    replace Q3a := Lib.hid (Q3a.out.below hb)
    replace K3a := Lib.hid (K3a.out.next hb)
    replace P3b := Lib.hid (P3b.out.below hb)
    replace Q3b := Lib.hid (Q3b.out.below hb)
    replace K3b := Lib.hid (K3b.out.next hb)
    replace P4a := Lib.hid (P4a.out.below hb)
    replace Q4a := Lib.hid (Q4a.out.below hb)
    replace K4a := Lib.hid (K4a.out.next hb)
    clear hb
    have P4b := Lib.hid j1.ints
    have Q4b := Lib.hid j2.ints
    clear j1 j2
    have KB := Lib.hid (below_new w9 (.cells #[.slice A4b D4.length c4b, .slice B4b V4.length e4b] 25))
    have K4b := Lib.hid (Box.new w9 (.slice A4b D4.length c4b) (.slice B4b V4.length e4b))
    replace L := Lib.hid (below_next L.out KB.out)
    replace BA := Lib.hid (BA.out.next KB.out)
    replace ID := Lib.hid (ID.out.below KB.out)
    replace IV := Lib.hid (IV.out.below KB.out)
    replace P1a := Lib.hid (P1a.out.below KB.out)
    replace Q1a := Lib.hid (Q1a.out.below KB.out)
    replace K1a := Lib.hid (K1a.out.next KB.out)
    replace P1b := Lib.hid (P1b.out.below KB.out)
    replace Q1b := Lib.hid (Q1b.out.below KB.out)
    replace K1b := Lib.hid (K1b.out.next KB.out)
    replace P2a := Lib.hid (P2a.out.below KB.out)
    replace Q2a := Lib.hid (Q2a.out.below KB.out)
    replace K2a := Lib.hid (K2a.out.next KB.out)
    replace P2b := Lib.hid (P2b.out.below KB.out)
    replace Q2b := Lib.hid (Q2b.out.below KB.out)
    replace K2b := Lib.hid (K2b.out.next KB.out)
    replace P3a := Lib.hid (P3a.out.below KB.out)
    replace Q3a := Lib.hid (Q3a.out.below KB.out)
    replace K3a := Lib.hid (K3a.out.next KB.out)
    replace P3b := Lib.hid (P3b.out.below KB.out)
    replace Q3b := Lib.hid (Q3b.out.below KB.out)
    replace K3b := Lib.hid (K3b.out.next KB.out)
    replace P4a := Lib.hid (P4a.out.below KB.out)
    replace Q4a := Lib.hid (Q4a.out.below KB.out)
    replace K4a := Lib.hid (K4a.out.next KB.out)
    replace P4b := Lib.hid (P4b.out.below KB.out)
    replace Q4b := Lib.hid (Q4b.out.below KB.out)
    go_upto_region 11 with (fail)
    clear KB
    generalize hW : w9.alloc (.cells #[.slice A4b D4.length c4b, .slice B4b V4.length e4b] 25) = W4b at *
    clear hW
    generalize w9.heap.size = g4b at *
    clear BA
    clear ID
    clear IV
    obtain ⟨qK1a0, qK1a1, -, -⟩ := K1a.out.all
    obtain ⟨qK1b0, qK1b1, -, -⟩ := K1b.out.all
    go_wp2_with fail
    refine (rsame_eq _ _ D1 _ _ V1 _ _ _ _ _ (by omega) (by omega) P1a.out Q1a.out P1b.out Q1b.out).mono ?_
    rintro r w10 ⟨rfl, hb⟩
    clear qK1a0 qK1a1 qK1b0 qK1b1
    replace L := Lib.hid (below_next L.out hb)
    replace P1a := Lib.hid (P1a.out.below hb)
    replace Q1a := Lib.hid (Q1a.out.below hb)
    replace K1a := Lib.hid (K1a.out.next hb)
    replace P1b := Lib.hid (P1b.out.below hb)
    replace Q1b := Lib.hid (Q1b.out.below hb)
    replace K1b := Lib.hid (K1b.out.next hb)
    replace P2a := Lib.hid (P2a.out.below hb)
    replace Q2a := Lib.hid (Q2a.out.below hb)
    replace K2a := Lib.hid (K2a.out.next hb)
    replace P2b := Lib.hid (P2b.out.below hb)
    replace Q2b := Lib.hid (Q2b.out.below hb)
    replace K2b := Lib.hid (K2b.out.next hb)
    replace P3a := Lib.hid (P3a.out.below hb)
    replace Q3a := Lib.hid (Q3a.out.below hb)
    replace K3a := Lib.hid (K3a.out.next hb)
    replace P3b := Lib.hid (P3b.out.below hb)
    replace Q3b := Lib.hid (Q3b.out.below hb)
    replace K3b := Lib.hid (K3b.out.next hb)
    replace P4a := Lib.hid (P4a.out.below hb)
    replace Q4a := Lib.hid (Q4a.out.below hb)
    replace K4a := Lib.hid (K4a.out.next hb)
    replace P4b := Lib.hid (P4b.out.below hb)
    replace Q4b := Lib.hid (Q4b.out.below hb)
    replace K4b := Lib.hid (K4b.out.next hb)
    clear hb
    obtain ⟨qK2a0, qK2a1, -, -⟩ := K2a.out.all
    obtain ⟨qK2b0, qK2b1, -, -⟩ := K2b.out.all
    go_wp2_with fail
    refine (rsame_eq _ _ D2 _ _ V2 _ _ _ _ _ (by omega) (by omega) P2a.out Q2a.out P2b.out Q2b.out).mono ?_
    rintro r w11 ⟨rfl, hb⟩
    clear qK2a0 qK2a1 qK2b0 qK2b1
    replace L := Lib.hid (below_next L.out hb)
    replace P1a := Lib.hid (P1a.out.below hb)
    replace Q1a := Lib.hid (Q1a.out.below hb)
    replace K1a := Lib.hid (K1a.out.next hb)
    replace P1b := Lib.hid (P1b.out.below hb)
    replace Q1b := Lib.hid (Q1b.out.below hb)
    replace K1b := Lib.hid (K1b.out.next hb)
    replace P2a := Lib.hid (P2a.out.below hb)
    replace Q2a := Lib.hid (Q2a.out.below hb)
    replace K2a := Lib.hid (K2a.out.next hb)
    replace P2b := Lib.hid (P2b.out.below hb)
    replace Q2b := Lib.hid (Q2b.out.below hb)
    replace K2b := Lib.hid (K2b.out.next hb)
    replace P3a := Lib.hid (P3a.out.below hb)
    replace Q3a := Lib.hid (Q3a.out.below hb)
    replace K3a := Lib.hid (K3a.out.next hb)
    replace P3b := Lib.hid (P3b.out.below hb)
    replace Q3b := Lib.hid (Q3b.out.below hb)
    replace K3b := Lib.hid (K3b.out.next hb)
    replace P4a := Lib.hid (P4a.out.below hb)
    replace Q4a := Lib.hid (Q4a.out.below hb)
    replace K4a := Lib.hid (K4a.out.next hb)
    replace P4b := Lib.hid (P4b.out.below hb)
    replace Q4b := Lib.hid (Q4b.out.below hb)
    replace K4b := Lib.hid (K4b.out.next hb)
    clear hb
    obtain ⟨qK3a0, qK3a1, -, -⟩ := K3a.out.all
    obtain ⟨qK3b0, qK3b1, -, -⟩ := K3b.out.all
    go_wp2_with fail
    refine (rsame_eq _ _ D3 _ _ V3 _ _ _ _ _ (by omega) (by omega) P3a.out Q3a.out P3b.out Q3b.out).mono ?_
    rintro r w12 ⟨rfl, hb⟩
    clear qK3a0 qK3a1 qK3b0 qK3b1
    replace L := Lib.hid (below_next L.out hb)
    replace P1a := Lib.hid (P1a.out.below hb)
    replace Q1a := Lib.hid (Q1a.out.below hb)
    replace K1a := Lib.hid (K1a.out.next hb)
    replace P1b := Lib.hid (P1b.out.below hb)
    replace Q1b := Lib.hid (Q1b.out.below hb)
    replace K1b := Lib.hid (K1b.out.next hb)
    replace P2a := Lib.hid (P2a.out.below hb)
    replace Q2a := Lib.hid (Q2a.out.below hb)
    replace K2a := Lib.hid (K2a.out.next hb)
    replace P2b := Lib.hid (P2b.out.below hb)
    replace Q2b := Lib.hid (Q2b.out.below hb)
    replace K2b := Lib.hid (K2b.out.next hb)
    replace P3a := Lib.hid (P3a.out.below hb)
    replace Q3a := Lib.hid (Q3a.out.below hb)
    replace K3a := Lib.hid (K3a.out.next hb)
    replace P3b := Lib.hid (P3b.out.below hb)
    replace Q3b := Lib.hid (Q3b.out.below hb)
    replace K3b := Lib.hid (K3b.out.next hb)
    replace P4a := Lib.hid (P4a.out.below hb)
    replace Q4a := Lib.hid (Q4a.out.below hb)
    replace K4a := Lib.hid (K4a.out.next hb)
    replace P4b := Lib.hid (P4b.out.below hb)
    replace Q4b := Lib.hid (Q4b.out.below hb)
    replace K4b := Lib.hid (K4b.out.next hb)
    clear hb
    obtain ⟨qK4a0, qK4a1, -, -⟩ := K4a.out.all
    obtain ⟨qK4b0, qK4b1, -, -⟩ := K4b.out.all
    go_wp2_with fail
    refine (rsame_eq _ _ D4 _ _ V4 _ _ _ _ _ (by omega) (by omega) P4a.out Q4a.out P4b.out Q4b.out).mono ?_
    rintro r w13 ⟨rfl, hb⟩
    clear qK4a0 qK4a1 qK4b0 qK4b1
    replace L := Lib.hid (below_next L.out hb)
    replace P1a := Lib.hid (P1a.out.below hb)
    replace Q1a := Lib.hid (Q1a.out.below hb)
    replace K1a := Lib.hid (K1a.out.next hb)
    replace P1b := Lib.hid (P1b.out.below hb)
    replace Q1b := Lib.hid (Q1b.out.below hb)
    replace K1b := Lib.hid (K1b.out.next hb)
    replace P2a := Lib.hid (P2a.out.below hb)
    replace Q2a := Lib.hid (Q2a.out.below hb)
    replace K2a := Lib.hid (K2a.out.next hb)
    replace P2b := Lib.hid (P2b.out.below hb)
    replace Q2b := Lib.hid (Q2b.out.below hb)
    replace K2b := Lib.hid (K2b.out.next hb)
    replace P3a := Lib.hid (P3a.out.below hb)
    replace Q3a := Lib.hid (Q3a.out.below hb)
    replace K3a := Lib.hid (K3a.out.next hb)
    replace P3b := Lib.hid (P3b.out.below hb)
    replace Q3b := Lib.hid (Q3b.out.below hb)
    replace K3b := Lib.hid (K3b.out.next hb)
    replace P4a := Lib.hid (P4a.out.below hb)
    replace Q4a := Lib.hid (Q4a.out.below hb)
    replace K4a := Lib.hid (K4a.out.next hb)
    replace P4b := Lib.hid (P4b.out.below hb)
    replace Q4b := Lib.hid (Q4b.out.below hb)
    replace K4b := Lib.hid (K4b.out.next hb)
    clear hb
    go_wp2_with fail
    refine (lives_any _).mono ?_
    rintro r w14 ⟨rfl, hb⟩
    replace L := Lib.hid (below_next L.out hb)
    replace P1a := Lib.hid (P1a.out.below hb)
    replace Q1a := Lib.hid (Q1a.out.below hb)
    replace K1a := Lib.hid (K1a.out.next hb)
    replace P1b := Lib.hid (P1b.out.below hb)
    replace Q1b := Lib.hid (Q1b.out.below hb)
    replace K1b := Lib.hid (K1b.out.next hb)
    replace P2a := Lib.hid (P2a.out.below hb)
    replace Q2a := Lib.hid (Q2a.out.below hb)
    replace K2a := Lib.hid (K2a.out.next hb)
    replace P2b := Lib.hid (P2b.out.below hb)
    replace Q2b := Lib.hid (Q2b.out.below hb)
    replace K2b := Lib.hid (K2b.out.next hb)
    replace P3a := Lib.hid (P3a.out.below hb)
    replace Q3a := Lib.hid (Q3a.out.below hb)
    replace K3a := Lib.hid (K3a.out.next hb)
    replace P3b := Lib.hid (P3b.out.below hb)
    replace Q3b := Lib.hid (Q3b.out.below hb)
    replace K3b := Lib.hid (K3b.out.next hb)
    replace P4a := Lib.hid (P4a.out.below hb)
    replace Q4a := Lib.hid (Q4a.out.below hb)
    replace K4a := Lib.hid (K4a.out.next hb)
    replace P4b := Lib.hid (P4b.out.below hb)
    replace Q4b := Lib.hid (Q4b.out.below hb)
    replace K4b := Lib.hid (K4b.out.next hb)
    clear hb
    go_wp2
    go_ret
    exact ⟨ret_bool (by simp), L.out⟩
  · have H1 := Lib.hid h1
    clear h1
    have b1 := below_new w (.cells #[.slice A d.length c, .slice B v.length c2] 25)
    have L := Lib.hid (b1)
    clear b1 id iv
    go_enter Try.func3, Try.ntmps3
    go_wp2_with fail
    refine (great_yes _ _ _ _ _ _ _ H1.out).mono ?_
    rintro r w1 ⟨rfl, hb⟩
    replace L := Lib.hid (below_next L.out hb)
    clear hb
    go_wp2_with fail
    refine (lives_any _).mono ?_
    rintro r w2 ⟨rfl, hb⟩
    replace L := Lib.hid (below_next L.out hb)
    clear hb
    go_wp2
    go_ret
    exact ⟨rfl, L.out⟩

set_option maxRecDepth 100000 in
theorem lifted (os : Os) (started : os.Started) (H : Type) (enc : TypeId × Value → H) :
    ReturnsInHanded {} Try.checked os 3 .any (Rows.moldTellsSpec.pre6 enc Try.prog Try.f3 Rows.moldTellsRow.domain false) (Rows.moldTellsSpec.post enc Try.prog Try.f3 false true false false) := by
  refine returnsInHanded_of_change (C := Try.checked) own started (by kernel_rfl) Try.func3
    (ChangeSpec.witness6 (enc := enc) (C := Try.checked) false ⟨#[], #[.agg #[.slice none 0 0, .slice none 0 0]], []⟩ 8 (by kernel_rfl) (by kernel_rfl) (by kernel_rfl) (by kernel_rfl)) ?_
  intro W base args ds gs before hval0 hW hcnd _
  have hval : ∀ (j : Nat) t v, Try.f3.params[j]? = some t → args[j]? = some v → Value.okWide Try.prog W .any base t v := hval0
  have hW' := hW
  obtain ⟨p, q, hA0, hV, rfl, hfz, hnd⟩ := hW
  have hA : DataW.TrodAll enc Try.prog W 0 (fun _ => true) true Try.f3.params.toList args.toList ds p := hA0
  rw [Try.params3] at hA hval
  obtain ⟨v0, vs0, dd0, ds0, p0, q0, hargs, rfl, rfl, h0, r0⟩ := trodAll_cons hA
  obtain ⟨rfl, rfl, rfl⟩ := trodAll_nil r0
  obtain rfl : args = #[v0] := by cases args; simp_all
  obtain ⟨rfl, rfl⟩ := trodVars_none hV
  have k0 := h0
  have lt0 : ∀ x ∈ p0, x.block < W.heap.size := by obtain ⟨m, hm⟩ := k0; exact DataW.trod_lt m _ _ _ hm
  obtain ⟨A0, c0, l0, B0, e0, m0, rfl, hl0, hm0⟩ := cell_arg (hval 0 25 v0 rfl rfl) h0
  clear hA0 hval0
  refine (walk A0 c0 l0 B0 e0 m0 W hl0.1 hm0.1).mono fun e W' ⟨he, bel⟩ => ?_
  subst he
  exact ⟨_, rfl, _, _, _, [], _, [], hW', trodAll_mk1 (shut_bool Try.underlying4 _), (trodAll_cons_mk (Below.trod laidOut (by kernel_rfl) (of_decide_eq_true (by kernel_rfl)) k0 bel lt0) trodAll_mk0), rfl, bel.frame _, fun h => by cases h⟩

theorem over : Rows.moldTellsRow.holds Try.pinned (OpenSpec.ofChange Rows.moldTellsSpec) :=
  OpenClaim.holds_of_wide 3 Try.f3 rfl rfl rfl rfl rfl rfl rfl ⟨rfl, rfl, rfl, rfl, rfl⟩ rfl rfl rfl rfl rfl (by kernel_rfl) Try.func3 (by kernel_rfl)
    (of_decide_eq_true (by kernel_rfl)) (by unfold Func.isWrapper; first | (rw [if_pos (by decide +kernel)]; kernel_rfl) | (rw [if_neg (by decide +kernel)]; exact ⟨rfl, rfl⟩))
    (fun os started H enc _ => lifted os started H enc)

theorem proved : Rows.MoldTellsSaid := over
end Go.Proofs.Ythabimjmdnhomaa.moldTells
