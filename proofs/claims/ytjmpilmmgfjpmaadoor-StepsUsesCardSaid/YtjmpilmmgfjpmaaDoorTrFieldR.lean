/-
  Layer 18, tree: riffleref18.fields. Condition: the slices and the name are no longer than fits into a machine.
-/
import Derived.Test.YtjmpilmmgfjpmaaDoorTrField
import Derived.Test.YtjmpilmmgfjpmaaDoorTkRefN
set_option maxRecDepth 100000
namespace Go.Proofs.YtjmpilmmgfjpmaaDoor.Tr
open Go.Proofs.YtjmpilmmgfjpmaaDoor.Sh Go.Proofs.YtjmpilmmgfjpmaaDoor.St
open Go.RowKit
set_option linter.unusedVariables false
set_option linter.unusedSimpArgs false

set_option maxHeartbeats 8000000 in
theorem rfields_b (q : Nq) (b : Bool) (w : World) (hl : q.n.name.size ≤ maxLen) (hb : fieldsB q.n = b) : Calls Tryd.prog 58 #[nodeV q] w (RetBl b w) := by
  obtain ⟨⟨k, p, c, kids, nums, name⟩, ka, kc, na, nc⟩ := q
  unfold nodeV
  simp only at hl ⊢
  simp only [fieldsB] at hb
  generalize nums.length = m at *
  generalize kids.length = kl at *
  have i0 : (0 : Int) ≤ (m : Int) := by omega
  obtain ⟨v, hv⟩ : ∃ v, Gl.clsI c = v := ⟨_, rfl⟩
  have HCL := Lib.hid (fun W => Gl.refClass_any c W)
  rw [hv] at HCL
  obtain ⟨nn, hnn⟩ : ∃ nn, Tk.namedN name.data.toList = nn := ⟨_, rfl⟩
  have HNA := Lib.hid (fun W => Tk.rnamed_any name W hl)
  rw [hnn] at HNA
  have hc5 : codeB 5 c = decide (v = 1 ∨ v = 2 ∨ c = 31 ∨ c = 32) := by unfold codeB primB; rw [hv]; rfl
  have hn2 : nameB 2 name = decide (nn = 2) := by unfold nameB; rw [hnn]; rfl
  have hn6 : nameB 6 name = decide (nn = 3) := by unfold nameB; rw [hnn]; rfl
  clear hv hnn
  by_cases k1 : k = 1
  · subst k1
    clear hc5 hn2 hn6
    by_cases z0 : c = 0
    · have D0 := Lib.hid z0
      have y0_0 : (c == 0) = true := by simpa using z0
      clear z0
      by_cases z1 : 1 ≤ m
      · have D1 := Lib.hid z1
        have y1_0 : decide ((0 : Int) < (m : Int)) = true := by simp; omega
        have y1_1 : decide (0 < m) = true := by simp; omega
        clear z1
        by_cases z2 : m ≤ 64
        · have D2 := Lib.hid z2
          have y2_0 : decide ((m : Int) < 65) = true := by simp; omega
          have y2_1 : decide (m < 65) = true := by simp; omega
          clear z2
          by_cases z3 : name = ⟨#[]⟩
          · have D3 := Lib.hid z3
            have y3_0 : (name.toList == []) = true := ba_nil_yes z3
            clear z3
            have HS := Lib.hid (show b = true by rw [← hb]; simp [codeB, operB, nameB, numsB, D0.out, D1.out, D2.out, D3.out])
            clear hb
            go_enter Tryd.func58, Tryd.ntmps58
            go_wp2_with fail
            refine (HCL.out _).mono ?_
            rintro e w1 ⟨rfl, rfl⟩
            go_wp2
            go_ret
            exact ⟨by rw [HS.out]; rfl, (Below.refl _ w).alloc (Nat.le_refl _) _⟩
          · have D3 := Lib.hid z3
            have y3_0 : (name.toList == []) = false := ba_nil_no z3
            clear z3
            have HS := Lib.hid (show b = false by rw [← hb]; simp [codeB, operB, nameB, numsB, D0.out, D1.out, D2.out, D3.out])
            clear hb
            go_enter Tryd.func58, Tryd.ntmps58
            go_wp2_with fail
            refine (HCL.out _).mono ?_
            rintro e w1 ⟨rfl, rfl⟩
            go_wp2
            go_ret
            exact ⟨by rw [HS.out]; rfl, (Below.refl _ w).alloc (Nat.le_refl _) _⟩
        · have D2 := Lib.hid z2
          have y2_0 : decide ((m : Int) < 65) = false := by simp; omega
          have y2_1 : decide (m < 65) = false := by simp; omega
          clear z2
          have HS := Lib.hid (show b = false by rw [← hb]; simp [codeB, operB, nameB, numsB, D0.out, D1.out, D2.out])
          clear hb
          go_enter Tryd.func58, Tryd.ntmps58
          go_wp2_with fail
          refine (HCL.out _).mono ?_
          rintro e w1 ⟨rfl, rfl⟩
          go_wp2
          go_ret
          exact ⟨by rw [HS.out]; rfl, (Below.refl _ w).alloc (Nat.le_refl _) _⟩
      · have D1 := Lib.hid z1
        have y1_0 : decide ((0 : Int) < (m : Int)) = false := by simp; omega
        have y1_1 : decide (0 < m) = false := by simp; omega
        clear z1
        have HS := Lib.hid (show b = false by rw [← hb]; simp [codeB, operB, nameB, numsB, D0.out, D1.out])
        clear hb
        go_enter Tryd.func58, Tryd.ntmps58
        go_wp2_with fail
        refine (HCL.out _).mono ?_
        rintro e w1 ⟨rfl, rfl⟩
        go_wp2
        go_ret
        exact ⟨by rw [HS.out]; rfl, (Below.refl _ w).alloc (Nat.le_refl _) _⟩
    · have D0 := Lib.hid z0
      have y0_0 : (c == 0) = false := by simpa using z0
      clear z0
      by_cases z4 : 1 ≤ m
      · have D4 := Lib.hid z4
        have y4_0 : decide ((0 : Int) < (m : Int)) = true := by simp; omega
        have y4_1 : decide (0 < m) = true := by simp; omega
        clear z4
        by_cases z5 : m ≤ 64
        · have D5 := Lib.hid z5
          have y5_0 : decide ((m : Int) < 65) = true := by simp; omega
          have y5_1 : decide (m < 65) = true := by simp; omega
          clear z5
          have HS := Lib.hid (show b = false by rw [← hb]; simp [codeB, operB, nameB, numsB, D0.out, D4.out, D5.out])
          clear hb
          go_enter Tryd.func58, Tryd.ntmps58
          go_wp2_with fail
          refine (HCL.out _).mono ?_
          rintro e w1 ⟨rfl, rfl⟩
          go_wp2
          go_ret
          exact ⟨by rw [HS.out]; rfl, (Below.refl _ w).alloc (Nat.le_refl _) _⟩
        · have D5 := Lib.hid z5
          have y5_0 : decide ((m : Int) < 65) = false := by simp; omega
          have y5_1 : decide (m < 65) = false := by simp; omega
          clear z5
          have HS := Lib.hid (show b = false by rw [← hb]; simp [codeB, operB, nameB, numsB, D0.out, D4.out, D5.out])
          clear hb
          go_enter Tryd.func58, Tryd.ntmps58
          go_wp2_with fail
          refine (HCL.out _).mono ?_
          rintro e w1 ⟨rfl, rfl⟩
          go_wp2
          go_ret
          exact ⟨by rw [HS.out]; rfl, (Below.refl _ w).alloc (Nat.le_refl _) _⟩
      · have D4 := Lib.hid z4
        have y4_0 : decide ((0 : Int) < (m : Int)) = false := by simp; omega
        have y4_1 : decide (0 < m) = false := by simp; omega
        clear z4
        have HS := Lib.hid (show b = false by rw [← hb]; simp [codeB, operB, nameB, numsB, D0.out, D4.out])
        clear hb
        go_enter Tryd.func58, Tryd.ntmps58
        go_wp2_with fail
        refine (HCL.out _).mono ?_
        rintro e w1 ⟨rfl, rfl⟩
        go_wp2
        go_ret
        exact ⟨by rw [HS.out]; rfl, (Below.refl _ w).alloc (Nat.le_refl _) _⟩
  by_cases k2 : k = 2
  · subst k2
    rw [hn2] at hb
    clear hc5 hn2 hn6
    by_cases z6 : c = 0
    · have D6 := Lib.hid z6
      have y6_0 : (c == 0) = true := by simpa using z6
      clear z6
      by_cases z7 : m = 0
      · have D7 := Lib.hid z7
        have y7_0 : ((m : Int) == 0) = true := by simp; omega
        clear z7
        by_cases z8 : nn = 2
        · have D8 := Lib.hid z8
          have y8_0 : ((nn : Int) == 2) = true := by simp; omega
          clear z8
          have HS := Lib.hid (show b = true by rw [← hb]; simp [codeB, operB, nameB, numsB, D6.out, D7.out, D8.out])
          clear hb
          go_enter Tryd.func58, Tryd.ntmps58
          go_wp2_with fail
          refine (HCL.out _).mono ?_
          rintro e w1 ⟨rfl, rfl⟩
          go_wp2_with fail
          refine (HNA.out _).mono ?_
          rintro e w1 ⟨rfl, rfl⟩
          go_wp2
          go_ret
          exact ⟨by rw [HS.out]; rfl, (Below.refl _ w).alloc (Nat.le_refl _) _⟩
        · have D8 := Lib.hid z8
          have y8_0 : ((nn : Int) == 2) = false := by simp; omega
          clear z8
          have HS := Lib.hid (show b = false by rw [← hb]; simp [codeB, operB, nameB, numsB, D6.out, D7.out, D8.out])
          clear hb
          go_enter Tryd.func58, Tryd.ntmps58
          go_wp2_with fail
          refine (HCL.out _).mono ?_
          rintro e w1 ⟨rfl, rfl⟩
          go_wp2_with fail
          refine (HNA.out _).mono ?_
          rintro e w1 ⟨rfl, rfl⟩
          go_wp2
          go_ret
          exact ⟨by rw [HS.out]; rfl, (Below.refl _ w).alloc (Nat.le_refl _) _⟩
      · have D7 := Lib.hid z7
        have y7_0 : ((m : Int) == 0) = false := by simp; omega
        clear z7
        have HS := Lib.hid (show b = false by rw [← hb]; simp [codeB, operB, nameB, numsB, D6.out, D7.out])
        clear hb
        go_enter Tryd.func58, Tryd.ntmps58
        go_wp2_with fail
        refine (HCL.out _).mono ?_
        rintro e w1 ⟨rfl, rfl⟩
        go_wp2_with fail
        refine (HNA.out _).mono ?_
        rintro e w1 ⟨rfl, rfl⟩
        go_wp2
        go_ret
        exact ⟨by rw [HS.out]; rfl, (Below.refl _ w).alloc (Nat.le_refl _) _⟩
    · have D6 := Lib.hid z6
      have y6_0 : (c == 0) = false := by simpa using z6
      clear z6
      have HS := Lib.hid (show b = false by rw [← hb]; simp [codeB, operB, nameB, numsB, D6.out])
      clear hb
      go_enter Tryd.func58, Tryd.ntmps58
      go_wp2_with fail
      refine (HCL.out _).mono ?_
      rintro e w1 ⟨rfl, rfl⟩
      go_wp2_with fail
      refine (HNA.out _).mono ?_
      rintro e w1 ⟨rfl, rfl⟩
      go_wp2
      go_ret
      exact ⟨by rw [HS.out]; rfl, (Below.refl _ w).alloc (Nat.le_refl _) _⟩
  by_cases k5 : k = 5
  · subst k5
    rw [hc5] at hb
    clear hc5 hn2 hn6
    by_cases z9 : v = 1
    · have D9 := Lib.hid z9
      have y9_0 : (v == 1) = true := by simp; omega
      clear z9
      by_cases z10 : m = 0
      · have D10 := Lib.hid z10
        have y10_0 : ((m : Int) == 0) = true := by simp; omega
        clear z10
        by_cases z11 : name = ⟨#[]⟩
        · have D11 := Lib.hid z11
          have y11_0 : (name.toList == []) = true := ba_nil_yes z11
          clear z11
          have HS := Lib.hid (show b = true by rw [← hb]; simp [codeB, operB, nameB, numsB, D9.out, D10.out, D11.out])
          clear hb
          go_enter Tryd.func58, Tryd.ntmps58
          go_wp2_with fail
          refine (HCL.out _).mono ?_
          rintro e w1 ⟨rfl, rfl⟩
          go_wp2
          go_ret
          exact ⟨by rw [HS.out]; rfl, (Below.refl _ w).alloc (Nat.le_refl _) _⟩
        · have D11 := Lib.hid z11
          have y11_0 : (name.toList == []) = false := ba_nil_no z11
          clear z11
          have HS := Lib.hid (show b = false by rw [← hb]; simp [codeB, operB, nameB, numsB, D9.out, D10.out, D11.out])
          clear hb
          go_enter Tryd.func58, Tryd.ntmps58
          go_wp2_with fail
          refine (HCL.out _).mono ?_
          rintro e w1 ⟨rfl, rfl⟩
          go_wp2
          go_ret
          exact ⟨by rw [HS.out]; rfl, (Below.refl _ w).alloc (Nat.le_refl _) _⟩
      · have D10 := Lib.hid z10
        have y10_0 : ((m : Int) == 0) = false := by simp; omega
        clear z10
        have HS := Lib.hid (show b = false by rw [← hb]; simp [codeB, operB, nameB, numsB, D9.out, D10.out])
        clear hb
        go_enter Tryd.func58, Tryd.ntmps58
        go_wp2_with fail
        refine (HCL.out _).mono ?_
        rintro e w1 ⟨rfl, rfl⟩
        go_wp2
        go_ret
        exact ⟨by rw [HS.out]; rfl, (Below.refl _ w).alloc (Nat.le_refl _) _⟩
    · have D9 := Lib.hid z9
      have y9_0 : (v == 1) = false := by simp; omega
      clear z9
      by_cases z12 : v = 2
      · have D12 := Lib.hid z12
        have y12_0 : (v == 2) = true := by simp; omega
        clear z12
        by_cases z13 : m = 0
        · have D13 := Lib.hid z13
          have y13_0 : ((m : Int) == 0) = true := by simp; omega
          clear z13
          by_cases z14 : name = ⟨#[]⟩
          · have D14 := Lib.hid z14
            have y14_0 : (name.toList == []) = true := ba_nil_yes z14
            clear z14
            have HS := Lib.hid (show b = true by rw [← hb]; simp [codeB, operB, nameB, numsB, D9.out, D12.out, D13.out, D14.out])
            clear hb
            go_enter Tryd.func58, Tryd.ntmps58
            go_wp2_with fail
            refine (HCL.out _).mono ?_
            rintro e w1 ⟨rfl, rfl⟩
            go_wp2
            go_ret
            exact ⟨by rw [HS.out]; rfl, (Below.refl _ w).alloc (Nat.le_refl _) _⟩
          · have D14 := Lib.hid z14
            have y14_0 : (name.toList == []) = false := ba_nil_no z14
            clear z14
            have HS := Lib.hid (show b = false by rw [← hb]; simp [codeB, operB, nameB, numsB, D9.out, D12.out, D13.out, D14.out])
            clear hb
            go_enter Tryd.func58, Tryd.ntmps58
            go_wp2_with fail
            refine (HCL.out _).mono ?_
            rintro e w1 ⟨rfl, rfl⟩
            go_wp2
            go_ret
            exact ⟨by rw [HS.out]; rfl, (Below.refl _ w).alloc (Nat.le_refl _) _⟩
        · have D13 := Lib.hid z13
          have y13_0 : ((m : Int) == 0) = false := by simp; omega
          clear z13
          have HS := Lib.hid (show b = false by rw [← hb]; simp [codeB, operB, nameB, numsB, D9.out, D12.out, D13.out])
          clear hb
          go_enter Tryd.func58, Tryd.ntmps58
          go_wp2_with fail
          refine (HCL.out _).mono ?_
          rintro e w1 ⟨rfl, rfl⟩
          go_wp2
          go_ret
          exact ⟨by rw [HS.out]; rfl, (Below.refl _ w).alloc (Nat.le_refl _) _⟩
      · have D12 := Lib.hid z12
        have y12_0 : (v == 2) = false := by simp; omega
        clear z12
        by_cases z15 : c = 31
        · have D15 := Lib.hid z15
          have y15_0 : (c == 31) = true := by simp; omega
          clear z15
          by_cases z16 : m = 0
          · have D16 := Lib.hid z16
            have y16_0 : ((m : Int) == 0) = true := by simp; omega
            clear z16
            by_cases z17 : name = ⟨#[]⟩
            · have D17 := Lib.hid z17
              have y17_0 : (name.toList == []) = true := ba_nil_yes z17
              clear z17
              have HS := Lib.hid (show b = true by rw [← hb]; simp [codeB, operB, nameB, numsB, D9.out, D12.out, D15.out, D16.out, D17.out])
              clear hb
              go_enter Tryd.func58, Tryd.ntmps58
              go_wp2_with fail
              refine (HCL.out _).mono ?_
              rintro e w1 ⟨rfl, rfl⟩
              go_wp2
              go_ret
              exact ⟨by rw [HS.out]; rfl, (Below.refl _ w).alloc (Nat.le_refl _) _⟩
            · have D17 := Lib.hid z17
              have y17_0 : (name.toList == []) = false := ba_nil_no z17
              clear z17
              have HS := Lib.hid (show b = false by rw [← hb]; simp [codeB, operB, nameB, numsB, D9.out, D12.out, D15.out, D16.out, D17.out])
              clear hb
              go_enter Tryd.func58, Tryd.ntmps58
              go_wp2_with fail
              refine (HCL.out _).mono ?_
              rintro e w1 ⟨rfl, rfl⟩
              go_wp2
              go_ret
              exact ⟨by rw [HS.out]; rfl, (Below.refl _ w).alloc (Nat.le_refl _) _⟩
          · have D16 := Lib.hid z16
            have y16_0 : ((m : Int) == 0) = false := by simp; omega
            clear z16
            have HS := Lib.hid (show b = false by rw [← hb]; simp [codeB, operB, nameB, numsB, D9.out, D12.out, D15.out, D16.out])
            clear hb
            go_enter Tryd.func58, Tryd.ntmps58
            go_wp2_with fail
            refine (HCL.out _).mono ?_
            rintro e w1 ⟨rfl, rfl⟩
            go_wp2
            go_ret
            exact ⟨by rw [HS.out]; rfl, (Below.refl _ w).alloc (Nat.le_refl _) _⟩
        · have D15 := Lib.hid z15
          have y15_0 : (c == 31) = false := by simp; omega
          clear z15
          by_cases z18 : c = 32
          · have D18 := Lib.hid z18
            have y18_0 : (c == 32) = true := by simp; omega
            clear z18
            by_cases z19 : m = 0
            · have D19 := Lib.hid z19
              have y19_0 : ((m : Int) == 0) = true := by simp; omega
              clear z19
              by_cases z20 : name = ⟨#[]⟩
              · have D20 := Lib.hid z20
                have y20_0 : (name.toList == []) = true := ba_nil_yes z20
                clear z20
                have HS := Lib.hid (show b = true by rw [← hb]; simp [codeB, operB, nameB, numsB, D9.out, D12.out, D15.out, D18.out, D19.out, D20.out])
                clear hb
                go_enter Tryd.func58, Tryd.ntmps58
                go_wp2_with fail
                refine (HCL.out _).mono ?_
                rintro e w1 ⟨rfl, rfl⟩
                go_wp2
                go_ret
                exact ⟨by rw [HS.out]; rfl, (Below.refl _ w).alloc (Nat.le_refl _) _⟩
              · have D20 := Lib.hid z20
                have y20_0 : (name.toList == []) = false := ba_nil_no z20
                clear z20
                have HS := Lib.hid (show b = false by rw [← hb]; simp [codeB, operB, nameB, numsB, D9.out, D12.out, D15.out, D18.out, D19.out, D20.out])
                clear hb
                go_enter Tryd.func58, Tryd.ntmps58
                go_wp2_with fail
                refine (HCL.out _).mono ?_
                rintro e w1 ⟨rfl, rfl⟩
                go_wp2
                go_ret
                exact ⟨by rw [HS.out]; rfl, (Below.refl _ w).alloc (Nat.le_refl _) _⟩
            · have D19 := Lib.hid z19
              have y19_0 : ((m : Int) == 0) = false := by simp; omega
              clear z19
              have HS := Lib.hid (show b = false by rw [← hb]; simp [codeB, operB, nameB, numsB, D9.out, D12.out, D15.out, D18.out, D19.out])
              clear hb
              go_enter Tryd.func58, Tryd.ntmps58
              go_wp2_with fail
              refine (HCL.out _).mono ?_
              rintro e w1 ⟨rfl, rfl⟩
              go_wp2
              go_ret
              exact ⟨by rw [HS.out]; rfl, (Below.refl _ w).alloc (Nat.le_refl _) _⟩
          · have D18 := Lib.hid z18
            have y18_0 : (c == 32) = false := by simp; omega
            clear z18
            have HS := Lib.hid (show b = false by rw [← hb]; simp [codeB, operB, nameB, numsB, D9.out, D12.out, D15.out, D18.out])
            clear hb
            go_enter Tryd.func58, Tryd.ntmps58
            go_wp2_with fail
            refine (HCL.out _).mono ?_
            rintro e w1 ⟨rfl, rfl⟩
            go_wp2
            go_ret
            exact ⟨by rw [HS.out]; rfl, (Below.refl _ w).alloc (Nat.le_refl _) _⟩
  by_cases k6 : k = 6
  · subst k6
    rw [hn6] at hb
    clear hc5 hn2 hn6
    by_cases z21 : c = 0
    · have D21 := Lib.hid z21
      have y21_0 : (c == 0) = true := by simpa using z21
      clear z21
      by_cases z22 : m = 0
      · have D22 := Lib.hid z22
        have y22_0 : ((m : Int) == 0) = true := by simp; omega
        clear z22
        by_cases z23 : nn = 3
        · have D23 := Lib.hid z23
          have y23_0 : ((nn : Int) == 3) = true := by simp; omega
          clear z23
          have HS := Lib.hid (show b = true by rw [← hb]; simp [codeB, operB, nameB, numsB, D21.out, D22.out, D23.out])
          clear hb
          go_enter Tryd.func58, Tryd.ntmps58
          go_wp2_with fail
          refine (HCL.out _).mono ?_
          rintro e w1 ⟨rfl, rfl⟩
          go_wp2_with fail
          refine (HNA.out _).mono ?_
          rintro e w1 ⟨rfl, rfl⟩
          go_wp2
          go_ret
          exact ⟨by rw [HS.out]; rfl, (Below.refl _ w).alloc (Nat.le_refl _) _⟩
        · have D23 := Lib.hid z23
          have y23_0 : ((nn : Int) == 3) = false := by simp; omega
          clear z23
          have HS := Lib.hid (show b = false by rw [← hb]; simp [codeB, operB, nameB, numsB, D21.out, D22.out, D23.out])
          clear hb
          go_enter Tryd.func58, Tryd.ntmps58
          go_wp2_with fail
          refine (HCL.out _).mono ?_
          rintro e w1 ⟨rfl, rfl⟩
          go_wp2_with fail
          refine (HNA.out _).mono ?_
          rintro e w1 ⟨rfl, rfl⟩
          go_wp2
          go_ret
          exact ⟨by rw [HS.out]; rfl, (Below.refl _ w).alloc (Nat.le_refl _) _⟩
      · have D22 := Lib.hid z22
        have y22_0 : ((m : Int) == 0) = false := by simp; omega
        clear z22
        have HS := Lib.hid (show b = false by rw [← hb]; simp [codeB, operB, nameB, numsB, D21.out, D22.out])
        clear hb
        go_enter Tryd.func58, Tryd.ntmps58
        go_wp2_with fail
        refine (HCL.out _).mono ?_
        rintro e w1 ⟨rfl, rfl⟩
        go_wp2_with fail
        refine (HNA.out _).mono ?_
        rintro e w1 ⟨rfl, rfl⟩
        go_wp2
        go_ret
        exact ⟨by rw [HS.out]; rfl, (Below.refl _ w).alloc (Nat.le_refl _) _⟩
    · have D21 := Lib.hid z21
      have y21_0 : (c == 0) = false := by simpa using z21
      clear z21
      have HS := Lib.hid (show b = false by rw [← hb]; simp [codeB, operB, nameB, numsB, D21.out])
      clear hb
      go_enter Tryd.func58, Tryd.ntmps58
      go_wp2_with fail
      refine (HCL.out _).mono ?_
      rintro e w1 ⟨rfl, rfl⟩
      go_wp2_with fail
      refine (HNA.out _).mono ?_
      rintro e w1 ⟨rfl, rfl⟩
      go_wp2
      go_ret
      exact ⟨by rw [HS.out]; rfl, (Below.refl _ w).alloc (Nat.le_refl _) _⟩
  by_cases k7 : k = 7
  · subst k7
    clear hc5 hn2 hn6
    have ho : codeB 7 c = decide ((31 ≤ c ∧ c ≤ 34) ∨ c = 38) := by
      unfold codeB operB; simp only [show ¬ (7 : Int) = 5 by decide, if_false, if_true]
      exact decide_eq_decide.2 ⟨fun h => by omega, fun h => by omega⟩
    rw [ho] at hb
    clear ho
    by_cases z24 : 31 ≤ c
    · have D24 := Lib.hid z24
      have y24_0 : decide (31 ≤ c) = true := by simp; omega
      clear z24
      by_cases z25 : c ≤ 34
      · have D25 := Lib.hid z25
        have y25_0 : decide (c ≤ 34) = true := by simp; omega
        clear z25
        by_cases z26 : m = 0
        · have D26 := Lib.hid z26
          have y26_0 : ((m : Int) == 0) = true := by simp; omega
          clear z26
          by_cases z27 : name = ⟨#[]⟩
          · have D27 := Lib.hid z27
            have y27_0 : (name.toList == []) = true := ba_nil_yes z27
            clear z27
            have HS := Lib.hid (show b = true by rw [← hb]; simp [codeB, operB, nameB, numsB, D24.out, D25.out, D26.out, D27.out])
            clear hb
            go_enter Tryd.func58, Tryd.ntmps58
            go_wp2_with fail
            refine (HCL.out _).mono ?_
            rintro e w1 ⟨rfl, rfl⟩
            go_wp2
            go_ret
            exact ⟨by rw [HS.out]; rfl, (Below.refl _ w).alloc (Nat.le_refl _) _⟩
          · have D27 := Lib.hid z27
            have y27_0 : (name.toList == []) = false := ba_nil_no z27
            clear z27
            have HS := Lib.hid (show b = false by rw [← hb]; simp [codeB, operB, nameB, numsB, D24.out, D25.out, D26.out, D27.out])
            clear hb
            go_enter Tryd.func58, Tryd.ntmps58
            go_wp2_with fail
            refine (HCL.out _).mono ?_
            rintro e w1 ⟨rfl, rfl⟩
            go_wp2
            go_ret
            exact ⟨by rw [HS.out]; rfl, (Below.refl _ w).alloc (Nat.le_refl _) _⟩
        · have D26 := Lib.hid z26
          have y26_0 : ((m : Int) == 0) = false := by simp; omega
          clear z26
          have HS := Lib.hid (show b = false by rw [← hb]; simp [codeB, operB, nameB, numsB, D24.out, D25.out, D26.out])
          clear hb
          go_enter Tryd.func58, Tryd.ntmps58
          go_wp2_with fail
          refine (HCL.out _).mono ?_
          rintro e w1 ⟨rfl, rfl⟩
          go_wp2
          go_ret
          exact ⟨by rw [HS.out]; rfl, (Below.refl _ w).alloc (Nat.le_refl _) _⟩
      · have D25 := Lib.hid z25
        have y25_0 : decide (c ≤ 34) = false := by simp; omega
        clear z25
        by_cases z28 : c = 38
        · have D28 := Lib.hid z28
          have y28_0 : (c == 38) = true := by simp; omega
          clear z28
          by_cases z29 : m = 0
          · have D29 := Lib.hid z29
            have y29_0 : ((m : Int) == 0) = true := by simp; omega
            clear z29
            by_cases z30 : name = ⟨#[]⟩
            · have D30 := Lib.hid z30
              have y30_0 : (name.toList == []) = true := ba_nil_yes z30
              clear z30
              have HS := Lib.hid (show b = true by rw [← hb]; simp [codeB, operB, nameB, numsB, D24.out, D25.out, D28.out, D29.out, D30.out])
              clear hb
              go_enter Tryd.func58, Tryd.ntmps58
              go_wp2_with fail
              refine (HCL.out _).mono ?_
              rintro e w1 ⟨rfl, rfl⟩
              go_wp2
              go_ret
              exact ⟨by rw [HS.out]; rfl, (Below.refl _ w).alloc (Nat.le_refl _) _⟩
            · have D30 := Lib.hid z30
              have y30_0 : (name.toList == []) = false := ba_nil_no z30
              clear z30
              have HS := Lib.hid (show b = false by rw [← hb]; simp [codeB, operB, nameB, numsB, D24.out, D25.out, D28.out, D29.out, D30.out])
              clear hb
              go_enter Tryd.func58, Tryd.ntmps58
              go_wp2_with fail
              refine (HCL.out _).mono ?_
              rintro e w1 ⟨rfl, rfl⟩
              go_wp2
              go_ret
              exact ⟨by rw [HS.out]; rfl, (Below.refl _ w).alloc (Nat.le_refl _) _⟩
          · have D29 := Lib.hid z29
            have y29_0 : ((m : Int) == 0) = false := by simp; omega
            clear z29
            have HS := Lib.hid (show b = false by rw [← hb]; simp [codeB, operB, nameB, numsB, D24.out, D25.out, D28.out, D29.out])
            clear hb
            go_enter Tryd.func58, Tryd.ntmps58
            go_wp2_with fail
            refine (HCL.out _).mono ?_
            rintro e w1 ⟨rfl, rfl⟩
            go_wp2
            go_ret
            exact ⟨by rw [HS.out]; rfl, (Below.refl _ w).alloc (Nat.le_refl _) _⟩
        · have D28 := Lib.hid z28
          have y28_0 : (c == 38) = false := by simp; omega
          clear z28
          have HS := Lib.hid (show b = false by rw [← hb]; simp [codeB, operB, nameB, numsB, D24.out, D25.out, D28.out])
          clear hb
          go_enter Tryd.func58, Tryd.ntmps58
          go_wp2_with fail
          refine (HCL.out _).mono ?_
          rintro e w1 ⟨rfl, rfl⟩
          go_wp2
          go_ret
          exact ⟨by rw [HS.out]; rfl, (Below.refl _ w).alloc (Nat.le_refl _) _⟩
    · have D24 := Lib.hid z24
      have y24_0 : decide (31 ≤ c) = false := by simp; omega
      clear z24
      by_cases z31 : c = 38
      · have D31 := Lib.hid z31
        have y31_0 : (c == 38) = true := by simp; omega
        clear z31
        by_cases z32 : m = 0
        · have D32 := Lib.hid z32
          have y32_0 : ((m : Int) == 0) = true := by simp; omega
          clear z32
          by_cases z33 : name = ⟨#[]⟩
          · have D33 := Lib.hid z33
            have y33_0 : (name.toList == []) = true := ba_nil_yes z33
            clear z33
            have HS := Lib.hid (show b = true by rw [← hb]; simp [codeB, operB, nameB, numsB, D24.out, D31.out, D32.out, D33.out])
            clear hb
            go_enter Tryd.func58, Tryd.ntmps58
            go_wp2_with fail
            refine (HCL.out _).mono ?_
            rintro e w1 ⟨rfl, rfl⟩
            go_wp2
            go_ret
            exact ⟨by rw [HS.out]; rfl, (Below.refl _ w).alloc (Nat.le_refl _) _⟩
          · have D33 := Lib.hid z33
            have y33_0 : (name.toList == []) = false := ba_nil_no z33
            clear z33
            have HS := Lib.hid (show b = false by rw [← hb]; simp [codeB, operB, nameB, numsB, D24.out, D31.out, D32.out, D33.out])
            clear hb
            go_enter Tryd.func58, Tryd.ntmps58
            go_wp2_with fail
            refine (HCL.out _).mono ?_
            rintro e w1 ⟨rfl, rfl⟩
            go_wp2
            go_ret
            exact ⟨by rw [HS.out]; rfl, (Below.refl _ w).alloc (Nat.le_refl _) _⟩
        · have D32 := Lib.hid z32
          have y32_0 : ((m : Int) == 0) = false := by simp; omega
          clear z32
          have HS := Lib.hid (show b = false by rw [← hb]; simp [codeB, operB, nameB, numsB, D24.out, D31.out, D32.out])
          clear hb
          go_enter Tryd.func58, Tryd.ntmps58
          go_wp2_with fail
          refine (HCL.out _).mono ?_
          rintro e w1 ⟨rfl, rfl⟩
          go_wp2
          go_ret
          exact ⟨by rw [HS.out]; rfl, (Below.refl _ w).alloc (Nat.le_refl _) _⟩
      · have D31 := Lib.hid z31
        have y31_0 : (c == 38) = false := by simp; omega
        clear z31
        have HS := Lib.hid (show b = false by rw [← hb]; simp [codeB, operB, nameB, numsB, D24.out, D31.out])
        clear hb
        go_enter Tryd.func58, Tryd.ntmps58
        go_wp2_with fail
        refine (HCL.out _).mono ?_
        rintro e w1 ⟨rfl, rfl⟩
        go_wp2
        go_ret
        exact ⟨by rw [HS.out]; rfl, (Below.refl _ w).alloc (Nat.le_refl _) _⟩
  by_cases k8 : k = 8
  · subst k8
    clear hc5 hn2 hn6
    by_cases z34 : c = 0
    · have D34 := Lib.hid z34
      have y34_0 : (c == 0) = true := by simpa using z34
      clear z34
      by_cases z35 : m = 2
      · have D35 := Lib.hid z35
        have y35_0 : ((m : Int) == 2) = true := by simp; omega
        clear z35
        by_cases z36 : name = ⟨#[]⟩
        · have D36 := Lib.hid z36
          have y36_0 : (name.toList == []) = true := ba_nil_yes z36
          clear z36
          have HS := Lib.hid (show b = true by rw [← hb]; simp [codeB, operB, nameB, numsB, D34.out, D35.out, D36.out])
          clear hb
          go_enter Tryd.func58, Tryd.ntmps58
          go_wp2_with fail
          refine (HCL.out _).mono ?_
          rintro e w1 ⟨rfl, rfl⟩
          go_wp2
          go_ret
          exact ⟨by rw [HS.out]; rfl, (Below.refl _ w).alloc (Nat.le_refl _) _⟩
        · have D36 := Lib.hid z36
          have y36_0 : (name.toList == []) = false := ba_nil_no z36
          clear z36
          have HS := Lib.hid (show b = false by rw [← hb]; simp [codeB, operB, nameB, numsB, D34.out, D35.out, D36.out])
          clear hb
          go_enter Tryd.func58, Tryd.ntmps58
          go_wp2_with fail
          refine (HCL.out _).mono ?_
          rintro e w1 ⟨rfl, rfl⟩
          go_wp2
          go_ret
          exact ⟨by rw [HS.out]; rfl, (Below.refl _ w).alloc (Nat.le_refl _) _⟩
      · have D35 := Lib.hid z35
        have y35_0 : ((m : Int) == 2) = false := by simp; omega
        clear z35
        have HS := Lib.hid (show b = false by rw [← hb]; simp [codeB, operB, nameB, numsB, D34.out, D35.out])
        clear hb
        go_enter Tryd.func58, Tryd.ntmps58
        go_wp2_with fail
        refine (HCL.out _).mono ?_
        rintro e w1 ⟨rfl, rfl⟩
        go_wp2
        go_ret
        exact ⟨by rw [HS.out]; rfl, (Below.refl _ w).alloc (Nat.le_refl _) _⟩
    · have D34 := Lib.hid z34
      have y34_0 : (c == 0) = false := by simpa using z34
      clear z34
      have HS := Lib.hid (show b = false by rw [← hb]; simp [codeB, operB, nameB, numsB, D34.out])
      clear hb
      go_enter Tryd.func58, Tryd.ntmps58
      go_wp2_with fail
      refine (HCL.out _).mono ?_
      rintro e w1 ⟨rfl, rfl⟩
      go_wp2
      go_ret
      exact ⟨by rw [HS.out]; rfl, (Below.refl _ w).alloc (Nat.le_refl _) _⟩
  have x1 : (k == 1) = false := by simpa using k1
  have x2 : (k == 2) = false := by simpa using k2
  have x5 : (k == 5) = false := by simpa using k5
  have x6 : (k == 6) = false := by simpa using k6
  have x7 : (k == 7) = false := by simpa using k7
  have x8 : (k == 8) = false := by simpa using k8
  have hcd : codeB k c = decide (c = 0) := by unfold codeB; rw [if_neg k5, if_neg k7]
  have hnm : nameB k name = decide (name = ⟨#[]⟩) := by unfold nameB; rw [if_neg k2, if_neg k6]
  have hns : numsB k m = decide (m = 0) := by unfold numsB; rw [if_neg k1, if_neg k8]
  rw [hcd, hnm, hns] at hb
  clear hcd hnm hns hc5 hn2 hn6 k1 k2 k5 k6 k7 k8
  by_cases z37 : c = 0
  · have D37 := Lib.hid z37
    have y37_0 : (c == 0) = true := by simpa using z37
    clear z37
    by_cases z38 : m = 0
    · have D38 := Lib.hid z38
      have y38_0 : ((m : Int) == 0) = true := by simp; omega
      clear z38
      by_cases z39 : name = ⟨#[]⟩
      · have D39 := Lib.hid z39
        have y39_0 : (name.toList == []) = true := ba_nil_yes z39
        clear z39
        have HS := Lib.hid (show b = true by rw [← hb]; simp [codeB, operB, nameB, numsB, D37.out, D38.out, D39.out])
        clear hb
        go_enter Tryd.func58, Tryd.ntmps58
        go_wp2_with fail
        refine (HCL.out _).mono ?_
        rintro e w1 ⟨rfl, rfl⟩
        go_wp2
        go_ret
        exact ⟨by rw [HS.out]; rfl, (Below.refl _ w).alloc (Nat.le_refl _) _⟩
      · have D39 := Lib.hid z39
        have y39_0 : (name.toList == []) = false := ba_nil_no z39
        clear z39
        have HS := Lib.hid (show b = false by rw [← hb]; simp [codeB, operB, nameB, numsB, D37.out, D38.out, D39.out])
        clear hb
        go_enter Tryd.func58, Tryd.ntmps58
        go_wp2_with fail
        refine (HCL.out _).mono ?_
        rintro e w1 ⟨rfl, rfl⟩
        go_wp2
        go_ret
        exact ⟨by rw [HS.out]; rfl, (Below.refl _ w).alloc (Nat.le_refl _) _⟩
    · have D38 := Lib.hid z38
      have y38_0 : ((m : Int) == 0) = false := by simp; omega
      clear z38
      have HS := Lib.hid (show b = false by rw [← hb]; simp [codeB, operB, nameB, numsB, D37.out, D38.out])
      clear hb
      go_enter Tryd.func58, Tryd.ntmps58
      go_wp2_with fail
      refine (HCL.out _).mono ?_
      rintro e w1 ⟨rfl, rfl⟩
      go_wp2
      go_ret
      exact ⟨by rw [HS.out]; rfl, (Below.refl _ w).alloc (Nat.le_refl _) _⟩
  · have D37 := Lib.hid z37
    have y37_0 : (c == 0) = false := by simpa using z37
    clear z37
    have HS := Lib.hid (show b = false by rw [← hb]; simp [codeB, operB, nameB, numsB, D37.out])
    clear hb
    go_enter Tryd.func58, Tryd.ntmps58
    go_wp2_with fail
    refine (HCL.out _).mono ?_
    rintro e w1 ⟨rfl, rfl⟩
    go_wp2
    go_ret
    exact ⟨by rw [HS.out]; rfl, (Below.refl _ w).alloc (Nat.le_refl _) _⟩
end Go.Proofs.YtjmpilmmgfjpmaaDoor.Tr
