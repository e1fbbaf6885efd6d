/-
  Layer 18, tree: which fields a node of a kind has: tree.fielded and riffleref18.fields. Condition: the slices and the name are no longer than fits into a machine.
-/
import Derived.Test.YtjmpilmmgfjpmaaDoorTrParted
set_option maxRecDepth 100000
namespace Go.Proofs.YtjmpilmmgfjpmaaDoor.Tr
open Go.Proofs.YtjmpilmmgfjpmaaDoor.Sh Go.Proofs.YtjmpilmmgfjpmaaDoor.St
open Go.RowKit
set_option linter.unusedVariables false
set_option linter.unusedSimpArgs false

def codeB (k c : Int) : Bool := if k = 5 then primB c else if k = 7 then operB c else decide (c = 0)
def nameB (k : Int) (n : ByteArray) : Bool := if k = 2 then decide (Tk.namedN n.data.toList = 2) else if k = 6 then decide (Tk.namedN n.data.toList = 3) else decide (n = ⟨#[]⟩)
def numsB (k : Int) (m : Nat) : Bool := if k = 1 then decide (1 ≤ m) && decide (m ≤ 64) else if k = 8 then decide (m = 2) else decide (m = 0)
def fieldsB (n : Nd) : Bool := codeB n.kind n.code && (nameB n.kind n.name && numsB n.kind n.nums.length)
def fieldedB (n : Nd) : Bool := (valI n.kind || funI n.kind) && fieldsB n
theorem ba_nil_yes {n : ByteArray} (h : n = ⟨#[]⟩) : (n.toList == []) = true := by rw [h, Gl.toList_data]; rfl
theorem ba_nil_no {n : ByteArray} (h : ¬ n = ⟨#[]⟩) : (n.toList == []) = false := by
  rw [beq_eq_false_iff_ne]
  exact fun e => h (ba_eq (e.trans (by rw [Gl.toList_data])))
set_option maxHeartbeats 4000000 in
theorem fielded_b (q : Nq) (b : Bool) (w : World) (hl : q.n.name.size ≤ maxLen) (hb : fieldedB q.n = b) : Calls Tryd.prog 65 #[nodeV q] w (RetBl b w) := by
  obtain ⟨⟨k, p, c, kids, nums, name⟩, ka, kc, na, nc⟩ := q
  unfold nodeV
  simp only at hl ⊢
  simp only [fieldedB, fieldsB] at hb
  generalize nums.length = m at *
  generalize kids.length = kl at *
  have i0 : (0 : Int) ≤ (m : Int) := by omega
  by_cases k1 : k = 1
  · subst k1
    have HV := Lib.hid (fun W => value_b 1 true W (by decide))
    by_cases z0 : 1 ≤ m
    · have D0 := Lib.hid z0
      have y0_0 : decide ((1 : Int) ≤ (m : Int)) = true := by simp; omega
      have y0_1 : decide (1 ≤ m) = true := by simp; omega
      have y0_2 : decide (0 < m) = true := by simp; omega
      clear z0
      by_cases z1 : m ≤ 64
      · have D1 := Lib.hid z1
        have y1_0 : decide ((m : Int) ≤ 64) = true := by simp; omega
        have y1_1 : decide (m ≤ 64) = true := by simp; omega
        clear z1
        by_cases z2 : c = 0
        · have D2 := Lib.hid z2
          have y2_0 : (c == 0) = true := by simpa using z2
          clear z2
          by_cases z3 : name = ⟨#[]⟩
          · have D3 := Lib.hid z3
            have y3_0 : (name.toList == []) = true := ba_nil_yes z3
            clear z3
            have HS := Lib.hid (show b = true by rw [← hb]; simp [codeB, nameB, numsB, valI, funI, D0.out, D1.out, D2.out, D3.out])
            clear hb
            go_enter Tryd.func65, Tryd.ntmps65
            go_wp2_with fail
            refine (HV.out _).mono ?_
            rintro e w1 ⟨rfl, rfl⟩
            go_wp2
            go_ret
            exact ⟨by rw [HS.out]; rfl, (Below.refl _ w).alloc (Nat.le_refl _) _⟩
          · have D3 := Lib.hid z3
            have HS := Lib.hid (show b = false by rw [← hb]; simp [codeB, nameB, numsB, valI, funI, D0.out, D1.out, D2.out, D3.out])
            have y3_0 : (name.toList == []) = false := ba_nil_no z3
            clear z3 hb
            go_enter Tryd.func65, Tryd.ntmps65
            go_wp2_with fail
            refine (HV.out _).mono ?_
            rintro e w1 ⟨rfl, rfl⟩
            go_wp2
            go_ret
            exact ⟨by rw [HS.out]; rfl, (Below.refl _ w).alloc (Nat.le_refl _) _⟩
        · have D2 := Lib.hid z2
          have HS := Lib.hid (show b = false by rw [← hb]; simp [codeB, nameB, numsB, valI, funI, D0.out, D1.out, D2.out])
          have y2_0 : (c == 0) = false := by simpa using z2
          clear z2 hb
          go_enter Tryd.func65, Tryd.ntmps65
          go_wp2_with fail
          refine (HV.out _).mono ?_
          rintro e w1 ⟨rfl, rfl⟩
          go_wp2
          go_ret
          exact ⟨by rw [HS.out]; rfl, (Below.refl _ w).alloc (Nat.le_refl _) _⟩
      · have D1 := Lib.hid z1
        have HS := Lib.hid (show b = false by rw [← hb]; simp [codeB, nameB, numsB, valI, funI, D0.out, D1.out])
        have y1_0 : decide ((m : Int) ≤ 64) = false := by simp; omega
        have y1_1 : decide (m ≤ 64) = false := by simp; omega
        clear z1 hb
        go_enter Tryd.func65, Tryd.ntmps65
        go_wp2_with fail
        refine (HV.out _).mono ?_
        rintro e w1 ⟨rfl, rfl⟩
        go_wp2
        go_ret
        exact ⟨by rw [HS.out]; rfl, (Below.refl _ w).alloc (Nat.le_refl _) _⟩
    · have D0 := Lib.hid z0
      have HS := Lib.hid (show b = false by rw [← hb]; simp [codeB, nameB, numsB, valI, funI, D0.out])
      have y0_0 : decide ((1 : Int) ≤ (m : Int)) = false := by simp; omega
      have y0_1 : decide (1 ≤ m) = false := by simp; omega
      have y0_2 : decide (0 < m) = false := by simp; omega
      clear z0 hb
      go_enter Tryd.func65, Tryd.ntmps65
      go_wp2_with fail
      refine (HV.out _).mono ?_
      rintro e w1 ⟨rfl, rfl⟩
      go_wp2
      go_ret
      exact ⟨by rw [HS.out]; rfl, (Below.refl _ w).alloc (Nat.le_refl _) _⟩
  by_cases k2 : k = 2
  · subst k2
    have HV := Lib.hid (fun W => value_b 2 true W (by decide))
    obtain ⟨v, hv⟩ : ∃ v, Tk.namedN name.data.toList = v := ⟨_, rfl⟩
    have HC := Lib.hid (fun W => Tk.named_n name v W hl hv)
    have HVV := Lib.hid hv
    rw [show nameB 2 name = decide (v = 2) by unfold nameB; rw [hv]; rfl] at hb
    clear hv
    by_cases z4 : v = 2
    · have D4 := Lib.hid z4
      have y4_0 : ((v : Int) == 2) = true := by simp; omega
      clear z4
      by_cases z5 : c = 0
      · have D5 := Lib.hid z5
        have y5_0 : (c == 0) = true := by simpa using z5
        clear z5
        by_cases z6 : m = 0
        · have D6 := Lib.hid z6
          have y6_0 : ((m : Int) == 0) = true := by simp; omega
          clear z6
          have HS := Lib.hid (show b = true by rw [← hb]; simp [codeB, nameB, numsB, valI, funI, D4.out, D5.out, D6.out])
          clear hb
          go_enter Tryd.func65, Tryd.ntmps65
          go_wp2_with fail
          refine (HV.out _).mono ?_
          rintro e w1 ⟨rfl, rfl⟩
          go_wp2_with fail
          refine (HC.out _).mono ?_
          rintro e w1 ⟨rfl, rfl⟩
          go_wp2
          go_ret
          exact ⟨by rw [HS.out]; rfl, (Below.refl _ w).alloc (Nat.le_refl _) _⟩
        · have D6 := Lib.hid z6
          have HS := Lib.hid (show b = false by rw [← hb]; simp [codeB, nameB, numsB, valI, funI, D4.out, D5.out, D6.out])
          have y6_0 : ((m : Int) == 0) = false := by simp; omega
          clear z6 hb
          go_enter Tryd.func65, Tryd.ntmps65
          go_wp2_with fail
          refine (HV.out _).mono ?_
          rintro e w1 ⟨rfl, rfl⟩
          go_wp2_with fail
          refine (HC.out _).mono ?_
          rintro e w1 ⟨rfl, rfl⟩
          go_wp2
          go_ret
          exact ⟨by rw [HS.out]; rfl, (Below.refl _ w).alloc (Nat.le_refl _) _⟩
      · have D5 := Lib.hid z5
        have HS := Lib.hid (show b = false by rw [← hb]; simp [codeB, nameB, numsB, valI, funI, D4.out, D5.out])
        have y5_0 : (c == 0) = false := by simpa using z5
        clear z5 hb
        go_enter Tryd.func65, Tryd.ntmps65
        go_wp2_with fail
        refine (HV.out _).mono ?_
        rintro e w1 ⟨rfl, rfl⟩
        go_wp2_with fail
        refine (HC.out _).mono ?_
        rintro e w1 ⟨rfl, rfl⟩
        go_wp2
        go_ret
        exact ⟨by rw [HS.out]; rfl, (Below.refl _ w).alloc (Nat.le_refl _) _⟩
    · have D4 := Lib.hid z4
      have HS := Lib.hid (show b = false by rw [← hb]; simp [codeB, nameB, numsB, valI, funI, D4.out])
      have y4_0 : ((v : Int) == 2) = false := by simp; omega
      clear z4 hb
      go_enter Tryd.func65, Tryd.ntmps65
      go_wp2_with fail
      refine (HV.out _).mono ?_
      rintro e w1 ⟨rfl, rfl⟩
      go_wp2_with fail
      refine (HC.out _).mono ?_
      rintro e w1 ⟨rfl, rfl⟩
      go_wp2
      go_ret
      exact ⟨by rw [HS.out]; rfl, (Below.refl _ w).alloc (Nat.le_refl _) _⟩
  by_cases k5 : k = 5
  · subst k5
    have HV := Lib.hid (fun W => value_b 5 false W (by decide))
    have HF := Lib.hid (fun W => function_b 5 true W (by decide))
    obtain ⟨v, hv⟩ : ∃ v, primB c = v := ⟨_, rfl⟩
    have HC := Lib.hid (fun W => primitive_b c v W hv)
    rw [show codeB 5 c = v by unfold codeB; rw [hv]; rfl] at hb
    clear hv
    by_cases z7 : v = true
    · have D7 := Lib.hid z7
      have y7_0 : v = true := z7
      clear z7
      by_cases z8 : name = ⟨#[]⟩
      · have D8 := Lib.hid z8
        have y8_0 : (name.toList == []) = true := ba_nil_yes z8
        clear z8
        by_cases z9 : m = 0
        · have D9 := Lib.hid z9
          have y9_0 : ((m : Int) == 0) = true := by simp; omega
          clear z9
          have HS := Lib.hid (show b = true by rw [← hb]; simp [codeB, nameB, numsB, valI, funI, D7.out, D8.out, D9.out])
          clear hb
          go_enter Tryd.func65, Tryd.ntmps65
          go_wp2_with fail
          refine (HV.out _).mono ?_
          rintro e w1 ⟨rfl, rfl⟩
          go_wp2_with fail
          refine (HF.out _).mono ?_
          rintro e w1 ⟨rfl, rfl⟩
          go_wp2_with fail
          refine (HC.out _).mono ?_
          rintro e w1 ⟨rfl, rfl⟩
          go_wp2
          go_ret
          exact ⟨by rw [HS.out]; rfl, (Below.refl _ w).alloc (Nat.le_refl _) _⟩
        · have D9 := Lib.hid z9
          have HS := Lib.hid (show b = false by rw [← hb]; simp [codeB, nameB, numsB, valI, funI, D7.out, D8.out, D9.out])
          have y9_0 : ((m : Int) == 0) = false := by simp; omega
          clear z9 hb
          go_enter Tryd.func65, Tryd.ntmps65
          go_wp2_with fail
          refine (HV.out _).mono ?_
          rintro e w1 ⟨rfl, rfl⟩
          go_wp2_with fail
          refine (HF.out _).mono ?_
          rintro e w1 ⟨rfl, rfl⟩
          go_wp2_with fail
          refine (HC.out _).mono ?_
          rintro e w1 ⟨rfl, rfl⟩
          go_wp2
          go_ret
          exact ⟨by rw [HS.out]; rfl, (Below.refl _ w).alloc (Nat.le_refl _) _⟩
      · have D8 := Lib.hid z8
        have HS := Lib.hid (show b = false by rw [← hb]; simp [codeB, nameB, numsB, valI, funI, D7.out, D8.out])
        have y8_0 : (name.toList == []) = false := ba_nil_no z8
        clear z8 hb
        go_enter Tryd.func65, Tryd.ntmps65
        go_wp2_with fail
        refine (HV.out _).mono ?_
        rintro e w1 ⟨rfl, rfl⟩
        go_wp2_with fail
        refine (HF.out _).mono ?_
        rintro e w1 ⟨rfl, rfl⟩
        go_wp2_with fail
        refine (HC.out _).mono ?_
        rintro e w1 ⟨rfl, rfl⟩
        go_wp2
        go_ret
        exact ⟨by rw [HS.out]; rfl, (Below.refl _ w).alloc (Nat.le_refl _) _⟩
    · have D7 := Lib.hid z7
      have HS := Lib.hid (show b = false by rw [← hb]; simp [codeB, nameB, numsB, valI, funI, D7.out])
      have y7_0 : v = false := by simpa using z7
      clear z7 hb
      go_enter Tryd.func65, Tryd.ntmps65
      go_wp2_with fail
      refine (HV.out _).mono ?_
      rintro e w1 ⟨rfl, rfl⟩
      go_wp2_with fail
      refine (HF.out _).mono ?_
      rintro e w1 ⟨rfl, rfl⟩
      go_wp2_with fail
      refine (HC.out _).mono ?_
      rintro e w1 ⟨rfl, rfl⟩
      go_wp2
      go_ret
      exact ⟨by rw [HS.out]; rfl, (Below.refl _ w).alloc (Nat.le_refl _) _⟩
  by_cases k6 : k = 6
  · subst k6
    have HV := Lib.hid (fun W => value_b 6 false W (by decide))
    have HF := Lib.hid (fun W => function_b 6 true W (by decide))
    obtain ⟨v, hv⟩ : ∃ v, Tk.namedN name.data.toList = v := ⟨_, rfl⟩
    have HC := Lib.hid (fun W => Tk.named_n name v W hl hv)
    rw [show nameB 6 name = decide (v = 3) by unfold nameB; rw [hv]; rfl] at hb
    clear hv
    by_cases z10 : v = 3
    · have D10 := Lib.hid z10
      have y10_0 : ((v : Int) == 3) = true := by simp; omega
      clear z10
      by_cases z11 : c = 0
      · have D11 := Lib.hid z11
        have y11_0 : (c == 0) = true := by simpa using z11
        clear z11
        by_cases z12 : m = 0
        · have D12 := Lib.hid z12
          have y12_0 : ((m : Int) == 0) = true := by simp; omega
          clear z12
          have HS := Lib.hid (show b = true by rw [← hb]; simp [codeB, nameB, numsB, valI, funI, D10.out, D11.out, D12.out])
          clear hb
          go_enter Tryd.func65, Tryd.ntmps65
          go_wp2_with fail
          refine (HV.out _).mono ?_
          rintro e w1 ⟨rfl, rfl⟩
          go_wp2_with fail
          refine (HF.out _).mono ?_
          rintro e w1 ⟨rfl, rfl⟩
          go_wp2_with fail
          refine (HC.out _).mono ?_
          rintro e w1 ⟨rfl, rfl⟩
          go_wp2
          go_ret
          exact ⟨by rw [HS.out]; rfl, (Below.refl _ w).alloc (Nat.le_refl _) _⟩
        · have D12 := Lib.hid z12
          have HS := Lib.hid (show b = false by rw [← hb]; simp [codeB, nameB, numsB, valI, funI, D10.out, D11.out, D12.out])
          have y12_0 : ((m : Int) == 0) = false := by simp; omega
          clear z12 hb
          go_enter Tryd.func65, Tryd.ntmps65
          go_wp2_with fail
          refine (HV.out _).mono ?_
          rintro e w1 ⟨rfl, rfl⟩
          go_wp2_with fail
          refine (HF.out _).mono ?_
          rintro e w1 ⟨rfl, rfl⟩
          go_wp2_with fail
          refine (HC.out _).mono ?_
          rintro e w1 ⟨rfl, rfl⟩
          go_wp2
          go_ret
          exact ⟨by rw [HS.out]; rfl, (Below.refl _ w).alloc (Nat.le_refl _) _⟩
      · have D11 := Lib.hid z11
        have HS := Lib.hid (show b = false by rw [← hb]; simp [codeB, nameB, numsB, valI, funI, D10.out, D11.out])
        have y11_0 : (c == 0) = false := by simpa using z11
        clear z11 hb
        go_enter Tryd.func65, Tryd.ntmps65
        go_wp2_with fail
        refine (HV.out _).mono ?_
        rintro e w1 ⟨rfl, rfl⟩
        go_wp2_with fail
        refine (HF.out _).mono ?_
        rintro e w1 ⟨rfl, rfl⟩
        go_wp2_with fail
        refine (HC.out _).mono ?_
        rintro e w1 ⟨rfl, rfl⟩
        go_wp2
        go_ret
        exact ⟨by rw [HS.out]; rfl, (Below.refl _ w).alloc (Nat.le_refl _) _⟩
    · have D10 := Lib.hid z10
      have HS := Lib.hid (show b = false by rw [← hb]; simp [codeB, nameB, numsB, valI, funI, D10.out])
      have y10_0 : ((v : Int) == 3) = false := by simp; omega
      clear z10 hb
      go_enter Tryd.func65, Tryd.ntmps65
      go_wp2_with fail
      refine (HV.out _).mono ?_
      rintro e w1 ⟨rfl, rfl⟩
      go_wp2_with fail
      refine (HF.out _).mono ?_
      rintro e w1 ⟨rfl, rfl⟩
      go_wp2_with fail
      refine (HC.out _).mono ?_
      rintro e w1 ⟨rfl, rfl⟩
      go_wp2
      go_ret
      exact ⟨by rw [HS.out]; rfl, (Below.refl _ w).alloc (Nat.le_refl _) _⟩
  by_cases k7 : k = 7
  · subst k7
    have HV := Lib.hid (fun W => value_b 7 false W (by decide))
    have HF := Lib.hid (fun W => function_b 7 true W (by decide))
    obtain ⟨v, hv⟩ : ∃ v, operB c = v := ⟨_, rfl⟩
    have HC := Lib.hid (fun W => operator_b c v W hv)
    rw [show codeB 7 c = v by unfold codeB; rw [hv]; rfl] at hb
    clear hv
    by_cases z13 : v = true
    · have D13 := Lib.hid z13
      have y13_0 : v = true := z13
      clear z13
      by_cases z14 : name = ⟨#[]⟩
      · have D14 := Lib.hid z14
        have y14_0 : (name.toList == []) = true := ba_nil_yes z14
        clear z14
        by_cases z15 : m = 0
        · have D15 := Lib.hid z15
          have y15_0 : ((m : Int) == 0) = true := by simp; omega
          clear z15
          have HS := Lib.hid (show b = true by rw [← hb]; simp [codeB, nameB, numsB, valI, funI, D13.out, D14.out, D15.out])
          clear hb
          go_enter Tryd.func65, Tryd.ntmps65
          go_wp2_with fail
          refine (HV.out _).mono ?_
          rintro e w1 ⟨rfl, rfl⟩
          go_wp2_with fail
          refine (HF.out _).mono ?_
          rintro e w1 ⟨rfl, rfl⟩
          go_wp2_with fail
          refine (HC.out _).mono ?_
          rintro e w1 ⟨rfl, rfl⟩
          go_wp2
          go_ret
          exact ⟨by rw [HS.out]; rfl, (Below.refl _ w).alloc (Nat.le_refl _) _⟩
        · have D15 := Lib.hid z15
          have HS := Lib.hid (show b = false by rw [← hb]; simp [codeB, nameB, numsB, valI, funI, D13.out, D14.out, D15.out])
          have y15_0 : ((m : Int) == 0) = false := by simp; omega
          clear z15 hb
          go_enter Tryd.func65, Tryd.ntmps65
          go_wp2_with fail
          refine (HV.out _).mono ?_
          rintro e w1 ⟨rfl, rfl⟩
          go_wp2_with fail
          refine (HF.out _).mono ?_
          rintro e w1 ⟨rfl, rfl⟩
          go_wp2_with fail
          refine (HC.out _).mono ?_
          rintro e w1 ⟨rfl, rfl⟩
          go_wp2
          go_ret
          exact ⟨by rw [HS.out]; rfl, (Below.refl _ w).alloc (Nat.le_refl _) _⟩
      · have D14 := Lib.hid z14
        have HS := Lib.hid (show b = false by rw [← hb]; simp [codeB, nameB, numsB, valI, funI, D13.out, D14.out])
        have y14_0 : (name.toList == []) = false := ba_nil_no z14
        clear z14 hb
        go_enter Tryd.func65, Tryd.ntmps65
        go_wp2_with fail
        refine (HV.out _).mono ?_
        rintro e w1 ⟨rfl, rfl⟩
        go_wp2_with fail
        refine (HF.out _).mono ?_
        rintro e w1 ⟨rfl, rfl⟩
        go_wp2_with fail
        refine (HC.out _).mono ?_
        rintro e w1 ⟨rfl, rfl⟩
        go_wp2
        go_ret
        exact ⟨by rw [HS.out]; rfl, (Below.refl _ w).alloc (Nat.le_refl _) _⟩
    · have D13 := Lib.hid z13
      have HS := Lib.hid (show b = false by rw [← hb]; simp [codeB, nameB, numsB, valI, funI, D13.out])
      have y13_0 : v = false := by simpa using z13
      clear z13 hb
      go_enter Tryd.func65, Tryd.ntmps65
      go_wp2_with fail
      refine (HV.out _).mono ?_
      rintro e w1 ⟨rfl, rfl⟩
      go_wp2_with fail
      refine (HF.out _).mono ?_
      rintro e w1 ⟨rfl, rfl⟩
      go_wp2_with fail
      refine (HC.out _).mono ?_
      rintro e w1 ⟨rfl, rfl⟩
      go_wp2
      go_ret
      exact ⟨by rw [HS.out]; rfl, (Below.refl _ w).alloc (Nat.le_refl _) _⟩
  by_cases k8 : k = 8
  · subst k8
    have HV := Lib.hid (fun W => value_b 8 false W (by decide))
    have HF := Lib.hid (fun W => function_b 8 true W (by decide))
    by_cases z16 : m = 2
    · have D16 := Lib.hid z16
      have y16_0 : ((m : Int) == 2) = true := by simp; omega
      clear z16
      by_cases z17 : c = 0
      · have D17 := Lib.hid z17
        have y17_0 : (c == 0) = true := by simpa using z17
        clear z17
        by_cases z18 : name = ⟨#[]⟩
        · have D18 := Lib.hid z18
          have y18_0 : (name.toList == []) = true := ba_nil_yes z18
          clear z18
          have HS := Lib.hid (show b = true by rw [← hb]; simp [codeB, nameB, numsB, valI, funI, D16.out, D17.out, D18.out])
          clear hb
          go_enter Tryd.func65, Tryd.ntmps65
          go_wp2_with fail
          refine (HV.out _).mono ?_
          rintro e w1 ⟨rfl, rfl⟩
          go_wp2_with fail
          refine (HF.out _).mono ?_
          rintro e w1 ⟨rfl, rfl⟩
          go_wp2
          go_ret
          exact ⟨by rw [HS.out]; rfl, (Below.refl _ w).alloc (Nat.le_refl _) _⟩
        · have D18 := Lib.hid z18
          have HS := Lib.hid (show b = false by rw [← hb]; simp [codeB, nameB, numsB, valI, funI, D16.out, D17.out, D18.out])
          have y18_0 : (name.toList == []) = false := ba_nil_no z18
          clear z18 hb
          go_enter Tryd.func65, Tryd.ntmps65
          go_wp2_with fail
          refine (HV.out _).mono ?_
          rintro e w1 ⟨rfl, rfl⟩
          go_wp2_with fail
          refine (HF.out _).mono ?_
          rintro e w1 ⟨rfl, rfl⟩
          go_wp2
          go_ret
          exact ⟨by rw [HS.out]; rfl, (Below.refl _ w).alloc (Nat.le_refl _) _⟩
      · have D17 := Lib.hid z17
        have HS := Lib.hid (show b = false by rw [← hb]; simp [codeB, nameB, numsB, valI, funI, D16.out, D17.out])
        have y17_0 : (c == 0) = false := by simpa using z17
        clear z17 hb
        go_enter Tryd.func65, Tryd.ntmps65
        go_wp2_with fail
        refine (HV.out _).mono ?_
        rintro e w1 ⟨rfl, rfl⟩
        go_wp2_with fail
        refine (HF.out _).mono ?_
        rintro e w1 ⟨rfl, rfl⟩
        go_wp2
        go_ret
        exact ⟨by rw [HS.out]; rfl, (Below.refl _ w).alloc (Nat.le_refl _) _⟩
    · have D16 := Lib.hid z16
      have HS := Lib.hid (show b = false by rw [← hb]; simp [codeB, nameB, numsB, valI, funI, D16.out])
      have y16_0 : ((m : Int) == 2) = false := by simp; omega
      clear z16 hb
      go_enter Tryd.func65, Tryd.ntmps65
      go_wp2_with fail
      refine (HV.out _).mono ?_
      rintro e w1 ⟨rfl, rfl⟩
      go_wp2_with fail
      refine (HF.out _).mono ?_
      rintro e w1 ⟨rfl, rfl⟩
      go_wp2
      go_ret
      exact ⟨by rw [HS.out]; rfl, (Below.refl _ w).alloc (Nat.le_refl _) _⟩
  have x1 : (k == 1) = false := by simpa using k1
  have x2 : (k == 2) = false := by simpa using k2
  have x5 : (k == 5) = false := by simpa using k5
  have x6 : (k == 6) = false := by simpa using k6
  have x7 : (k == 7) = false := by simpa using k7
  have x8 : (k == 8) = false := by simpa using k8
  have hcd : codeB k c = decide (c = 0) := by unfold codeB; rw [if_neg k5, if_neg k7]
  have hnm : nameB k name = decide (name = ⟨#[]⟩) := by unfold nameB; rw [if_neg k2, if_neg k6]
  have hns : numsB k m = decide (m = 0) := by unfold numsB; rw [if_neg k1, if_neg k8]
  rw [hcd, hnm, hns] at hb
  clear hcd hnm hns k1 k2 k5 k6 k7 k8
  cases hv : valI k with
  | true =>
    rw [hv] at hb
    have HV := Lib.hid (fun W => value_b k true W hv)
    clear hv
    by_cases z19 : c = 0
    · have D19 := Lib.hid z19
      have y19_0 : (c == 0) = true := by simpa using z19
      clear z19
      by_cases z20 : name = ⟨#[]⟩
      · have D20 := Lib.hid z20
        have y20_0 : (name.toList == []) = true := ba_nil_yes z20
        clear z20
        by_cases z21 : m = 0
        · have D21 := Lib.hid z21
          have y21_0 : ((m : Int) == 0) = true := by simp; omega
          clear z21
          have HS := Lib.hid (show b = true by rw [← hb]; simp [codeB, nameB, numsB, valI, funI, D19.out, D20.out, D21.out])
          clear hb
          go_enter Tryd.func65, Tryd.ntmps65
          go_wp2_with fail
          refine (HV.out _).mono ?_
          rintro e w1 ⟨rfl, rfl⟩
          go_wp2
          go_ret
          exact ⟨by rw [HS.out]; rfl, (Below.refl _ w).alloc (Nat.le_refl _) _⟩
        · have D21 := Lib.hid z21
          have HS := Lib.hid (show b = false by rw [← hb]; simp [codeB, nameB, numsB, valI, funI, D19.out, D20.out, D21.out])
          have y21_0 : ((m : Int) == 0) = false := by simp; omega
          clear z21 hb
          go_enter Tryd.func65, Tryd.ntmps65
          go_wp2_with fail
          refine (HV.out _).mono ?_
          rintro e w1 ⟨rfl, rfl⟩
          go_wp2
          go_ret
          exact ⟨by rw [HS.out]; rfl, (Below.refl _ w).alloc (Nat.le_refl _) _⟩
      · have D20 := Lib.hid z20
        have HS := Lib.hid (show b = false by rw [← hb]; simp [codeB, nameB, numsB, valI, funI, D19.out, D20.out])
        have y20_0 : (name.toList == []) = false := ba_nil_no z20
        clear z20 hb
        go_enter Tryd.func65, Tryd.ntmps65
        go_wp2_with fail
        refine (HV.out _).mono ?_
        rintro e w1 ⟨rfl, rfl⟩
        go_wp2
        go_ret
        exact ⟨by rw [HS.out]; rfl, (Below.refl _ w).alloc (Nat.le_refl _) _⟩
    · have D19 := Lib.hid z19
      have HS := Lib.hid (show b = false by rw [← hb]; simp [codeB, nameB, numsB, valI, funI, D19.out])
      have y19_0 : (c == 0) = false := by simpa using z19
      clear z19 hb
      go_enter Tryd.func65, Tryd.ntmps65
      go_wp2_with fail
      refine (HV.out _).mono ?_
      rintro e w1 ⟨rfl, rfl⟩
      go_wp2
      go_ret
      exact ⟨by rw [HS.out]; rfl, (Below.refl _ w).alloc (Nat.le_refl _) _⟩
  | false =>
    rw [hv] at hb
    have HV := Lib.hid (fun W => value_b k false W hv)
    clear hv
    cases hf : funI k with
    | true =>
      rw [hf] at hb
      have HF := Lib.hid (fun W => function_b k true W hf)
      clear hf
      by_cases z22 : c = 0
      · have D22 := Lib.hid z22
        have y22_0 : (c == 0) = true := by simpa using z22
        clear z22
        by_cases z23 : name = ⟨#[]⟩
        · have D23 := Lib.hid z23
          have y23_0 : (name.toList == []) = true := ba_nil_yes z23
          clear z23
          by_cases z24 : m = 0
          · have D24 := Lib.hid z24
            have y24_0 : ((m : Int) == 0) = true := by simp; omega
            clear z24
            have HS := Lib.hid (show b = true by rw [← hb]; simp [codeB, nameB, numsB, valI, funI, D22.out, D23.out, D24.out])
            clear hb
            go_enter Tryd.func65, Tryd.ntmps65
            go_wp2_with fail
            refine (HV.out _).mono ?_
            rintro e w1 ⟨rfl, rfl⟩
            go_wp2_with fail
            refine (HF.out _).mono ?_
            rintro e w1 ⟨rfl, rfl⟩
            go_wp2
            go_ret
            exact ⟨by rw [HS.out]; rfl, (Below.refl _ w).alloc (Nat.le_refl _) _⟩
          · have D24 := Lib.hid z24
            have HS := Lib.hid (show b = false by rw [← hb]; simp [codeB, nameB, numsB, valI, funI, D22.out, D23.out, D24.out])
            have y24_0 : ((m : Int) == 0) = false := by simp; omega
            clear z24 hb
            go_enter Tryd.func65, Tryd.ntmps65
            go_wp2_with fail
            refine (HV.out _).mono ?_
            rintro e w1 ⟨rfl, rfl⟩
            go_wp2_with fail
            refine (HF.out _).mono ?_
            rintro e w1 ⟨rfl, rfl⟩
            go_wp2
            go_ret
            exact ⟨by rw [HS.out]; rfl, (Below.refl _ w).alloc (Nat.le_refl _) _⟩
        · have D23 := Lib.hid z23
          have HS := Lib.hid (show b = false by rw [← hb]; simp [codeB, nameB, numsB, valI, funI, D22.out, D23.out])
          have y23_0 : (name.toList == []) = false := ba_nil_no z23
          clear z23 hb
          go_enter Tryd.func65, Tryd.ntmps65
          go_wp2_with fail
          refine (HV.out _).mono ?_
          rintro e w1 ⟨rfl, rfl⟩
          go_wp2_with fail
          refine (HF.out _).mono ?_
          rintro e w1 ⟨rfl, rfl⟩
          go_wp2
          go_ret
          exact ⟨by rw [HS.out]; rfl, (Below.refl _ w).alloc (Nat.le_refl _) _⟩
      · have D22 := Lib.hid z22
        have HS := Lib.hid (show b = false by rw [← hb]; simp [codeB, nameB, numsB, valI, funI, D22.out])
        have y22_0 : (c == 0) = false := by simpa using z22
        clear z22 hb
        go_enter Tryd.func65, Tryd.ntmps65
        go_wp2_with fail
        refine (HV.out _).mono ?_
        rintro e w1 ⟨rfl, rfl⟩
        go_wp2_with fail
        refine (HF.out _).mono ?_
        rintro e w1 ⟨rfl, rfl⟩
        go_wp2
        go_ret
        exact ⟨by rw [HS.out]; rfl, (Below.refl _ w).alloc (Nat.le_refl _) _⟩
    | false =>
      rw [hf] at hb
      have HF := Lib.hid (fun W => function_b k false W hf)
      have HS := Lib.hid (show b = false by rw [← hb]; rfl)
      clear hf hb
      go_enter Tryd.func65, Tryd.ntmps65
      go_wp2_with fail
      refine (HV.out _).mono ?_
      rintro e w1 ⟨rfl, rfl⟩
      go_wp2_with fail
      refine (HF.out _).mono ?_
      rintro e w1 ⟨rfl, rfl⟩
      go_wp2
      go_ret
      exact ⟨by rw [HS.out]; rfl, (Below.refl _ w).alloc (Nat.le_refl _) _⟩
end Go.Proofs.YtjmpilmmgfjpmaaDoor.Tr
