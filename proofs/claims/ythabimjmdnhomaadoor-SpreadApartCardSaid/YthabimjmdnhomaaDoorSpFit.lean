/-
  What spread.Fit and the document's Fit answer for any two lists of axes; nothing that was there is written. Condition: at most 100 axes each.
-/
import Derived.Test.YthabimjmdnhomaaDoorCellMake
namespace Go.Proofs.YthabimjmdnhomaaDoor.Sh
open Go.RowKit
set_option linter.unusedVariables false

/-- What Fit answers. -/
def fitE (a b : List Int) : Int := if rightB a = true ∧ rightB b = true then (if a.length = 0 ∨ b.length = 0 then 0 else if a.length = b.length then (if a = b then 0 else 3) else 2) else 1
def fitD (a b : List Int) : List Int := if fitE a b = 0 then (if a.length = 0 then b else a) else []
/-- A list of axes and an error. -/
def RetE (w : World) (d : List Int) (x : Int) (e : Ending) (w' : World) : Prop := ∃ A c, e = .returned (.tuple #[.slice A d.length c, .int .i64 x]) ∧ Ints w' A d ∧ Below w.heap.size w w'
theorem Ints.nil (w : World) (A : Option Addr) : Ints w A [] := fun h => absurd h (by simp)
theorem fit_bad1 {a b : List Int} (h : rightB a = false) : fitE a b = 1 ∧ fitD a b = [] := by simp [fitE, fitD, h]
theorem fit_bad2 {a b : List Int} (h : rightB b = false) : fitE a b = 1 ∧ fitD a b = [] := by simp [fitE, fitD, h]
theorem fit_l {a b : List Int} (h : rightB a = true) (h' : rightB b = true) (hn : a.length = 0) : fitE a b = 0 ∧ fitD a b = b := by simp [fitE, fitD, h, h', hn]
theorem fit_r {a b : List Int} (h : rightB a = true) (h' : rightB b = true) (hn : ¬ a.length = 0) (hm : b.length = 0) : fitE a b = 0 ∧ fitD a b = a := by simp only [fitE, fitD, h, h', hn, hm]; simp
theorem fit_k {a b : List Int} (h : rightB a = true) (h' : rightB b = true) (hn : ¬ a.length = 0) (hm : ¬ b.length = 0) (hk : ¬ a.length = b.length) : fitE a b = 2 ∧ fitD a b = [] := by simp only [fitE, fitD, h, h', hn, hm, hk]; simp
theorem fit_x {a b : List Int} (h : rightB a = true) (h' : rightB b = true) (hn : ¬ a.length = 0) (hm : ¬ b.length = 0) (hk : a.length = b.length) (hx : ¬ a = b) : fitE a b = 3 ∧ fitD a b = [] := by simp only [fitE, fitD, h, h', hm, hk, hx]; simp
theorem fit_ok {a b : List Int} (h : rightB a = true) (h' : rightB b = true) (hn : ¬ a.length = 0) (hm : ¬ b.length = 0) (hx : a = b) : fitE a b = 0 ∧ fitD a b = a := by subst hx; simp only [fitE, fitD, h, hn]; simp

set_option maxHeartbeats 2000000 in
theorem fit_any (A : Option Addr) (c : Nat) (a : List Int) (B : Option Addr) (c2 : Nat) (b : List Int) (w : World) (ha : a.length ≤ 100) (hb : b.length ≤ 100) (ia : Ints w A a) (ib : Ints w B b) :
    Calls Tryd.prog 8 #[.slice A a.length c, .slice B b.length c2] w (RetE w (fitD a b) (fitE a b)) := by
  have IA := Lib.hid ia
  have IB := Lib.hid ib
  clear ia ib
  by_cases hR : rightB a = true
  · have HR := Lib.hid hR
    by_cases hR2 : rightB b = true
    · have HR2 := Lib.hid hR2
      by_cases hn : a.length = 0
      · obtain ⟨e1, e2⟩ := fit_l hR hR2 hn
        rw [e1, e2]
        have hn' : ((a.length : Int) == 0) = true := by simp [hn]
        clear e1 e2 hR hR2 hn
        go_enter Tryd.func8, Tryd.ntmps8
        go_wp2_with fail
        refine (right_yes _ _ a _ HR.out (by unfold maxLen; omega) IA.out).mono ?_
        rintro r w1 ⟨rfl, hb1⟩
        have L1 := Lib.hid hb1
        clear hb1
        go_wp2_with fail
        refine (right_yes _ _ b _ HR2.out (by unfold maxLen; omega) (IB.out.below L1.out)).mono ?_
        rintro r w2 ⟨rfl, hb2⟩
        have L2 := Lib.hid (below_next L1.out hb2)
        clear hb2
        go_wp2_with fail
        refine (clone_t _ _ b _ hb (IB.out.below L2.out)).mono ?_
        rintro r w3 ⟨A3, c3, rfl, hm3, hb3⟩
        have L9 := Lib.hid (below_next L2.out hb3)
        have M3 := Lib.hid hm3.ints'
        clear hb3 hm3
        go_wp2
        go_ret2
        exact ⟨A3, c3, rfl, M3.out, L9.out⟩
      · have hn' : ((a.length : Int) == 0) = false := by simpa using hn
        by_cases hm : b.length = 0
        · obtain ⟨e1, e2⟩ := fit_r hR hR2 hn hm
          rw [e1, e2]
          have hm' : ((b.length : Int) == 0) = true := by simp [hm]
          clear e1 e2 hR hR2 hn hm
          go_enter Tryd.func8, Tryd.ntmps8
          go_wp2_with fail
          refine (right_yes _ _ a _ HR.out (by unfold maxLen; omega) IA.out).mono ?_
          rintro r w1 ⟨rfl, hb1⟩
          have L1 := Lib.hid hb1
          clear hb1
          go_wp2_with fail
          refine (right_yes _ _ b _ HR2.out (by unfold maxLen; omega) (IB.out.below L1.out)).mono ?_
          rintro r w2 ⟨rfl, hb2⟩
          have L2 := Lib.hid (below_next L1.out hb2)
          clear hb2
          go_wp2_with fail
          refine (clone_t _ _ a _ ha (IA.out.below L2.out)).mono ?_
          rintro r w3 ⟨A3, c3, rfl, hm3, hb3⟩
          have L9 := Lib.hid (below_next L2.out hb3)
          have M3 := Lib.hid hm3.ints'
          clear hb3 hm3
          go_wp2
          go_ret2
          exact ⟨A3, c3, rfl, M3.out, L9.out⟩
        · have hm' : ((b.length : Int) == 0) = false := by simpa using hm
          by_cases hk : a.length = b.length
          · have hk' : ((a.length : Int) != (b.length : Int)) = false := by simp [hk]
            by_cases hx : a = b
            · have HX := Lib.hid hx
              obtain ⟨e1, e2⟩ := fit_ok hR hR2 hn hm hx
              rw [e1, e2]
              clear e1 e2 hR hR2 hn hm hk hx
              go_enter Tryd.func8, Tryd.ntmps8
              go_wp2_with fail
              refine (right_yes _ _ a _ HR.out (by unfold maxLen; omega) IA.out).mono ?_
              rintro r w1 ⟨rfl, hb1⟩
              have L1 := Lib.hid hb1
              clear hb1
              go_wp2_with fail
              refine (right_yes _ _ b _ HR2.out (by unfold maxLen; omega) (IB.out.below L1.out)).mono ?_
              rintro r w2 ⟨rfl, hb2⟩
              have L2 := Lib.hid (below_next L1.out hb2)
              clear hb2
              go_wp2_with fail
              refine (same_yes _ _ a _ _ b _ (by unfold maxLen; omega) (by unfold maxLen; omega) (IA.out.below L2.out) (IB.out.below L2.out) HX.out).mono ?_
              rintro r w3 ⟨rfl, hb3⟩
              have L3 := Lib.hid (below_next L2.out hb3)
              clear hb3
              go_wp2_with fail
              refine (clone_t _ _ a _ ha (IA.out.below L3.out)).mono ?_
              rintro r w4 ⟨A3, c3, rfl, hm3, hb3⟩
              have L9 := Lib.hid (below_next L3.out hb3)
              have M3 := Lib.hid hm3.ints'
              clear hb3 hm3
              go_wp2
              go_ret2
              exact ⟨A3, c3, rfl, M3.out, L9.out⟩
            · have HX := Lib.hid hx
              obtain ⟨e1, e2⟩ := fit_x hR hR2 hn hm hk hx
              rw [e1, e2]
              clear e1 e2 hR hR2 hn hm hk hx
              go_enter Tryd.func8, Tryd.ntmps8
              go_wp2_with fail
              refine (right_yes _ _ a _ HR.out (by unfold maxLen; omega) IA.out).mono ?_
              rintro r w1 ⟨rfl, hb1⟩
              have L1 := Lib.hid hb1
              clear hb1
              go_wp2_with fail
              refine (right_yes _ _ b _ HR2.out (by unfold maxLen; omega) (IB.out.below L1.out)).mono ?_
              rintro r w2 ⟨rfl, hb2⟩
              have L2 := Lib.hid (below_next L1.out hb2)
              clear hb2
              go_wp2_with fail
              refine (same_no _ _ a _ _ b _ (by unfold maxLen; omega) (by unfold maxLen; omega) (IA.out.below L2.out) (IB.out.below L2.out) HX.out).mono ?_
              rintro r w3 ⟨rfl, hb3⟩
              have L3 := Lib.hid (below_next L2.out hb3)
              clear hb3
              go_wp2
              go_ret2
              exact ⟨none, 0, rfl, Ints.nil _ _, L3.out⟩
          · have hk' : ((a.length : Int) != (b.length : Int)) = true := by simp; omega
            obtain ⟨e1, e2⟩ := fit_k hR hR2 hn hm hk
            rw [e1, e2]
            clear e1 e2 hR hR2 hn hm hk
            go_enter Tryd.func8, Tryd.ntmps8
            go_wp2_with fail
            refine (right_yes _ _ a _ HR.out (by unfold maxLen; omega) IA.out).mono ?_
            rintro r w1 ⟨rfl, hb1⟩
            have L1 := Lib.hid hb1
            clear hb1
            go_wp2_with fail
            refine (right_yes _ _ b _ HR2.out (by unfold maxLen; omega) (IB.out.below L1.out)).mono ?_
            rintro r w2 ⟨rfl, hb2⟩
            have L2 := Lib.hid (below_next L1.out hb2)
            clear hb2
            go_wp2
            go_ret2
            exact ⟨none, 0, rfl, Ints.nil _ _, L2.out⟩
    · have HR2 := Lib.hid (show rightB b = false by simpa using hR2)
      obtain ⟨e1, e2⟩ := fit_bad2 (a := a) HR2.out
      rw [e1, e2]
      clear e1 e2 hR hR2
      go_enter Tryd.func8, Tryd.ntmps8
      go_wp2_with fail
      refine (right_yes _ _ a _ HR.out (by unfold maxLen; omega) IA.out).mono ?_
      rintro r w1 ⟨rfl, hb1⟩
      have L1 := Lib.hid hb1
      clear hb1
      go_wp2_with fail
      refine (right_no _ _ b _ HR2.out (by unfold maxLen; omega) (IB.out.below L1.out)).mono ?_
      rintro r w2 ⟨rfl, hb2⟩
      have L2 := Lib.hid (below_next L1.out hb2)
      clear hb2
      go_wp2
      go_ret2
      exact ⟨none, 0, rfl, Ints.nil _ _, L2.out⟩
  · have HR := Lib.hid (show rightB a = false by simpa using hR)
    obtain ⟨e1, e2⟩ := fit_bad1 (b := b) HR.out
    rw [e1, e2]
    clear e1 e2 hR
    go_enter Tryd.func8, Tryd.ntmps8
    go_wp2_with fail
    refine (right_no _ _ a _ HR.out (by unfold maxLen; omega) IA.out).mono ?_
    rintro r w1 ⟨rfl, hb1⟩
    have L1 := Lib.hid hb1
    clear hb1
    go_wp2
    go_ret2
    exact ⟨none, 0, rfl, Ints.nil _ _, L1.out⟩

set_option maxHeartbeats 2000000 in
theorem rfit_any (A : Option Addr) (c : Nat) (a : List Int) (B : Option Addr) (c2 : Nat) (b : List Int) (w : World) (ha : a.length ≤ 100) (hb : b.length ≤ 100) (ia : Ints w A a) (ib : Ints w B b) :
    Calls Tryd.prog 9 #[.slice A a.length c, .slice B b.length c2] w (RetE w (fitD a b) (fitE a b)) := by
  have IA := Lib.hid ia
  have IB := Lib.hid ib
  clear ia ib
  by_cases hR : rightB a = true
  · have HR := Lib.hid hR
    by_cases hR2 : rightB b = true
    · have HR2 := Lib.hid hR2
      by_cases hn : a.length = 0
      · obtain ⟨e1, e2⟩ := fit_l hR hR2 hn
        rw [e1, e2]
        have hn' : ((a.length : Int) == 0) = true := by simp [hn]
        clear e1 e2 hR hR2 hn
        go_enter Tryd.func9, Tryd.ntmps9
        go_wp2_with fail
        refine (refRightB_yes _ _ a _ HR.out (by unfold maxLen; omega) IA.out).mono ?_
        rintro r w1 ⟨rfl, hb1⟩
        have L1 := Lib.hid hb1
        clear hb1
        go_wp2_with fail
        refine (refRightB_yes _ _ b _ HR2.out (by unfold maxLen; omega) (IB.out.below L1.out)).mono ?_
        rintro r w2 ⟨rfl, hb2⟩
        have L2 := Lib.hid (below_next L1.out hb2)
        clear hb2
        go_wp2
        go_ret2
        exact ⟨_, _, rfl, IB.out.below L2.out, L2.out⟩
      · have hn' : ((a.length : Int) == 0) = false := by simpa using hn
        by_cases hm : b.length = 0
        · obtain ⟨e1, e2⟩ := fit_r hR hR2 hn hm
          rw [e1, e2]
          have hm' : decide (0 < b.length) = false := by simp [hm]
          clear e1 e2 hR hR2 hn hm
          go_enter Tryd.func9, Tryd.ntmps9
          go_wp2_with fail
          refine (refRightB_yes _ _ a _ HR.out (by unfold maxLen; omega) IA.out).mono ?_
          rintro r w1 ⟨rfl, hb1⟩
          have L1 := Lib.hid hb1
          clear hb1
          go_wp2_with fail
          refine (refRightB_yes _ _ b _ HR2.out (by unfold maxLen; omega) (IB.out.below L1.out)).mono ?_
          rintro r w2 ⟨rfl, hb2⟩
          have L2 := Lib.hid (below_next L1.out hb2)
          clear hb2
          go_wp2
          go_ret2
          exact ⟨_, _, rfl, IA.out.below L2.out, L2.out⟩
        · have hm' : decide (0 < b.length) = true := by simp; omega
          by_cases hk : a.length = b.length
          · have hk' : ((a.length : Int) != (b.length : Int)) = false := by simp [hk]
            by_cases hx : a = b
            · have HX := Lib.hid hx
              obtain ⟨e1, e2⟩ := fit_ok hR hR2 hn hm hx
              rw [e1, e2]
              clear e1 e2 hR hR2 hn hm hk hx
              go_enter Tryd.func9, Tryd.ntmps9
              go_wp2_with fail
              refine (refRightB_yes _ _ a _ HR.out (by unfold maxLen; omega) IA.out).mono ?_
              rintro r w1 ⟨rfl, hb1⟩
              have L1 := Lib.hid hb1
              clear hb1
              go_wp2_with fail
              refine (refRightB_yes _ _ b _ HR2.out (by unfold maxLen; omega) (IB.out.below L1.out)).mono ?_
              rintro r w2 ⟨rfl, hb2⟩
              have L2 := Lib.hid (below_next L1.out hb2)
              clear hb2
              go_wp2_with fail
              refine (refSame_yes _ _ a _ _ b _ (by unfold maxLen; omega) (by unfold maxLen; omega) (IA.out.below L2.out) (IB.out.below L2.out) HX.out).mono ?_
              rintro r w3 ⟨rfl, hb3⟩
              have L3 := Lib.hid (below_next L2.out hb3)
              clear hb3
              go_wp2
              go_ret2
              exact ⟨_, _, rfl, IA.out.below L3.out, L3.out⟩
            · have HX := Lib.hid hx
              obtain ⟨e1, e2⟩ := fit_x hR hR2 hn hm hk hx
              rw [e1, e2]
              clear e1 e2 hR hR2 hn hm hk hx
              go_enter Tryd.func9, Tryd.ntmps9
              go_wp2_with fail
              refine (refRightB_yes _ _ a _ HR.out (by unfold maxLen; omega) IA.out).mono ?_
              rintro r w1 ⟨rfl, hb1⟩
              have L1 := Lib.hid hb1
              clear hb1
              go_wp2_with fail
              refine (refRightB_yes _ _ b _ HR2.out (by unfold maxLen; omega) (IB.out.below L1.out)).mono ?_
              rintro r w2 ⟨rfl, hb2⟩
              have L2 := Lib.hid (below_next L1.out hb2)
              clear hb2
              go_wp2_with fail
              refine (refSame_no _ _ a _ _ b _ (by unfold maxLen; omega) (by unfold maxLen; omega) (IA.out.below L2.out) (IB.out.below L2.out) HX.out).mono ?_
              rintro r w3 ⟨rfl, hb3⟩
              have L3 := Lib.hid (below_next L2.out hb3)
              clear hb3
              go_wp2
              go_ret2
              exact ⟨none, 0, rfl, Ints.nil _ _, L3.out⟩
          · have hk' : ((a.length : Int) != (b.length : Int)) = true := by simp; omega
            obtain ⟨e1, e2⟩ := fit_k hR hR2 hn hm hk
            rw [e1, e2]
            clear e1 e2 hR hR2 hn hm hk
            go_enter Tryd.func9, Tryd.ntmps9
            go_wp2_with fail
            refine (refRightB_yes _ _ a _ HR.out (by unfold maxLen; omega) IA.out).mono ?_
            rintro r w1 ⟨rfl, hb1⟩
            have L1 := Lib.hid hb1
            clear hb1
            go_wp2_with fail
            refine (refRightB_yes _ _ b _ HR2.out (by unfold maxLen; omega) (IB.out.below L1.out)).mono ?_
            rintro r w2 ⟨rfl, hb2⟩
            have L2 := Lib.hid (below_next L1.out hb2)
            clear hb2
            go_wp2
            go_ret2
            exact ⟨none, 0, rfl, Ints.nil _ _, L2.out⟩
    · have HR2 := Lib.hid (show rightB b = false by simpa using hR2)
      obtain ⟨e1, e2⟩ := fit_bad2 (a := a) HR2.out
      rw [e1, e2]
      clear e1 e2 hR hR2
      go_enter Tryd.func9, Tryd.ntmps9
      go_wp2_with fail
      refine (refRightB_yes _ _ a _ HR.out (by unfold maxLen; omega) IA.out).mono ?_
      rintro r w1 ⟨rfl, hb1⟩
      have L1 := Lib.hid hb1
      clear hb1
      go_wp2_with fail
      refine (refRightB_no _ _ b _ HR2.out (by unfold maxLen; omega) (IB.out.below L1.out)).mono ?_
      rintro r w2 ⟨rfl, hb2⟩
      have L2 := Lib.hid (below_next L1.out hb2)
      clear hb2
      go_wp2
      go_ret2
      exact ⟨none, 0, rfl, Ints.nil _ _, L2.out⟩
  · have HR := Lib.hid (show rightB a = false by simpa using hR)
    obtain ⟨e1, e2⟩ := fit_bad1 (b := b) HR.out
    rw [e1, e2]
    clear e1 e2 hR
    go_enter Tryd.func9, Tryd.ntmps9
    go_wp2_with fail
    refine (refRightB_no _ _ a _ HR.out (by unfold maxLen; omega) IA.out).mono ?_
    rintro r w1 ⟨rfl, hb1⟩
    have L1 := Lib.hid hb1
    clear hb1
    go_wp2
    go_ret2
    exact ⟨none, 0, rfl, Ints.nil _ _, L1.out⟩
end Go.Proofs.YthabimjmdnhomaaDoor.Sh
