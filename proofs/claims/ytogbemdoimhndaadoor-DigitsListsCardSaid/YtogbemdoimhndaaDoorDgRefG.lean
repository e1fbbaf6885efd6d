/-
  What riffleref10.Get answers: as the program's Get. Condition: the text is no longer than fits into a machine.
-/
import Derived.Test.YtogbemdoimhndaaDoorDgRefV
import Derived.Test.YtogbemdoimhndaaDoorDgRef
set_option maxRecDepth 100000
namespace Go.Proofs.YtogbemdoimhndaaDoor.Dg
open Go.RowKit Go.Proofs.YtogbemdoimhndaaDoor.Sh
set_option linter.unusedVariables false

theorem cut_yes {l : List UInt8} (h : l[0]? = some 45) : cutB l = true ∧ cutT l = l.drop 1 := by
  cases l with
  | nil => simp at h
  | cons c r =>
    obtain rfl : c = 45 := by simpa using h
    constructor <;> simp [cutB, cutT, Lib.trimPrefix, Lib.hasPrefix, List.isPrefixOf]
theorem cut_not {l : List UInt8} (h : ¬ l[0]? = some 45) : cutB l = false ∧ cutT l = l := by
  cases l with
  | nil => constructor <;> simp [cutB, cutT, Lib.trimPrefix, Lib.hasPrefix, List.isPrefixOf]
  | cons c r =>
    have hc : ¬ c = 45 := by simpa using h
    have hc' : (45 == c) = false := by simpa using fun e => hc e.symm
    constructor <;> simp [cutB, cutT, Lib.trimPrefix, Lib.hasPrefix, List.isPrefixOf, hc']
set_option maxHeartbeats 2000000 in
theorem rget_any (s : ByteArray) (w : World) (hs : s.size ≤ maxLen) : Calls Tryd.prog 25 #[.string s] w (RetV (getI s.data.toList) (getB s.data.toList) w) := by
  -- the text behind the sign, and whether there is one
  obtain ⟨T, b, hT, hb, hTs, hcase⟩ : ∃ (T : ByteArray) (b : Bool), T.data.toList = cutT s.data.toList ∧ b = cutB s.data.toList ∧ T.size ≤ maxLen ∧ ((b = true ∧ T = s.extract 1 s.size ∧ s.data.toList[0]? = some 45) ∨ (b = false ∧ T = s ∧ ¬ s.data.toList[0]? = some 45)) := by
    by_cases h : s.data.toList[0]? = some 45
    · obtain ⟨h1, h2⟩ := cut_yes h
      refine ⟨s.extract 1 s.size, true, ?_, h1.symm, ?_, .inl ⟨rfl, rfl, h⟩⟩
      · rw [h2, ext_list, List.take_of_length_le]
        rw [List.length_drop, ← size_l]; exact Nat.le_refl _
      · rw [ext_size s 1 s.size (Nat.le_refl _)]; omega
    · obtain ⟨h1, h2⟩ := cut_not h
      exact ⟨s, false, h2.symm, h1.symm, hs, .inr ⟨rfl, rfl, h⟩⟩
  have RL := Lib.hid (fun W => rlong_any T W hTs)
  by_cases hd : T.data.toList.all isD = true
  · have hg : getB s.data.toList = valB T.data.toList b := by unfold getB; rw [← hT, ← hb, hd, Bool.true_and]
    have hi : getI s.data.toList = valI T.data.toList b := by
      unfold getI
      rw [hg, ← hT, ← hb]
      split
      · rfl
      · next h => unfold valI; rw [if_neg h]
    rw [hg, hi]
    have RV := Lib.hid (fun W => rvalue_any T b W hTs hd)
    rw [runL_all hd, ← size_l] at RL
    generalize valI T.data.toList b = vi at *
    generalize valB T.data.toList b = vb at *
    have t1 : ((T.size : Int) != (T.size : Int)) = false := by simp
    clear hg hi hd hT hb
    unfold maxLen at hs hTs
    by_cases h0 : s.size = 0
    · rcases hcase with ⟨_, _, h⟩ | ⟨rfl, rfl, h⟩
      · have hnil : s.data.toList = [] := List.eq_nil_of_length_eq_zero (by rw [← size_l]; exact h0)
        rw [hnil] at h
        simp at h
      · have q0 : decide ((T.size : Int) > 0) = false := decide_eq_false (by omega)
        clear h
        go_enter Tryd.func25, Tryd.ntmps25
        go_wp2_with fail
        refine (RL.out _).mono ?_
        rintro r w1 ⟨rfl, rfl⟩
        go_wp2_with fail
        refine (RV.out _).mono ?_
        rintro r w3 ⟨rfl, hb3⟩
        have L3 := Lib.hid hb3
        clear hb3
        go_wp2
        go_ret2
        exact ⟨rfl, L3.out⟩
    · have hp : 0 < s.size := by omega
      have q0 : decide ((s.size : Int) > 0) = true := decide_eq_true (by omega)
      have q1 : (0 : Int) < (s.size : Int) := by omega
      have q2 : (1 : Int) ≤ (s.size : Int) := by omega
      obtain ⟨c, hc⟩ : ∃ c, s[0] = c := ⟨_, rfl⟩
      have hat : s.data.toList[0]? = some c := by rw [byte_at s 0 hp, hc]
      rw [hat] at hcase
      rcases hcase with ⟨rfl, rfl, h⟩ | ⟨rfl, rfl, h⟩
      · obtain rfl : c = 45 := by simpa using h
        have t2 : (((45 : UInt8).toNat : Int) == 45) = true := rfl
        clear hat h
        go_enter Tryd.func25, Tryd.ntmps25
        go_wp2_with fail
        refine (RL.out _).mono ?_
        rintro r w1 ⟨rfl, rfl⟩
        go_wp2_with fail
        refine (RV.out _).mono ?_
        rintro r w3 ⟨rfl, hb3⟩
        have L3 := Lib.hid hb3
        clear hb3
        go_wp2
        go_ret2
        exact ⟨rfl, L3.out⟩
      · have t2 : ((c.toNat : Int) == 45) = false := by
          simp
          intro e
          exact h (by rw [show c = 45 from UInt8.toNat_inj.1 (by rw [show (45 : UInt8).toNat = 45 from rfl]; omega)])
        clear hat h
        go_enter Tryd.func25, Tryd.ntmps25
        go_wp2_with fail
        refine (RL.out _).mono ?_
        rintro r w1 ⟨rfl, rfl⟩
        go_wp2_with fail
        refine (RV.out _).mono ?_
        rintro r w3 ⟨rfl, hb3⟩
        have L3 := Lib.hid hb3
        clear hb3
        go_wp2
        go_ret2
        exact ⟨rfl, L3.out⟩
  · have hd' : T.data.toList.all isD = false := by simpa using hd
    have hlt := run_lt hd'
    rw [← size_l] at hlt
    have hg : getB s.data.toList = false := by unfold getB; rw [← hT, hd', Bool.false_and]
    have hi : getI s.data.toList = 0 := by unfold getI; rw [if_neg (by simp [hg])]
    rw [hg, hi]
    generalize runL T.data.toList = k at *
    have t1 : ((k : Int) != (T.size : Int)) = true := by simp; omega
    clear hg hi hd hd' hT hb
    unfold maxLen at hs hTs
    by_cases h0 : s.size = 0
    · rcases hcase with ⟨_, _, h⟩ | ⟨rfl, rfl, h⟩
      · have hnil : s.data.toList = [] := List.eq_nil_of_length_eq_zero (by rw [← size_l]; exact h0)
        rw [hnil] at h
        simp at h
      · omega
    · have hp : 0 < s.size := by omega
      have q0 : decide ((s.size : Int) > 0) = true := decide_eq_true (by omega)
      have q1 : (0 : Int) < (s.size : Int) := by omega
      have q2 : (1 : Int) ≤ (s.size : Int) := by omega
      obtain ⟨c, hc⟩ : ∃ c, s[0] = c := ⟨_, rfl⟩
      have hat : s.data.toList[0]? = some c := by rw [byte_at s 0 hp, hc]
      rw [hat] at hcase
      rcases hcase with ⟨rfl, rfl, h⟩ | ⟨rfl, rfl, h⟩
      · obtain rfl : c = 45 := by simpa using h
        rw [ext_size s 1 s.size (Nat.le_refl _)] at t1
        have t2 : (((45 : UInt8).toNat : Int) == 45) = true := rfl
        clear hat h
        go_enter Tryd.func25, Tryd.ntmps25
        go_wp2_with fail
        refine (RL.out _).mono ?_
        rintro r w1 ⟨rfl, rfl⟩
        go_wp2
        go_ret2
        exact ⟨rfl, Below.refl _ _⟩
      · have t2 : ((c.toNat : Int) == 45) = false := by
          simp
          intro e
          exact h (by rw [show c = 45 from UInt8.toNat_inj.1 (by rw [show (45 : UInt8).toNat = 45 from rfl]; omega)])
        clear hat h
        go_enter Tryd.func25, Tryd.ntmps25
        go_wp2_with fail
        refine (RL.out _).mono ?_
        rintro r w1 ⟨rfl, rfl⟩
        go_wp2
        go_ret2
        exact ⟨rfl, Below.refl _ _⟩
end Go.Proofs.YtogbemdoimhndaaDoor.Dg
