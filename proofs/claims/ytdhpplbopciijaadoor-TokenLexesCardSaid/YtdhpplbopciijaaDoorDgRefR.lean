/-
  What riffleref10.Read answers: as the program's Read. Condition: the text is no longer than fits into a machine.
-/
import Derived.Test.YtdhpplbopciijaaDoorDgRefV
import Derived.Test.YtdhpplbopciijaaDoorDgRef
set_option maxRecDepth 100000
namespace Go.Proofs.YtdhpplbopciijaaDoor.Dg
open Go.RowKit Go.Proofs.YtdhpplbopciijaaDoor.Sh
set_option linter.unusedVariables false

theorem sign_hi {l : List UInt8} (h : l.take 2 = [194, 175]) : signL l = 2 := by
  unfold signL
  rw [if_pos]
  unfold Lib.hasPrefix
  rw [List.isPrefixOf_iff_prefix]
  exact ⟨l.drop 2, by rw [← h]; exact List.take_append_drop 2 l⟩
theorem sign_low {l : List UInt8} (h : l[0]? = some 95) : signL l = 1 := by
  cases l with
  | nil => simp at h
  | cons c r =>
    obtain rfl : c = 95 := by simpa using h
    simp [signL, Lib.hasPrefix, List.isPrefixOf]
theorem sign_no {l : List UInt8} (h : ¬ l.take 2 = [194, 175]) (h2 : ¬ l[0]? = some 95) : signL l = 0 := by
  unfold signL
  rw [if_neg, if_neg]
  · intro hp
    apply h2
    unfold Lib.hasPrefix at hp
    rw [List.isPrefixOf_iff_prefix] at hp
    obtain ⟨r, rfl⟩ := hp
    rfl
  · intro hp
    apply h
    unfold Lib.hasPrefix at hp
    rw [List.isPrefixOf_iff_prefix] at hp
    obtain ⟨r, rfl⟩ := hp
    rfl
/-- What the rest of Read does, behind the sign: the facts that its walk wants. -/
theorem rread_facts (s : ByteArray) (w : World) (hs : s.size ≤ maxLen) : ∃ m : Nat, signL s.data.toList + m ≤ s.size ∧ readN s.data.toList = signL s.data.toList + m ∧
    (∀ W, Calls Tryd.prog 45 #[.string (s.extract (signL s.data.toList) s.size)] W fun e w' => e = .returned (.int .i64 (m : Nat)) ∧ W = w') ∧
    (∀ W, Calls Tryd.prog 46 #[.string (s.extract (signL s.data.toList) (signL s.data.toList + m)), .bool (decide (0 < signL s.data.toList))] W (RetV (valI (readD s.data.toList) (readS s.data.toList)) (valB (readD s.data.toList) (readS s.data.toList)) W)) := by
  have hkl : signL s.data.toList ≤ s.size := by rw [size_l]; exact signL_le _
  have hml : signL s.data.toList + runL (s.data.toList.drop (signL s.data.toList)) ≤ s.size := by
    have := runL_le (s.data.toList.drop (signL s.data.toList))
    rw [List.length_drop, ← size_l] at this
    omega
  refine ⟨runL (s.data.toList.drop (signL s.data.toList)), hml, rfl, fun W => ?_, fun W => ?_⟩
  · have e1 : (s.extract (signL s.data.toList) s.size).data.toList = s.data.toList.drop (signL s.data.toList) := by
      rw [ext_list, List.take_of_length_le]
      rw [List.length_drop, ← size_l]; exact Nat.le_refl _
    have h := rlong_any (s.extract (signL s.data.toList) s.size) W (by rw [ext_size s _ s.size (Nat.le_refl _)]; omega)
    rw [e1] at h
    exact h
  · have e2 : (s.extract (signL s.data.toList) (signL s.data.toList + runL (s.data.toList.drop (signL s.data.toList)))).data.toList = readD s.data.toList := by
      rw [ext_list]; unfold readD; rw [Nat.add_sub_cancel_left]
    have h := rvalue_any (s.extract (signL s.data.toList) (signL s.data.toList + runL (s.data.toList.drop (signL s.data.toList)))) (readS s.data.toList) W (by rw [ext_size s _ _ hml]; omega) (by rw [e2]; exact readD_all _)
    rw [e2] at h
    exact h
set_option maxHeartbeats 4000000 in
theorem rread_any (s : ByteArray) (w : World) (hs : s.size ≤ maxLen) : Calls Tryd.prog 36 #[.string s] w (RetRd (valI (readD s.data.toList) (readS s.data.toList)) (readN s.data.toList) (valB (readD s.data.toList) (readS s.data.toList)) w) := by
  obtain ⟨m, hm, hN, hRL, hRV⟩ := rread_facts s w hs
  rw [hN]
  have hext : (s.extract 0 2).toList = s.data.toList.take 2 := by rw [Lib.toList_data, ext_list]; rfl
  have hsig := @sign_no s.data.toList
  have hsigh := @sign_hi s.data.toList
  have hsigl := @sign_low s.data.toList
  have hsz := size_l s
  have hat0 : ∀ hp : 0 < s.size, s.data.toList[0]? = some s[0] := fun hp => byte_at s 0 hp
  generalize valI (readD s.data.toList) (readS s.data.toList) = vi at *
  generalize valB (readD s.data.toList) (readS s.data.toList) = vb at *
  generalize readN s.data.toList = rn at *
  generalize signL s.data.toList = k at *
  generalize hl : s.data.toList = l at *
  unfold maxLen at hs
  by_cases h0 : s.size = 0
  · obtain rfl : l = [] := List.eq_nil_of_length_eq_zero (by omega)
    obtain rfl : k = 0 := hsig (by simp) (by simp)
    obtain rfl : m = 0 := by omega
    have q0 : decide ((s.size : Int) > 0) = false := decide_eq_false (by omega)
    have q3 : decide ((s.size : Int) > 1) = false := decide_eq_false (by omega)
    have e0 : s.extract 0 s.size = ByteArray.empty := by rw [h0]; simp
    have e1 : s.extract 0 (0 + 0) = ByteArray.empty := by simp
    have e2 : (decide (0 < 0)) = false := rfl
    rw [e0] at hRL
    rw [e1, e2] at hRV
    clear e0 e1 e2
    have RL := Lib.hid hRL
    have RV := Lib.hid hRV
    have a1 : (0 : Int) ≤ (s.size : Int) := by omega
    clear hRL hRV hsig hsigh hsigl hat0 hext hl hN hsz
    go_enter Tryd.func36, Tryd.ntmps36
    go_wp2_with fail
    refine (RL.out _).mono ?_
    rintro r w1 ⟨rfl, rfl⟩
    go_wp2_with fail
    refine (RV.out _).mono ?_
    rintro r w3 ⟨rfl, hb3⟩
    have L3 := Lib.hid hb3
    clear hb3
    go_wp2
    refine bodyPost_ret (v := .tuple #[.int .i64 vi, .int .i64 (0), .bool vb]) (by simp [results, Tryd.results36, go_sem]) rfl ?_
    exact ⟨by first | rfl | simp, L3.out⟩
  · have hp : 0 < s.size := by omega
    have q0 : decide ((s.size : Int) > 0) = true := decide_eq_true (by omega)
    have q1 : (0 : Int) < (s.size : Int) := by omega
    obtain ⟨c, hc⟩ : ∃ c, s[0] = c := ⟨_, rfl⟩
    have hat := hat0 hp
    rw [hc] at hat
    have ek : ∀ j : Nat, j = k → (decide (0 < k)) = decide (0 < j) := fun j e => by rw [e]
    by_cases h95 : c = 95
    · subst h95
      obtain rfl : k = 1 := hsigl hat
      have t2 : (((95 : UInt8).toNat : Int) == 95) = true := rfl
      have e2 : (decide (0 < 1)) = true := rfl
      rw [e2] at hRV
      have q5 : (1 : Int) ≤ (s.size : Int) := by omega
      have hne : ¬ (s.extract 0 2).toList = [194, 175] := by
        rw [hext]
        intro e
        have := congrArg (·[0]?) e
        simp [hat] at this
      by_cases h1 : s.size = 1
      · have q3 : decide ((s.size : Int) > 1) = false := decide_eq_false (by omega)
        clear hne e2 ek hat h1
        have RL := Lib.hid hRL
        have RV := Lib.hid hRV
        have a1 : (1 : Int) + (m : Int) ≤ (s.size : Int) := by omega
        clear hRL hRV hsig hsigh hsigl hat0 hext hl hN hsz
        go_enter Tryd.func36, Tryd.ntmps36
        go_wp2_with fail
        refine (RL.out _).mono ?_
        rintro r w1 ⟨rfl, rfl⟩
        go_wp2_with fail
        refine (RV.out _).mono ?_
        rintro r w3 ⟨rfl, hb3⟩
        have L3 := Lib.hid hb3
        clear hb3
        go_wp2
        refine bodyPost_ret (v := .tuple #[.int .i64 vi, .int .i64 (1 + (m : Int)), .bool vb]) (by simp [results, Tryd.results36, go_sem]) rfl ?_
        exact ⟨by first | rfl | simp, L3.out⟩
      · have q3 : decide ((s.size : Int) > 1) = true := decide_eq_true (by omega)
        have q4 : (2 : Int) ≤ (s.size : Int) := by omega
        have u1 : ((s.extract 0 2).toList == [194, 175]) = false := by simpa using hne
        clear hne e2 ek hat h1
        have RL := Lib.hid hRL
        have RV := Lib.hid hRV
        have a1 : (1 : Int) + (m : Int) ≤ (s.size : Int) := by omega
        clear hRL hRV hsig hsigh hsigl hat0 hext hl hN hsz
        go_enter Tryd.func36, Tryd.ntmps36
        go_wp2_with fail
        refine (RL.out _).mono ?_
        rintro r w1 ⟨rfl, rfl⟩
        go_wp2_with fail
        refine (RV.out _).mono ?_
        rintro r w3 ⟨rfl, hb3⟩
        have L3 := Lib.hid hb3
        clear hb3
        go_wp2
        refine bodyPost_ret (v := .tuple #[.int .i64 vi, .int .i64 (1 + (m : Int)), .bool vb]) (by simp [results, Tryd.results36, go_sem]) rfl ?_
        exact ⟨by first | rfl | simp, L3.out⟩
    · have t2 : ((c.toNat : Int) == 95) = false := by
        simp
        intro e
        exact h95 (UInt8.toNat_inj.1 (by rw [show (95 : UInt8).toNat = 95 from rfl]; omega))
      have h95' : ¬ l[0]? = some 95 := fun e => h95 (by rw [hat] at e; injection e)
      by_cases h1 : s.size = 1
      · have q3 : decide ((s.size : Int) > 1) = false := decide_eq_false (by omega)
        obtain rfl : k = 0 := hsig (fun e => by have := congrArg List.length e; simp at this; omega) h95'
        have e2 : (decide (0 < 0)) = false := rfl
        rw [e2, Nat.zero_add] at hRV
        rw [Nat.zero_add] at hm ⊢
        rw [show s.extract 0 s.size = s from ByteArray.extract_zero_size] at hRL
        clear e2 ek hat h95 h95' h1
        have RL := Lib.hid hRL
        have RV := Lib.hid hRV
        have a1 : (m : Int) ≤ (s.size : Int) := by omega
        clear hRL hRV hsig hsigh hsigl hat0 hext hl hN hsz
        go_enter Tryd.func36, Tryd.ntmps36
        go_wp2_with fail
        refine (RL.out _).mono ?_
        rintro r w1 ⟨rfl, rfl⟩
        go_wp2_with fail
        refine (RV.out _).mono ?_
        rintro r w3 ⟨rfl, hb3⟩
        have L3 := Lib.hid hb3
        clear hb3
        go_wp2
        refine bodyPost_ret (v := .tuple #[.int .i64 vi, .int .i64 ((m : Int)), .bool vb]) (by simp [results, Tryd.results36, go_sem]) rfl ?_
        exact ⟨by first | rfl | simp, L3.out⟩
      · have q3 : decide ((s.size : Int) > 1) = true := decide_eq_true (by omega)
        have q4 : (2 : Int) ≤ (s.size : Int) := by omega
        by_cases hh : l.take 2 = [194, 175]
        · obtain rfl : k = 2 := hsigh hh
          have u1 : ((s.extract 0 2).toList == [194, 175]) = true := by rw [hext, hh]; rfl
          have e2 : (decide (0 < 2)) = true := rfl
          rw [e2] at hRV
          clear e2 ek hat h95 h95' hh h1
          have RL := Lib.hid hRL
          have RV := Lib.hid hRV
          have a1 : (2 : Int) + (m : Int) ≤ (s.size : Int) := by omega
          clear hRL hRV hsig hsigh hsigl hat0 hext hl hN hsz
          go_enter Tryd.func36, Tryd.ntmps36
          go_wp2_with fail
          refine (RL.out _).mono ?_
          rintro r w1 ⟨rfl, rfl⟩
          go_wp2_with fail
          refine (RV.out _).mono ?_
          rintro r w3 ⟨rfl, hb3⟩
          have L3 := Lib.hid hb3
          clear hb3
          go_wp2
          refine bodyPost_ret (v := .tuple #[.int .i64 vi, .int .i64 (2 + (m : Int)), .bool vb]) (by simp [results, Tryd.results36, go_sem]) rfl ?_
          exact ⟨by first | rfl | simp, L3.out⟩
        · obtain rfl : k = 0 := hsig hh h95'
          have u1 : ((s.extract 0 2).toList == [194, 175]) = false := by rw [hext]; simpa using hh
          have e2 : (decide (0 < 0)) = false := rfl
          rw [e2, Nat.zero_add] at hRV
          rw [Nat.zero_add] at hm ⊢
          rw [show s.extract 0 s.size = s from ByteArray.extract_zero_size] at hRL
          clear e2 ek hat h95 h95' hh h1
          have RL := Lib.hid hRL
          have RV := Lib.hid hRV
          have a1 : (m : Int) ≤ (s.size : Int) := by omega
          clear hRL hRV hsig hsigh hsigl hat0 hext hl hN hsz
          go_enter Tryd.func36, Tryd.ntmps36
          go_wp2_with fail
          refine (RL.out _).mono ?_
          rintro r w1 ⟨rfl, rfl⟩
          go_wp2_with fail
          refine (RV.out _).mono ?_
          rintro r w3 ⟨rfl, hb3⟩
          have L3 := Lib.hid hb3
          clear hb3
          go_wp2
          refine bodyPost_ret (v := .tuple #[.int .i64 vi, .int .i64 ((m : Int)), .bool vb]) (by simp [results, Tryd.results36, go_sem]) rfl ?_
          exact ⟨by first | rfl | simp, L3.out⟩
end Go.Proofs.YtdhpplbopciijaaDoor.Dg
