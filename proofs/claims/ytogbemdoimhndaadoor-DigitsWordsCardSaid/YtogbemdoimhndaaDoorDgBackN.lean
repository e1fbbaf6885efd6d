/-
  Plain facts on numbers of programs there and back, and what rifflelaw10.lives answers: true. Condition: the table of the powers of ten holds what its text lays (lives alone).
-/
import Derived.Test.YtogbemdoimhndaaDoorDgBackM
set_option maxRecDepth 100000
namespace Go.Proofs.YtogbemdoimhndaaDoor.Dg
open Go.RowKit Go.Proofs.YtogbemdoimhndaaDoor.Sh
set_option linter.unusedVariables false

theorem run_behind {a b : List UInt8} (ha : a.all isD = true) (hb : ∀ c, b[0]? = some c → isD c = false) : runL (a ++ b) = a.length := by
  unfold runL
  rw [List.takeWhile_append_of_pos (fun x hx => List.all_eq_true.1 ha x hx)]
  match b, hb with
  | [], _ => simp
  | c :: r, hb =>
    have := hb c rfl
    rw [List.takeWhile_cons, this]
    simp
theorem sign_high (n : Int) (rest : List UInt8) : signL (highL n ++ rest) = (if n < 0 then 2 else 0) ∧ (highL n ++ rest).drop (signL (highL n ++ rest)) = Lib.decDigits n.natAbs ++ rest := by
  by_cases h : n < 0
  · have e : highL n = 194 :: 175 :: Lib.decDigits n.natAbs := by unfold highL; rw [if_pos h]
    have hs : signL (highL n ++ rest) = 2 := by
      unfold signL
      rw [e, if_pos (by simp [Lib.hasPrefix, List.isPrefixOf])]
    rw [hs, if_pos h]
    exact ⟨rfl, by rw [e]; rfl⟩
  · have hn : n.toNat = n.natAbs := by omega
    have e : highL n = Lib.decDigits n.natAbs := by unfold highL; rw [if_neg h, hn]
    have hs : signL (highL n ++ rest) = 0 := by
      unfold signL
      rw [e]
      have h1 := dec_pos n.natAbs
      have h2 := dec_isD n.natAbs
      match hl : Lib.decDigits n.natAbs, h1 with
      | c :: r, _ =>
        rw [hl] at h2
        have hc := isD_of h2 (c := c) (by simp)
        have n1 : (194 == c) = false := by simp; rintro rfl; simp at hc
        have n2 : (95 == c) = false := by simp; rintro rfl; simp at hc
        rw [if_neg (by simp [Lib.hasPrefix, List.isPrefixOf, n1]), if_neg (by simp [Lib.hasPrefix, List.isPrefixOf, n2])]
    rw [hs, if_neg h]
    exact ⟨rfl, by rw [e]; rfl⟩
theorem high_len (n : Int) : (highL n).length = (if n < 0 then 2 else 0) + (Lib.decDigits n.natAbs).length := by
  unfold highL
  split
  · simp; omega
  · next h => rw [show n.toNat = n.natAbs by omega]; simp
theorem read_high {n : Int} (hn : InR n) {rest : List UInt8} (hr : ∀ c, rest[0]? = some c → isD c = false) :
    readN (highL n ++ rest) = (highL n).length ∧ valB (readD (highL n ++ rest)) (readS (highL n ++ rest)) = true ∧ valI (readD (highL n ++ rest)) (readS (highL n ++ rest)) = n := by
  obtain ⟨h1, h2⟩ := sign_high n rest
  have hrun : runL ((highL n ++ rest).drop (signL (highL n ++ rest))) = (Lib.decDigits n.natAbs).length := by rw [h2]; exact run_behind (dec_isD _) hr
  have hD : readD (highL n ++ rest) = Lib.decDigits n.natAbs := by unfold readD; rw [hrun, h2, List.take_left']; rfl
  have hS : readS (highL n ++ rest) = decide (n < 0) := by
    unfold readS
    rw [h1]
    by_cases h : n < 0
    · rw [if_pos h, decide_eq_true h]; rfl
    · rw [if_neg h, decide_eq_false h]; rfl
  have hv := val_dec hn
  refine ⟨?_, by rw [hD, hS]; exact hv.1, by rw [hD, hS]; exact hv.2⟩
  unfold readN
  rw [hrun, h1, high_len]
theorem readN_le (l : List UInt8) : readN l ≤ l.length := by
  unfold readN
  have h1 := signL_le l
  have h2 := runL_le (l.drop (signL l))
  rw [List.length_drop] at h2
  omega
theorem read_some {l : List UInt8} (h : valB (readD l) (readS l) = true) : 0 < l.length := by
  have hc := (val_canon (readD_all l) h).1.1
  unfold readD at hc
  rw [List.length_take, List.length_drop] at hc
  omega
/-- What is read, not behind a low sign, is written as it stood there. -/
theorem high_read {l : List UInt8} (h : valB (readD l) (readS l) = true) (h95 : ¬ l[0]? = some 95) : InR (valI (readD l) (readS l)) ∧ highL (valI (readD l) (readS l)) = l.take (readN l) := by
  obtain ⟨hc, hr, ha, hb1, hb2⟩ := val_canon (readD_all l) h
  refine ⟨hr, ?_⟩
  have hdec := (canon_dec _ _ rfl hc).1
  have hrd : readD l = (l.drop (signL l)).take (runL (l.drop (signL l))) := rfl
  by_cases hp : Lib.hasPrefix l [194, 175] = true
  · have hs : signL l = 2 := by unfold signL; rw [if_pos hp]
    have hS : readS l = true := by unfold readS; rw [hs]; rfl
    rw [hS] at hb1 ha ⊢
    have hneg := (hb1 rfl).2
    unfold highL
    rw [if_pos hneg, ha, hdec, hrd, hs]
    unfold readN
    rw [hs]
    match l, hp with
    | a :: b :: r, hp =>
      have e : 194 = a ∧ 175 = b := by simpa [Lib.hasPrefix, List.isPrefixOf] using hp
      obtain ⟨rfl, rfl⟩ := e
      show _ = List.take (2 + runL r) (194 :: 175 :: r)
      rw [show 2 + runL r = runL r + 1 + 1 by omega]
      rfl
    | [a], hp => simp [Lib.hasPrefix, List.isPrefixOf] at hp
    | [], hp => simp [Lib.hasPrefix, List.isPrefixOf] at hp
  · have hp9 : ¬ Lib.hasPrefix l [95] = true := by
      intro hh
      match l, hh with
      | a :: r, hh =>
        have e : 95 = a := by simpa [Lib.hasPrefix, List.isPrefixOf] using hh
        subst e
        exact h95 rfl
      | [], hh => simp [Lib.hasPrefix, List.isPrefixOf] at hh
    have hs : signL l = 0 := by unfold signL; rw [if_neg hp, if_neg hp9]
    have hS : readS l = false := by unfold readS; rw [hs]; rfl
    rw [hS] at hb2 ha ⊢
    have hpos := hb2 rfl
    unfold highL
    rw [if_neg (by omega), show (valI (readD l) false).toNat = natL (readD l) by omega, hdec, hrd, hs]
    unfold readN
    rw [hs]
    simp
theorem live1 : readN [95, 49, 50, 120] = 3 ∧ valB (readD [95, 49, 50, 120]) (readS [95, 49, 50, 120]) = true ∧ valI (readD [95, 49, 50, 120]) (readS [95, 49, 50, 120]) = -12 := by decide
theorem live2 : readN [48, 48, 55] = 3 ∧ valB (readD [48, 48, 55]) (readS [48, 48, 55]) = false ∧ valI (readD [48, 48, 55]) (readS [48, 48, 55]) = 0 := by decide
theorem live3 : highL (-12) = [194, 175, 49, 50] := by
  have h := (canon_dec 2 [49, 50] rfl ⟨by decide, by decide, by decide⟩).1
  unfold highL
  rw [if_pos (by decide), show (-12 : Int).natAbs = natL [49, 50] from by decide, h]
set_option maxHeartbeats 1000000 in
theorem lives_any (w : World) (hT : Tab w) : Calls Tryd.prog 32 #[] w fun e w' => e = .returned (.bool true) ∧ Below w.heap.size w w' := by
  have R1 : ∀ W, Calls Tryd.prog 26 #[.string ⟨#[95, 49, 50, 120]⟩] W (RetRd (-12) 3 true W) := fun W => by
    have h := read_any ⟨#[95, 49, 50, 120]⟩ W (by decide)
    rw [show (⟨#[95, 49, 50, 120]⟩ : ByteArray).data.toList = [95, 49, 50, 120] from rfl, live1.1, live1.2.1, live1.2.2] at h
    exact h
  have R2 : ∀ W, Calls Tryd.prog 26 #[.string ⟨#[48, 48, 55]⟩] W (RetRd 0 3 false W) := fun W => by
    have h := read_any ⟨#[48, 48, 55]⟩ W (by decide)
    rw [show (⟨#[48, 48, 55]⟩ : ByteArray).data.toList = [48, 48, 55] from rfl, live2.1, live2.2.1, live2.2.2] at h
    exact h
  have R3 : ∀ W, Tab W → Calls Tryd.prog 30 #[.int .i64 (-12)] W fun e w' => e = .returned (.string ⟨#[194, 175, 49, 50]⟩) ∧ Below W.heap.size W w' := fun W h => by
    have h := high_any (-12) W ⟨by decide, by decide⟩ h
    rw [live3] at h
    exact h
  have H1 := Lib.hid R1
  have H2 := Lib.hid R2
  have H3 := Lib.hid R3
  have T := Lib.hid hT
  clear R1 R2 R3 hT
  go_enter Tryd.func32, Tryd.ntmps32
  go_wp2_with fail
  refine (H1.out _).mono ?_
  rintro r w1 ⟨rfl, hb⟩
  have L1 := Lib.hid hb
  clear hb
  go_wp2_with fail
  refine (H2.out _).mono ?_
  rintro r w2 ⟨rfl, hb⟩
  have L2 := Lib.hid (below_next L1.out hb)
  clear hb
  go_wp2_with fail
  refine (H3.out _ (T.out.below L2.out)).mono ?_
  rintro r w3 ⟨rfl, hb⟩
  have L3 := Lib.hid (below_next L2.out hb)
  clear hb
  go_wp2
  go_ret
  exact ⟨rfl, L3.out⟩
end Go.Proofs.YtogbemdoimhndaaDoor.Dg
