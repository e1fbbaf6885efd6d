/-
  Proved: for any function and any two numbers rifflelaw04.ScalarParts returns true, and each argument reads afterwards as it read before: the card, tied to the text that lays scalar.traits. No other condition; the card speaks of the pruned copy of the project that this seat's roots load.
-/
import Derived.Test.YtknphbkmghflcaaDoorScApart
namespace Go.Proofs.YtknphbkmghflcaaDoor.scalarParts
open Go.Proofs.YtknphbkmghflcaaDoor.Sc
open Go.Joins Go.ChangeShapes Go.WideShapes Go.ChangeAt Go.RowKit Go.Deep
set_option linter.unusedVariables false

theorem joins_w (c : Int) (t : Bool) (w : World) (ht : (trOf c).joins = t) (hT : Tab w) : Calls Tryd.prog 19 #[.int .i64 c] w fun e w' => e = .returned (.bool t) ∧ Below w.heap.size w w' := by
  subst ht; exact joins_any c w hT
/-- What is divided and what is left, and what the law asks of them. -/
def PartsOk (a b q r : Int) : Prop := b = 0 ∨ (¬ b = 0 ∧ wrap64 (wrap64 (b * q) + r) = a ∧ (r = 0 ∨ (¬ r = 0 ∧ (r < 0 ↔ b < 0))))
theorem parts_ok {a b : Int} (ha : InR a) (hb : InR b) : PartsOk a b (twoI 4 a b) (twoI 6 b a) := by
  rw [twoI_4, twoI_6]
  unfold restI
  by_cases h : b = 0
  · exact .inl h
  · obtain ⟨h1, h2⟩ := over_rest ha hb h
    refine .inr ⟨h, by rw [wrap_add_l]; exact h1, ?_⟩
    by_cases h3 : wrap64 (a - wrap64 (b * overI a b)) = 0
    · exact .inl h3
    · rcases h2 with h2 | h2
      · exact absurd h2 h3
      · exact .inr ⟨h3, h2⟩

set_option maxHeartbeats 4000000 in
set_option maxRecDepth 100000 in
theorem walkZN (c : Int) (s : Bool) (a b q r : Int) (w : World) (hT : Tab w) (ha : InR a) (hb : InR b) (hq : twoI 4 a b = q) (hrr : twoI 6 b a = r) (hb0 : b = 0) (hh : hasB c 2 = false) :
    Calls Tryd.prog 7 #[.agg #[.int .i64 c, .bool s], .int .i64 a, .int .i64 b] w fun e w' => e = .returned (.bool true) ∧ Below w.heap.size w w' := by
  have hB : Below w.heap.size w (w.alloc (.cells #[.int .i64 c, .bool s] 23)) := (Below.refl _ w).alloc (Nat.le_refl _) _
  have hS : (w.alloc (.cells #[.int .i64 c, .bool s] 23)).cell? ⟨w.heap.size, 0, none⟩ = some (.int .i64 c) ∧ (w.alloc (.cells #[.int .i64 c, .bool s] 23)).cell? ⟨w.heap.size, 1, none⟩ = some (.bool s) :=
    ⟨by rw [World.cell?_alloc_at _ _ _ _ (by simp)]; rfl, by rw [World.cell?_alloc_at _ _ _ _ (by simp)]; rfl⟩
  have T0 := Lib.hid (hT.below hB)
  have L0 := Lib.hid hB
  have S0 := Lib.hid hS
  subst hb0
  have HH := Lib.hid hh
  clear hh
  have HQ := Lib.hid hq
  have HR := Lib.hid hrr
  clear hT hB hS hq hrr
  go_enter Tryd.func7, Tryd.ntmps7
  go_wp2_with fail
  refine (two_v 4 a 0 q _ HQ.out rfl T0.out ha hb).mono ?_
  rintro e w1 ⟨rfl, hb1⟩
  have T1 := Lib.hid (T0.out.below hb1)
  have L1 := Lib.hid (below_next L0.out hb1)
  have S1 := Lib.hid (keepFn hb1 S0.out)
  obtain ⟨q0, q1⟩ := S1.out
  clear hb1
  go_wp2_with fail
  refine (two_v 6 0 a r _ HR.out rfl T1.out hb ha).mono ?_
  rintro e w2 ⟨rfl, hb2⟩
  have T2 := Lib.hid (T1.out.below hb2)
  have L2 := Lib.hid (below_next L1.out hb2)
  have S2 := Lib.hid (keepFn hb2 S1.out)
  obtain ⟨q0, q1⟩ := S2.out
  clear hb2
  go_wp2_with fail
  refine (has_b c 2 false _ HH.out T2.out).mono ?_
  rintro e w3 ⟨rfl, hb3⟩
  have T3 := Lib.hid (T2.out.below hb3)
  have L3 := Lib.hid (below_next L2.out hb3)
  have S3 := Lib.hid (keepFn hb3 S2.out)
  obtain ⟨q0, q1⟩ := S3.out
  clear hb3
  go_wp2_with fail
  refine (lives_any _ T3.out).mono ?_
  rintro e w4 ⟨rfl, hb4⟩
  have L4 := Lib.hid (below_next L3.out hb4)
  clear hb4
  go_wp2
  go_ret
  exact ⟨rfl, L4.out⟩
set_option maxHeartbeats 4000000 in
set_option maxRecDepth 100000 in
theorem walkZJ (c : Int) (s : Bool) (a b q r : Int) (w : World) (hT : Tab w) (ha : InR a) (hb : InR b) (hq : twoI 4 a b = q) (hrr : twoI 6 b a = r) (hb0 : b = 0) (hh : hasB c 2 = true) (hj : (trOf c).joins = true) :
    Calls Tryd.prog 7 #[.agg #[.int .i64 c, .bool s], .int .i64 a, .int .i64 b] w fun e w' => e = .returned (.bool true) ∧ Below w.heap.size w w' := by
  have hB : Below w.heap.size w (w.alloc (.cells #[.int .i64 c, .bool s] 23)) := (Below.refl _ w).alloc (Nat.le_refl _) _
  have hS : (w.alloc (.cells #[.int .i64 c, .bool s] 23)).cell? ⟨w.heap.size, 0, none⟩ = some (.int .i64 c) ∧ (w.alloc (.cells #[.int .i64 c, .bool s] 23)).cell? ⟨w.heap.size, 1, none⟩ = some (.bool s) :=
    ⟨by rw [World.cell?_alloc_at _ _ _ _ (by simp)]; rfl, by rw [World.cell?_alloc_at _ _ _ _ (by simp)]; rfl⟩
  have T0 := Lib.hid (hT.below hB)
  have L0 := Lib.hid hB
  have S0 := Lib.hid hS
  subst hb0
  have HH := Lib.hid hh
  have HJ := Lib.hid hj
  clear hh hj
  have HQ := Lib.hid hq
  have HR := Lib.hid hrr
  clear hT hB hS hq hrr
  go_enter Tryd.func7, Tryd.ntmps7
  go_wp2_with fail
  refine (two_v 4 a 0 q _ HQ.out rfl T0.out ha hb).mono ?_
  rintro e w1 ⟨rfl, hb1⟩
  have T1 := Lib.hid (T0.out.below hb1)
  have L1 := Lib.hid (below_next L0.out hb1)
  have S1 := Lib.hid (keepFn hb1 S0.out)
  obtain ⟨q0, q1⟩ := S1.out
  clear hb1
  go_wp2_with fail
  refine (two_v 6 0 a r _ HR.out rfl T1.out hb ha).mono ?_
  rintro e w2 ⟨rfl, hb2⟩
  have T2 := Lib.hid (T1.out.below hb2)
  have L2 := Lib.hid (below_next L1.out hb2)
  have S2 := Lib.hid (keepFn hb2 S1.out)
  obtain ⟨q0, q1⟩ := S2.out
  clear hb2
  go_wp2_with fail
  refine (has_b c 2 true _ HH.out T2.out).mono ?_
  rintro e w3 ⟨rfl, hb3⟩
  have T3 := Lib.hid (T2.out.below hb3)
  have L3 := Lib.hid (below_next L2.out hb3)
  have S3 := Lib.hid (keepFn hb3 S2.out)
  obtain ⟨q0, q1⟩ := S3.out
  clear hb3
  go_wp2_with fail
  refine (joins_w c true _ HJ.out T3.out).mono ?_
  rintro e w4 ⟨rfl, hb4⟩
  have T4 := Lib.hid (T3.out.below hb4)
  have L4 := Lib.hid (below_next L3.out hb4)
  have S4 := Lib.hid (keepFn hb4 S3.out)
  obtain ⟨q0, q1⟩ := S4.out
  clear hb4
  go_wp2_with fail
  refine (lives_any _ T4.out).mono ?_
  rintro e w5 ⟨rfl, hb5⟩
  have L5 := Lib.hid (below_next L4.out hb5)
  clear hb5
  go_wp2
  go_ret
  exact ⟨rfl, L5.out⟩
set_option maxHeartbeats 4000000 in
set_option maxRecDepth 100000 in
theorem walkZL (c : Int) (s : Bool) (a b q r : Int) (w : World) (hT : Tab w) (ha : InR a) (hb : InR b) (hq : twoI 4 a b = q) (hrr : twoI 6 b a = r) (hb0 : b = 0) (hh : hasB c 2 = true) (hj : (trOf c).joins = false) :
    Calls Tryd.prog 7 #[.agg #[.int .i64 c, .bool s], .int .i64 a, .int .i64 b] w fun e w' => e = .returned (.bool true) ∧ Below w.heap.size w w' := by
  have hB : Below w.heap.size w (w.alloc (.cells #[.int .i64 c, .bool s] 23)) := (Below.refl _ w).alloc (Nat.le_refl _) _
  have hS : (w.alloc (.cells #[.int .i64 c, .bool s] 23)).cell? ⟨w.heap.size, 0, none⟩ = some (.int .i64 c) ∧ (w.alloc (.cells #[.int .i64 c, .bool s] 23)).cell? ⟨w.heap.size, 1, none⟩ = some (.bool s) :=
    ⟨by rw [World.cell?_alloc_at _ _ _ _ (by simp)]; rfl, by rw [World.cell?_alloc_at _ _ _ _ (by simp)]; rfl⟩
  have T0 := Lib.hid (hT.below hB)
  have L0 := Lib.hid hB
  have S0 := Lib.hid hS
  subst hb0
  obtain ⟨N, hN, hap⟩ := apart_any hh hj s
  have HA := Lib.hid hap
  have HH := Lib.hid hh
  have HJ := Lib.hid hj
  clear hh hj hap
  have HQ := Lib.hid hq
  have HR := Lib.hid hrr
  clear hT hB hS hq hrr
  go_enter Tryd.func7, Tryd.ntmps7
  go_wp2_with fail
  refine (two_v 4 a 0 q _ HQ.out rfl T0.out ha hb).mono ?_
  rintro e w1 ⟨rfl, hb1⟩
  have T1 := Lib.hid (T0.out.below hb1)
  have L1 := Lib.hid (below_next L0.out hb1)
  have S1 := Lib.hid (keepFn hb1 S0.out)
  obtain ⟨q0, q1⟩ := S1.out
  clear hb1
  go_wp2_with fail
  refine (two_v 6 0 a r _ HR.out rfl T1.out hb ha).mono ?_
  rintro e w2 ⟨rfl, hb2⟩
  have T2 := Lib.hid (T1.out.below hb2)
  have L2 := Lib.hid (below_next L1.out hb2)
  have S2 := Lib.hid (keepFn hb2 S1.out)
  obtain ⟨q0, q1⟩ := S2.out
  clear hb2
  go_wp2_with fail
  refine (has_b c 2 true _ HH.out T2.out).mono ?_
  rintro e w3 ⟨rfl, hb3⟩
  have T3 := Lib.hid (T2.out.below hb3)
  have L3 := Lib.hid (below_next L2.out hb3)
  have S3 := Lib.hid (keepFn hb3 S2.out)
  obtain ⟨q0, q1⟩ := S3.out
  clear hb3
  go_wp2_with fail
  refine (joins_w c false _ HJ.out T3.out).mono ?_
  rintro e w4 ⟨rfl, hb4⟩
  have T4 := Lib.hid (T3.out.below hb4)
  have L4 := Lib.hid (below_next L3.out hb4)
  have S4 := Lib.hid (keepFn hb4 S3.out)
  obtain ⟨q0, q1⟩ := S4.out
  clear hb4
  go_wp2
  go_loopw [11] (fun n wr => ∃ k : Nat, k ≤ N ∧ n = .int .i64 (k : Int) ∧ Tab wr ∧ (wr.cell? ⟨w.heap.size, 0, none⟩ = some (.int .i64 c) ∧ wr.cell? ⟨w.heap.size, 1, none⟩ = some (.bool s)) ∧ Below w.heap.size w wr) (fun n _ => 216 - (intOf n).toNat)
  case atStart => exact ⟨0, Nat.zero_le _, rfl, T4.out, S4.out, L4.out⟩
  case round =>
    clear q0 q1
    obtain ⟨k, hk, rfl, hTk, hSk, hbel⟩ := hrel
    have T5 := Lib.hid hTk
    have S5 := Lib.hid hSk
    have L5 := Lib.hid hbel
    obtain ⟨q0, q1⟩ := hSk
    have hk6 : k < 216 := by omega
    clear hTk hbel
    obtain ⟨x, hx⟩ : ∃ x, doI c s (pA k) (doI c s (pB k) (pC k)) = x := ⟨_, rfl⟩
    obtain ⟨y, hy⟩ : ∃ y, doI c s (doI c s (pA k) (pB k)) (pC k) = y := ⟨_, rfl⟩
    have HX := Lib.hid hx
    have HY := Lib.hid hy
    clear hx hy
    go_wp2_with fail
    refine (three_any c s (pA k) (pB k) (pC k) x y _ T5.out (pA_R k) (pB_R k) (pC_R hk6) HX.out HY.out).mono ?_
    rintro e w6 ⟨rfl, hb6⟩
    have T6 := Lib.hid (T5.out.below hb6)
    have L6 := Lib.hid (below_next L5.out hb6)
    have S6 := Lib.hid (keepFn hb6 S5.out)
    clear hb6 q0 q1
    by_cases hxy : x = y
    · have hkN : k < N := by
        rcases Nat.lt_or_ge k N with h | h
        · exact h
        · exfalso
          obtain rfl : k = N := by omega
          exact HA.out (by rw [HX.out, HY.out]; exact hxy)
      subst hxy
      go_wp2
      go_roundw
      case rel => exact ⟨k + 1, by omega, by go_num, T6.out, S6.out, L6.out⟩
      case measure => simp [intOf]; omega
    · have e5 : (x != y) = true := by simpa using hxy
      clear hxy
      go_wp2_with fail
      refine (lives_any _ T6.out).mono ?_
      rintro e w7 ⟨rfl, hb7⟩
      have L7 := Lib.hid (below_next L6.out hb7)
      clear hb7
      go_wp2
      go_ret
      exact ⟨rfl, L7.out⟩
set_option maxHeartbeats 4000000 in
set_option maxRecDepth 100000 in
theorem walkRN (c : Int) (s : Bool) (a b q r : Int) (w : World) (hT : Tab w) (ha : InR a) (hb : InR b) (hq : twoI 4 a b = q) (hrr : twoI 6 b a = r) (hb0 : ¬ b = 0) (hs : wrap64 (wrap64 (b * q) + r) = a) (hr : r = 0) (hh : hasB c 2 = false) :
    Calls Tryd.prog 7 #[.agg #[.int .i64 c, .bool s], .int .i64 a, .int .i64 b] w fun e w' => e = .returned (.bool true) ∧ Below w.heap.size w w' := by
  have hB : Below w.heap.size w (w.alloc (.cells #[.int .i64 c, .bool s] 23)) := (Below.refl _ w).alloc (Nat.le_refl _) _
  have hS : (w.alloc (.cells #[.int .i64 c, .bool s] 23)).cell? ⟨w.heap.size, 0, none⟩ = some (.int .i64 c) ∧ (w.alloc (.cells #[.int .i64 c, .bool s] 23)).cell? ⟨w.heap.size, 1, none⟩ = some (.bool s) :=
    ⟨by rw [World.cell?_alloc_at _ _ _ _ (by simp)]; rfl, by rw [World.cell?_alloc_at _ _ _ _ (by simp)]; rfl⟩
  have T0 := Lib.hid (hT.below hB)
  have L0 := Lib.hid hB
  have S0 := Lib.hid hS
  subst hr
  have e1 : (b != 0) = true := by simpa using hb0
  rw [Int.add_zero, wrap_wrap] at hs
  have hs3 : wrap64 a = a := wrap_in ha
  clear hb0
  have HH := Lib.hid hh
  clear hh
  have HQ := Lib.hid hq
  have HR := Lib.hid hrr
  clear hT hB hS hq hrr
  go_enter Tryd.func7, Tryd.ntmps7
  go_wp2_with fail
  refine (two_v 4 a b q _ HQ.out rfl T0.out ha hb).mono ?_
  rintro e w1 ⟨rfl, hb1⟩
  have T1 := Lib.hid (T0.out.below hb1)
  have L1 := Lib.hid (below_next L0.out hb1)
  have S1 := Lib.hid (keepFn hb1 S0.out)
  obtain ⟨q0, q1⟩ := S1.out
  clear hb1
  go_wp2_with fail
  refine (two_v 6 b a 0 _ HR.out rfl T1.out hb ha).mono ?_
  rintro e w2 ⟨rfl, hb2⟩
  have T2 := Lib.hid (T1.out.below hb2)
  have L2 := Lib.hid (below_next L1.out hb2)
  have S2 := Lib.hid (keepFn hb2 S1.out)
  obtain ⟨q0, q1⟩ := S2.out
  clear hb2
  go_wp2_with fail
  refine (has_b c 2 false _ HH.out T2.out).mono ?_
  rintro e w3 ⟨rfl, hb3⟩
  have T3 := Lib.hid (T2.out.below hb3)
  have L3 := Lib.hid (below_next L2.out hb3)
  have S3 := Lib.hid (keepFn hb3 S2.out)
  obtain ⟨q0, q1⟩ := S3.out
  clear hb3
  go_wp2_with fail
  refine (lives_any _ T3.out).mono ?_
  rintro e w4 ⟨rfl, hb4⟩
  have L4 := Lib.hid (below_next L3.out hb4)
  clear hb4
  go_wp2
  go_ret
  exact ⟨rfl, L4.out⟩
set_option maxHeartbeats 4000000 in
set_option maxRecDepth 100000 in
theorem walkRJ (c : Int) (s : Bool) (a b q r : Int) (w : World) (hT : Tab w) (ha : InR a) (hb : InR b) (hq : twoI 4 a b = q) (hrr : twoI 6 b a = r) (hb0 : ¬ b = 0) (hs : wrap64 (wrap64 (b * q) + r) = a) (hr : r = 0) (hh : hasB c 2 = true) (hj : (trOf c).joins = true) :
    Calls Tryd.prog 7 #[.agg #[.int .i64 c, .bool s], .int .i64 a, .int .i64 b] w fun e w' => e = .returned (.bool true) ∧ Below w.heap.size w w' := by
  have hB : Below w.heap.size w (w.alloc (.cells #[.int .i64 c, .bool s] 23)) := (Below.refl _ w).alloc (Nat.le_refl _) _
  have hS : (w.alloc (.cells #[.int .i64 c, .bool s] 23)).cell? ⟨w.heap.size, 0, none⟩ = some (.int .i64 c) ∧ (w.alloc (.cells #[.int .i64 c, .bool s] 23)).cell? ⟨w.heap.size, 1, none⟩ = some (.bool s) :=
    ⟨by rw [World.cell?_alloc_at _ _ _ _ (by simp)]; rfl, by rw [World.cell?_alloc_at _ _ _ _ (by simp)]; rfl⟩
  have T0 := Lib.hid (hT.below hB)
  have L0 := Lib.hid hB
  have S0 := Lib.hid hS
  subst hr
  have e1 : (b != 0) = true := by simpa using hb0
  rw [Int.add_zero, wrap_wrap] at hs
  have hs3 : wrap64 a = a := wrap_in ha
  clear hb0
  have HH := Lib.hid hh
  have HJ := Lib.hid hj
  clear hh hj
  have HQ := Lib.hid hq
  have HR := Lib.hid hrr
  clear hT hB hS hq hrr
  go_enter Tryd.func7, Tryd.ntmps7
  go_wp2_with fail
  refine (two_v 4 a b q _ HQ.out rfl T0.out ha hb).mono ?_
  rintro e w1 ⟨rfl, hb1⟩
  have T1 := Lib.hid (T0.out.below hb1)
  have L1 := Lib.hid (below_next L0.out hb1)
  have S1 := Lib.hid (keepFn hb1 S0.out)
  obtain ⟨q0, q1⟩ := S1.out
  clear hb1
  go_wp2_with fail
  refine (two_v 6 b a 0 _ HR.out rfl T1.out hb ha).mono ?_
  rintro e w2 ⟨rfl, hb2⟩
  have T2 := Lib.hid (T1.out.below hb2)
  have L2 := Lib.hid (below_next L1.out hb2)
  have S2 := Lib.hid (keepFn hb2 S1.out)
  obtain ⟨q0, q1⟩ := S2.out
  clear hb2
  go_wp2_with fail
  refine (has_b c 2 true _ HH.out T2.out).mono ?_
  rintro e w3 ⟨rfl, hb3⟩
  have T3 := Lib.hid (T2.out.below hb3)
  have L3 := Lib.hid (below_next L2.out hb3)
  have S3 := Lib.hid (keepFn hb3 S2.out)
  obtain ⟨q0, q1⟩ := S3.out
  clear hb3
  go_wp2_with fail
  refine (joins_w c true _ HJ.out T3.out).mono ?_
  rintro e w4 ⟨rfl, hb4⟩
  have T4 := Lib.hid (T3.out.below hb4)
  have L4 := Lib.hid (below_next L3.out hb4)
  have S4 := Lib.hid (keepFn hb4 S3.out)
  obtain ⟨q0, q1⟩ := S4.out
  clear hb4
  go_wp2_with fail
  refine (lives_any _ T4.out).mono ?_
  rintro e w5 ⟨rfl, hb5⟩
  have L5 := Lib.hid (below_next L4.out hb5)
  clear hb5
  go_wp2
  go_ret
  exact ⟨rfl, L5.out⟩
set_option maxHeartbeats 4000000 in
set_option maxRecDepth 100000 in
theorem walkRL (c : Int) (s : Bool) (a b q r : Int) (w : World) (hT : Tab w) (ha : InR a) (hb : InR b) (hq : twoI 4 a b = q) (hrr : twoI 6 b a = r) (hb0 : ¬ b = 0) (hs : wrap64 (wrap64 (b * q) + r) = a) (hr : r = 0) (hh : hasB c 2 = true) (hj : (trOf c).joins = false) :
    Calls Tryd.prog 7 #[.agg #[.int .i64 c, .bool s], .int .i64 a, .int .i64 b] w fun e w' => e = .returned (.bool true) ∧ Below w.heap.size w w' := by
  have hB : Below w.heap.size w (w.alloc (.cells #[.int .i64 c, .bool s] 23)) := (Below.refl _ w).alloc (Nat.le_refl _) _
  have hS : (w.alloc (.cells #[.int .i64 c, .bool s] 23)).cell? ⟨w.heap.size, 0, none⟩ = some (.int .i64 c) ∧ (w.alloc (.cells #[.int .i64 c, .bool s] 23)).cell? ⟨w.heap.size, 1, none⟩ = some (.bool s) :=
    ⟨by rw [World.cell?_alloc_at _ _ _ _ (by simp)]; rfl, by rw [World.cell?_alloc_at _ _ _ _ (by simp)]; rfl⟩
  have T0 := Lib.hid (hT.below hB)
  have L0 := Lib.hid hB
  have S0 := Lib.hid hS
  subst hr
  have e1 : (b != 0) = true := by simpa using hb0
  rw [Int.add_zero, wrap_wrap] at hs
  have hs3 : wrap64 a = a := wrap_in ha
  clear hb0
  obtain ⟨N, hN, hap⟩ := apart_any hh hj s
  have HA := Lib.hid hap
  have HH := Lib.hid hh
  have HJ := Lib.hid hj
  clear hh hj hap
  have HQ := Lib.hid hq
  have HR := Lib.hid hrr
  clear hT hB hS hq hrr
  go_enter Tryd.func7, Tryd.ntmps7
  go_wp2_with fail
  refine (two_v 4 a b q _ HQ.out rfl T0.out ha hb).mono ?_
  rintro e w1 ⟨rfl, hb1⟩
  have T1 := Lib.hid (T0.out.below hb1)
  have L1 := Lib.hid (below_next L0.out hb1)
  have S1 := Lib.hid (keepFn hb1 S0.out)
  obtain ⟨q0, q1⟩ := S1.out
  clear hb1
  go_wp2_with fail
  refine (two_v 6 b a 0 _ HR.out rfl T1.out hb ha).mono ?_
  rintro e w2 ⟨rfl, hb2⟩
  have T2 := Lib.hid (T1.out.below hb2)
  have L2 := Lib.hid (below_next L1.out hb2)
  have S2 := Lib.hid (keepFn hb2 S1.out)
  obtain ⟨q0, q1⟩ := S2.out
  clear hb2
  go_wp2_with fail
  refine (has_b c 2 true _ HH.out T2.out).mono ?_
  rintro e w3 ⟨rfl, hb3⟩
  have T3 := Lib.hid (T2.out.below hb3)
  have L3 := Lib.hid (below_next L2.out hb3)
  have S3 := Lib.hid (keepFn hb3 S2.out)
  obtain ⟨q0, q1⟩ := S3.out
  clear hb3
  go_wp2_with fail
  refine (joins_w c false _ HJ.out T3.out).mono ?_
  rintro e w4 ⟨rfl, hb4⟩
  have T4 := Lib.hid (T3.out.below hb4)
  have L4 := Lib.hid (below_next L3.out hb4)
  have S4 := Lib.hid (keepFn hb4 S3.out)
  obtain ⟨q0, q1⟩ := S4.out
  clear hb4
  go_wp2
  go_loopw [11] (fun n wr => ∃ k : Nat, k ≤ N ∧ n = .int .i64 (k : Int) ∧ Tab wr ∧ (wr.cell? ⟨w.heap.size, 0, none⟩ = some (.int .i64 c) ∧ wr.cell? ⟨w.heap.size, 1, none⟩ = some (.bool s)) ∧ Below w.heap.size w wr) (fun n _ => 216 - (intOf n).toNat)
  case atStart => exact ⟨0, Nat.zero_le _, rfl, T4.out, S4.out, L4.out⟩
  case round =>
    clear q0 q1
    obtain ⟨k, hk, rfl, hTk, hSk, hbel⟩ := hrel
    have T5 := Lib.hid hTk
    have S5 := Lib.hid hSk
    have L5 := Lib.hid hbel
    obtain ⟨q0, q1⟩ := hSk
    have hk6 : k < 216 := by omega
    clear hTk hbel
    obtain ⟨x, hx⟩ : ∃ x, doI c s (pA k) (doI c s (pB k) (pC k)) = x := ⟨_, rfl⟩
    obtain ⟨y, hy⟩ : ∃ y, doI c s (doI c s (pA k) (pB k)) (pC k) = y := ⟨_, rfl⟩
    have HX := Lib.hid hx
    have HY := Lib.hid hy
    clear hx hy
    go_wp2_with fail
    refine (three_any c s (pA k) (pB k) (pC k) x y _ T5.out (pA_R k) (pB_R k) (pC_R hk6) HX.out HY.out).mono ?_
    rintro e w6 ⟨rfl, hb6⟩
    have T6 := Lib.hid (T5.out.below hb6)
    have L6 := Lib.hid (below_next L5.out hb6)
    have S6 := Lib.hid (keepFn hb6 S5.out)
    clear hb6 q0 q1
    by_cases hxy : x = y
    · have hkN : k < N := by
        rcases Nat.lt_or_ge k N with h | h
        · exact h
        · exfalso
          obtain rfl : k = N := by omega
          exact HA.out (by rw [HX.out, HY.out]; exact hxy)
      subst hxy
      go_wp2
      go_roundw
      case rel => exact ⟨k + 1, by omega, by go_num, T6.out, S6.out, L6.out⟩
      case measure => simp [intOf]; omega
    · have e5 : (x != y) = true := by simpa using hxy
      clear hxy
      go_wp2_with fail
      refine (lives_any _ T6.out).mono ?_
      rintro e w7 ⟨rfl, hb7⟩
      have L7 := Lib.hid (below_next L6.out hb7)
      clear hb7
      go_wp2
      go_ret
      exact ⟨rfl, L7.out⟩
set_option maxHeartbeats 4000000 in
set_option maxRecDepth 100000 in
theorem walkSN (c : Int) (s : Bool) (a b q r : Int) (w : World) (hT : Tab w) (ha : InR a) (hb : InR b) (hq : twoI 4 a b = q) (hrr : twoI 6 b a = r) (hb0 : ¬ b = 0) (hs : wrap64 (wrap64 (b * q) + r) = a) (hr : ¬ r = 0) (hi : r < 0 ↔ b < 0) (hh : hasB c 2 = false) :
    Calls Tryd.prog 7 #[.agg #[.int .i64 c, .bool s], .int .i64 a, .int .i64 b] w fun e w' => e = .returned (.bool true) ∧ Below w.heap.size w w' := by
  have hB : Below w.heap.size w (w.alloc (.cells #[.int .i64 c, .bool s] 23)) := (Below.refl _ w).alloc (Nat.le_refl _) _
  have hS : (w.alloc (.cells #[.int .i64 c, .bool s] 23)).cell? ⟨w.heap.size, 0, none⟩ = some (.int .i64 c) ∧ (w.alloc (.cells #[.int .i64 c, .bool s] 23)).cell? ⟨w.heap.size, 1, none⟩ = some (.bool s) :=
    ⟨by rw [World.cell?_alloc_at _ _ _ _ (by simp)]; rfl, by rw [World.cell?_alloc_at _ _ _ _ (by simp)]; rfl⟩
  have T0 := Lib.hid (hT.below hB)
  have L0 := Lib.hid hB
  have S0 := Lib.hid hS
  have e1 : (b != 0) = true := by simpa using hb0
  have e2 : (r != 0) = true := by simpa using hr
  have e3 : (!decide (r < 0) == decide (b < 0)) = false := by by_cases h3 : r < 0 <;> by_cases h4 : b < 0 <;> simp [h3, h4] at hi ⊢
  have e4 : (decide (r < 0) != decide (b < 0)) = false := e3
  clear hb0 hr hi
  have HH := Lib.hid hh
  clear hh
  have HQ := Lib.hid hq
  have HR := Lib.hid hrr
  clear hT hB hS hq hrr
  go_enter Tryd.func7, Tryd.ntmps7
  go_wp2_with fail
  refine (two_v 4 a b q _ HQ.out rfl T0.out ha hb).mono ?_
  rintro e w1 ⟨rfl, hb1⟩
  have T1 := Lib.hid (T0.out.below hb1)
  have L1 := Lib.hid (below_next L0.out hb1)
  have S1 := Lib.hid (keepFn hb1 S0.out)
  obtain ⟨q0, q1⟩ := S1.out
  clear hb1
  go_wp2_with fail
  refine (two_v 6 b a r _ HR.out rfl T1.out hb ha).mono ?_
  rintro e w2 ⟨rfl, hb2⟩
  have T2 := Lib.hid (T1.out.below hb2)
  have L2 := Lib.hid (below_next L1.out hb2)
  have S2 := Lib.hid (keepFn hb2 S1.out)
  obtain ⟨q0, q1⟩ := S2.out
  clear hb2
  go_wp2_with fail
  refine (has_b c 2 false _ HH.out T2.out).mono ?_
  rintro e w3 ⟨rfl, hb3⟩
  have T3 := Lib.hid (T2.out.below hb3)
  have L3 := Lib.hid (below_next L2.out hb3)
  have S3 := Lib.hid (keepFn hb3 S2.out)
  obtain ⟨q0, q1⟩ := S3.out
  clear hb3
  go_wp2_with fail
  refine (lives_any _ T3.out).mono ?_
  rintro e w4 ⟨rfl, hb4⟩
  have L4 := Lib.hid (below_next L3.out hb4)
  clear hb4
  go_wp2
  go_ret
  exact ⟨rfl, L4.out⟩
set_option maxHeartbeats 4000000 in
set_option maxRecDepth 100000 in
theorem walkSJ (c : Int) (s : Bool) (a b q r : Int) (w : World) (hT : Tab w) (ha : InR a) (hb : InR b) (hq : twoI 4 a b = q) (hrr : twoI 6 b a = r) (hb0 : ¬ b = 0) (hs : wrap64 (wrap64 (b * q) + r) = a) (hr : ¬ r = 0) (hi : r < 0 ↔ b < 0) (hh : hasB c 2 = true) (hj : (trOf c).joins = true) :
    Calls Tryd.prog 7 #[.agg #[.int .i64 c, .bool s], .int .i64 a, .int .i64 b] w fun e w' => e = .returned (.bool true) ∧ Below w.heap.size w w' := by
  have hB : Below w.heap.size w (w.alloc (.cells #[.int .i64 c, .bool s] 23)) := (Below.refl _ w).alloc (Nat.le_refl _) _
  have hS : (w.alloc (.cells #[.int .i64 c, .bool s] 23)).cell? ⟨w.heap.size, 0, none⟩ = some (.int .i64 c) ∧ (w.alloc (.cells #[.int .i64 c, .bool s] 23)).cell? ⟨w.heap.size, 1, none⟩ = some (.bool s) :=
    ⟨by rw [World.cell?_alloc_at _ _ _ _ (by simp)]; rfl, by rw [World.cell?_alloc_at _ _ _ _ (by simp)]; rfl⟩
  have T0 := Lib.hid (hT.below hB)
  have L0 := Lib.hid hB
  have S0 := Lib.hid hS
  have e1 : (b != 0) = true := by simpa using hb0
  have e2 : (r != 0) = true := by simpa using hr
  have e3 : (!decide (r < 0) == decide (b < 0)) = false := by by_cases h3 : r < 0 <;> by_cases h4 : b < 0 <;> simp [h3, h4] at hi ⊢
  have e4 : (decide (r < 0) != decide (b < 0)) = false := e3
  clear hb0 hr hi
  have HH := Lib.hid hh
  have HJ := Lib.hid hj
  clear hh hj
  have HQ := Lib.hid hq
  have HR := Lib.hid hrr
  clear hT hB hS hq hrr
  go_enter Tryd.func7, Tryd.ntmps7
  go_wp2_with fail
  refine (two_v 4 a b q _ HQ.out rfl T0.out ha hb).mono ?_
  rintro e w1 ⟨rfl, hb1⟩
  have T1 := Lib.hid (T0.out.below hb1)
  have L1 := Lib.hid (below_next L0.out hb1)
  have S1 := Lib.hid (keepFn hb1 S0.out)
  obtain ⟨q0, q1⟩ := S1.out
  clear hb1
  go_wp2_with fail
  refine (two_v 6 b a r _ HR.out rfl T1.out hb ha).mono ?_
  rintro e w2 ⟨rfl, hb2⟩
  have T2 := Lib.hid (T1.out.below hb2)
  have L2 := Lib.hid (below_next L1.out hb2)
  have S2 := Lib.hid (keepFn hb2 S1.out)
  obtain ⟨q0, q1⟩ := S2.out
  clear hb2
  go_wp2_with fail
  refine (has_b c 2 true _ HH.out T2.out).mono ?_
  rintro e w3 ⟨rfl, hb3⟩
  have T3 := Lib.hid (T2.out.below hb3)
  have L3 := Lib.hid (below_next L2.out hb3)
  have S3 := Lib.hid (keepFn hb3 S2.out)
  obtain ⟨q0, q1⟩ := S3.out
  clear hb3
  go_wp2_with fail
  refine (joins_w c true _ HJ.out T3.out).mono ?_
  rintro e w4 ⟨rfl, hb4⟩
  have T4 := Lib.hid (T3.out.below hb4)
  have L4 := Lib.hid (below_next L3.out hb4)
  have S4 := Lib.hid (keepFn hb4 S3.out)
  obtain ⟨q0, q1⟩ := S4.out
  clear hb4
  go_wp2_with fail
  refine (lives_any _ T4.out).mono ?_
  rintro e w5 ⟨rfl, hb5⟩
  have L5 := Lib.hid (below_next L4.out hb5)
  clear hb5
  go_wp2
  go_ret
  exact ⟨rfl, L5.out⟩
set_option maxHeartbeats 4000000 in
set_option maxRecDepth 100000 in
theorem walkSL (c : Int) (s : Bool) (a b q r : Int) (w : World) (hT : Tab w) (ha : InR a) (hb : InR b) (hq : twoI 4 a b = q) (hrr : twoI 6 b a = r) (hb0 : ¬ b = 0) (hs : wrap64 (wrap64 (b * q) + r) = a) (hr : ¬ r = 0) (hi : r < 0 ↔ b < 0) (hh : hasB c 2 = true) (hj : (trOf c).joins = false) :
    Calls Tryd.prog 7 #[.agg #[.int .i64 c, .bool s], .int .i64 a, .int .i64 b] w fun e w' => e = .returned (.bool true) ∧ Below w.heap.size w w' := by
  have hB : Below w.heap.size w (w.alloc (.cells #[.int .i64 c, .bool s] 23)) := (Below.refl _ w).alloc (Nat.le_refl _) _
  have hS : (w.alloc (.cells #[.int .i64 c, .bool s] 23)).cell? ⟨w.heap.size, 0, none⟩ = some (.int .i64 c) ∧ (w.alloc (.cells #[.int .i64 c, .bool s] 23)).cell? ⟨w.heap.size, 1, none⟩ = some (.bool s) :=
    ⟨by rw [World.cell?_alloc_at _ _ _ _ (by simp)]; rfl, by rw [World.cell?_alloc_at _ _ _ _ (by simp)]; rfl⟩
  have T0 := Lib.hid (hT.below hB)
  have L0 := Lib.hid hB
  have S0 := Lib.hid hS
  have e1 : (b != 0) = true := by simpa using hb0
  have e2 : (r != 0) = true := by simpa using hr
  have e3 : (!decide (r < 0) == decide (b < 0)) = false := by by_cases h3 : r < 0 <;> by_cases h4 : b < 0 <;> simp [h3, h4] at hi ⊢
  have e4 : (decide (r < 0) != decide (b < 0)) = false := e3
  clear hb0 hr hi
  obtain ⟨N, hN, hap⟩ := apart_any hh hj s
  have HA := Lib.hid hap
  have HH := Lib.hid hh
  have HJ := Lib.hid hj
  clear hh hj hap
  have HQ := Lib.hid hq
  have HR := Lib.hid hrr
  clear hT hB hS hq hrr
  go_enter Tryd.func7, Tryd.ntmps7
  go_wp2_with fail
  refine (two_v 4 a b q _ HQ.out rfl T0.out ha hb).mono ?_
  rintro e w1 ⟨rfl, hb1⟩
  have T1 := Lib.hid (T0.out.below hb1)
  have L1 := Lib.hid (below_next L0.out hb1)
  have S1 := Lib.hid (keepFn hb1 S0.out)
  obtain ⟨q0, q1⟩ := S1.out
  clear hb1
  go_wp2_with fail
  refine (two_v 6 b a r _ HR.out rfl T1.out hb ha).mono ?_
  rintro e w2 ⟨rfl, hb2⟩
  have T2 := Lib.hid (T1.out.below hb2)
  have L2 := Lib.hid (below_next L1.out hb2)
  have S2 := Lib.hid (keepFn hb2 S1.out)
  obtain ⟨q0, q1⟩ := S2.out
  clear hb2
  go_wp2_with fail
  refine (has_b c 2 true _ HH.out T2.out).mono ?_
  rintro e w3 ⟨rfl, hb3⟩
  have T3 := Lib.hid (T2.out.below hb3)
  have L3 := Lib.hid (below_next L2.out hb3)
  have S3 := Lib.hid (keepFn hb3 S2.out)
  obtain ⟨q0, q1⟩ := S3.out
  clear hb3
  go_wp2_with fail
  refine (joins_w c false _ HJ.out T3.out).mono ?_
  rintro e w4 ⟨rfl, hb4⟩
  have T4 := Lib.hid (T3.out.below hb4)
  have L4 := Lib.hid (below_next L3.out hb4)
  have S4 := Lib.hid (keepFn hb4 S3.out)
  obtain ⟨q0, q1⟩ := S4.out
  clear hb4
  go_wp2
  go_loopw [11] (fun n wr => ∃ k : Nat, k ≤ N ∧ n = .int .i64 (k : Int) ∧ Tab wr ∧ (wr.cell? ⟨w.heap.size, 0, none⟩ = some (.int .i64 c) ∧ wr.cell? ⟨w.heap.size, 1, none⟩ = some (.bool s)) ∧ Below w.heap.size w wr) (fun n _ => 216 - (intOf n).toNat)
  case atStart => exact ⟨0, Nat.zero_le _, rfl, T4.out, S4.out, L4.out⟩
  case round =>
    clear q0 q1
    obtain ⟨k, hk, rfl, hTk, hSk, hbel⟩ := hrel
    have T5 := Lib.hid hTk
    have S5 := Lib.hid hSk
    have L5 := Lib.hid hbel
    obtain ⟨q0, q1⟩ := hSk
    have hk6 : k < 216 := by omega
    clear hTk hbel
    obtain ⟨x, hx⟩ : ∃ x, doI c s (pA k) (doI c s (pB k) (pC k)) = x := ⟨_, rfl⟩
    obtain ⟨y, hy⟩ : ∃ y, doI c s (doI c s (pA k) (pB k)) (pC k) = y := ⟨_, rfl⟩
    have HX := Lib.hid hx
    have HY := Lib.hid hy
    clear hx hy
    go_wp2_with fail
    refine (three_any c s (pA k) (pB k) (pC k) x y _ T5.out (pA_R k) (pB_R k) (pC_R hk6) HX.out HY.out).mono ?_
    rintro e w6 ⟨rfl, hb6⟩
    have T6 := Lib.hid (T5.out.below hb6)
    have L6 := Lib.hid (below_next L5.out hb6)
    have S6 := Lib.hid (keepFn hb6 S5.out)
    clear hb6 q0 q1
    by_cases hxy : x = y
    · have hkN : k < N := by
        rcases Nat.lt_or_ge k N with h | h
        · exact h
        · exfalso
          obtain rfl : k = N := by omega
          exact HA.out (by rw [HX.out, HY.out]; exact hxy)
      subst hxy
      go_wp2
      go_roundw
      case rel => exact ⟨k + 1, by omega, by go_num, T6.out, S6.out, L6.out⟩
      case measure => simp [intOf]; omega
    · have e5 : (x != y) = true := by simpa using hxy
      clear hxy
      go_wp2_with fail
      refine (lives_any _ T6.out).mono ?_
      rintro e w7 ⟨rfl, hb7⟩
      have L7 := Lib.hid (below_next L6.out hb7)
      clear hb7
      go_wp2
      go_ret
      exact ⟨rfl, L7.out⟩
theorem walk (c : Int) (s : Bool) (a b : Int) (w : World) (hT : Tab w) (ha : InR a) (hb : InR b) : Calls Tryd.prog 7 #[.agg #[.int .i64 c, .bool s], .int .i64 a, .int .i64 b] w fun e w' => e = .returned (.bool true) ∧ Below w.heap.size w w' := by
  have hp := parts_ok ha hb
  by_cases hh : hasB c 2 = true
  · by_cases hj : (trOf c).joins = true
    · rcases hp with h | ⟨h0, h1, h | ⟨h2, h3⟩⟩
      · exact walkZJ c s a b _ _ w hT ha hb rfl rfl h hh hj
      · exact walkRJ c s a b _ _ w hT ha hb rfl rfl h0 h1 h hh hj
      · exact walkSJ c s a b _ _ w hT ha hb rfl rfl h0 h1 h2 h3 hh hj
    · have hj' : (trOf c).joins = false := by simpa using hj
      rcases hp with h | ⟨h0, h1, h | ⟨h2, h3⟩⟩
      · exact walkZL c s a b _ _ w hT ha hb rfl rfl h hh hj'
      · exact walkRL c s a b _ _ w hT ha hb rfl rfl h0 h1 h hh hj'
      · exact walkSL c s a b _ _ w hT ha hb rfl rfl h0 h1 h2 h3 hh hj'
  · have hh' : hasB c 2 = false := by simpa using hh
    rcases hp with h | ⟨h0, h1, h | ⟨h2, h3⟩⟩
    · exact walkZN c s a b _ _ w hT ha hb rfl rfl h hh'
    · exact walkRN c s a b _ _ w hT ha hb rfl rfl h0 h1 h hh'
    · exact walkSN c s a b _ _ w hT ha hb rfl rfl h0 h1 h2 h3 hh'

theorem contract (H : Type) (enc : TypeId × Value → H) (W : World) (base : Nat) (args : Array Value) (ds gs : List (DataW H)) (before : List MemPlace)
    (hval : ∀ (j : Nat) t v, Tryd.f7.params[j]? = some t → args[j]? = some v → Value.okWide Tryd.prog W .any base t v)
    (hW : DataW.Whole enc Tryd.prog Tryd.f7.params.toList Rows.scalarPartsSpec.vars false W args.toList ds gs before) (hL : laidMetH Tryd.prog Rows.scalarTwosRow.laid W) :
    Calls Tryd.prog 7 args W fun e W' => ∃ v, e = .returned v ∧ Rows.scalarPartsSpec.post enc Tryd.prog Tryd.f7 false true false false W args v W' := by
  have hW' := hW
  obtain ⟨p, q, hA0, hV, rfl, hfz, hnd⟩ := hW
  have hA : DataW.TrodAll enc Tryd.prog W 0 (fun _ => true) true Tryd.f7.params.toList args.toList ds p := hA0
  rw [Tryd.params7] at hA hval
  obtain ⟨v0, vs0, d0, ds0, p0, q0, hargs, rfl, rfl, h0, r0⟩ := trodAll_cons hA
  obtain ⟨v1, vs1, d1, ds1, p1, q1, rfl, rfl, rfl, h1, r1⟩ := trodAll_cons r0
  obtain ⟨v2, vs2, d2, ds2, p2, q2, rfl, rfl, rfl, h2, r2⟩ := trodAll_cons r1
  obtain ⟨rfl, rfl, rfl⟩ := trodAll_nil r2
  obtain rfl : args = #[v0, v1, v2] := by cases args; simp_all
  obtain ⟨rfl, rfl⟩ := trodVars_none hV
  have k0 := h0
  have lt0 : ∀ x ∈ p0, x.block < W.heap.size := by obtain ⟨m, hm⟩ := k0; exact DataW.trod_lt m _ _ _ hm
  obtain ⟨x0, y0, ya0, yb0, fu0, rfl, _, _, ta0, tb0⟩ := open_agg2 Tryd.underlying23 (by kernel_rfl) (by kernel_rfl) (hval 0 23 v0 rfl rfl) h0
  obtain ⟨c, hcs, _, _⟩ := DataW.trod_int Tryd.underlying3 ta0
  obtain ⟨s, hss, _⟩ := DataW.trod_bool Tryd.underlying4 tb0
  injection hcs with hcs
  injection hss with hss
  subst hcs hss
  have k1 := h1
  have lt1 : ∀ x ∈ p1, x.block < W.heap.size := by obtain ⟨m, hm⟩ := k1; exact DataW.trod_lt m _ _ _ hm
  obtain ⟨a1, rfl, _, _, w1⟩ := open_int Tryd.underlying2 (hval 1 2 v1 rfl rfl) h1
  have k2 := h2
  have lt2 : ∀ x ∈ p2, x.block < W.heap.size := by obtain ⟨m, hm⟩ := k2; exact DataW.trod_lt m _ _ _ hm
  obtain ⟨a2, rfl, _, _, w2⟩ := open_int Tryd.underlying2 (hval 2 2 v2 rfl rfl) h2
  clear hA0
  refine (walk c s a1 a2 W (tab_met hL) (inR_of w1) (inR_of w2)).mono fun e W' ⟨he, bel⟩ => ?_
  subst he
  exact ⟨_, rfl, _, _, _, [], _, [], hW', trodAll_mk1 (shut_bool Tryd.underlying4 _), (trodAll_cons_mk (Below.trod laidOut (by kernel_rfl) (of_decide_eq_true (by kernel_rfl)) k0 bel lt0) (trodAll_cons_mk (Below.trod laidOut (by kernel_rfl) (of_decide_eq_true (by kernel_rfl)) k1 bel lt1) (trodAll_cons_mk (Below.trod laidOut (by kernel_rfl) (of_decide_eq_true (by kernel_rfl)) k2 bel lt2) trodAll_mk0))), rfl, bel.frame _, fun h => by cases h⟩

theorem witness (os : Os) {H : Type} (enc : TypeId × Value → H) :
    (OpenSpec.ofChange Rows.scalarPartsSpec).preRow enc Tryd.prog Tryd.f7 Rows.scalarPartsRow.domain false Rows.scalarPartsRow.laid ((laidWorld os).forCall (fun _ _ => 0) ⟨#[], #[.agg #[.int .i64 0, .bool false], .int .i64 0, .int .i64 0], []⟩).memory #[.agg #[.int .i64 0, .bool false], .int .i64 0, .int .i64 0] := by
  have hw : (DataW.whole enc Tryd.prog ((laidWorld os).forCall (fun _ _ => 0) ⟨#[], #[.agg #[.int .i64 0, .bool false], .int .i64 0, .int .i64 0], []⟩).memory Tryd.f7.params.toList Rows.scalarPartsSpec.vars false (#[.agg #[.int .i64 0, .bool false], .int .i64 0, .int .i64 0] : Array Value).toList 8).map (fun x => (x.1, x.2.1)) =
      some ([.agg [.lit (.int .i64 0), .lit (.bool false)], .lit (.int .i64 0), .lit (.int .i64 0)], []) := by kernel_rfl
  obtain ⟨⟨x1, x2, x3⟩, hx, hx1⟩ := Option.map_eq_some_iff.1 hw
  simp only [Prod.mk.injEq] at hx1
  obtain ⟨rfl, rfl⟩ := hx1
  exact OpenSpec.preRow_of_cond 8 hx (by kernel_rfl) (fun k hk => by cases hk) (by kernel_rfl) (laid_met os _)

set_option maxRecDepth 100000 in
theorem lifted (os : Os) (started : os.Started) (H : Type) (enc : TypeId × Value → H) (F : Stop.Interp) :
    ReturnsInHanded {} Tryd.checked os 7 .any ((OpenSpec.ofChange Rows.scalarPartsSpec).preRow enc Tryd.prog Tryd.f7 Rows.scalarPartsRow.domain false Rows.scalarPartsRow.laid) (((OpenSpec.ofChange Rows.scalarPartsSpec).at F).post enc Tryd.prog Tryd.f7 false true false false) := by
  refine returnsInHanded_of_row (C := Tryd.checked) (s := OpenSpec.ofChange Rows.scalarPartsSpec) own started (by kernel_rfl) Tryd.func7
    (witness_row_atRef (enc := enc) (C := Tryd.checked) false (laidWorld os) #[.agg #[.int .i64 0, .bool false], .int .i64 0, .int .i64 0] rfl (by kernel_rfl) (by kernel_rfl) (by kernel_rfl) (witness os enc)) ?_
  intro W base args ds gs before hval hW _ _ _ hL _ _
  exact contract H enc W base args ds gs before hval hW hL

theorem said : Rows.ScalarPartsSaid :=
  OpenClaim.holds_of_cond 7 Tryd.f7 rfl rfl rfl rfl rfl rfl rfl ⟨rfl, rfl, rfl, rfl, rfl⟩ rfl rfl rfl rfl rfl (by kernel_rfl) Tryd.func7 (by kernel_rfl)
    (of_decide_eq_true (by kernel_rfl)) (by unfold Func.isWrapper; first | (rw [if_pos (by decide +kernel)]; kernel_rfl) | (rw [if_neg (by decide +kernel)]; exact ⟨rfl, rfl⟩))
    (fun os started H enc _ F => by rw [OpenClaim.pre_eq_preRow]; exact lifted os started H enc F)

theorem plain (f : FuncId) (fn : Func) (hf : Tryd.pinned.checked.prog.funcNamed Rows.scalarPartsRow.func = some f) (hfn : Tryd.pinned.checked.prog.funcs[f]? = some fn) :
    false = Tryd.pinned.checked.prog.looks [] ∧ ∀ (j : Nat) t, fn.params[j]? = some t → Tryd.pinned.checked.prog.wantsStandIn t = false := by
  obtain rfl : f = 7 := Option.some.inj ((show Tryd.prog.funcNamed Rows.scalarPartsRow.func = some 7 by kernel_rfl).symm.trans hf) |>.symm
  obtain rfl : fn = Tryd.f7 := (Option.some.inj (Tryd.func7.symm.trans hfn)).symm
  refine ⟨by kernel_rfl, fun j t ht => ?_⟩
  rw [Tryd.params7] at ht
  have hm := Array.mem_of_getElem? ht
  simp only [List.mem_toArray, List.mem_cons, List.not_mem_nil, or_false] at hm
  rcases hm with rfl | rfl | rfl
  · exact (show Tryd.prog.wantsStandIn 23 = false by kernel_rfl)
  · exact (show Tryd.prog.wantsStandIn 2 = false by kernel_rfl)
  · exact (show Tryd.prog.wantsStandIn 2 = false by kernel_rfl)

theorem proved : Rows.ScalarPartsCardSaid :=
  Claim7.holds_tied_plain_at .later [] _ _ _ _ said (fun _ h => by cases h) (by kernel_rfl) (fun _ h => by cases h) scalarParts_row_tie rfl ⟨rfl, rfl⟩ (by kernel_rfl) rfl plain (by kernel_rfl)
end Go.Proofs.YtknphbkmghflcaaDoor.scalarParts
