/-
  What riffleref04.power answers for any numbers: the same as powers by squares; nothing that was there is written. Condition: the numbers have 64 bits.
-/
import Derived.Test.YthabimjmdnhomaaDoorScFn
import Derived.Test.YthabimjmdnhomaaDoorCellApp
namespace Go.Proofs.YthabimjmdnhomaaDoor.Sc
open Go.RowKit
open Go.Proofs.YthabimjmdnhomaaDoor.Sh (MineT Ints NumT numL wpList_appI)
set_option linter.unusedVariables false

theorem ints_new (t : TypeId) (w : World) (y : Int) : Ints (w.alloc (.cells #[.int .i64 y] t)) (some ⟨w.heap.size, 0, none⟩) [y] := fun _ =>
  ⟨w.heap.size, 0, rfl, by simp, fun i hi => by
    have : i = 0 := by simp at hi; omega
    subst this
    rw [World.cell?_alloc_at _ _ _ _ (by simp)]; rfl⟩
def bitsL (B j : Nat) : List Int := (List.range j).map fun i => (((B / 2 ^ i) % 2 : Nat) : Int)
theorem bitsL_length (B j : Nat) : (bitsL B j).length = j := by simp [bitsL]
theorem bitsL_succ (B j : Nat) : bitsL B (j + 1) = bitsL B j ++ [((B / 2 ^ j : Nat) : Int) % 2] := by
  simp [bitsL, List.range_succ]
theorem bitsL_at (B n j : Nat) (h : j < n) : (bitsL B n).getD j 0 = (((B / 2 ^ j) % 2 : Nat) : Int) := by
  simp [bitsL, List.getD, h]
theorem div_half (B j : Nat) : B / 2 ^ (j + 1) = B / 2 ^ j / 2 := by rw [Nat.pow_succ, Nat.div_div_eq_div_mul]
theorem div_lt63 {B j : Nat} (hB : B < 9223372036854775808) (h : 0 < B / 2 ^ j) : j < 63 := by
  rcases Nat.lt_or_ge j 63 with h1 | h1
  · exact h1
  · exfalso
    have h2 : 2 ^ 63 ≤ 2 ^ j := Nat.pow_le_pow_right (by decide) h1
    rw [Nat.div_eq_of_lt (Nat.lt_of_lt_of_le hB h2)] at h
    omega

set_option maxHeartbeats 2000000 in
theorem rpower_any (a b : Int) (w : World) (hbR : InR b) : Calls Tryd.prog 48 #[.int .i64 a, .int .i64 b] w fun e w' => e = .returned (.int .i64 (powI a b)) ∧ Below w.heap.size w w' := by
  by_cases hb : b < 0
  · by_cases h1 : a = 1
    · subst h1
      have HV : Hid (powI 1 b = 1) := Lib.hid (by simp [powI, hb])
      go_enter Tryd.func48, Tryd.ntmps48
      go_wp2
      go_ret
      exact ⟨ret_int HV.out.symm, Below.refl _ _⟩
    · have h1b : (a == 1) = false := by simpa using h1
      by_cases h2 : a = -1
      · subst h2
        by_cases h3 : b.tmod 2 = 0
        · have h4 : b % 2 = 0 := by rw [Int.tmod_eq_emod] at h3; split at h3 <;> omega
          have HV : Hid (powI (-1) b = 1) := Lib.hid (by simp [powI, hb, h4])
          clear h4
          go_enter Tryd.func48, Tryd.ntmps48
          go_wp2
          go_ret
          exact ⟨ret_int HV.out.symm, Below.refl _ _⟩
        · have h4 : ¬ b % 2 = 0 := by intro h; apply h3; rw [Int.tmod_eq_emod]; split <;> omega
          have h5 : (b.tmod 2 == 0) = false := by simpa using h3
          have HV : Hid (powI (-1) b = -1) := Lib.hid (by simp [powI, hb, h4])
          clear h4
          go_enter Tryd.func48, Tryd.ntmps48
          go_wp2
          go_ret
          exact ⟨ret_int HV.out.symm, Below.refl _ _⟩
      · have h2b : (a == -1) = false := by simpa using h2
        have h2c : (a != -1) = true := by simpa using h2
        have HV : Hid (powI a b = 0) := Lib.hid (by simp [powI, hb, h1, h2])
        clear h1 h2
        go_enter Tryd.func48, Tryd.ntmps48
        go_wp2
        go_ret
        exact ⟨ret_int HV.out.symm, Below.refl _ _⟩
  · obtain ⟨B, rfl⟩ : ∃ B : Nat, b = B := ⟨b.toNat, by omega⟩
    have hB : B < 9223372036854775808 := by unfold InR at hbR; omega
    have HV : Hid (powI a B = wrap64 (a ^ B)) := Lib.hid (by unfold powI; rw [if_neg hb, Int.toNat_natCast])
    clear hb hbR
    go_enter Tryd.func48, Tryd.ntmps48
    go_wp2
    go_loopw [1, 5] (fun n v wr => ∃ j x : Nat, j ≤ 64 ∧ x = B / 2 ^ j ∧ n = .int .i64 (x : Int) ∧ MineT 2 wr w.heap.size v (bitsL B j) ∧ Below w.heap.size w wr) (fun n _ _ => (intOf n).toNat)
    case atStart => exact ⟨0, B, by omega, by simp, rfl, MineT.nil _ _ _, Below.refl _ _⟩
    case round =>
      obtain ⟨j, x, hj64, hx, rfl, hm, hbel⟩ := hrel
      have hxB : x ≤ B := by rw [hx]; exact Nat.div_le_self _ _
      have HX := Lib.hid hx
      have HM := Lib.hid hm
      have HB := Lib.hid hbel
      have hsz := hbel.size
      clear hx hm hbel
      by_cases hlt : 0 < x
      · have hj : j < 63 := div_lt63 hB (by rw [← HX.out]; exact hlt)
        go_wp2_with (at_builtin; refine wpList_appI numL Tryd.underlying30 rfl (.tmp 19) (.tmp 22) rfl w.heap.size _ (bitsL B j) rfl (HM.out.alloc _) _ 1 [(x : Int) % 2] rfl (ints_new _ _ _) (by rw [bitsL_length]; simp; omega) (by simp; omega) ?_; intro v' w2 hm2 hg2 ha2)
        go_roundw
        case rel => exact ⟨j + 1, x / 2, by omega, by rw [div_half, ← HX.out], by go_num, by rw [bitsL_succ, ← HX.out]; exact hm2, (HB.out.alloc HB.out.size _).grown hg2 (by simp; omega) HM.out.block⟩
        case measure => simp [intOf]; omega
      · obtain rfl : x = 0 := by omega
        obtain ⟨AV, cV, rfl, hi⟩ := HM.out.ints
        have HI := Lib.hid hi
        clear hi
        rw [bitsL_length]
        go_wp2
        go_loop [6, 7] (fun o i => ∃ m : Nat, m ≤ j ∧ i = .int .i64 ((m : Int) - 1) ∧ o = .int .i64 (wrap64 (a ^ (B / 2 ^ m)))) (fun _ i => (intOf i + 1).toNat)
        case atStart => exact ⟨j, Nat.le_refl _, rfl, by rw [← HX.out, Int.pow_zero, wrap_in (by unfold InR; omega)]⟩
        case round =>
          obtain ⟨m, hm, rfl, rfl⟩ := hrel
          by_cases hmp : 0 < m
          · obtain ⟨q, rfl⟩ : ∃ q, m = q + 1 := ⟨m - 1, by omega⟩
            rw [show (((q + 1 : Nat) : Int) - 1) = (q : Int) from by omega, div_half]
            obtain ⟨bb, off, rfl, hbb, hcs⟩ := HI.out (by rw [bitsL_length]; omega)
            have hcq := hcs q (by rw [bitsL_length]; omega)
            rw [bitsL_at B j q (by omega)] at hcq
            have i0 : (0 : Int) ≤ (q : Int) := by omega
            have i1 : (q : Int) < (j : Int) := by omega
            clear hcs
            generalize hy : B / 2 ^ q = y at *
            have HY := Lib.hid hy
            clear hy
            by_cases ho : y % 2 = 1
            · have HD := Lib.hid (down_odd a y ho)
              rw [ho] at hcq
              clear ho
              generalize wrap64 (a ^ (y / 2)) = z at *
              go_wp2
              go_round
              case rel => exact ⟨q, by omega, by go_num, by rw [HY.out, ← HD.out]⟩
              case measure => first | (simp [intOf]; done) | (simp [intOf]; omega)
            · have HD := Lib.hid (down_even a y ho)
              have ho2 : y % 2 = 0 := by omega
              rw [ho2] at hcq
              clear ho ho2
              generalize wrap64 (a ^ (y / 2)) = z at *
              go_wp2
              go_round
              case rel => exact ⟨q, by omega, by go_num, by rw [HY.out, ← HD.out]⟩
              case measure => first | (simp [intOf]; done) | (simp [intOf]; omega)
          · obtain rfl : m = 0 := by omega
            go_wp2
            go_ret
            exact ⟨ret_int (by simp [HV.out]), HB.out⟩
end Go.Proofs.YthabimjmdnhomaaDoor.Sc
