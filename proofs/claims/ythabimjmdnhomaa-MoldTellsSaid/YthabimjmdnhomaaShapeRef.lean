/-
  What riffleref01.Right, Size and Same, slices.Equal and shape.Same answer for any lists of numbers, and that they change nothing. Condition: a slice is no longer than an int can say.
-/
import Derived.Test.YthabimjmdnhomaaProg
import Derived.Test.YthabimjmdnhomaaShapeMath
import Derived.WalkKit
import Derived.WalkSpells
import Derived.Lib.Hide
import Derived.Deep.QuietTactic
import Derived.BigQuiet
namespace Go.Proofs.Ythabimjmdnhomaa.Sh
open Go.RowKit
set_option linter.unusedVariables false

set_option maxHeartbeats 1000000 in
theorem refRight_any (A : Option Addr) (c : Nat) (l : List Int) (w : World) (hl : l.length ≤ maxLen) (hi : Ints w A l) :
    Calls Try.prog 38 #[.slice A l.length c] w fun e w' => e = .returned (.bool (rightB l)) ∧ w = w' := by
  unfold maxLen at hl
  by_cases h3 : l.length ≤ 3
  · go_enter Try.func38, Try.ntmps38
    go_wp2
    go_loop [3, 4] (fun n i => ∃ k : Nat, k ≤ l.length ∧ i = .int .i64 k ∧ (l.take k).all okAx = true ∧ n = .int .i64 (prod (l.take k)))
      (fun _ i => l.length - (intOf i).toNat)
    case atStart => exact ⟨0, Nat.zero_le _, rfl, rfl, rfl⟩
    case round =>
      obtain ⟨k, hk, rfl, hall, rfl⟩ := hrel
      have hall' := Lib.hid hall
      clear hall
      have hpb := prod_bd _ hall'.out
      have hlk : (l.take k).length ≤ k := List.length_take_le _ _
      by_cases hlt : k < l.length
      · obtain ⟨b, off, rfl, hb, hcs⟩ := hi (by omega)
        have hck : w.cell? ⟨b, off + k, none⟩ = some (.int .i64 (l.getD k 0)) := hcs k hlt
        have hp0 : 0 ≤ prod (l.take k) := hpb.1
        have hp1 : prod (l.take k) ≤ 4096 := hpb.2.2.1 (by omega)
        have hal := Lib.hid (all_take l k hlt)
        have hpr := Lib.hid (prod_take l k hlt)
        clear hpb hcs hi
        generalize hx : l.getD k 0 = x at *
        have HX := Lib.hid hx
        clear hx
        by_cases hok : 0 ≤ x ∧ x ≤ 64
        · obtain ⟨hx0, hx1⟩ := hok
          have hm := mul_bd hp0 hp1 hx0 hx1
          go_wp2
          go_round
          case rel => exact ⟨k + 1, by omega, by go_num, by rw [hal.out, hall'.out, okAx]; simp [hx0, hx1], by rw [hpr.out]⟩
          case measure => simp [intOf]; omega
        · have hbad : okAx (l.getD k 0) = false := by rw [HX.out]; simp only [okAx]; rw [Bool.eq_false_iff]; simpa using hok
          have hr := Lib.hid (rightB_bad hlt hbad)
          clear hbad
          rcases (show x < 0 ∨ 64 < x from by omega) with hno | hno
          · clear hok
            go_wp2
            go_ret
            exact ⟨ret_bool hr.out.symm, rfl⟩
          · clear hok
            go_wp2
            go_ret
            exact ⟨ret_bool hr.out.symm, rfl⟩
      · obtain rfl : k = l.length := by omega
        rw [List.take_length] at *
        have hp0 : 0 ≤ prod l := hpb.1
        have hp1 : prod l ≤ 262144 := hpb.2.1 h3
        by_cases hg : 64 < prod l
        · have hr := Lib.hid (rightB_great hg)
          clear hpb
          go_wp2
          go_ret
          exact ⟨ret_bool (by first | (rw [hr.out]; done) | (rw [hr.out]; simp; omega)), rfl⟩
        · have hr := Lib.hid (rightB_mk h3 hall'.out (by omega))
          clear hpb
          go_wp2
          go_ret
          exact ⟨ret_bool (by first | (rw [hr.out]; done) | (rw [hr.out]; simp; omega)), rfl⟩
  · go_enter Try.func38, Try.ntmps38
    go_wp2
    go_ret
    exact ⟨ret_bool (rightB_len (by omega)).symm, rfl⟩

set_option maxHeartbeats 1000000 in
theorem refSize_any (A : Option Addr) (c : Nat) (l : List Int) (w : World) (hl : l.length ≤ maxLen) (hi : Ints w A l) :
    Calls Try.prog 55 #[.slice A l.length c] w fun e w' => e = .returned (.int .i64 (sizeI l)) ∧ w = w' := by
  have hr := refRight_any A c l w hl hi
  unfold maxLen at hl
  by_cases hR : rightB l = true
  · have HR := Lib.hid hR
    obtain ⟨h3, hall, h64⟩ := rightB_all hR
    have hall' := Lib.hid hall
    have hsz := Lib.hid (sizeI_mk h3 hall h64)
    rw [hR] at hr
    have HC := Lib.hid hr
    clear hr hR hall
    go_enter Try.func55, Try.ntmps55
    go_wp2_with (go_at_call 38; refine HC.out.mono ?_; rintro e w' ⟨rfl, rfl⟩)
    go_loop [3, 4] (fun n i => ∃ k : Nat, k ≤ l.length ∧ i = .int .i64 k ∧ n = .int .i64 (prod (l.take k)))
      (fun _ i => l.length - (intOf i).toNat)
    case atStart => exact ⟨0, Nat.zero_le _, rfl, rfl⟩
    case round =>
      obtain ⟨k, hk, rfl, rfl⟩ := hrel
      by_cases hlt : k < l.length
      · obtain ⟨b, off, rfl, hb, hcs⟩ := hi (by omega)
        have hck : w.cell? ⟨b, off + k, none⟩ = some (.int .i64 (l.getD k 0)) := hcs k hlt
        have hpb := prod_bd (l.take k) (by rw [List.all_eq_true]; intro x hx; exact List.all_eq_true.1 hall'.out x (List.mem_of_mem_take hx))
        have hlk : (l.take k).length ≤ k := List.length_take_le _ _
        have hp0 : 0 ≤ prod (l.take k) := hpb.1
        have hp1 : prod (l.take k) ≤ 4096 := hpb.2.2.1 (by omega)
        have hxb := okAx_at hall'.out k hlt
        have hm := mul_bd hp0 hp1 hxb.1 hxb.2
        have hpr := Lib.hid (prod_take l k hlt)
        clear hpb hcs hi
        generalize hx : l.getD k 0 = x at *
        have HX := Lib.hid hx
        clear hx
        go_wp2
        go_round
        case rel => exact ⟨k + 1, by omega, by go_num, by rw [hpr.out]⟩
        case measure => simp [intOf]; omega
      · obtain rfl : k = l.length := by omega
        rw [List.take_length] at *
        go_wp2
        go_ret
        exact ⟨ret_int hsz.out.symm, rfl⟩
  · have hR' : rightB l = false := by simpa using hR
    have hsz : sizeI l = 0 := by simp [sizeI, hR']
    have Hs := Lib.hid hsz
    rw [hR'] at hr
    have HC := Lib.hid hr
    clear hr hR hR' hsz
    go_enter Try.func55, Try.ntmps55
    go_wp2_with (go_at_call 38; refine HC.out.mono ?_; rintro e w' ⟨rfl, rfl⟩)
    go_ret
    exact ⟨ret_int Hs.out.symm, rfl⟩

set_option maxHeartbeats 1000000 in
theorem refSame_any (A : Option Addr) (c : Nat) (a : List Int) (B : Option Addr) (d : Nat) (b : List Int) (w : World) (hl : a.length ≤ maxLen) (hl2 : b.length ≤ maxLen) (ha : Ints w A a) (hb : Ints w B b) :
    Calls Try.prog 34 #[.slice A a.length c, .slice B b.length d] w fun e w' => e = .returned (.bool (decide (a = b))) ∧ ∃ n, w' = w.drewN n := by
  unfold maxLen at hl hl2
  by_cases he : a.length = b.length
  · have hev : ((a.length : Int) != (b.length : Int)) = false := by simp [he]
    have HE := Lib.hid he
    have hle : a.length ≤ b.length := by omega
    have hle2 : b.length ≤ a.length := by omega
    clear he
    go_enter Try.func34, Try.ntmps34
    go_wp2
    go_loopw [5] (fun i wr => ∃ k n : Nat, k ≤ a.length ∧ i = .int .i64 k ∧ a.take k = b.take k ∧ wr = w.drewN n)
      (fun i _ => a.length - (intOf i).toNat)
    case atStart => exact ⟨0, 0, Nat.zero_le _, rfl, rfl, rfl⟩
    case round =>
      obtain ⟨k, n, hk, rfl, htk, rfl⟩ := hrel
      have HT := Lib.hid htk
      clear htk
      by_cases hlt : k < a.length
      · obtain ⟨b1, o1, rfl, hb1, hc1⟩ := ha (by omega)
        obtain ⟨b2, o2, rfl, hb2, hc2⟩ := hb (by omega)
        have h1 : (w.drewN n).cell? ⟨b1, o1 + k, none⟩ = some (.int .i64 (a.getD k 0)) := hc1 k hlt
        have h2 : (w.drewN n).cell? ⟨b2, o2 + k, none⟩ = some (.int .i64 (b.getD k 0)) := hc2 k (by omega)
        have hta := Lib.hid (take_snoc a k hlt)
        have htb := Lib.hid (take_snoc b k (by omega))
        have i0 : (0 : Int) ≤ (k : Int) := by omega
        have i1 : (k : Int) < (a.length : Int) := by omega
        have i2 : (k : Int) < (b.length : Int) := by omega
        clear hc1 hc2 ha hb
        generalize hx : a.getD k 0 = x at *
        generalize hy : b.getD k 0 = y at *
        have HX := Lib.hid hx
        have HY := Lib.hid hy
        clear hx hy
        generalize hw1 : w.drewN n = w1 at *
        have HW := Lib.hid hw1
        clear hw1
        by_cases hxy : x = y
        · have hq : (x != y) = false := by simp [hxy]
          have HQ := Lib.hid hxy
          clear hxy
          go_wp2_with fail
          go_quiet (fail)
          go_wp2
          go_roundw
          case rel => exact ⟨k + 1, n + nq, by omega, by go_num, by rw [hta.out, htb.out, HT.out, HQ.out], by rw [← HW.out, World.drewN_drewN]⟩
          case measure => simp [intOf]; omega
        · have hq : (x != y) = true := by simp [hxy]
          have hab : ¬ a = b := fun h => hxy (by rw [← HX.out, ← HY.out, h])
          clear hxy
          go_wp2_with fail
          go_quiet (fail)
          go_wp2
          go_ret
          exact ⟨ret_bool (by simp [hab]), n + nq, by rw [← HW.out, World.drewN_drewN]⟩
      · obtain rfl : k = a.length := by omega
        have hab : a = b := by have := HT.out; rwa [List.take_length, HE.out, List.take_length] at this
        go_wp2
        go_ret
        exact ⟨ret_bool (by simp [hab]), n, rfl⟩
  · have hev : ((a.length : Int) != (b.length : Int)) = true := by simp; omega
    have hne : ¬ a = b := fun h => he (by rw [h])
    go_enter Try.func34, Try.ntmps34
    go_wp2
    go_ret
    exact ⟨ret_bool (by simp [hne]), 0, rfl⟩
set_option maxHeartbeats 1000000 in
theorem equal_any (A : Option Addr) (c : Nat) (a : List Int) (B : Option Addr) (d : Nat) (b : List Int) (w : World) (hl : a.length ≤ maxLen) (hl2 : b.length ≤ maxLen) (ha : Ints w A a) (hb : Ints w B b) :
    Calls Try.prog 65 #[.slice A a.length c, .slice B b.length d] w fun e w' => e = .returned (.bool (decide (a = b))) ∧ ∃ n, w' = w.drewN n := by
  unfold maxLen at hl hl2
  by_cases he : a.length = b.length
  · have hev : ((a.length : Int) != (b.length : Int)) = false := by simp [he]
    have HE := Lib.hid he
    have hle : a.length ≤ b.length := by omega
    have hle2 : b.length ≤ a.length := by omega
    clear he
    go_enter Try.func65, Try.ntmps65
    go_wp2
    go_loopw [13] (fun i wr => ∃ k n : Nat, k ≤ a.length ∧ i = .int .i64 k ∧ a.take k = b.take k ∧ wr = w.drewN n)
      (fun i _ => a.length - (intOf i).toNat)
    case atStart => exact ⟨0, 0, Nat.zero_le _, rfl, rfl, rfl⟩
    case round =>
      obtain ⟨k, n, hk, rfl, htk, rfl⟩ := hrel
      have HT := Lib.hid htk
      clear htk
      by_cases hlt : k < a.length
      · obtain ⟨b1, o1, rfl, hb1, hc1⟩ := ha (by omega)
        obtain ⟨b2, o2, rfl, hb2, hc2⟩ := hb (by omega)
        have h1 : (w.drewN n).cell? ⟨b1, o1 + k, none⟩ = some (.int .i64 (a.getD k 0)) := hc1 k hlt
        have h2 : (w.drewN n).cell? ⟨b2, o2 + k, none⟩ = some (.int .i64 (b.getD k 0)) := hc2 k (by omega)
        have hta := Lib.hid (take_snoc a k hlt)
        have htb := Lib.hid (take_snoc b k (by omega))
        have i0 : (0 : Int) ≤ (k : Int) := by omega
        have i1 : (k : Int) < (a.length : Int) := by omega
        have i2 : (k : Int) < (b.length : Int) := by omega
        clear hc1 hc2 ha hb
        generalize hx : a.getD k 0 = x at *
        generalize hy : b.getD k 0 = y at *
        have HX := Lib.hid hx
        have HY := Lib.hid hy
        clear hx hy
        generalize hw1 : w.drewN n = w1 at *
        have HW := Lib.hid hw1
        clear hw1
        by_cases hxy : x = y
        · have hq : (x != y) = false := by simp [hxy]
          have HQ := Lib.hid hxy
          clear hxy
          go_wp2_with fail
          go_quiet (fail)
          go_wp2
          go_roundw
          case rel => exact ⟨k + 1, n + nq, by omega, by go_num, by rw [hta.out, htb.out, HT.out, HQ.out], by rw [← HW.out, World.drewN_drewN]⟩
          case measure => simp [intOf]; omega
        · have hq : (x != y) = true := by simp [hxy]
          have hab : ¬ a = b := fun h => hxy (by rw [← HX.out, ← HY.out, h])
          clear hxy
          go_wp2_with fail
          go_quiet (fail)
          go_wp2
          go_ret
          exact ⟨ret_bool (by simp [hab]), n + nq, by rw [← HW.out, World.drewN_drewN]⟩
      · obtain rfl : k = a.length := by omega
        have hab : a = b := by have := HT.out; rwa [List.take_length, HE.out, List.take_length] at this
        go_wp2
        go_ret
        exact ⟨ret_bool (by simp [hab]), n, rfl⟩
  · have hev : ((a.length : Int) != (b.length : Int)) = true := by simp; omega
    have hne : ¬ a = b := fun h => he (by rw [h])
    go_enter Try.func65, Try.ntmps65
    go_wp2
    go_ret
    exact ⟨ret_bool (by simp [hne]), 0, rfl⟩

set_option maxHeartbeats 400000 in
theorem same_any (A : Option Addr) (c : Nat) (a : List Int) (B : Option Addr) (d : Nat) (b : List Int) (w : World) (hl : a.length ≤ maxLen) (hl2 : b.length ≤ maxLen) (ha : Ints w A a) (hb : Ints w B b) :
    Calls Try.prog 61 #[.slice A a.length c, .slice B b.length d] w fun e w' => e = .returned (.bool (decide (a = b))) ∧ ∃ n, w' = w.drewN n := by
  go_enter Try.func61, Try.ntmps61
  go_wp2_with (go_at_call 65; refine (equal_any _ _ a _ _ b _ hl hl2 ha hb).mono ?_; rintro e w' ⟨rfl, n, rfl⟩)
  go_ret
  exact ⟨rfl, n, rfl⟩
end Go.Proofs.Ythabimjmdnhomaa.Sh
