/-
  What riffleref03.Nums, slices.Equal and slices.Clone of int64 answer for any lists of numbers, and that they change nothing that was there. Condition: a slice is no longer than an int can say (Clone: at most 200 numbers).
-/
import Derived.Test.YthabimjmdnhomaaShapeRef
import Derived.Test.YthabimjmdnhomaaShapeMake2
import Derived.Test.YthabimjmdnhomaaCellApp
import Derived.Lib.SliceRun
namespace Go.Proofs.Ythabimjmdnhomaa.Sh
open Go.RowKit
set_option linter.unusedVariables false

set_option maxHeartbeats 1000000 in
theorem nums_any (A : Option Addr) (c : Nat) (a : List Int) (B : Option Addr) (d : Nat) (b : List Int) (w : World) (hl : a.length ≤ maxLen) (hl2 : b.length ≤ maxLen) (ha : Ints w A a) (hb : Ints w B b) :
    Calls Try.prog 23 #[.slice A a.length c, .slice B b.length d] w fun e w' => e = .returned (.bool (decide (a = b))) ∧ ∃ n, w' = w.drewN n := by
  unfold maxLen at hl hl2
  by_cases he : a.length = b.length
  · have hev : ((a.length : Int) != (b.length : Int)) = false := by simp [he]
    have HE := Lib.hid he
    have hle : a.length ≤ b.length := by omega
    have hle2 : b.length ≤ a.length := by omega
    clear he
    go_enter Try.func23, Try.ntmps23
    go_wp2
    go_loopw [5] (fun i wr => ∃ k n : Nat, k ≤ a.length ∧ i = .int .i64 k ∧ a.take k = b.take k ∧ wr = w.drewN n)
      (fun i _ => a.length - (intOf i).toNat)
    case atStart => exact ⟨0, 0, Nat.zero_le _, rfl, rfl, rfl⟩
    case round =>
      obtain ⟨k, n, hk, rfl, htk, rfl⟩ := hrel
      have HT := Lib.hid htk
      clear htk
      by_cases hlt : k < a.length
      · obtain ⟨b1, o1, rfl, hb1, hc1⟩ := ha (by omega)
        obtain ⟨b2, o2, rfl, hb2, hc2⟩ := hb (by omega)
        have h1 : (w.drewN n).cell? ⟨b1, o1 + k, none⟩ = some (.int .i64 (a.getD k 0)) := hc1 k hlt
        have h2 : (w.drewN n).cell? ⟨b2, o2 + k, none⟩ = some (.int .i64 (b.getD k 0)) := hc2 k (by omega)
        have hta := Lib.hid (take_snoc a k hlt)
        have htb := Lib.hid (take_snoc b k (by omega))
        have i0 : (0 : Int) ≤ (k : Int) := by omega
        have i1 : (k : Int) < (a.length : Int) := by omega
        have i2 : (k : Int) < (b.length : Int) := by omega
        clear hc1 hc2 ha hb
        generalize hx : a.getD k 0 = x at *
        generalize hy : b.getD k 0 = y at *
        have HX := Lib.hid hx
        have HY := Lib.hid hy
        clear hx hy
        generalize hw1 : w.drewN n = w1 at *
        have HW := Lib.hid hw1
        clear hw1
        by_cases hxy : x = y
        · have hq : (x != y) = false := by simp [hxy]
          have HQ := Lib.hid hxy
          clear hxy
          go_wp2_with fail
          go_quiet (fail)
          go_wp2
          go_roundw
          case rel => exact ⟨k + 1, n + nq, by omega, by go_num, by rw [hta.out, htb.out, HT.out, HQ.out], by rw [← HW.out, World.drewN_drewN]⟩
          case measure => simp [intOf]; omega
        · have hq : (x != y) = true := by simp [hxy]
          have hab : ¬ a = b := fun h => hxy (by rw [← HX.out, ← HY.out, h])
          clear hxy
          go_wp2_with fail
          go_quiet (fail)
          go_wp2
          go_ret
          exact ⟨ret_bool (by simp [hab]), n + nq, by rw [← HW.out, World.drewN_drewN]⟩
      · obtain rfl : k = a.length := by omega
        have hab : a = b := by have := HT.out; rwa [List.take_length, HE.out, List.take_length] at this
        go_wp2
        go_ret
        exact ⟨ret_bool (by simp [hab]), n, rfl⟩
  · have hev : ((a.length : Int) != (b.length : Int)) = true := by simp; omega
    have hne : ¬ a = b := fun h => he (by rw [h])
    go_enter Try.func23, Try.ntmps23
    go_wp2
    go_ret
    exact ⟨ret_bool (by simp [hne]), 0, rfl⟩
/-- A slice of these numbers, of the call's own, is answered; nothing that was there is written. -/
def RetT (t : TypeId) (w : World) (xs : List Int) (e : Ending) (w' : World) : Prop := ∃ B c, e = .returned (.slice B xs.length c) ∧ MineT t w' w.heap.size (.slice B xs.length c) xs ∧ Below w.heap.size w w'

set_option maxHeartbeats 400000 in
theorem clone64_any (A : Option Addr) (c : Nat) (d : List Int) (w : World) (hl : d.length ≤ 1000) (hi : Ints w A d) :
    Calls Try.prog 62 #[.slice A d.length c] w (RetT 2 w d) := by
  have q : ∀ (w : World) (a : Option Addr) (n c n' c' : Nat), (binOp .eql 23 (.slice a n c) (.slice none n' c')).run Try.prog w = .ok (.bool a.isNone) w := fun w a n c n' c' => Go.Lib.run_eql_slice_nil w _ _ a n c n' c' Try.underlying23
  rcases A with _ | a
  · have hd : d = [] := by
      rcases Nat.eq_zero_or_pos d.length with h | h
      · exact List.eq_nil_of_length_eq_zero h
      · obtain ⟨_, _, e, _⟩ := hi h; cases e
    subst hd
    go_enter Try.func62, Try.ntmps62
    go_wp2
    go_ret
    exact ⟨_, _, rfl, MineT.nil _ _ _, Below.refl _ _⟩
  · have HI := Lib.hid hi
    clear hi
    go_enter Try.func62, Try.ntmps62
    go_wp2_with (at_builtin; refine wpList_copyI numL Try.underlying23 rfl (.tmp 5) (.tmp 6) rfl rfl _ _ d rfl HI.out (by omega) ?_; intro B c' w' hm hb)
    go_ret
    exact ⟨_, _, rfl, hm, hb⟩
theorem clone_t (A : Option Addr) (c : Nat) (d : List Int) (w : World) (hl : d.length ≤ 100) (hi : Ints w A d) :
    Calls Try.prog 56 #[.slice A d.length c] w (RetT 3 w d) := by
  refine (clone_any A c d w hl hi).mono ?_
  rintro e w' ⟨v, rfl, hm, hb⟩
  obtain ⟨B, c', rfl, _⟩ := hm.ints
  exact ⟨B, c', rfl, hm, hb⟩
end Go.Proofs.Ythabimjmdnhomaa.Sh
