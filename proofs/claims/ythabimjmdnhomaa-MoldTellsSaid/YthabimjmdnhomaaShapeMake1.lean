/-
  What riffleref01.With, Without and Turned and shape.Turned answer for any lengths; nothing that was there is written. Condition: a list is short enough for any machine.
-/
import Derived.Test.YthabimjmdnhomaaShapeApp
import Derived.Test.YthabimjmdnhomaaShapeStr
namespace Go.Proofs.Ythabimjmdnhomaa.Sh
open Go.RowKit
set_option linter.unusedVariables false

/-- The list with n in the place of what stands at the axis. -/
def withL (d : List Int) (x n : Int) : List Int := if 0 ≤ x ∧ x < d.length then d.set x.toNat n else d
/-- The list without what stands at the axis. -/
def withoutL (d : List Int) (x : Int) : List Int := if 0 ≤ x ∧ x < d.length then d.eraseIdx x.toNat else d

theorem withL_nil (x n : Int) : withL [] x n = [] := if_neg (by simp only [List.length_nil]; omega)
theorem withoutL_nil (x : Int) : withoutL [] x = [] := if_neg (by simp only [List.length_nil]; omega)
theorem withL_take (d : List Int) (x n : Int) (k : Nat) (hk : k < d.length) : withL (d.take (k + 1)) x n = withL (d.take k) x n ++ [if (k : Int) = x then n else d.getD k 0] := by
  have hl : (d.take k).length = k := by simp; omega
  have hl1 : (d.take (k + 1)).length = k + 1 := by simp; omega
  unfold withL
  rw [hl, hl1, take_snoc d k hk]
  by_cases h : (k : Int) = x
  · subst h
    rw [if_pos (by omega), if_neg (by omega), if_pos rfl, Int.toNat_natCast, List.set_append_right _ _ (by omega)]
    simp [hl]
  · rw [if_neg h]
    by_cases h2 : 0 ≤ x ∧ x < k
    · rw [if_pos (by omega), if_pos h2, List.set_append_left _ _ (by omega)]
    · rw [if_neg (by omega), if_neg h2]
theorem withoutL_take (d : List Int) (x : Int) (k : Nat) (hk : k < d.length) : withoutL (d.take (k + 1)) x = withoutL (d.take k) x ++ if (k : Int) = x then [] else [d.getD k 0] := by
  have hl : (d.take k).length = k := by simp; omega
  have hl1 : (d.take (k + 1)).length = k + 1 := by simp; omega
  unfold withoutL
  rw [hl, hl1, take_snoc d k hk]
  by_cases h : (k : Int) = x
  · subst h
    rw [if_pos (by omega), if_neg (by omega), if_pos rfl, Int.toNat_natCast, List.eraseIdx_append_of_length_le (by omega)]
    simp [hl]
  · rw [if_neg h]
    by_cases h2 : 0 ≤ x ∧ x < k
    · rw [if_pos (by omega), if_pos h2, List.eraseIdx_append_of_lt_length (by omega)]
    · rw [if_neg (by omega), if_neg h2]
theorem withL_len (d : List Int) (x n : Int) : (withL d x n).length = d.length := by unfold withL; split <;> simp
theorem withoutL_len (d : List Int) (x : Int) : (withoutL d x).length ≤ d.length := by unfold withoutL; split <;> simp [List.length_eraseIdx]; split <;> omega

set_option maxHeartbeats 1000000 in
theorem refWith_any (A : Option Addr) (c : Nat) (d : List Int) (x n : Int) (w : World) (hl : d.length ≤ 100) (hi : Ints w A d) :
    Calls Try.prog 46 #[.slice A d.length c, .int .i64 x, .int .i64 n] w (RetInts w (withL d x n)) := by
  go_enter Try.func46, Try.ntmps46
  go_wp2
  go_loopw [7, 8] (fun v i wr => ∃ k : Nat, k ≤ d.length ∧ i = .int .i64 k ∧ Mine wr w.heap.size v (withL (d.take k) x n) ∧ Below w.heap.size w wr)
    (fun _ i _ => d.length - (intOf i).toNat)
  case atStart => exact ⟨0, Nat.zero_le _, rfl, by rw [List.take_zero, withL_nil]; exact Mine.nil _ _, Below.refl _ _⟩
  case round =>
    obtain ⟨k, hk, rfl, hown, hbel⟩ := hrel
    by_cases hlt : k < d.length
    · obtain ⟨b, off, rfl, hb, hcs⟩ := hi (by omega)
      have hck : wr.cell? ⟨b, off + k, none⟩ = some (.int .i64 (d.getD k 0)) := (hbel.cell (p := ⟨b, off + k, none⟩) hb).trans (hcs k hlt)
      have ht := Lib.hid (withL_take d x n k hlt)
      have hlen : (withL (d.take k) x n).length < 17592186044415 := by rw [withL_len]; simp; omega
      have hsz := hbel.size
      clear hcs hi
      generalize d.getD k 0 = y at *
      by_cases hx : (k : Int) = x
      · have hq : ((k : Int) == x) = true := by simpa using hx
        have HX := Lib.hid hx
        clear hx
        go_wp2_with (at_builtin; refine wpList_app rfl _ _ rfl w.heap.size _ _ rfl rfl hown hlen hsz ?_; intro v' w' hm' hb'; have HM := Lib.hid hm'; have HB := Lib.hid (hbel.trans hb'); clear hm' hb' hown hbel)
        go_roundw
        case rel => exact ⟨k + 1, by omega, by go_num, by rw [ht.out, if_pos HX.out]; exact HM.out, HB.out⟩
        case measure => simp [intOf]; omega
      · have hq : ((k : Int) == x) = false := by simpa using hx
        have HX := Lib.hid hx
        clear hx
        go_wp2_with (at_builtin; refine wpList_app rfl _ _ rfl w.heap.size _ _ rfl rfl hown hlen hsz ?_; intro v' w' hm' hb'; have HM := Lib.hid hm'; have HB := Lib.hid (hbel.trans hb'); clear hm' hb' hown hbel)
        go_roundw
        case rel => exact ⟨k + 1, by omega, by go_num, by rw [ht.out, if_neg HX.out]; exact HM.out, HB.out⟩
        case measure => simp [intOf]; omega
    · obtain rfl : k = d.length := by omega
      rw [List.take_length] at hown
      obtain ⟨A', c', rfl, hi'⟩ := hown.ints
      clear hown
      go_wp2
      go_ret
      exact ⟨A', c', rfl, hi', hbel⟩

theorem rev_drop (d : List Int) (k : Nat) (h : k < d.length) : (d.drop (d.length - (k + 1))).reverse = (d.drop (d.length - k)).reverse ++ [d.getD (d.length - 1 - k) 0] := by
  rw [show d.length - (k + 1) = d.length - 1 - k from by omega, drop_at d (d.length - 1 - k) (by omega), List.reverse_cons, show d.length - 1 - k + 1 = d.length - k from by omega]

/-- The numbers so far, put down from behind. -/
theorem turn_step (d : List Int) (k : Nat) (h : k < d.length) :
    (List.replicate (d.length - k) 0 ++ (d.take k).reverse).set (d.length - 1 - k) (d.getD k 0) = List.replicate (d.length - (k + 1)) 0 ++ (d.take (k + 1)).reverse := by
  rw [take_snoc d k h, List.reverse_append, List.reverse_singleton]
  have e1 : d.length - k = (d.length - 1 - k) + 1 := by omega
  have e2 : d.length - (k + 1) = d.length - 1 - k := by omega
  rw [e1, e2, List.replicate_succ', List.append_assoc, List.set_append_right _ _ (by simp)]
  simp

end Go.Proofs.Ythabimjmdnhomaa.Sh
