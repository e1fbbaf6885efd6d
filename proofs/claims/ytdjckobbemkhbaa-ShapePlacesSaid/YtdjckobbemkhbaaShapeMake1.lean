/-
  What riffleref01.With, Without and Turned and shape.Turned answer for any lengths; nothing that was there is written. Condition: a list is short enough for any machine.
-/
import Derived.Test.YtdjckobbemkhbaaShapeApp
import Derived.Test.YtdjckobbemkhbaaShapeStr
namespace Go.Proofs.Ytdjckobbemkhbaa.Sh
open Go.RowKit
set_option linter.unusedVariables false

/-- The list with n in the place of what stands at the axis. -/
def withL (d : List Int) (x n : Int) : List Int := if 0 ≤ x ∧ x < d.length then d.set x.toNat n else d
/-- The list without what stands at the axis. -/
def withoutL (d : List Int) (x : Int) : List Int := if 0 ≤ x ∧ x < d.length then d.eraseIdx x.toNat else d

theorem withL_nil (x n : Int) : withL [] x n = [] := if_neg (by simp only [List.length_nil]; omega)
theorem withoutL_nil (x : Int) : withoutL [] x = [] := if_neg (by simp only [List.length_nil]; omega)
theorem withL_take (d : List Int) (x n : Int) (k : Nat) (hk : k < d.length) : withL (d.take (k + 1)) x n = withL (d.take k) x n ++ [if (k : Int) = x then n else d.getD k 0] := by
  have hl : (d.take k).length = k := by simp; omega
  have hl1 : (d.take (k + 1)).length = k + 1 := by simp; omega
  unfold withL
  rw [hl, hl1, take_snoc d k hk]
  by_cases h : (k : Int) = x
  · subst h
    rw [if_pos (by omega), if_neg (by omega), if_pos rfl, Int.toNat_natCast, List.set_append_right _ _ (by omega)]
    simp [hl]
  · rw [if_neg h]
    by_cases h2 : 0 ≤ x ∧ x < k
    · rw [if_pos (by omega), if_pos h2, List.set_append_left _ _ (by omega)]
    · rw [if_neg (by omega), if_neg h2]
theorem withoutL_take (d : List Int) (x : Int) (k : Nat) (hk : k < d.length) : withoutL (d.take (k + 1)) x = withoutL (d.take k) x ++ if (k : Int) = x then [] else [d.getD k 0] := by
  have hl : (d.take k).length = k := by simp; omega
  have hl1 : (d.take (k + 1)).length = k + 1 := by simp; omega
  unfold withoutL
  rw [hl, hl1, take_snoc d k hk]
  by_cases h : (k : Int) = x
  · subst h
    rw [if_pos (by omega), if_neg (by omega), if_pos rfl, Int.toNat_natCast, List.eraseIdx_append_of_length_le (by omega)]
    simp [hl]
  · rw [if_neg h]
    by_cases h2 : 0 ≤ x ∧ x < k
    · rw [if_pos (by omega), if_pos h2, List.eraseIdx_append_of_lt_length (by omega)]
    · rw [if_neg (by omega), if_neg h2]
theorem withL_len (d : List Int) (x n : Int) : (withL d x n).length = d.length := by unfold withL; split <;> simp
theorem withoutL_len (d : List Int) (x : Int) : (withoutL d x).length ≤ d.length := by unfold withoutL; split <;> simp [List.length_eraseIdx]; split <;> omega

set_option maxHeartbeats 1000000 in
theorem refWith_any (A : Option Addr) (c : Nat) (d : List Int) (x n : Int) (w : World) (hl : d.length ≤ 100) (hi : Ints w A d) :
    Calls Try.prog 23 #[.slice A d.length c, .int .i64 x, .int .i64 n] w (RetInts w (withL d x n)) := by
  go_enter Try.func23, Try.ntmps23
  go_wp2
  go_loopw [7, 8] (fun v i wr => ∃ k : Nat, k ≤ d.length ∧ i = .int .i64 k ∧ Mine wr w.heap.size v (withL (d.take k) x n) ∧ Below w.heap.size w wr)
    (fun _ i _ => d.length - (intOf i).toNat)
  case atStart => exact ⟨0, Nat.zero_le _, rfl, by rw [List.take_zero, withL_nil]; exact Mine.nil _ _, Below.refl _ _⟩
  case round =>
    obtain ⟨k, hk, rfl, hown, hbel⟩ := hrel
    by_cases hlt : k < d.length
    · obtain ⟨b, off, rfl, hb, hcs⟩ := hi (by omega)
      have hck : wr.cell? ⟨b, off + k, none⟩ = some (.int .i64 (d.getD k 0)) := (hbel.cell (p := ⟨b, off + k, none⟩) hb).trans (hcs k hlt)
      have ht := Lib.hid (withL_take d x n k hlt)
      have hlen : (withL (d.take k) x n).length < 17592186044415 := by rw [withL_len]; simp; omega
      have hsz := hbel.size
      clear hcs hi
      generalize d.getD k 0 = y at *
      by_cases hx : (k : Int) = x
      · have hq : ((k : Int) == x) = true := by simpa using hx
        have HX := Lib.hid hx
        clear hx
        go_wp2_with (at_builtin; refine wpList_app rfl _ _ rfl w.heap.size _ _ rfl rfl hown hlen hsz ?_; intro v' w' hm' hb'; have HM := Lib.hid hm'; have HB := Lib.hid (hbel.trans hb'); clear hm' hb' hown hbel)
        go_roundw
        case rel => exact ⟨k + 1, by omega, by go_num, by rw [ht.out, if_pos HX.out]; exact HM.out, HB.out⟩
        case measure => simp [intOf]; omega
      · have hq : ((k : Int) == x) = false := by simpa using hx
        have HX := Lib.hid hx
        clear hx
        go_wp2_with (at_builtin; refine wpList_app rfl _ _ rfl w.heap.size _ _ rfl rfl hown hlen hsz ?_; intro v' w' hm' hb'; have HM := Lib.hid hm'; have HB := Lib.hid (hbel.trans hb'); clear hm' hb' hown hbel)
        go_roundw
        case rel => exact ⟨k + 1, by omega, by go_num, by rw [ht.out, if_neg HX.out]; exact HM.out, HB.out⟩
        case measure => simp [intOf]; omega
    · obtain rfl : k = d.length := by omega
      rw [List.take_length] at hown
      obtain ⟨A', c', rfl, hi'⟩ := hown.ints
      clear hown
      go_wp2
      go_ret
      exact ⟨A', c', rfl, hi', hbel⟩

set_option maxHeartbeats 1000000 in
theorem refWithout_any (A : Option Addr) (c : Nat) (d : List Int) (x : Int) (w : World) (hl : d.length ≤ 100) (hi : Ints w A d) :
    Calls Try.prog 21 #[.slice A d.length c, .int .i64 x] w (RetInts w (withoutL d x)) := by
  go_enter Try.func21, Try.ntmps21
  go_wp2
  go_loopw [5, 6] (fun v i wr => ∃ k : Nat, k ≤ d.length ∧ i = .int .i64 k ∧ Mine wr w.heap.size v (withoutL (d.take k) x) ∧ Below w.heap.size w wr)
    (fun _ i _ => d.length - (intOf i).toNat)
  case atStart => exact ⟨0, Nat.zero_le _, rfl, by rw [List.take_zero, withoutL_nil]; exact Mine.nil _ _, Below.refl _ _⟩
  case round =>
    obtain ⟨k, hk, rfl, hown, hbel⟩ := hrel
    by_cases hlt : k < d.length
    · obtain ⟨b, off, rfl, hb, hcs⟩ := hi (by omega)
      have hck : wr.cell? ⟨b, off + k, none⟩ = some (.int .i64 (d.getD k 0)) := (hbel.cell (p := ⟨b, off + k, none⟩) hb).trans (hcs k hlt)
      have ht := Lib.hid (withoutL_take d x k hlt)
      have hlen : (withoutL (d.take k) x).length < 17592186044415 := by have := withoutL_len (d.take k) x; simp at this; omega
      have hsz := hbel.size
      clear hcs hi
      generalize d.getD k 0 = y at *
      by_cases hx : (k : Int) = x
      · have hq : ((k : Int) != x) = false := by simpa using hx
        have HX := Lib.hid hx
        have HO := Lib.hid hown
        clear hx hown
        go_wp2
        go_roundw
        case rel => exact ⟨k + 1, by omega, by go_num, by rw [ht.out, if_pos HX.out, List.append_nil]; exact HO.out, hbel⟩
        case measure => simp [intOf]; omega
      · have hq : ((k : Int) != x) = true := by simpa using hx
        have HX := Lib.hid hx
        clear hx
        go_wp2_with (at_builtin; refine wpList_app rfl _ _ rfl w.heap.size _ _ rfl rfl hown hlen hsz ?_; intro v' w' hm' hb'; have HM := Lib.hid hm'; have HB := Lib.hid (hbel.trans hb'); clear hm' hb' hown hbel)
        go_roundw
        case rel => exact ⟨k + 1, by omega, by go_num, by rw [ht.out, if_neg HX.out]; exact HM.out, HB.out⟩
        case measure => simp [intOf]; omega
    · obtain rfl : k = d.length := by omega
      rw [List.take_length] at hown
      obtain ⟨A', c', rfl, hi'⟩ := hown.ints
      clear hown
      go_wp2
      go_ret
      exact ⟨A', c', rfl, hi', hbel⟩

theorem rev_drop (d : List Int) (k : Nat) (h : k < d.length) : (d.drop (d.length - (k + 1))).reverse = (d.drop (d.length - k)).reverse ++ [d.getD (d.length - 1 - k) 0] := by
  rw [show d.length - (k + 1) = d.length - 1 - k from by omega, drop_at d (d.length - 1 - k) (by omega), List.reverse_cons, show d.length - 1 - k + 1 = d.length - k from by omega]

set_option maxHeartbeats 1000000 in
theorem refTurned_any (A : Option Addr) (c : Nat) (d : List Int) (w : World) (hl : d.length ≤ 100) (hi : Ints w A d) :
    Calls Try.prog 25 #[.slice A d.length c] w (RetInts w d.reverse) := by
  go_enter Try.func25, Try.ntmps25
  go_wp2
  go_loopw [3, 4] (fun v i wr => ∃ k : Nat, k ≤ d.length ∧ i = .int .i64 ((d.length : Int) - 1 - k) ∧ Mine wr w.heap.size v (d.drop (d.length - k)).reverse ∧ Below w.heap.size w wr)
    (fun _ i _ => (intOf i + 1).toNat)
  case atStart => exact ⟨0, Nat.zero_le _, by go_num, by rw [Nat.sub_zero, List.drop_length]; exact Mine.nil _ _, Below.refl _ _⟩
  case round =>
    obtain ⟨k, hk, rfl, hown, hbel⟩ := hrel
    by_cases hlt : k < d.length
    · obtain ⟨b, off, rfl, hb, hcs⟩ := hi (by omega)
      have hck := (hbel.cell (p := ⟨b, off + (d.length - 1 - k), none⟩) hb).trans (hcs (d.length - 1 - k) (by omega))
      have ht := Lib.hid (rev_drop d k hlt)
      have hlen : (d.drop (d.length - k)).reverse.length < 17592186044415 := by simp; omega
      have hsz := hbel.size
      have et : ((d.length : Int) - 1 - (k : Int)).toNat = d.length - 1 - k := by omega
      have e0 : (0 : Int) ≤ (d.length : Int) - 1 - (k : Int) := by omega
      clear hcs hi
      generalize d.getD (d.length - 1 - k) 0 = y at *
      go_wp2_with (at_builtin; refine wpList_app rfl _ _ rfl w.heap.size _ _ rfl rfl hown hlen hsz ?_; intro v' w' hm' hb'; have HM := Lib.hid hm'; have HB := Lib.hid (hbel.trans hb'); clear hm' hb' hown hbel)
      go_roundw
      case rel => exact ⟨k + 1, by omega, by go_num, by rw [ht.out]; exact HM.out, HB.out⟩
      case measure => simp [intOf]; omega
    · obtain rfl : k = d.length := by omega
      rw [Nat.sub_self, List.drop_zero] at hown
      obtain ⟨A', c', rfl, hi'⟩ := hown.ints
      clear hown
      have e1 : ¬ ((0 : Int) ≤ (d.length : Int) - 1 - (d.length : Int)) := by omega
      go_wp2
      go_ret
      exact ⟨A', c', by rw [List.length_reverse]; rfl, hi', hbel⟩

/-- The numbers so far, put down from behind. -/
theorem turn_step (d : List Int) (k : Nat) (h : k < d.length) :
    (List.replicate (d.length - k) 0 ++ (d.take k).reverse).set (d.length - 1 - k) (d.getD k 0) = List.replicate (d.length - (k + 1)) 0 ++ (d.take (k + 1)).reverse := by
  rw [take_snoc d k h, List.reverse_append, List.reverse_singleton]
  have e1 : d.length - k = (d.length - 1 - k) + 1 := by omega
  have e2 : d.length - (k + 1) = d.length - 1 - k := by omega
  rw [e1, e2, List.replicate_succ', List.append_assoc, List.set_append_right _ _ (by simp)]
  simp

set_option maxHeartbeats 1000000 in
theorem turned_any (A : Option Addr) (c : Nat) (d : List Int) (w : World) (hl : d.length ≤ 100) (hi : Ints w A d) :
    Calls Try.prog 24 #[.slice A d.length c] w (RetInts w d.reverse) := by
  have hmk := fun W => run_make_row' (P := Try.prog) 22 3 (.int .i64 0) 8 Try.underlying22 infoInt rfl .i64 .i64 d.length (by omega) (by omega) W
  go_enter Try.func24, Try.ntmps24
  go_wp2
  go_loopw [10] (fun i wr => ∃ k : Nat, k ≤ d.length ∧ i = .int .i64 k ∧ Own wr w.heap.size (List.replicate (d.length - k) 0 ++ (d.take k).reverse) ∧ Below w.heap.size w wr)
    (fun i _ => d.length - (intOf i).toNat)
  case atStart => exact ⟨0, Nat.zero_le _, rfl, by rw [Nat.sub_zero]; simpa using Own.made w d.length, (Below.refl _ _).alloc (Nat.le_refl _) _⟩
  case round =>
    obtain ⟨k, hk, rfl, hown, hbel⟩ := hrel
    by_cases hlt : k < d.length
    · obtain ⟨b, off, rfl, hb, hcs⟩ := hi (by omega)
      have hck : wr.cell? ⟨b, off + k, none⟩ = some (.int .i64 (d.getD k 0)) := (hbel.cell (p := ⟨b, off + k, none⟩) hb).trans (hcs k hlt)
      have hcw := hown.cell (i := d.length - 1 - k) (by simp; omega)
      have hfw := hown.frozen (d.length - 1 - k)
      have hset := Lib.hid (hown.set_ (d.length - 1 - k) (d.getD k 0))
      have hst := Lib.hid (turn_step d k hlt)
      have hbel' := Lib.hid hbel
      clear hown hbel hcs hi
      have et : ((d.length : Int) - 1 - (k : Int)).toNat = d.length - 1 - k := by omega
      have e0 : (0 : Int) ≤ (d.length : Int) - 1 - (k : Int) := by omega
      generalize d.getD k 0 = y at *
      go_wp2
      go_roundw
      case rel => exact ⟨k + 1, by omega, by go_num, by rw [← hst.out]; exact hset.out, hbel'.out.setCell (Nat.le_refl _) _⟩
      case measure => simp [intOf]; omega
    · obtain rfl : k = d.length := by omega
      rw [Nat.sub_self, List.replicate_zero, List.nil_append, List.take_length] at hown
      have HO := Lib.hid hown
      clear hown
      go_wp2
      go_ret
      exact ⟨some ⟨w.heap.size, 0, none⟩, d.length, by rw [List.length_reverse]; rfl, HO.out.ints, hbel⟩
end Go.Proofs.Ytdjckobbemkhbaa.Sh
