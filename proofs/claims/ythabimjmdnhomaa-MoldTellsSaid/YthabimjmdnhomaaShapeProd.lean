/-
  What shape.product, shape.Right and shape.Size answer for any axes, and that they write nothing that was there. Condition: the slice is no longer than an int can say.
-/
import Derived.Test.YthabimjmdnhomaaProg
import Derived.Test.YthabimjmdnhomaaShapeMath
import Derived.WalkKit
import Derived.WalkSpells
import Derived.Lib.Hide
namespace Go.Proofs.Ythabimjmdnhomaa.Sh
open Go.RowKit
set_option linter.unusedVariables false

set_option maxHeartbeats 400000 in
theorem step_ok (B : Nat) (x y : Int) (w : World) (hx : 0 ≤ x) (hx2 : x ≤ 4096) (hy : 0 ≤ y) (hy2 : y ≤ 64) (hc : w.cell? ⟨B, 0, none⟩ = some (.int .i64 x)) (hf : w.frozen? ⟨B, 0, none⟩ = false) :
    Calls Try.prog 63 #[.int .i64 y, .pointer (some ⟨B, 0, none⟩)] w fun e w' => e = .returned (.bool true) ∧ w' = w.setCell ⟨B, 0, none⟩ (.int .i64 (x * y)) := by
  have hm := mul_bd hx hx2 hy hy2
  go_enter Try.func63, Try.ntmps63
  go_wp2
  go_ret
  exact ⟨rfl, rfl⟩

set_option maxHeartbeats 400000 in
theorem step_no (B : Nat) (y : Int) (w : World) (hy : y < 0 ∨ 64 < y) :
    Calls Try.prog 63 #[.int .i64 y, .pointer (some ⟨B, 0, none⟩)] w fun e w' => e = .returned (.bool false) ∧ w = w' := by
  rcases hy with hy | hy
  · go_enter Try.func63, Try.ntmps63
    go_wp2
    go_ret
    exact ⟨rfl, rfl⟩
  · have hy' : ¬ y < 0 := by omega
    go_enter Try.func63, Try.ntmps63
    go_wp2
    go_ret
    exact ⟨rfl, rfl⟩

set_option maxHeartbeats 1000000 in
theorem product_any (A : Option Addr) (c : Nat) (l : List Int) (w : World) (hl : l.length ≤ maxLen) (hi : Ints w A l) :
    Calls Try.prog 58 #[.slice A l.length c] w fun e w' => e = .returned (.tuple #[.int .i64 (sizeI l), .bool (rightB l)]) ∧ Below w.heap.size w w' := by
  unfold maxLen at hl
  by_cases h3 : l.length ≤ 3
  · go_enter Try.func58, Try.ntmps58
    go_wp2
    go_loopw [13] (fun i wr => ∃ k : Nat, k ≤ l.length ∧ i = .int .i64 k ∧ (l.take k).all okAx = true ∧ wr.cell? ⟨w.heap.size, 0, none⟩ = some (.int .i64 (prod (l.take k))) ∧ wr.frozen? ⟨w.heap.size, 0, none⟩ = false ∧ Below w.heap.size w wr)
      (fun i _ => l.length - (intOf i).toNat)
    case atStart =>
      exact ⟨0, Nat.zero_le _, rfl, rfl, by rw [World.cell?_alloc_at _ _ _ _ (by simp)]; rfl, World.frozen?_alloc_at _ _ _ _ (by simp), (Below.refl _ _).alloc (Nat.le_refl _) _⟩
    case round =>
      obtain ⟨k, hk, rfl, hall, hcell, hfz, hbel⟩ := hrel
      have hall' := Lib.hid hall
      clear hall
      have hpb := prod_bd _ hall'.out
      have hlk : (l.take k).length ≤ k := List.length_take_le _ _
      by_cases hlt : k < l.length
      · obtain ⟨b, off, rfl, hb, hcs⟩ := hi (by omega)
        have hck : wr.cell? ⟨b, off + k, none⟩ = some (.int .i64 (l.getD k 0)) := (hbel.cell (p := ⟨b, off + k, none⟩) hb).trans (hcs k hlt)
        have hp0 : 0 ≤ prod (l.take k) := hpb.1
        have hp1 : prod (l.take k) ≤ 4096 := hpb.2.2.1 (by omega)
        have hal := Lib.hid (all_take l k hlt)
        have hpr := Lib.hid (prod_take l k hlt)
        clear hpb hcs hi
        generalize hx : l.getD k 0 = x at *
        have HX := Lib.hid hx
        clear hx
        by_cases hok : 0 ≤ x ∧ x ≤ 64
        · obtain ⟨hx0, hx1⟩ := hok
          go_wp2_with (go_at_call 63; refine (step_ok _ (prod (l.take k)) x _ hp0 hp1 hx0 hx1 hcell hfz).mono ?_; rintro e w' ⟨rfl, rfl⟩)
          go_roundw
          case rel => exact ⟨k + 1, by omega, by go_num, by rw [hal.out, hall'.out, okAx]; simp [hx0, hx1], by rw [hpr.out]; exact World.cell?_setCell_same _ _ _ hcell, by rw [World.frozen?_setCell]; exact hfz, hbel.setCell (Nat.le_refl _) _⟩
          case measure => simp [intOf]; omega
        · have hbad : okAx (l.getD k 0) = false := by rw [HX.out]; simp only [okAx]; rw [Bool.eq_false_iff]; simpa using hok
          have hs := Lib.hid (sizeI_bad hlt hbad)
          have hr := Lib.hid (rightB_bad hlt hbad)
          have hno : x < 0 ∨ 64 < x := by omega
          clear hbad hok
          go_wp2_with (go_at_call 63; refine (step_no _ x _ hno).mono ?_; rintro e w' ⟨rfl, rfl⟩)
          go_ret2
          exact ⟨ret_two hs.out.symm hr.out.symm, hbel⟩
      · obtain rfl : k = l.length := by omega
        rw [List.take_length] at *
        have hp0 : 0 ≤ prod l := hpb.1
        have hp1 : prod l ≤ 262144 := hpb.2.1 h3
        by_cases hg : 64 < prod l
        · have hs := Lib.hid (sizeI_great hg)
          have hr := Lib.hid (rightB_great hg)
          clear hpb
          go_wp2
          go_ret2
          exact ⟨ret_two hs.out.symm hr.out.symm, hbel⟩
        · have hs := Lib.hid (sizeI_mk h3 hall'.out (by omega))
          have hr := Lib.hid (rightB_mk h3 hall'.out (by omega))
          clear hpb
          go_wp2
          go_ret2
          exact ⟨ret_two hs.out.symm hr.out.symm, hbel⟩
  · go_enter Try.func58, Try.ntmps58
    go_wp2
    go_ret2
    exact ⟨ret_two (sizeI_len (by omega)).symm (rightB_len (by omega)).symm, Below.refl _ _⟩

set_option maxHeartbeats 400000 in
theorem right_any (A : Option Addr) (c : Nat) (l : List Int) (w : World) (hl : l.length ≤ maxLen) (hi : Ints w A l) :
    Calls Try.prog 36 #[.slice A l.length c] w fun e w' => e = .returned (.bool (rightB l)) ∧ Below w.heap.size w w' := by
  go_enter Try.func36, Try.ntmps36
  go_wp2_with (go_at_call 58; refine (product_any _ _ l _ hl hi).mono ?_; rintro e w' ⟨rfl, hb⟩)
  go_ret
  exact ⟨rfl, hb⟩

set_option maxHeartbeats 400000 in
theorem size_any (A : Option Addr) (c : Nat) (l : List Int) (w : World) (hl : l.length ≤ maxLen) (hi : Ints w A l) :
    Calls Try.prog 49 #[.slice A l.length c] w fun e w' => e = .returned (.int .i64 (sizeI l)) ∧ Below w.heap.size w w' := by
  go_enter Try.func49, Try.ntmps49
  go_wp2_with (go_at_call 58; refine (product_any _ _ l _ hl hi).mono ?_; rintro e w' ⟨rfl, hb⟩)
  go_ret
  exact ⟨rfl, hb⟩
end Go.Proofs.Ythabimjmdnhomaa.Sh
