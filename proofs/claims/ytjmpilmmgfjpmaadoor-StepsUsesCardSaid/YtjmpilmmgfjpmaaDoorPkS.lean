/-
  Plain facts on lists of integers for the axes of layer 1: products, what may be, what two lists have in common. No condition; nothing of the program stands here. What shape.product, shape.Right and shape.Size answer for any axes, and that they write nothing that was there. Condition: the slice is no longer than an int can say. What riffleref01.Right, Size and Same, slices.Equal and shape.Same answer for any lists of numbers, and that they change nothing. Condition: a slice is no longer than an int can say. A block of the call's own that is known whole: a row of ints, with the list of its numbers. What stays of it behind draws, new blocks and stores. No condition. What shape.Strides answers for any axes: the products of the lengths behind each axis, nothing of axes that may not be; nothing that was there is written. Condition: the slice is no longer than an int can say. What shape.within and shape.Index answer for any axes and any place; nothing that was there is written. Condition: the slices are no longer than an int can say. The document's example of layer 1 (rifflelaw01.lives) is true in whatever world; nothing that was there is written. No condition. A slice of ints among the arguments of a call, as the readings of a row give it, and as the walks take it. No condition. One number appended to a row of the call's own: what the row holds behind it. Condition: the row is short enough for any machine. What riffleref01.With, Without and Turned and shape.Turned answer for any lengths; nothing that was there is written. Condition: a list is short enough for any machine. What slices.Clone and slices.Delete (by the library's own contracts), shape.With and shape.Without answer for any lengths; nothing that was there is written. Condition: at most 100 numbers. Plain facts on places, and what shape.Place answers for any axes and any number; nothing that was there is written. Condition: at most 100 axes. Plain facts on lists of which each number from 0 on stands once, and on a list picked by one; rows of bools and ints by a function. No condition; nothing of the program stands here. What shape.Perm, shape.Picked, riffleref01.Perm and riffleref01.Picked answer for any lists; nothing that was there is written. Condition: at most 100 numbers each. What shape.Picked and riffleref01.Picked answer for any lists; nothing that was there is written. Condition: at most 100 numbers each. Plain facts on lists in another order, and what rifflelaw01.behind answers for two lists of one length. Condition: at most 100 numbers. Plain facts on all places of axes, counted up one by one, and words for a row of rows that the call itself makes. No condition. What riffleref01.Places answers for any axes: all places, one behind the other; nothing that was there is written. Condition: at most 100 axes. What riffleref01.Places answers for any axes: all places, one behind the other; nothing that was there is written. Condition: at most 100 axes. What riffleref01.Index and riffleref01.Strides answer for any axes and places; nothing that was there is written. Condition: at most 100 numbers each.
-/
import Derived.WalkKit
import Derived.Deep.Draws
import Derived.Test.YtjmpilmmgfjpmaaDoorProg
import Derived.WalkSpells
import Derived.Lib.Hide
import Derived.Deep.QuietTactic
import Derived.BigQuiet
import Derived.Deep.OwnRows
import Derived.Shelf.Slices.Clone
import Derived.Shelf.Slices.Cells
import Derived.RegionTactic
set_option maxRecDepth 100000
-- ShapeMath
namespace Go.Proofs.YtjmpilmmgfjpmaaDoor.Sh
open Go.RowKit
set_option linter.unusedVariables false

/-- All numbers multiplied. -/
def prod (l : List Int) : Int := l.foldl (· * ·) 1
/-- May a length be? -/
def okAx (n : Int) : Bool := decide (0 ≤ n) && decide (n ≤ 64)
/-- May these axes be? -/
def rightB (l : List Int) : Bool := decide (l.length ≤ 3) && l.all okAx && decide (prod l ≤ 64)
/-- How many places they have. -/
def sizeI (l : List Int) : Int := if rightB l = true then prod l else 0

theorem prod_nil : prod [] = 1 := rfl
theorem prod_snoc (l : List Int) (x : Int) : prod (l ++ [x]) = prod l * x := by simp [prod]
theorem take_snoc (l : List Int) (k : Nat) (h : k < l.length) : l.take (k + 1) = l.take k ++ [l.getD k 0] := by
  rw [List.take_succ_eq_append_getElem h]; simp [List.getD, h]
theorem prod_take (l : List Int) (k : Nat) (h : k < l.length) : prod (l.take (k + 1)) = prod (l.take k) * l.getD k 0 := by
  rw [take_snoc l k h, prod_snoc]
theorem all_take (l : List Int) (k : Nat) (h : k < l.length) : (l.take (k + 1)).all okAx = ((l.take k).all okAx && okAx (l.getD k 0)) := by
  rw [take_snoc l k h]; simp
theorem okAx_bd {n : Int} (h : okAx n = true) : 0 ≤ n ∧ n ≤ 64 := by simpa [okAx] using h

theorem mul_bd {a b m : Int} (h0 : 0 ≤ a) (h1 : a ≤ m) (h2 : 0 ≤ b) (h3 : b ≤ 64) : 0 ≤ a * b ∧ a * b ≤ m * 64 :=
  ⟨Int.mul_nonneg h0 h2, Int.mul_le_mul h1 h3 h2 (by omega)⟩

/-- The bound of a product, by how many numbers there are. -/
theorem prod_bd (l : List Int) (h : l.all okAx = true) : 0 ≤ prod l ∧ (l.length ≤ 3 → prod l ≤ 262144) ∧ (l.length ≤ 2 → prod l ≤ 4096) ∧ (l.length ≤ 1 → prod l ≤ 64) ∧ (l.length = 0 → prod l = 1) := by
  match l, h with
  | [], _ => simp [prod]
  | [a], h =>
    have ha : okAx a = true := by simpa using h
    have := okAx_bd ha
    simp [prod]; omega
  | [a, b], h =>
    have h' : okAx a = true ∧ okAx b = true := by simpa using h
    have ba := okAx_bd h'.1
    have bb := okAx_bd h'.2
    have := mul_bd ba.1 ba.2 bb.1 bb.2
    simp [prod]; omega
  | [a, b, c], h =>
    have h' : okAx a = true ∧ okAx b = true ∧ okAx c = true := by simpa using h
    have ba := okAx_bd h'.1
    have bb := okAx_bd h'.2.1
    have bc := okAx_bd h'.2.2
    have h1 := mul_bd ba.1 ba.2 bb.1 bb.2
    have h2 := mul_bd h1.1 h1.2 bc.1 bc.2
    simp [prod]; omega
  | a :: b :: c :: d :: r, h =>
    have hn : ∀ (l : List Int) (x : Int), 0 ≤ x → l.all okAx = true → 0 ≤ l.foldl (· * ·) x := by
      intro l
      induction l with
      | nil => intro x hx _; simpa using hx
      | cons y t ih =>
        intro x hx ht
        simp only [List.all_cons, Bool.and_eq_true] at ht
        exact ih _ (Int.mul_nonneg hx (okAx_bd ht.1).1) ht.2
    exact ⟨hn _ 1 (by omega) h, by simp, by simp, by simp, by simp⟩

theorem rightB_len {l : List Int} (h : 3 < l.length) : rightB l = false := by simp [rightB]; omega
theorem sizeI_len {l : List Int} (h : 3 < l.length) : sizeI l = 0 := by simp [sizeI, rightB_len h]
theorem all_of_take {l : List Int} {k : Nat} (h : (l.take k).all okAx = false) : l.all okAx = false := by
  rw [← List.take_append_drop k l, List.all_append, h, Bool.false_and]
theorem rightB_bad {l : List Int} {k : Nat} (h : k < l.length) (hb : okAx (l.getD k 0) = false) : rightB l = false := by
  have : (l.take (k + 1)).all okAx = false := by rw [all_take l k h, hb, Bool.and_false]
  simp [rightB, all_of_take this]
theorem sizeI_bad {l : List Int} {k : Nat} (h : k < l.length) (hb : okAx (l.getD k 0) = false) : sizeI l = 0 := by simp [sizeI, rightB_bad h hb]
theorem rightB_great {l : List Int} (h : 64 < prod l) : rightB l = false := by simp [rightB]; omega
theorem sizeI_great {l : List Int} (h : 64 < prod l) : sizeI l = 0 := by simp [sizeI, rightB_great h]
theorem rightB_mk {l : List Int} (h3 : l.length ≤ 3) (ha : l.all okAx = true) (hp : prod l ≤ 64) : rightB l = true := by
  simp only [rightB, Bool.and_eq_true, decide_eq_true_eq]; exact ⟨⟨h3, ha⟩, hp⟩
theorem sizeI_mk {l : List Int} (h3 : l.length ≤ 3) (ha : l.all okAx = true) (hp : prod l ≤ 64) : sizeI l = prod l := by simp [sizeI, rightB_mk h3 ha hp]
theorem rightB_all {l : List Int} (h : rightB l = true) : l.length ≤ 3 ∧ l.all okAx = true ∧ prod l ≤ 64 := by
  simp only [rightB, Bool.and_eq_true, decide_eq_true_eq] at h; exact ⟨h.1.1, h.1.2, h.2⟩
theorem okAx_at {l : List Int} (h : l.all okAx = true) (k : Nat) (hk : k < l.length) : 0 ≤ l.getD k 0 ∧ l.getD k 0 ≤ 64 := by
  have : okAx l[k] = true := List.all_eq_true.1 h _ (List.getElem_mem hk)
  have := okAx_bd this
  simpa [List.getD, hk] using this

theorem ret_int {k : IntKind} {a b : Int} (h : a = b) : Ending.returned (.int k a) = .returned (.int k b) := by rw [h]
theorem ret_bool {a b : Bool} (h : a = b) : Ending.returned (.bool a) = .returned (.bool b) := by rw [h]
theorem ret_two {k : IntKind} {a b : Int} {c d : Bool} (h : a = b) (h' : c = d) : Ending.returned (.tuple #[.int k a, .bool c]) = .returned (.tuple #[.int k b, .bool d]) := by rw [h, h']

/-- A slice of numbers, nil let in: where there is a number, it lies at an address below the heap's end. -/
def Ints (w : World) (A : Option Addr) (l : List Int) : Prop :=
  0 < l.length → ∃ b off, A = some ⟨b, off, none⟩ ∧ b < w.heap.size ∧ ∀ i, i < l.length → w.cell? ⟨b, off + i, none⟩ = some (.int .i64 (l.getD i 0))
theorem Ints.below {w w' : World} {A : Option Addr} {l : List Int} (h : Ints w A l) (hb : Below w.heap.size w w') : Ints w' A l := by
  intro hl
  obtain ⟨b, off, e, hlt, hc⟩ := h hl
  exact ⟨b, off, e, Nat.lt_of_lt_of_le hlt hb.size, fun i hi => (hb.cell (p := ⟨b, off + i, none⟩) hlt).trans (hc i hi)⟩
theorem Ints.drewN {w : World} {A : Option Addr} {l : List Int} (h : Ints w A l) (n : Nat) : Ints (w.drewN n) A l := h
theorem below_drewN {B : Nat} {a w : World} (h : Below B a w) (n : Nat) : Below B a (w.drewN n) := ⟨h.os, h.tape, h.output, h.size, h.block⟩
theorem below_next {a b c : World} (h : Below a.heap.size a b) (k : Below b.heap.size b c) : Below a.heap.size a c := h.trans (k.mono h.size)
end Go.Proofs.YtjmpilmmgfjpmaaDoor.Sh
-- ShapeProd
namespace Go.Proofs.YtjmpilmmgfjpmaaDoor.Sh
open Go.RowKit
set_option linter.unusedVariables false

set_option maxHeartbeats 400000 in
theorem step_ok (B : Nat) (x y : Int) (w : World) (hx : 0 ≤ x) (hx2 : x ≤ 4096) (hy : 0 ≤ y) (hy2 : y ≤ 64) (hc : w.cell? ⟨B, 0, none⟩ = some (.int .i64 x)) (hf : w.frozen? ⟨B, 0, none⟩ = false) :
    Calls Tryd.prog 74 #[.int .i64 y, .pointer (some ⟨B, 0, none⟩)] w fun e w' => e = .returned (.bool true) ∧ w' = w.setCell ⟨B, 0, none⟩ (.int .i64 (x * y)) := by
  have hm := mul_bd hx hx2 hy hy2
  go_enter Tryd.func74, Tryd.ntmps74
  go_wp2
  go_ret
  exact ⟨rfl, rfl⟩

set_option maxHeartbeats 400000 in
theorem step_no (B : Nat) (y : Int) (w : World) (hy : y < 0 ∨ 64 < y) :
    Calls Tryd.prog 74 #[.int .i64 y, .pointer (some ⟨B, 0, none⟩)] w fun e w' => e = .returned (.bool false) ∧ w = w' := by
  rcases hy with hy | hy
  · go_enter Tryd.func74, Tryd.ntmps74
    go_wp2
    go_ret
    exact ⟨rfl, rfl⟩
  · have hy' : ¬ y < 0 := by omega
    go_enter Tryd.func74, Tryd.ntmps74
    go_wp2
    go_ret
    exact ⟨rfl, rfl⟩

set_option maxHeartbeats 1000000 in
theorem product_any (A : Option Addr) (c : Nat) (l : List Int) (w : World) (hl : l.length ≤ maxLen) (hi : Ints w A l) :
    Calls Tryd.prog 62 #[.slice A l.length c] w fun e w' => e = .returned (.tuple #[.int .i64 (sizeI l), .bool (rightB l)]) ∧ Below w.heap.size w w' := by
  unfold maxLen at hl
  by_cases h3 : l.length ≤ 3
  · go_enter Tryd.func62, Tryd.ntmps62
    go_wp2
    go_loopw [13] (fun i wr => ∃ k : Nat, k ≤ l.length ∧ i = .int .i64 k ∧ (l.take k).all okAx = true ∧ wr.cell? ⟨w.heap.size, 0, none⟩ = some (.int .i64 (prod (l.take k))) ∧ wr.frozen? ⟨w.heap.size, 0, none⟩ = false ∧ Below w.heap.size w wr)
      (fun i _ => l.length - (intOf i).toNat)
    case atStart =>
      exact ⟨0, Nat.zero_le _, rfl, rfl, by rw [World.cell?_alloc_at _ _ _ _ (by simp)]; rfl, World.frozen?_alloc_at _ _ _ _ (by simp), (Below.refl _ _).alloc (Nat.le_refl _) _⟩
    case round =>
      obtain ⟨k, hk, rfl, hall, hcell, hfz, hbel⟩ := hrel
      have hall' := Lib.hid hall
      clear hall
      have hpb := prod_bd _ hall'.out
      have hlk : (l.take k).length ≤ k := List.length_take_le _ _
      by_cases hlt : k < l.length
      · obtain ⟨b, off, rfl, hb, hcs⟩ := hi (by omega)
        have hck : wr.cell? ⟨b, off + k, none⟩ = some (.int .i64 (l.getD k 0)) := (hbel.cell (p := ⟨b, off + k, none⟩) hb).trans (hcs k hlt)
        have hp0 : 0 ≤ prod (l.take k) := hpb.1
        have hp1 : prod (l.take k) ≤ 4096 := hpb.2.2.1 (by omega)
        have hal := Lib.hid (all_take l k hlt)
        have hpr := Lib.hid (prod_take l k hlt)
        clear hpb hcs hi
        generalize hx : l.getD k 0 = x at *
        have HX := Lib.hid hx
        clear hx
        by_cases hok : 0 ≤ x ∧ x ≤ 64
        · obtain ⟨hx0, hx1⟩ := hok
          go_wp2_with (go_at_call 74; refine (step_ok _ (prod (l.take k)) x _ hp0 hp1 hx0 hx1 hcell hfz).mono ?_; rintro e w' ⟨rfl, rfl⟩)
          go_roundw
          case rel => exact ⟨k + 1, by omega, by go_num, by rw [hal.out, hall'.out, okAx]; simp [hx0, hx1], by rw [hpr.out]; exact World.cell?_setCell_same _ _ _ hcell, by rw [World.frozen?_setCell]; exact hfz, hbel.setCell (Nat.le_refl _) _⟩
          case measure => simp [intOf]; omega
        · have hbad : okAx (l.getD k 0) = false := by rw [HX.out]; simp only [okAx]; rw [Bool.eq_false_iff]; simpa using hok
          have hs := Lib.hid (sizeI_bad hlt hbad)
          have hr := Lib.hid (rightB_bad hlt hbad)
          have hno : x < 0 ∨ 64 < x := by omega
          clear hbad hok
          go_wp2_with (go_at_call 74; refine (step_no _ x _ hno).mono ?_; rintro e w' ⟨rfl, rfl⟩)
          go_ret2
          exact ⟨ret_two hs.out.symm hr.out.symm, hbel⟩
      · obtain rfl : k = l.length := by omega
        rw [List.take_length] at *
        have hp0 : 0 ≤ prod l := hpb.1
        have hp1 : prod l ≤ 262144 := hpb.2.1 h3
        by_cases hg : 64 < prod l
        · have hs := Lib.hid (sizeI_great hg)
          have hr := Lib.hid (rightB_great hg)
          clear hpb
          go_wp2
          go_ret2
          exact ⟨ret_two hs.out.symm hr.out.symm, hbel⟩
        · have hs := Lib.hid (sizeI_mk h3 hall'.out (by omega))
          have hr := Lib.hid (rightB_mk h3 hall'.out (by omega))
          clear hpb
          go_wp2
          go_ret2
          exact ⟨ret_two hs.out.symm hr.out.symm, hbel⟩
  · go_enter Tryd.func62, Tryd.ntmps62
    go_wp2
    go_ret2
    exact ⟨ret_two (sizeI_len (by omega)).symm (rightB_len (by omega)).symm, Below.refl _ _⟩

set_option maxHeartbeats 400000 in
theorem right_any (A : Option Addr) (c : Nat) (l : List Int) (w : World) (hl : l.length ≤ maxLen) (hi : Ints w A l) :
    Calls Tryd.prog 45 #[.slice A l.length c] w fun e w' => e = .returned (.bool (rightB l)) ∧ Below w.heap.size w w' := by
  go_enter Tryd.func45, Tryd.ntmps45
  go_wp2_with (go_at_call 62; refine (product_any _ _ l _ hl hi).mono ?_; rintro e w' ⟨rfl, hb⟩)
  go_ret
  exact ⟨rfl, hb⟩

end Go.Proofs.YtjmpilmmgfjpmaaDoor.Sh
-- ShapeRef
namespace Go.Proofs.YtjmpilmmgfjpmaaDoor.Sh
open Go.RowKit
set_option linter.unusedVariables false

set_option maxHeartbeats 1000000 in
theorem refRight_any (A : Option Addr) (c : Nat) (l : List Int) (w : World) (hl : l.length ≤ maxLen) (hi : Ints w A l) :
    Calls Tryd.prog 40 #[.slice A l.length c] w fun e w' => e = .returned (.bool (rightB l)) ∧ w = w' := by
  unfold maxLen at hl
  by_cases h3 : l.length ≤ 3
  · go_enter Tryd.func40, Tryd.ntmps40
    go_wp2
    go_loop [3, 4] (fun n i => ∃ k : Nat, k ≤ l.length ∧ i = .int .i64 k ∧ (l.take k).all okAx = true ∧ n = .int .i64 (prod (l.take k)))
      (fun _ i => l.length - (intOf i).toNat)
    case atStart => exact ⟨0, Nat.zero_le _, rfl, rfl, rfl⟩
    case round =>
      obtain ⟨k, hk, rfl, hall, rfl⟩ := hrel
      have hall' := Lib.hid hall
      clear hall
      have hpb := prod_bd _ hall'.out
      have hlk : (l.take k).length ≤ k := List.length_take_le _ _
      by_cases hlt : k < l.length
      · obtain ⟨b, off, rfl, hb, hcs⟩ := hi (by omega)
        have hck : w.cell? ⟨b, off + k, none⟩ = some (.int .i64 (l.getD k 0)) := hcs k hlt
        have hp0 : 0 ≤ prod (l.take k) := hpb.1
        have hp1 : prod (l.take k) ≤ 4096 := hpb.2.2.1 (by omega)
        have hal := Lib.hid (all_take l k hlt)
        have hpr := Lib.hid (prod_take l k hlt)
        clear hpb hcs hi
        generalize hx : l.getD k 0 = x at *
        have HX := Lib.hid hx
        clear hx
        by_cases hok : 0 ≤ x ∧ x ≤ 64
        · obtain ⟨hx0, hx1⟩ := hok
          have hm := mul_bd hp0 hp1 hx0 hx1
          go_wp2
          go_round
          case rel => exact ⟨k + 1, by omega, by go_num, by rw [hal.out, hall'.out, okAx]; simp [hx0, hx1], by rw [hpr.out]⟩
          case measure => simp [intOf]; omega
        · have hbad : okAx (l.getD k 0) = false := by rw [HX.out]; simp only [okAx]; rw [Bool.eq_false_iff]; simpa using hok
          have hr := Lib.hid (rightB_bad hlt hbad)
          clear hbad
          rcases (show x < 0 ∨ 64 < x from by omega) with hno | hno
          · clear hok
            go_wp2
            go_ret
            exact ⟨ret_bool hr.out.symm, rfl⟩
          · clear hok
            go_wp2
            go_ret
            exact ⟨ret_bool hr.out.symm, rfl⟩
      · obtain rfl : k = l.length := by omega
        rw [List.take_length] at *
        have hp0 : 0 ≤ prod l := hpb.1
        have hp1 : prod l ≤ 262144 := hpb.2.1 h3
        by_cases hg : 64 < prod l
        · have hr := Lib.hid (rightB_great hg)
          clear hpb
          go_wp2
          go_ret
          exact ⟨ret_bool (by first | (rw [hr.out]; done) | (rw [hr.out]; simp; omega)), rfl⟩
        · have hr := Lib.hid (rightB_mk h3 hall'.out (by omega))
          clear hpb
          go_wp2
          go_ret
          exact ⟨ret_bool (by first | (rw [hr.out]; done) | (rw [hr.out]; simp; omega)), rfl⟩
  · go_enter Tryd.func40, Tryd.ntmps40
    go_wp2
    go_ret
    exact ⟨ret_bool (rightB_len (by omega)).symm, rfl⟩

set_option maxHeartbeats 1000000 in
theorem equal_any (A : Option Addr) (c : Nat) (a : List Int) (B : Option Addr) (d : Nat) (b : List Int) (w : World) (hl : a.length ≤ maxLen) (hl2 : b.length ≤ maxLen) (ha : Ints w A a) (hb : Ints w B b) :
    Calls Tryd.prog 63 #[.slice A a.length c, .slice B b.length d] w fun e w' => e = .returned (.bool (decide (a = b))) ∧ ∃ n, w' = w.drewN n := by
  unfold maxLen at hl hl2
  by_cases he : a.length = b.length
  · have hev : ((a.length : Int) != (b.length : Int)) = false := by simp [he]
    have HE := Lib.hid he
    have hle : a.length ≤ b.length := by omega
    have hle2 : b.length ≤ a.length := by omega
    clear he
    go_enter Tryd.func63, Tryd.ntmps63
    go_wp2
    go_loopw [13] (fun i wr => ∃ k n : Nat, k ≤ a.length ∧ i = .int .i64 k ∧ a.take k = b.take k ∧ wr = w.drewN n)
      (fun i _ => a.length - (intOf i).toNat)
    case atStart => exact ⟨0, 0, Nat.zero_le _, rfl, rfl, rfl⟩
    case round =>
      obtain ⟨k, n, hk, rfl, htk, rfl⟩ := hrel
      have HT := Lib.hid htk
      clear htk
      by_cases hlt : k < a.length
      · obtain ⟨b1, o1, rfl, hb1, hc1⟩ := ha (by omega)
        obtain ⟨b2, o2, rfl, hb2, hc2⟩ := hb (by omega)
        have h1 : (w.drewN n).cell? ⟨b1, o1 + k, none⟩ = some (.int .i64 (a.getD k 0)) := hc1 k hlt
        have h2 : (w.drewN n).cell? ⟨b2, o2 + k, none⟩ = some (.int .i64 (b.getD k 0)) := hc2 k (by omega)
        have hta := Lib.hid (take_snoc a k hlt)
        have htb := Lib.hid (take_snoc b k (by omega))
        have i0 : (0 : Int) ≤ (k : Int) := by omega
        have i1 : (k : Int) < (a.length : Int) := by omega
        have i2 : (k : Int) < (b.length : Int) := by omega
        clear hc1 hc2 ha hb
        generalize hx : a.getD k 0 = x at *
        generalize hy : b.getD k 0 = y at *
        have HX := Lib.hid hx
        have HY := Lib.hid hy
        clear hx hy
        generalize hw1 : w.drewN n = w1 at *
        have HW := Lib.hid hw1
        clear hw1
        by_cases hxy : x = y
        · have hq : (x != y) = false := by simp [hxy]
          have HQ := Lib.hid hxy
          clear hxy
          go_wp2_with fail
          go_quiet (fail)
          go_wp2
          go_roundw
          case rel => exact ⟨k + 1, n + nq, by omega, by go_num, by rw [hta.out, htb.out, HT.out, HQ.out], by rw [← HW.out, World.drewN_drewN]⟩
          case measure => simp [intOf]; omega
        · have hq : (x != y) = true := by simp [hxy]
          have hab : ¬ a = b := fun h => hxy (by rw [← HX.out, ← HY.out, h])
          clear hxy
          go_wp2_with fail
          go_quiet (fail)
          go_wp2
          go_ret
          exact ⟨ret_bool (by simp [hab]), n + nq, by rw [← HW.out, World.drewN_drewN]⟩
      · obtain rfl : k = a.length := by omega
        have hab : a = b := by have := HT.out; rwa [List.take_length, HE.out, List.take_length] at this
        go_wp2
        go_ret
        exact ⟨ret_bool (by simp [hab]), n, rfl⟩
  · have hev : ((a.length : Int) != (b.length : Int)) = true := by simp; omega
    have hne : ¬ a = b := fun h => he (by rw [h])
    go_enter Tryd.func63, Tryd.ntmps63
    go_wp2
    go_ret
    exact ⟨ret_bool (by simp [hne]), 0, rfl⟩

end Go.Proofs.YtjmpilmmgfjpmaaDoor.Sh
-- ShapeOwn
namespace Go.Proofs.YtjmpilmmgfjpmaaDoor.Sh
open Go.RowKit
set_option linter.unusedVariables false

def cellsI (xs : List Int) : Array Value := (xs.map (Value.int .i64)).toArray
/-- Block g is just these numbers, none frozen. -/
def Own (w : World) (g : Nat) (xs : List Int) : Prop := w.heap[g]? = some (.cells (cellsI xs) 3 (0, 0))
section
variable {w w' : World} {g : Nat} {xs : List Int}
theorem Own.lt (h : Own w g xs) : g < w.heap.size := by
  rcases Nat.lt_or_ge g w.heap.size with hlt | hge
  · exact hlt
  · unfold Own at h; rw [Array.getElem?_eq_none hge] at h; cases h
theorem Own.cell (h : Own w g xs) {i : Nat} (hi : i < xs.length) : w.cell? ⟨g, i, none⟩ = some (.int .i64 (xs.getD i 0)) := by
  rw [cell_of_row w g i _ _ _ h]; simp [cellsI, List.getD, hi]
theorem Own.frozen (h : Own w g xs) (i : Nat) : w.frozen? ⟨g, i, none⟩ = false := by
  unfold Own at h
  simp [World.frozen?, h]
theorem cells_made (n : Nat) : madeCells #[Value.int .i64 0] n = cellsI (List.replicate n 0) := by
  apply Array.ext
  · simp [madeCells, cellsI]
  · intro i h1 h2
    simp [madeCells, cellsI, Nat.mod_one]
theorem Own.made (w : World) (n : Nat) : Own (w.alloc (.cells (madeCells #[Value.int .i64 0] n) 3)) w.heap.size (List.replicate n 0) := by
  unfold Own; rw [← cells_made]; exact heap_alloc_new w _
theorem Own.new (w : World) (xs : List Int) : Own (w.alloc (.cells (cellsI xs) 3)) w.heap.size xs := heap_alloc_new w _
theorem Own.drewN (h : Own w g xs) (n : Nat) : Own (w.drewN n) g xs := h
theorem Own.drew (h : Own w g xs) : Own w.drew g xs := h
theorem Own.alloc (h : Own w g xs) (o : Obj) : Own (w.alloc o) g xs := (Below.heap_alloc w o g h.lt).trans h
theorem Own.below {B : Nat} (h : Own w g xs) (hb : Below B w w') (hg : g < B) : Own w' g xs := (hb.block g hg).trans h
theorem Own.far (h : Own w g xs) {p : Addr} (hp : g ≠ p.block) (u : Value) : Own (w.setCell p u) g xs := (Below.heap_setCell w p u g hp).trans h
theorem Own.set_ (h : Own w g xs) (i : Nat) (x : Int) : Own (w.setCell ⟨g, i, none⟩ (.int .i64 x)) g (xs.set i x) := by
  unfold Own at h ⊢
  simp [World.setCell, Array.getElem?_modify, h, cellsI, List.map_set]
theorem Own.ints (h : Own w g xs) : Ints w (some ⟨g, 0, none⟩) xs := fun _ =>
  ⟨g, 0, rfl, h.lt, fun i hi => by rw [Nat.zero_add]; exact h.cell hi⟩
theorem ints_of_own {base : Nat} {v : Value} (h : w.ownsRow base 3 1 v xs.length (xs.map (Value.int .i64))) : ∃ A c, v = .slice A xs.length c ∧ Ints w A xs := by
  have hc := h.cells (g := v.ownBlock.getD 0)
  rcases h.2 with ⟨rfl, h0⟩ | ⟨g, cap, cur, rfl, hb, hg, _⟩
  · exact ⟨none, 0, by rw [h0], fun hp => absurd hp (by omega)⟩
  · refine ⟨some ⟨g, 0, none⟩, cap, rfl, fun _ => ⟨g, 0, rfl, ?_, fun i hi => ?_⟩⟩
    · rcases Nat.lt_or_ge g w.heap.size with hlt | hge
      · exact hlt
      · rw [Array.getElem?_eq_none hge] at hg; cases hg
    · have := hc rfl i (.int .i64 (xs.getD i 0)) (by simp [List.getD, hi])
      have e : ((⟨g, 0, none⟩ : Addr).add i) = ⟨g, 0 + i, none⟩ := Go.WideShapes.add_plain ..
      rw [← e]; exact this
end
theorem infoInt : (Tryd.prog.info? 3).map (fun i => (i.zero, i.size, i.bytes)) = some (some (.int .i64 0), 1, 8) := by kernel_rfl
end Go.Proofs.YtjmpilmmgfjpmaaDoor.Sh
-- ShapeStr
namespace Go.Proofs.YtjmpilmmgfjpmaaDoor.Sh
open Go.RowKit
set_option linter.unusedVariables false

theorem foldl_mul (l : List Int) (x : Int) : l.foldl (· * ·) x = x * l.foldl (· * ·) 1 := by
  induction l generalizing x with
  | nil => simp
  | cons y t ih => simp only [List.foldl_cons]; rw [ih (x * y), ih (1 * y), Int.one_mul, Int.mul_assoc]
theorem prod_cons (x : Int) (l : List Int) : prod (x :: l) = x * prod l := by
  unfold prod; rw [List.foldl_cons, foldl_mul, Int.one_mul]
/-- Of each axis all lengths behind it, multiplied. -/
def strL : List Int → List Int
  | [] => []
  | _ :: t => prod t :: strL t
theorem strL_length (l : List Int) : (strL l).length = l.length := by induction l with | nil => rfl | cons x t ih => simp [strL, ih]
theorem strL_drop (l : List Int) (k : Nat) (h : k < l.length) : (strL l).drop k = prod (l.drop (k + 1)) :: (strL l).drop (k + 1) := by
  induction l generalizing k with
  | nil => simp at h
  | cons x t ih =>
    cases k with
    | zero => simp [strL]
    | succ k => simp only [strL, List.drop_succ_cons]; exact ih k (by simpa using h)
theorem drop_at (l : List Int) (k : Nat) (h : k < l.length) : l.drop k = l.getD k 0 :: l.drop (k + 1) := by
  rw [List.drop_eq_getElem_cons h]; simp [List.getD, h]
def strB (l : List Int) : List Int := if rightB l = true then strL l else []
theorem set_step (l : List Int) (k : Nat) (h : k < l.length) :
    (List.replicate (l.length - k) 0 ++ (strL l).drop (l.length - k)).set (l.length - 1 - k) (prod (l.drop (l.length - k))) = List.replicate (l.length - (k + 1)) 0 ++ (strL l).drop (l.length - (k + 1)) := by
  have e1 : l.length - k = (l.length - 1 - k) + 1 := by omega
  have e2 : l.length - (k + 1) = l.length - 1 - k := by omega
  rw [e2, strL_drop l (l.length - 1 - k) (by omega), ← e1]
  generalize l.length - 1 - k = m at *
  rw [e1, List.replicate_succ', List.append_assoc, List.set_append_right _ _ (by simp)]
  simp

/-- A slice of these numbers is answered; nothing that was there is written. -/
def RetInts (w : World) (xs : List Int) (e : Ending) (w' : World) : Prop := ∃ A c, e = .returned (.slice A xs.length c) ∧ Ints w' A xs ∧ Below w.heap.size w w'

end Go.Proofs.YtjmpilmmgfjpmaaDoor.Sh
-- ShapeIdx
namespace Go.Proofs.YtjmpilmmgfjpmaaDoor.Sh
open Go.RowKit
set_option linter.unusedVariables false

/-- Is it a place of these axes? -/
def inB : List Int → List Int → Bool
  | [], [] => true
  | x :: d, i :: p => decide (0 ≤ i) && decide (i < x) && inB d p
  | _, _ => false
/-- How many places stand ahead, from a start. -/
def hor : List Int → List Int → Int → Int
  | x :: d, i :: p, a => hor d p (a * x + i)
  | _, _, a => a
def idxI (d p : List Int) : Int := if rightB d = true ∧ inB d p = true then hor d p 0 else -1

theorem inB_length {d p : List Int} (h : inB d p = true) : p.length = d.length := by
  induction d generalizing p with
  | nil => cases p with | nil => rfl | cons _ _ => simp [inB] at h
  | cons x d ih => cases p with
    | nil => simp [inB] at h
    | cons i p => simp only [inB, Bool.and_eq_true] at h; simp [ih h.2]
theorem inB_snoc (d p : List Int) (x i : Int) (h : p.length = d.length) : inB (d ++ [x]) (p ++ [i]) = (inB d p && (decide (0 ≤ i) && decide (i < x))) := by
  induction d generalizing p with
  | nil => cases p with | nil => simp [inB] | cons _ _ => simp at h
  | cons y d ih => cases p with
    | nil => simp at h
    | cons j p => simp only [List.cons_append, inB, ih p (by simpa using h), Bool.and_assoc]
theorem hor_snoc (d p : List Int) (x i a : Int) (h : p.length = d.length) : hor (d ++ [x]) (p ++ [i]) a = hor d p a * x + i := by
  induction d generalizing p a with
  | nil => cases p with | nil => simp [hor] | cons _ _ => simp at h
  | cons y d ih => cases p with
    | nil => simp at h
    | cons j p => simp only [List.cons_append, hor, ih p _ (by simpa using h)]
theorem inB_take_false {d p : List Int} {k : Nat} (h : inB (d.take k) (p.take k) = false) (hl : p.length = d.length) : inB d p = false := by
  induction k generalizing d p with
  | zero => simp [inB] at h
  | succ k ih => cases d with
    | nil => cases p with | nil => simp [inB] at h | cons _ _ => simp at hl
    | cons x d => cases p with
      | nil => simp at hl
      | cons i p =>
        simp only [List.take_succ_cons, inB, Bool.and_eq_false_iff] at h ⊢
        rcases h with h | h
        · exact .inl h
        · exact .inr (ih h (by simpa using hl))
theorem hor_bd (d p : List Int) (h : inB d p = true) : 0 ≤ hor d p 0 ∧ hor d p 0 < prod d := by
  have key : ∀ (d p : List Int) (a q : Int), 0 ≤ a → a < q → inB d p = true → 0 ≤ hor d p a ∧ hor d p a < d.foldl (· * ·) q := by
    intro d
    induction d with
    | nil => intro p a q h0 h1 h; cases p with | nil => exact ⟨h0, h1⟩ | cons _ _ => simp [inB] at h
    | cons x d ih =>
      intro p a q h0 h1 h
      cases p with
      | nil => simp [inB] at h
      | cons i p =>
        simp only [inB, Bool.and_eq_true, decide_eq_true_eq] at h
        obtain ⟨⟨hi0, hi1⟩, h⟩ := h
        have hx : 0 ≤ x := by omega
        have h2 : 0 ≤ a * x := Int.mul_nonneg h0 hx
        have h3 : (a + 1) * x ≤ q * x := Int.mul_le_mul_of_nonneg_right (by omega) hx
        rw [Int.add_mul, Int.one_mul] at h3
        exact ih p (a * x + i) (q * x) (by omega) (by omega) h
  exact key d p 0 1 (by omega) (by omega) h
theorem inB_take (d p : List Int) (k : Nat) (hl : p.length = d.length) (hk : k < d.length) : inB (d.take (k + 1)) (p.take (k + 1)) = (inB (d.take k) (p.take k) && (decide (0 ≤ p.getD k 0) && decide (p.getD k 0 < d.getD k 0))) := by
  rw [take_snoc d k hk, take_snoc p k (by omega), inB_snoc _ _ _ _ (by simp [hl])]
theorem hor_take (d p : List Int) (k : Nat) (hl : p.length = d.length) (hk : k < d.length) : hor (d.take (k + 1)) (p.take (k + 1)) 0 = hor (d.take k) (p.take k) 0 * d.getD k 0 + p.getD k 0 := by
  rw [take_snoc d k hk, take_snoc p k (by omega), hor_snoc _ _ _ _ _ (by simp [hl])]
theorem idxI_not {d p : List Int} (h : ¬ rightB d = true) : idxI d p = -1 := by simp [idxI, h]
theorem idxI_len {d p : List Int} (h : ¬ p.length = d.length) : idxI d p = -1 := by
  have : ¬ inB d p = true := fun e => h (inB_length e)
  simp [idxI, this]
theorem idxI_bad {d p : List Int} {k : Nat} (hl : p.length = d.length) (hk : k < d.length) (h : ¬ (0 ≤ p.getD k 0 ∧ p.getD k 0 < d.getD k 0)) : idxI d p = -1 := by
  have : inB d p = false := by
    apply inB_take_false (k := k + 1) _ hl
    rw [inB_take d p k hl hk]
    simp only [Bool.and_eq_false_iff, decide_eq_false_iff_not]
    right; omega
  simp [idxI, this]

def withinB (i n : Int) : Bool := decide (0 ≤ i) && decide (i < n)
end Go.Proofs.YtjmpilmmgfjpmaaDoor.Sh
-- ShapeLives
namespace Go.Proofs.YtjmpilmmgfjpmaaDoor.Sh
open Go.RowKit
set_option linter.unusedVariables false

end Go.Proofs.YtjmpilmmgfjpmaaDoor.Sh
-- ShapeRow
namespace Go.Proofs.YtjmpilmmgfjpmaaDoor.Sh
open Go.RowKit
set_option linter.unusedVariables false

/-- A slice of integers that came in: nil; or a row of 'cap' cells, of which the first 'len' are its elements. -/
def IsRow (k : IntKind) (w : World) (a : Option Addr) (len cap : Nat) (zs : List Int) : Prop :=
  (a = none ∧ len = 0 ∧ cap = 0 ∧ zs = []) ∨
  ∃ x, a = some x ∧ len ≤ cap ∧ cap ≤ maxLen ∧ zs.length = cap ∧ (∀ i, i < zs.length → w.cell? (x.add i) = some (.int k (zs.getD i 0))) ∧ ∀ n ∈ zs, (Lit.int k n).wf = true

theorem IsRow.view {w : World} {a : Option Addr} {len cap : Nat} {zs : List Int} (h : IsRow .i64 w a len cap zs) :
    ∃ l : List Int, l.length = len ∧ l.length ≤ maxLen ∧ Ints w a l ∧ ∀ n ∈ l, (Lit.int .i64 n).wf = true := by
  rcases h with ⟨rfl, rfl, rfl, rfl⟩ | ⟨x, rfl, hl, hm, hz, hc, hw⟩
  · exact ⟨[], rfl, by simp, fun h => absurd h (by simp), by simp⟩
  · refine ⟨zs.take len, by simp; omega, by simp; omega, fun hp => ?_, fun n hn => hw n (List.mem_of_mem_take hn)⟩
    have hlen : (zs.take len).length = len := by simp; omega
    have hp' : 0 < zs.length := by omega
    obtain ⟨b, off, spot⟩ := x
    have h0 := hc 0 hp'
    have hspot : spot = none := by simpa [Addr.add] using World.cell?_spot h0
    subst hspot
    refine ⟨b, off, rfl, World.block_lt_of_cell? w ⟨b, off, none⟩ (by simpa [Addr.add] using h0), fun i hi => ?_⟩
    rw [← Go.WideShapes.add_plain, hc i (by omega)]
    have : i < len := by omega
    simp [this]
end Go.Proofs.YtjmpilmmgfjpmaaDoor.Sh
-- ShapeApp
namespace Go.Proofs.YtjmpilmmgfjpmaaDoor.Sh
open Go.RowKit
set_option linter.unusedVariables false

/-- The value v is a slice of the call's own (blocks from base on) with these numbers. -/
def Mine (w : World) (base : Nat) (v : Value) (xs : List Int) : Prop := w.ownsRow base 3 1 v xs.length (xs.map (Value.int .i64))
theorem Mine.nil (w : World) (base : Nat) : Mine w base (.slice none 0 0) [] := World.ownsRow_nil _ _ _ _
theorem Mine.ints {w : World} {base : Nat} {v : Value} {xs : List Int} (h : Mine w base v xs) : ∃ A c, v = .slice A xs.length c ∧ Ints w A xs := ints_of_own h
theorem Mine.drewN {w : World} {base : Nat} {v : Value} {xs : List Int} (h : Mine w base v xs) (n : Nat) : Mine (w.drewN n) base v xs := h
theorem Mine.mine_block {w : World} {base : Nat} {v : Value} {xs : List Int} (h : Mine w base v xs) : ∀ k, v.ownBlock = some k → base ≤ k := by
  intro k hk
  rcases h.2 with ⟨rfl, _⟩ | ⟨g, cap, cur, rfl, hb, _⟩
  · simp [Value.ownBlock] at hk
  · simp [Value.ownBlock] at hk; omega

theorem wpList_app {ops : Array Oper} {rest : List Oper} {o : Oper} {a : Act} {Q : Exit → Act → World → Prop} {w : World} {y : Int} (hgd : o.guard = none) (s x : Operand)
    (ho : o.op = .call { callee := .builtin .append, args := #[s, x], argTypes := #[22, 22] })
    (base : Nat) (v : Value) (xs : List Int) (hs : a.eval s = v) (hx : a.eval x = .slice (some ⟨w.heap.size, 0, none⟩) 1 1) (hown : Mine w base v xs)
    (hlen : xs.length < 17592186044415) (hbase : base ≤ w.heap.size)
    (h : ∀ v' w', Mine w' base v' (xs ++ [y]) → Below base w w' → wpList Tryd.prog ops Q rest (a.put o.dst v') w') :
    wpList Tryd.prog ops Q (o :: rest) a (w.alloc (.cells #[.int .i64 y] 3)) := by
  obtain ⟨i0, hi, hz0, hz1, hz2⟩ := info_parts infoInt
  refine wpList_append_own _ hgd s x 22 ho base 3 i0 (.int .i64 0) 1 8 Tryd.underlying22 hi hz0 hz1 hz2 rfl (by decide) v xs.length (xs.map (Value.int .i64)) hs (World.ownsRow.alloc hown _)
    ⟨w.heap.size, 0, none⟩ 1 1 [.int .i64 y] hx rfl ?_ ?_ (by unfold maxLen; omega) (by omega) (by simp; omega) ?_
  · intro j u hj
    match j, hj with
    | 0, hj => simp at hj; subst hj; simp [Addr.add]
  · intro u hu; simp at hu; subst hu; rfl
  · intro v' w' h1 h2 _
    refine h v' w' ?_ (((Below.refl _ w).alloc hbase _).grown h2 (by simp; omega) hown.mine_block)
    unfold Mine
    simpa using h1
end Go.Proofs.YtjmpilmmgfjpmaaDoor.Sh
-- ShapeMake1
namespace Go.Proofs.YtjmpilmmgfjpmaaDoor.Sh
open Go.RowKit
set_option linter.unusedVariables false

/-- The list with n in the place of what stands at the axis. -/
def withL (d : List Int) (x n : Int) : List Int := if 0 ≤ x ∧ x < d.length then d.set x.toNat n else d
/-- The list without what stands at the axis. -/
def withoutL (d : List Int) (x : Int) : List Int := if 0 ≤ x ∧ x < d.length then d.eraseIdx x.toNat else d

theorem withL_nil (x n : Int) : withL [] x n = [] := if_neg (by simp only [List.length_nil]; omega)
theorem withoutL_nil (x : Int) : withoutL [] x = [] := if_neg (by simp only [List.length_nil]; omega)
theorem withL_take (d : List Int) (x n : Int) (k : Nat) (hk : k < d.length) : withL (d.take (k + 1)) x n = withL (d.take k) x n ++ [if (k : Int) = x then n else d.getD k 0] := by
  have hl : (d.take k).length = k := by simp; omega
  have hl1 : (d.take (k + 1)).length = k + 1 := by simp; omega
  unfold withL
  rw [hl, hl1, take_snoc d k hk]
  by_cases h : (k : Int) = x
  · subst h
    rw [if_pos (by omega), if_neg (by omega), if_pos rfl, Int.toNat_natCast, List.set_append_right _ _ (by omega)]
    simp [hl]
  · rw [if_neg h]
    by_cases h2 : 0 ≤ x ∧ x < k
    · rw [if_pos (by omega), if_pos h2, List.set_append_left _ _ (by omega)]
    · rw [if_neg (by omega), if_neg h2]
theorem withoutL_take (d : List Int) (x : Int) (k : Nat) (hk : k < d.length) : withoutL (d.take (k + 1)) x = withoutL (d.take k) x ++ if (k : Int) = x then [] else [d.getD k 0] := by
  have hl : (d.take k).length = k := by simp; omega
  have hl1 : (d.take (k + 1)).length = k + 1 := by simp; omega
  unfold withoutL
  rw [hl, hl1, take_snoc d k hk]
  by_cases h : (k : Int) = x
  · subst h
    rw [if_pos (by omega), if_neg (by omega), if_pos rfl, Int.toNat_natCast, List.eraseIdx_append_of_length_le (by omega)]
    simp [hl]
  · rw [if_neg h]
    by_cases h2 : 0 ≤ x ∧ x < k
    · rw [if_pos (by omega), if_pos h2, List.eraseIdx_append_of_lt_length (by omega)]
    · rw [if_neg (by omega), if_neg h2]
theorem withL_len (d : List Int) (x n : Int) : (withL d x n).length = d.length := by unfold withL; split <;> simp
theorem withoutL_len (d : List Int) (x : Int) : (withoutL d x).length ≤ d.length := by unfold withoutL; split <;> simp [List.length_eraseIdx]; split <;> omega

theorem rev_drop (d : List Int) (k : Nat) (h : k < d.length) : (d.drop (d.length - (k + 1))).reverse = (d.drop (d.length - k)).reverse ++ [d.getD (d.length - 1 - k) 0] := by
  rw [show d.length - (k + 1) = d.length - 1 - k from by omega, drop_at d (d.length - 1 - k) (by omega), List.reverse_cons, show d.length - 1 - k + 1 = d.length - k from by omega]

/-- The numbers so far, put down from behind. -/
theorem turn_step (d : List Int) (k : Nat) (h : k < d.length) :
    (List.replicate (d.length - k) 0 ++ (d.take k).reverse).set (d.length - 1 - k) (d.getD k 0) = List.replicate (d.length - (k + 1)) 0 ++ (d.take (k + 1)).reverse := by
  rw [take_snoc d k h, List.reverse_append, List.reverse_singleton]
  have e1 : d.length - k = (d.length - 1 - k) + 1 := by omega
  have e2 : d.length - (k + 1) = d.length - 1 - k := by omega
  rw [e1, e2, List.replicate_succ', List.append_assoc, List.set_append_right _ _ (by simp)]
  simp

end Go.Proofs.YtjmpilmmgfjpmaaDoor.Sh
-- ShapeMake2
namespace Go.Proofs.YtjmpilmmgfjpmaaDoor.Sh
open Go.RowKit
set_option linter.unusedVariables false

def cloneRen : Go.Shelf.Ren := ⟨fun | 15 => 69 | n => n, fun | 22 => 22 | 3 => 3 | 4 => 4 | n => n, fun | n => n⟩
theorem cloneLays : Go.Proofs.Lays2.n15 Tryd.prog cloneRen := {
  mixed := by kernel_rfl
  f15 := Tryd.func69.trans (congrArg some (by kernel_rfl))
  t3 := Tryd.underlying3
  a3 := Tryd.isAgg3
  z3 := Tryd.sizeOf3
  v3 := Tryd.zeroValue3
  t4 := Tryd.underlying4
  a4 := Tryd.isAgg4
  z4 := Tryd.sizeOf4
  v4 := Tryd.zeroValue4
  t22 := Tryd.underlying22
  a22 := Tryd.isAgg22
  z22 := Tryd.sizeOf22
  v22 := Tryd.zeroValue22
  i3 := by kernel_rfl }
def RetMine (w : World) (xs : List Int) (e : Ending) (w' : World) : Prop := ∃ v, e = .returned v ∧ Mine w' w.heap.size v xs ∧ Below w.heap.size w w'
theorem clone_any (A : Option Addr) (c : Nat) (d : List Int) (w : World) (hl : d.length ≤ 100) (hi : Ints w A d) :
    Calls Tryd.prog 69 #[.slice A d.length c] w (RetMine w d) := by
  by_cases h0 : 0 < d.length
  · obtain ⟨b, off, rfl, hb, hcs⟩ := hi h0
    have h : Calls Tryd.prog 69 #[.slice (some ⟨b, off, none⟩) d.length c] w _ := Any.slices_Clone_int cloneLays b off d.length c d w (Nat.le_refl _) (by omega) hcs
    refine h.mono ?_
    rintro e w' ⟨v', rfl, ho, _, hbel⟩
    rw [List.take_length] at ho
    exact ⟨v', rfl, ho, hbel⟩
  · have hd : d = [] := List.eq_nil_of_length_eq_zero (by omega)
    subst hd
    rcases A with _ | a
    · have h : Calls Tryd.prog 69 #[.slice none 0 c] w _ := Any.slices_Clone_int_nil cloneLays 0 c w
      refine h.mono ?_
      rintro e w' ⟨rfl, rfl⟩
      exact ⟨_, rfl, Mine.nil _ _, Below.refl _ _⟩
    · have h : Calls Tryd.prog 69 #[.slice (some a) 0 c] w _ := Any.slices_Clone_int_zero cloneLays a c w
      refine h.mono ?_
      rintro e w' ⟨v', rfl, ho, _, hbel⟩
      exact ⟨v', rfl, ho, hbel⟩

theorem withinB_iff (x : Int) (n : Nat) : withinB x n = true ↔ 0 ≤ x ∧ x < n := by simp [withinB]

theorem below_setCells {B g : Nat} (h : B ≤ g) : ∀ (vs : List Value) (o : Nat) (a w : World), Below B a w → Below B a (w.setCells g o vs)
  | [], _, _, _, hb => hb
  | v :: r, o, a, w, hb => by rw [World.setCells]; exact below_setCells h r (o + 1) a _ (hb.setCell (p := ⟨g, o, none⟩) h v)

theorem deleted_ints (d : List Int) (k : Nat) (hk : k < d.length) (g : Nat) (w1 : World) (q : Nat) (hg : g < w1.heap.size) (hc : ∀ j, j < d.length → w1.cell? ⟨g, 0 + j, none⟩ = some (.int .i64 (d.getD j 0))) :
    Ints ((w1.drewN q).setCells g 0 (((d.take d.length).take k ++ (d.take d.length).drop (k + 1) ++ List.replicate (k + 1 - k) 0).map (Value.int .i64))) (some ⟨g, 0, none⟩) (d.eraseIdx k) := by
  have hlen : ((d.take d.length).take k ++ (d.take d.length).drop (k + 1) ++ List.replicate (k + 1 - k) (0 : Int)).length = d.length := by simp; omega
  intro hp
  have hel : (d.eraseIdx k).length = d.length - 1 := List.length_eraseIdx_of_lt hk
  refine ⟨g, 0, rfl, ?_, fun i hi => ?_⟩
  · have : ∀ (vs : List Value) (o : Nat) (W : World), (W.setCells g o vs).heap.size = W.heap.size := by
      intro vs
      induction vs with
      | nil => intro o W; rfl
      | cons v r ih => intro o W; rw [World.setCells, ih]; simp [World.setCell]
    rw [this]; exact hg
  · have h := World.cell?_setCells_in g (((d.take d.length).take k ++ (d.take d.length).drop (k + 1) ++ List.replicate (k + 1 - k) 0).map (Value.int .i64)) 0 (w1.drewN q) (fun j hj => by
      rw [List.length_map, hlen] at hj
      show (w1.cell? _).isSome = true
      rw [hc j hj]; rfl) i (by rw [List.length_map, hlen]; omega)
    rw [h, List.getElem_map, show (d.eraseIdx k).getD i 0 = (d.eraseIdx k)[i] from by simp [List.getD, hi]]
    congr 2
    rw [List.getElem_append_left (by simp; omega)]
    simp only [List.take_length, List.eraseIdx_eq_take_drop_succ]

end Go.Proofs.YtjmpilmmgfjpmaaDoor.Sh
-- ShapePlace
namespace Go.Proofs.YtjmpilmmgfjpmaaDoor.Sh
open Go.RowKit
set_option linter.unusedVariables false

/-- The numbers of the place whose Index is i. -/
def dg : List Int → Int → List Int
  | [], _ => []
  | x :: t, i => (i / prod t) % x :: dg t i
theorem dg_length (d : List Int) (i : Int) : (dg d i).length = d.length := by induction d with | nil => rfl | cons x t ih => simp [dg, ih]
theorem dg_drop (d : List Int) (i : Int) (k : Nat) (h : k < d.length) : (dg d i).drop k = (i / prod (d.drop (k + 1))) % d.getD k 0 :: (dg d i).drop (k + 1) := by
  induction d generalizing k with
  | nil => simp at h
  | cons x t ih =>
    cases k with
    | zero => simp [dg]
    | succ k => simp only [dg, List.drop_succ_cons]; rw [ih k (by simpa using h)]; simp
/-- Every length is at least one. -/
def posL (d : List Int) : Prop := ∀ x ∈ d, 1 ≤ x
theorem posL_tail {x : Int} {d : List Int} (h : posL (x :: d)) : posL d := fun y hy => h y (List.mem_cons_of_mem _ hy)
theorem prod_pos {d : List Int} (h : posL d) : 1 ≤ prod d := by
  induction d with
  | nil => simp [prod]
  | cons x d ih =>
    rw [prod_cons]
    have h1 := h x List.mem_cons_self
    have h2 := ih (posL_tail h)
    have := Int.mul_le_mul h1 h2 (by omega) (by omega)
    omega
theorem posL_of {d : List Int} (ha : d.all okAx = true) (hp : 0 < prod d) : posL d := by
  induction d with
  | nil => intro x hx; cases hx
  | cons x d ih =>
    simp only [List.all_cons, Bool.and_eq_true] at ha
    have hx := okAx_bd ha.1
    have hd := (prod_bd d ha.2).1
    rw [prod_cons] at hp
    have hx1 : 1 ≤ x := by
      rcases Int.lt_or_le x 1 with h | h
      · have : x = 0 := by omega
        subst this; simp at hp
      · exact h
    have hd1 : 0 < prod d := by
      rcases Int.lt_or_le 0 (prod d) with h | h
      · exact h
      · have : prod d = 0 := by omega
        rw [this] at hp; simp at hp
    intro y hy
    rcases List.mem_cons.1 hy with rfl | hy
    · exact hx1
    · exact ih ha.2 hd1 y hy
theorem dg_in {d : List Int} (h : posL d) (i : Int) : inB d (dg d i) = true := by
  induction d with
  | nil => rfl
  | cons x d ih =>
    have hx := h x List.mem_cons_self
    simp only [dg, inB, Bool.and_eq_true, decide_eq_true_eq]
    exact ⟨⟨Int.emod_nonneg _ (by omega), Int.emod_lt_of_pos _ (by omega)⟩, ih (posL_tail h)⟩
theorem emod_mul_split (i x p : Int) (hx : 0 ≤ x) (hp : 0 ≤ p) : i % (x * p) = (i / p % x) * p + i % p := by
  rw [Int.emod_def i (x * p), Int.emod_def (i / p) x, Int.emod_def i p, Int.mul_comm x p, ← Int.ediv_ediv_of_nonneg hp]
  rw [Int.sub_mul, Int.mul_comm (i / p) p, Int.mul_comm x (i / p / x), Int.mul_assoc (i / p / x) x p, Int.mul_comm (i / p / x) (x * p), Int.mul_comm x p]
  omega
theorem hor_dg {d : List Int} (h : posL d) (i a : Int) : hor d (dg d i) a = a * prod d + i % prod d := by
  induction d generalizing a with
  | nil => simp [hor, prod]
  | cons x d ih =>
    have hx := h x List.mem_cons_self
    have hp := prod_pos (posL_tail h)
    simp only [dg, hor]
    rw [ih (posL_tail h), prod_cons, emod_mul_split i x (prod d) (by omega) (by omega), Int.add_mul, Int.mul_assoc, Int.add_assoc]
theorem idxI_dg {d : List Int} (hr : rightB d = true) (i : Int) (h0 : 0 ≤ i) (h1 : i < prod d) : idxI d (dg d i) = i := by
  have hp := posL_of (rightB_all hr).2.1 (by omega)
  unfold idxI
  rw [if_pos ⟨hr, dg_in hp i⟩, hor_dg hp]
  rw [Int.emod_eq_of_lt h0 h1]; omega
theorem sizeI_pos {d : List Int} {i : Int} (h0 : 0 ≤ i) (h1 : i < sizeI d) : rightB d = true ∧ i < prod d ∧ posL d := by
  unfold sizeI at h1
  by_cases hr : rightB d = true
  · rw [if_pos hr] at h1
    exact ⟨hr, h1, posL_of (rightB_all hr).2.1 (by omega)⟩
  · rw [if_neg hr] at h1; omega
def placeL (d : List Int) (i : Int) : List Int := if 0 ≤ i ∧ i < sizeI d then dg d i else []

/-- Does a place stand behind another one, number by number? -/
def gtB : List Int → List Int → Bool
  | x :: a, y :: b => if x = y then gtB a b else decide (y < x)
  | _, _ => false
theorem hor_lt (d p q : List Int) (a b : Int) (hp : inB d p = true) (hq : inB d q = true) (h : a < b) : hor d p a < hor d q b := by
  induction d generalizing p q a b with
  | nil =>
    cases p with
    | nil => cases q with
      | nil => simpa [hor] using h
      | cons _ _ => simp [inB] at hq
    | cons _ _ => simp [inB] at hp
  | cons x d ih =>
    cases p with
    | nil => simp [inB] at hp
    | cons i p => cases q with
      | nil => simp [inB] at hq
      | cons j q =>
        simp only [inB, Bool.and_eq_true, decide_eq_true_eq] at hp hq
        simp only [hor]
        apply ih p q _ _ hp.2 hq.2
        have hx : 0 ≤ x := by omega
        have h3 : (a + 1) * x ≤ b * x := Int.mul_le_mul_of_nonneg_right (by omega) hx
        rw [Int.add_mul, Int.one_mul] at h3
        omega
theorem gtB_of (d p q : List Int) (a : Int) (hp : inB d p = true) (hq : inB d q = true) (h : hor d q a < hor d p a) : gtB p q = true := by
  induction d generalizing p q a with
  | nil =>
    cases p with
    | nil => cases q with
      | nil => simp [hor] at h
      | cons _ _ => simp [inB] at hq
    | cons _ _ => simp [inB] at hp
  | cons x d ih =>
    cases p with
    | nil => simp [inB] at hp
    | cons i p => cases q with
      | nil => simp [inB] at hq
      | cons j q =>
        simp only [inB, Bool.and_eq_true, decide_eq_true_eq] at hp hq
        simp only [hor] at h
        simp only [gtB]
        by_cases e : i = j
        · rw [if_pos e]; subst e; exact ih p q _ hp.2 hq.2 h
        · rw [if_neg e]
          rcases Int.lt_or_lt_of_ne e with hlt | hgt
          · exact absurd (hor_lt d p q (a * x + i) (a * x + j) hp.2 hq.2 (by omega)) (by omega)
          · simpa using hgt
theorem gtB_dg {d : List Int} (h : posL d) (i : Int) (h0 : 1 ≤ i) (h1 : i < prod d) : gtB (dg d i) (dg d (i - 1)) = true := by
  apply gtB_of d _ _ 0 (dg_in h i) (dg_in h (i - 1))
  rw [hor_dg h, hor_dg h, Int.emod_eq_of_lt (by omega) h1, Int.emod_eq_of_lt (by omega) (by omega)]
  omega

theorem place_step (d : List Int) (i : Int) (k : Nat) (h : k < d.length) :
    (List.replicate (d.length - k) 0 ++ (dg d i).drop (d.length - k)).set (d.length - 1 - k) ((i / prod (d.drop (d.length - k))) % d.getD (d.length - 1 - k) 0) = List.replicate (d.length - (k + 1)) 0 ++ (dg d i).drop (d.length - (k + 1)) := by
  have e1 : d.length - k = (d.length - 1 - k) + 1 := by omega
  have e2 : d.length - (k + 1) = d.length - 1 - k := by omega
  rw [e2, dg_drop d i (d.length - 1 - k) (by omega), ← e1]
  generalize (i / prod (d.drop (d.length - k))) % d.getD (d.length - 1 - k) 0 = y
  generalize d.length - 1 - k = m at *
  rw [e1, List.replicate_succ', List.append_assoc, List.set_append_right _ _ (by simp)]
  simp
theorem div_step (d : List Int) (i : Int) (k : Nat) (h : k < d.length) (hp : posL d) :
    i / prod (d.drop (d.length - (k + 1))) = i / prod (d.drop (d.length - k)) / d.getD (d.length - 1 - k) 0 := by
  rw [show d.length - (k + 1) = d.length - 1 - k from by omega, drop_at d _ (by omega), prod_cons, show d.length - 1 - k + 1 = d.length - k from by omega, Int.mul_comm, Int.ediv_ediv_of_nonneg]
  have := prod_pos (d := d.drop (d.length - k)) (fun x hx => hp x (List.mem_of_mem_drop hx))
  omega

end Go.Proofs.YtjmpilmmgfjpmaaDoor.Sh
-- ShapePick
namespace Go.Proofs.YtjmpilmmgfjpmaaDoor.Sh
open Go.RowKit
set_option linter.unusedVariables false

/-- Has p each number from 0 on, below its length, once? -/
def permB (p : List Int) : Bool := (List.range p.length).all fun n => p.count (n : Int) == 1
def inRange (m : Nat) (x : Int) : Bool := decide (0 ≤ x) && decide (x < m)
/-- How many numbers stand in p from 0 on below m. -/
def sumC (p : List Int) : Nat → Nat
  | 0 => 0
  | m + 1 => sumC p m + p.count (m : Int)
theorem sumC_eq (p : List Int) (m : Nat) : sumC p m = p.countP (inRange m) := by
  induction m with
  | zero =>
    rw [sumC]
    symm
    rw [List.countP_eq_zero]
    intro x _
    simp [inRange]
  | succ m ih =>
    rw [sumC, ih]
    clear ih
    induction p with
    | nil => simp
    | cons x p ih =>
      rw [List.countP_cons, List.countP_cons, List.count_cons, ← ih]
      have e : (if inRange (m + 1) x = true then 1 else 0 : Nat) = (if inRange m x = true then 1 else 0) + (if (x == (m : Int)) = true then 1 else 0) := by
        simp only [inRange, Bool.and_eq_true, decide_eq_true_eq, beq_iff_eq]
        split <;> split <;> split <;> omega
      omega
theorem sumC_ones (p : List Int) (m : Nat) (h : ∀ n, n < m → p.count (n : Int) = 1) : sumC p m = m := by
  induction m with
  | zero => rfl
  | succ m ih => rw [sumC, ih (fun n hn => h n (by omega)), h m (by omega)]
theorem sumC_le (p : List Int) (m : Nat) (h : ∀ n, n < m → p.count (n : Int) ≤ 1) : sumC p m ≤ m := by
  induction m with
  | zero => exact Nat.le_refl _
  | succ m ih => have := ih (fun n hn => h n (by omega)); have := h m (by omega); rw [sumC]; omega
theorem sumC_full (p : List Int) (m : Nat) (h : ∀ n, n < m → p.count (n : Int) ≤ 1) (hs : sumC p m = m) : ∀ n, n < m → p.count (n : Int) = 1 := by
  induction m with
  | zero => intro n hn; omega
  | succ m ih =>
    have h1 := sumC_le p m (fun n hn => h n (by omega))
    have h2 := h m (by omega)
    rw [sumC] at hs
    intro n hn
    rcases Nat.lt_or_ge n m with hlt | hge
    · exact ih (fun n hn => h n (by omega)) (by omega) n hlt
    · have : n = m := by omega
      subst this; omega
theorem permB_iff (p : List Int) : permB p = true ↔ ∀ n, n < p.length → p.count (n : Int) = 1 := by
  simp [permB]
theorem permB_range {p : List Int} (h : permB p = true) : ∀ x ∈ p, 0 ≤ x ∧ x < p.length := by
  have h1 := sumC_ones p p.length ((permB_iff p).1 h)
  rw [sumC_eq] at h1
  have h2 := List.countP_eq_length.1 h1
  intro x hx
  have := h2 x hx
  simpa [inRange] using this
theorem permB_of {p : List Int} (hr : ∀ x ∈ p, 0 ≤ x ∧ x < p.length) (hc : ∀ x : Int, p.count x ≤ 1) : permB p = true := by
  rw [permB_iff]
  apply sumC_full p p.length (fun n _ => hc n)
  rw [sumC_eq, List.countP_eq_length]
  intro x hx
  have := hr x hx
  simpa [inRange] using this
theorem permB_out {p : List Int} {k : Nat} (hk : k < p.length) (h : ¬ (0 ≤ p.getD k 0 ∧ p.getD k 0 < p.length)) : permB p = false := by
  rw [Bool.eq_false_iff]
  intro hp
  apply h
  have := permB_range hp (p.getD k 0) (by simp [List.getD, hk])
  exact this
theorem count_take (p : List Int) (k : Nat) (hk : k < p.length) (x : Int) : (p.take (k + 1)).count x = (p.take k).count x + if p.getD k 0 = x then 1 else 0 := by
  rw [take_snoc p k hk, List.count_append]; simp [List.count_cons]
theorem count_le_of_take (p : List Int) (k : Nat) (x : Int) : (p.take k).count x ≤ p.count x := (List.take_sublist k p).count_le x
theorem permB_twice {p : List Int} {k : Nat} (hk : k < p.length) (h : p.getD k 0 ∈ p.take k) : permB p = false := by
  rw [Bool.eq_false_iff]
  intro hp
  have hr := permB_range hp (p.getD k 0) (by simp [List.getD, hk])
  have h1 : p.count (p.getD k 0) = 1 := by
    have := (permB_iff p).1 hp (p.getD k 0).toNat (by omega)
    rwa [show (((p.getD k 0).toNat : Nat) : Int) = p.getD k 0 from by omega] at this
  have h2 := count_le_of_take p (k + 1) (p.getD k 0)
  rw [count_take p k hk, if_pos rfl] at h2
  have h3 : 0 < (p.take k).count (p.getD k 0) := List.count_pos_iff.2 h
  omega

/-- The numbers of d that stand where p has n. -/
def pk : List Int → List Int → Int → List Int
  | x :: d, y :: p, n => if y = n then x :: pk d p n else pk d p n
  | _, _, _ => []
theorem pk_snoc (d p : List Int) (x y n : Int) (h : p.length = d.length) : pk (d ++ [x]) (p ++ [y]) n = pk d p n ++ if y = n then [x] else [] := by
  induction d generalizing p with
  | nil => cases p with | nil => simp [pk] | cons _ _ => simp at h
  | cons a d ih => cases p with
    | nil => simp at h
    | cons b p =>
      simp only [List.cons_append, pk, ih p (by simpa using h)]
      split <;> simp
theorem pk_take (d p : List Int) (k : Nat) (h : p.length = d.length) (hk : k < d.length) (n : Int) : pk (d.take (k + 1)) (p.take (k + 1)) n = pk (d.take k) (p.take k) n ++ if p.getD k 0 = n then [d.getD k 0] else [] := by
  rw [take_snoc d k hk, take_snoc p k (by omega), pk_snoc _ _ _ _ _ (by simp [h])]
theorem pk_length (d p : List Int) (n : Int) (h : p.length = d.length) : (pk d p n).length = p.count n := by
  induction d generalizing p with
  | nil => cases p with | nil => simp [pk] | cons _ _ => simp at h
  | cons a d ih => cases p with
    | nil => simp at h
    | cons b p =>
      rw [List.count_cons]
      simp only [pk, beq_iff_eq]
      by_cases hb : b = n
      · rw [if_pos hb, if_pos hb, List.length_cons, ih p (by simpa using h)]
      · rw [if_neg hb, if_neg hb, ih p (by simpa using h)]; rfl
/-- What stands at the place n. -/
def pf (d p : List Int) (n : Nat) : Int := (pk d p (n : Int)).getLastD 0
theorem pf_take (d p : List Int) (k : Nat) (h : p.length = d.length) (hk : k < d.length) (n : Nat) : pf (d.take (k + 1)) (p.take (k + 1)) n = if p.getD k 0 = (n : Int) then d.getD k 0 else pf (d.take k) (p.take k) n := by
  unfold pf
  rw [pk_take d p k h hk]
  split
  · simp [List.getLastD_eq_getLast?]
  · rw [List.append_nil]
def pickB (d p : List Int) : List Int := if p.length = d.length ∧ permB p = true then (List.range d.length).map (pf d p) else []
/-- Gathered place by place. -/
def pg (d p : List Int) : Nat → List Int
  | 0 => []
  | n + 1 => pg d p n ++ pk d p (n : Int)
theorem pg_eq (d p : List Int) (h : p.length = d.length) (hp : permB p = true) (n : Nat) (hn : n ≤ d.length) : pg d p n = (List.range n).map (pf d p) := by
  induction n with
  | zero => rfl
  | succ n ih =>
    rw [pg, ih (by omega), List.range_succ, List.map_append]
    congr 1
    have h1 := pk_length d p (n : Int) h
    rw [(permB_iff p).1 hp n (by omega)] at h1
    match hq : pk d p (n : Int), h1 with
    | [x], _ => simp [pf, hq]
theorem pg_length (d p : List Int) (h : p.length = d.length) (hp : permB p = true) (n : Nat) (hn : n ≤ d.length) : (pg d p n).length = n := by rw [pg_eq d p h hp n hn]; simp

/-- A row of ints, or bools, by a function. -/
def fI (n : Nat) (f : Nat → Int) : List Int := (List.range n).map f
theorem fI_set (n : Nat) (f : Nat → Int) (i : Nat) (x : Int) : (fI n f).set i x = fI n fun j => if i = j then x else f j := by
  apply List.ext_getElem
  · simp [fI]
  · intro j h1 h2
    simp only [fI, List.length_set, List.length_map, List.length_range] at h1
    rw [List.getElem_set]
    simp [fI]
theorem fI_congr (n : Nat) (f g : Nat → Int) (h : ∀ j, j < n → f j = g j) : fI n f = fI n g := by
  unfold fI
  apply List.map_congr_left
  intro j hj
  exact h j (by simpa using hj)
theorem fI_zero (n : Nat) : List.replicate n (0 : Int) = fI n fun _ => 0 := by
  simp [fI, List.map_const']

def cellsB (n : Nat) (f : Nat → Bool) : Array Value := ((List.range n).map fun j => Value.bool (f j)).toArray
/-- Block g is just these bools, none frozen. -/
def OwnB (w : World) (g n : Nat) (f : Nat → Bool) : Prop := w.heap[g]? = some (.cells (cellsB n f) 4 (0, 0))
section
variable {w w' : World} {g n : Nat} {f : Nat → Bool}
theorem OwnB.cell (h : OwnB w g n f) {i : Nat} (hi : i < n) : w.cell? ⟨g, i, none⟩ = some (.bool (f i)) := by
  rw [cell_of_row w g i _ _ _ h]; simp [cellsB, hi]
theorem OwnB.frozen (h : OwnB w g n f) (i : Nat) : w.frozen? ⟨g, i, none⟩ = false := by
  unfold OwnB at h
  simp [World.frozen?, h]
theorem OwnB.made (w : World) (n : Nat) : OwnB (w.alloc (.cells (madeCells #[Value.bool false] n) 4)) w.heap.size n (fun _ => false) := by
  have e : madeCells #[Value.bool false] n = cellsB n fun _ => false := by
    apply Array.ext
    · simp [madeCells, cellsB]
    · intro i h1 h2
      simp [madeCells, cellsB, Nat.mod_one]
  unfold OwnB; rw [← e]; exact heap_alloc_new w _
theorem OwnB.set_ (h : OwnB w g n f) (i : Nat) (x : Bool) : OwnB (w.setCell ⟨g, i, none⟩ (.bool x)) g n (fun j => if i = j then x else f j) := by
  have e : (cellsB n f).setIfInBounds i (.bool x) = cellsB n fun j => if i = j then x else f j := by
    apply Array.ext
    · simp [cellsB]
    · intro j h1 h2
      simp only [cellsB, Array.size_setIfInBounds, List.size_toArray, List.length_map, List.length_range] at h1
      rw [Array.getElem_setIfInBounds]
      · simp only [cellsB, List.getElem_toArray, List.getElem_map, List.getElem_range]
        split <;> rfl
      · simpa [cellsB] using h1
  unfold OwnB at h ⊢
  simp only [World.setCell, Array.getElem?_modify, if_true, h, Option.map_some, e]
  rfl
theorem OwnB.drewN (h : OwnB w g n f) (k : Nat) : OwnB (w.drewN k) g n f := h
theorem OwnB.congr {f' : Nat → Bool} (h : OwnB w g n f) (e : ∀ j, j < n → f j = f' j) : OwnB w g n f' := by
  have : cellsB n f = cellsB n f' := by
    unfold cellsB
    congr 1
    apply List.map_congr_left
    intro j hj
    rw [e j (by simpa using hj)]
  unfold OwnB at h ⊢
  rw [← this]; exact h
end
theorem infoBool : (Tryd.prog.info? 4).map (fun i => (i.zero, i.size, i.bytes)) = some (some (.bool false), 1, 1) := by kernel_rfl
end Go.Proofs.YtjmpilmmgfjpmaaDoor.Sh
-- ShapeMake3
namespace Go.Proofs.YtjmpilmmgfjpmaaDoor.Sh
open Go.RowKit
set_option linter.unusedVariables false

/-- The first k numbers are in their range, and none stands twice. -/
def Fine (p : List Int) (k : Nat) : Prop := (∀ x ∈ p.take k, 0 ≤ x ∧ x < p.length) ∧ ∀ x : Int, (p.take k).count x ≤ 1
theorem Fine.next {p : List Int} {k : Nat} (h : Fine p k) (hk : k < p.length) (h0 : 0 ≤ p.getD k 0) (h1 : p.getD k 0 < p.length) (hn : ¬ p.getD k 0 ∈ p.take k) : Fine p (k + 1) := by
  refine ⟨fun x hx => ?_, fun x => ?_⟩
  · rw [take_snoc p k hk, List.mem_append] at hx
    rcases hx with hx | hx
    · exact h.1 x hx
    · rw [List.mem_singleton] at hx; subst hx; exact ⟨h0, h1⟩
  · rw [count_take p k hk]
    have := h.2 x
    split
    · rename_i e
      subst e
      have : (p.take k).count (p.getD k 0) = 0 := List.count_eq_zero.2 hn
      omega
    · omega
theorem Fine.zero (p : List Int) : Fine p 0 := ⟨by simp, by simp⟩
theorem Fine.all {p : List Int} (h : Fine p p.length) : permB p = true := by
  unfold Fine at h
  rw [List.take_length] at h
  exact permB_of h.1 h.2
/-- Which numbers stand among the first k. -/
def metF (p : List Int) (k : Nat) (j : Nat) : Bool := decide ((j : Int) ∈ p.take k)
theorem metF_next (p : List Int) (k : Nat) (hk : k < p.length) (h0 : 0 ≤ p.getD k 0) (j : Nat) : (if (p.getD k 0).toNat = j then true else metF p k j) = metF p (k + 1) j := by
  unfold metF
  rw [take_snoc p k hk]
  by_cases h : (p.getD k 0).toNat = j
  · rw [if_pos h]
    have : (j : Int) = p.getD k 0 := by omega
    simp [this]
  · rw [if_neg h]
    have : ¬ (j : Int) = p.getD k 0 := by omega
    simp only [List.mem_append, List.mem_singleton, this, or_false]

theorem all_succ (p : List Int) (n : Nat) : (List.range (n + 1)).all (fun j => p.count (j : Int) == 1) = ((List.range n).all (fun j => p.count (j : Int) == 1) && (p.count (n : Int) == 1)) := by
  rw [List.range_succ, List.all_append]; simp
theorem permB_stop {p : List Int} {n : Nat} (hn : n < p.length) (h : ¬ p.count (n : Int) = 1) : permB p = false := by
  rw [Bool.eq_false_iff]; intro hp; exact h ((permB_iff p).1 hp n hn)

end Go.Proofs.YtjmpilmmgfjpmaaDoor.Sh
-- ShapeMake4
namespace Go.Proofs.YtjmpilmmgfjpmaaDoor.Sh
open Go.RowKit
set_option linter.unusedVariables false

theorem pickB_no {d p : List Int} (h : ¬ (p.length = d.length ∧ permB p = true)) : pickB d p = [] := if_neg h
theorem pickB_yes {d p : List Int} (h : p.length = d.length) (hp : permB p = true) : pickB d p = fI d.length (pf d p) := if_pos ⟨h, hp⟩
theorem pf_zero (n : Nat) : pf [] [] n = 0 := rfl
theorem pick_step (d p : List Int) (k : Nat) (h : p.length = d.length) (hk : k < d.length) (h0 : 0 ≤ p.getD k 0) :
    (fI d.length (pf (d.take k) (p.take k))).set (p.getD k 0).toNat (d.getD k 0) = fI d.length (pf (d.take (k + 1)) (p.take (k + 1))) := by
  rw [fI_set]
  apply fI_congr
  intro j _
  rw [pf_take d p k h hk]
  by_cases e : p.getD k 0 = (j : Int)
  · rw [if_pos e, if_pos (by omega)]
  · rw [if_neg e, if_neg (by omega)]
theorem perm_at {p : List Int} (h : permB p = true) (k : Nat) (hk : k < p.length) : 0 ≤ p.getD k 0 ∧ p.getD k 0 < p.length :=
  permB_range h (p.getD k 0) (by simp [List.getD, hk])

end Go.Proofs.YtjmpilmmgfjpmaaDoor.Sh
-- ShapeBack1
namespace Go.Proofs.YtjmpilmmgfjpmaaDoor.Sh
open Go.RowKit
set_option linter.unusedVariables false

theorem prod_perm {a b : List Int} (h : a.Perm b) : prod a = prod b := by
  induction h with
  | nil => rfl
  | cons x _ ih => rw [prod_cons, prod_cons, ih]
  | swap x y l => rw [prod_cons, prod_cons, prod_cons, prod_cons, ← Int.mul_assoc, ← Int.mul_assoc, Int.mul_comm y x]
  | trans _ _ ih1 ih2 => rw [ih1, ih2]
theorem all_perm {a b : List Int} (h : a.Perm b) : a.all okAx = b.all okAx := by
  rw [Bool.eq_iff_iff, List.all_eq_true, List.all_eq_true]
  exact ⟨fun k x hx => k x (h.mem_iff.2 hx), fun k x hx => k x (h.mem_iff.1 hx)⟩
theorem sizeI_perm {a b : List Int} (h : a.Perm b) : sizeI a = sizeI b := by
  unfold sizeI rightB
  rw [prod_perm h, all_perm h, h.length_eq]
theorem pg_nil (m : Nat) : pg [] [] m = [] := by
  induction m with
  | zero => rfl
  | succ m ih => rw [pg, ih]; rfl
theorem pg_out (x y : Int) (d p : List Int) (m : Nat) (h : y < 0 ∨ (m : Int) ≤ y) : pg (x :: d) (y :: p) m = pg d p m := by
  induction m with
  | zero => rfl
  | succ m ih => rw [pg, pg, ih (by omega), pk, if_neg (by omega)]
theorem pg_one (x y : Int) (d p : List Int) (m : Nat) (h0 : 0 ≤ y) (h1 : y < m) : (pg (x :: d) (y :: p) m).Perm (x :: pg d p m) := by
  induction m with
  | zero => omega
  | succ m ih =>
    rw [pg, pg, pk]
    by_cases e : y = (m : Int)
    · rw [if_pos e, pg_out x y d p m (by omega)]
      exact List.perm_middle
    · rw [if_neg e]
      exact (ih (by omega)).append_right _
theorem pg_perm (d p : List Int) (m : Nat) (h : p.length = d.length) (hr : ∀ y ∈ p, 0 ≤ y ∧ y < m) : (pg d p m).Perm d := by
  induction d generalizing p with
  | nil => cases p with | nil => rw [pg_nil] | cons _ _ => simp at h
  | cons x d ih => cases p with
    | nil => simp at h
    | cons y p =>
      have hy := hr y List.mem_cons_self
      exact (pg_one x y d p m hy.1 hy.2).trans ((ih p (by simpa using h) (fun z hz => hr z (List.mem_cons_of_mem _ hz))).cons x)
theorem pickB_perm {d p : List Int} (h : p.length = d.length) (hp : permB p = true) : (pickB d p).Perm d := by
  rw [pickB_yes h hp, show fI d.length (pf d p) = pg d p d.length from (pg_eq d p h hp d.length (Nat.le_refl _)).symm]
  exact pg_perm d p d.length h (fun y hy => by have := permB_range hp y hy; omega)

theorem gtB_self (a : List Int) : gtB a a = false := by
  induction a with
  | nil => rfl
  | cons x a ih => simp [gtB, ih]
theorem gtB_at (a b : List Int) (k : Nat) (ht : a.take k = b.take k) (ha : k < a.length) (hb : k < b.length) (hne : ¬ a.getD k 0 = b.getD k 0) : gtB a b = decide (b.getD k 0 < a.getD k 0) := by
  induction k generalizing a b with
  | zero => cases a with
    | nil => simp at ha
    | cons x a => cases b with
      | nil => simp at hb
      | cons y b =>
        simp only [List.getD, List.getElem?_cons_zero, Option.getD_some] at hne ⊢
        simp only [gtB, if_neg hne]
        rfl
  | succ k ih => cases a with
    | nil => simp at ha
    | cons x a => cases b with
      | nil => simp at hb
      | cons y b =>
        simp only [List.take_succ_cons, List.cons.injEq] at ht
        simp only [gtB, if_pos ht.1]
        have := ih a b ht.2 (by simpa using ha) (by simpa using hb) (by simpa using hne)
        simpa using this

/-! The contracts at a length that is told beside the list. -/
end Go.Proofs.YtjmpilmmgfjpmaaDoor.Sh
-- ShapePls1
namespace Go.Proofs.YtjmpilmmgfjpmaaDoor.Sh
open Go.RowKit
set_option linter.unusedVariables false

theorem ediv_add_one {i p : Int} (hp : 0 < p) (h : (i + 1) % p = 0) : (i + 1) / p = i / p + 1 := by
  have h1 := Int.emod_add_mul_ediv (i + 1) p
  have h2 := Int.emod_add_mul_ediv i p
  have h3 := Int.emod_nonneg i (Int.ne_of_gt hp)
  have h4 := Int.emod_lt_of_pos i hp
  rw [h, Int.zero_add] at h1
  have key : p * ((i + 1) / p - i / p) = i % p + 1 := by rw [Int.mul_sub]; omega
  have hpos : 0 < (i + 1) / p - i / p := by
    rcases Int.lt_or_le 0 ((i + 1) / p - i / p) with g | g
    · exact g
    · have := Int.mul_le_mul_of_nonneg_left g (Int.le_of_lt hp)
      rw [Int.mul_zero] at this
      omega
  have hlt : (i + 1) / p - i / p < 2 := by
    rcases Int.lt_or_le ((i + 1) / p - i / p) 2 with g | g
    · exact g
    · have := Int.mul_le_mul_of_nonneg_left g (Int.le_of_lt hp)
      omega
  omega
theorem ediv_same {i p : Int} (hp : 0 < p) (h : (i + 1) % p ≠ 0) : (i + 1) / p = i / p := by
  have h1 := Int.emod_add_mul_ediv (i + 1) p
  have h2 := Int.emod_add_mul_ediv i p
  have h3 := Int.emod_nonneg i (Int.ne_of_gt hp)
  have h4 := Int.emod_lt_of_pos i hp
  have h5 := Int.emod_nonneg (i + 1) (Int.ne_of_gt hp)
  have h6 := Int.emod_lt_of_pos (i + 1) hp
  have key : p * ((i + 1) / p - i / p) = i % p + 1 - (i + 1) % p := by rw [Int.mul_sub]; omega
  have g1 : (i + 1) / p - i / p < 1 := by
    rcases Int.lt_or_le ((i + 1) / p - i / p) 1 with g | g
    · exact g
    · have := Int.mul_le_mul_of_nonneg_left g (Int.le_of_lt hp)
      omega
  have g2 : -1 < (i + 1) / p - i / p := by
    rcases Int.lt_or_le (-1) ((i + 1) / p - i / p) with g | g
    · exact g
    · have := Int.mul_le_mul_of_nonneg_left g (Int.le_of_lt hp)
      omega
  omega
theorem posL_drop {d : List Int} (h : posL d) (k : Nat) : posL (d.drop k) := fun x hx => h x (List.mem_of_mem_drop hx)
theorem posL_at {d : List Int} (h : posL d) {k : Nat} (hk : k < d.length) : 1 ≤ d.getD k 0 := h _ (by simp only [List.getD]; rw [List.getElem?_eq_getElem hk]; exact List.getElem_mem _)
theorem prod_drop (d : List Int) (k : Nat) (hk : k < d.length) : prod (d.drop k) = d.getD k 0 * prod (d.drop (k + 1)) := by rw [drop_at d k hk, prod_cons]
/-- One digit, where what stands behind has gone round. -/
theorem digit_up {d : List Int} (hp : posL d) (i : Int) (k : Nat) (hk : k < d.length) (hc : (i + 1) % prod (d.drop (k + 1)) = 0) :
    (((i / prod (d.drop (k + 1))) % d.getD k 0 + 1 < d.getD k 0) → (i + 1) / prod (d.drop (k + 1)) % d.getD k 0 = (i / prod (d.drop (k + 1))) % d.getD k 0 + 1 ∧ (i + 1) % prod (d.drop k) ≠ 0) ∧
    (¬ ((i / prod (d.drop (k + 1))) % d.getD k 0 + 1 < d.getD k 0) → (i + 1) / prod (d.drop (k + 1)) % d.getD k 0 = 0 ∧ (i + 1) % prod (d.drop k) = 0) := by
  have hx := posL_at hp hk
  have hP := prod_pos (posL_drop hp (k + 1))
  have hsp := emod_mul_split (i + 1) (d.getD k 0) (prod (d.drop (k + 1))) (by omega) (by omega)
  rw [hc, Int.add_zero] at hsp
  rw [prod_drop d k hk, hsp, ediv_add_one (by omega) hc]
  generalize prod (d.drop (k + 1)) = P at *
  generalize d.getD k 0 = x at *
  generalize i / P = q at *
  have h3 := Int.emod_nonneg q (show x ≠ 0 by omega)
  have h4 := Int.emod_lt_of_pos q (show 0 < x by omega)
  constructor
  · intro hlt
    have e : (q + 1) % x = q % x + 1 := by rw [Int.add_emod, Int.emod_eq_of_lt (a := 1) (by omega) (by omega), Int.emod_eq_of_lt (by omega) (by omega)]
    rw [e]
    refine ⟨rfl, ?_⟩
    have := Int.mul_le_mul (show 1 ≤ q % x + 1 by omega) hP (by omega) (by omega)
    omega
  · intro hge
    have e : (q + 1) % x = 0 := by
      have h5 : q % x = x - 1 := by omega
      rw [Int.add_emod, h5]
      by_cases h1 : x = 1
      · subst h1; simp [Int.emod_one]
      · rw [Int.emod_eq_of_lt (a := 1) (by omega) (by omega), show x - 1 + 1 = x from by omega, Int.emod_self]
    rw [e]
    exact ⟨rfl, by simp⟩
/-- Ahead of a digit that has not gone round nothing turns. -/
theorem take_same {d : List Int} (hp : posL d) (i : Int) (k : Nat) (hk : k ≤ d.length) (hc : (i + 1) % prod (d.drop k) ≠ 0) : (dg d (i + 1)).take k = (dg d i).take k := by
  induction d generalizing k with
  | nil => simp [dg]
  | cons x d ih =>
    cases k with
    | zero => simp
    | succ k =>
      simp only [dg, List.take_succ_cons]
      simp only [List.drop_succ_cons] at hc
      rw [ih (posL_tail hp) k (by simpa using hk) hc]
      congr 2
      have hP := prod_pos (posL_tail hp)
      apply ediv_same (by omega)
      intro h0
      apply hc
      have hpd : prod d = prod (d.take k) * prod (d.drop k) := by
        have : ∀ (a b : List Int), prod (a ++ b) = prod a * prod b := by
          intro a b
          induction a with
          | nil => simp [prod_nil]
          | cons y a ih => rw [List.cons_append, prod_cons, prod_cons, ih, Int.mul_assoc]
        rw [← this, List.take_append_drop]
      rw [hpd] at h0
      exact Int.emod_eq_zero_of_dvd (Int.dvd_trans (Int.dvd_mul_left _ _) (Int.dvd_of_emod_eq_zero h0))
/-- The place, half counted up: the first m numbers as they were. -/
def half (d : List Int) (i : Int) (m : Nat) : List Int := (dg d i).take m ++ (dg d (i + 1)).drop m
theorem half_length (d : List Int) (i : Int) (m : Nat) (hm : m ≤ d.length) : (half d i m).length = d.length := by simp [half, dg_length]; omega
theorem half_all (d : List Int) (i : Int) : half d i d.length = dg d i := by
  unfold half
  rw [List.take_of_length_le (by rw [dg_length]; omega), List.drop_of_length_le (by rw [dg_length]; omega), List.append_nil]
theorem half_none (d : List Int) (i : Int) : half d i 0 = dg d (i + 1) := rfl
theorem dg_at (d : List Int) (i : Int) (k : Nat) (hk : k < d.length) : (dg d i).getD k 0 = (i / prod (d.drop (k + 1))) % d.getD k 0 := by
  have h1 := dg_drop d i k hk
  have h2 := drop_at (dg d i) k (by rw [dg_length]; exact hk)
  rw [h1] at h2
  injection h2 with h2 _
  exact h2.symm
theorem half_at (d : List Int) (i : Int) (k : Nat) (hk : k < d.length) : (half d i (k + 1)).getD k 0 = (i / prod (d.drop (k + 1))) % d.getD k 0 := by
  rw [← dg_at d i k hk]
  unfold half
  have : k < (dg d i).length := by rw [dg_length]; exact hk
  have hm : k < min (k + 1) (dg d i).length := by omega
  simp [List.getD, this, List.getElem?_append, hm]
theorem half_set (d : List Int) (i : Int) (k : Nat) (hk : k < d.length) (y : Int) : (half d i (k + 1)).set k y = (dg d i).take k ++ y :: (dg d (i + 1)).drop (k + 1) := by
  unfold half
  rw [take_snoc (dg d i) k (by rw [dg_length]; exact hk), List.append_assoc, List.set_append_right _ _ (by simp [dg_length]; omega)]
  simp [dg_length, Nat.min_eq_left (Nat.le_of_lt hk)]
theorem half_stop {d : List Int} (hp : posL d) (i : Int) (k : Nat) (hk : k < d.length) (hc : (i + 1) % prod (d.drop (k + 1)) = 0) (h : (half d i (k + 1)).getD k 0 + 1 < d.getD k 0) :
    (half d i (k + 1)).set k ((half d i (k + 1)).getD k 0 + 1) = dg d (i + 1) := by
  rw [half_set d i k hk, half_at d i k hk]
  rw [half_at d i k hk] at h
  obtain ⟨e1, e2⟩ := (digit_up hp i k hk hc).1 h
  rw [← e1, ← dg_drop d (i + 1) k hk, ← take_same hp i k (by omega) e2, List.take_append_drop]
theorem half_on {d : List Int} (hp : posL d) (i : Int) (k : Nat) (hk : k < d.length) (hc : (i + 1) % prod (d.drop (k + 1)) = 0) (h : ¬ ((half d i (k + 1)).getD k 0 + 1 < d.getD k 0)) (y : Int) :
    ((half d i (k + 1)).set k y).set k 0 = half d i k ∧ (i + 1) % prod (d.drop k) = 0 := by
  rw [half_at d i k hk] at h
  obtain ⟨e1, e2⟩ := (digit_up hp i k hk hc).2 h
  refine ⟨?_, e2⟩
  rw [List.set_set, half_set d i k hk, ← e1, ← dg_drop d (i + 1) k hk]
  rfl
theorem dg_mod {d : List Int} (hp : posL d) (a h : Int) : dg d (a * prod d + h) = dg d h := by
  induction d generalizing a with
  | nil => rfl
  | cons x d ih =>
    have hx := hp x List.mem_cons_self
    have hP := prod_pos (posL_tail hp)
    simp only [dg]
    rw [prod_cons, ← Int.mul_assoc, ih (posL_tail hp)]
    congr 1
    rw [Int.add_comm, Int.add_mul_ediv_right _ _ (show prod d ≠ 0 by omega), Int.add_comm, Int.add_comm, Int.add_mul_emod_self_right]
theorem hor_add (d p : List Int) (a : Int) (h : inB d p = true) : hor d p a = a * prod d + hor d p 0 := by
  induction d generalizing p a with
  | nil => cases p with | nil => simp [hor, prod] | cons _ _ => simp [inB] at h
  | cons x d ih => cases p with
    | nil => simp [inB] at h
    | cons i p =>
      simp only [inB, Bool.and_eq_true] at h
      simp only [hor]
      rw [ih p (a * x + i) h.2, ih p (0 * x + i) h.2, prod_cons, Int.add_mul, Int.mul_assoc, Int.zero_mul, Int.zero_add, Int.add_assoc]
theorem inB_pos {d p : List Int} (h : inB d p = true) : posL d := by
  induction d generalizing p with
  | nil => intro x hx; cases hx
  | cons x d ih => cases p with
    | nil => simp [inB] at h
    | cons i p =>
      simp only [inB, Bool.and_eq_true, decide_eq_true_eq] at h
      intro y hy
      rcases List.mem_cons.1 hy with rfl | hy
      · omega
      · exact ih h.2 y hy
theorem dg_hor (d p : List Int) (h : inB d p = true) : dg d (hor d p 0) = p := by
  induction d generalizing p with
  | nil => cases p with | nil => rfl | cons _ _ => simp [inB] at h
  | cons x d ih => cases p with
    | nil => simp [inB] at h
    | cons i p =>
      have hpos := inB_pos h
      simp only [inB, Bool.and_eq_true, decide_eq_true_eq] at h
      have hb := hor_bd d p h.2
      have hP := prod_pos (posL_tail hpos)
      have e : hor (x :: d) (i :: p) 0 = i * prod d + hor d p 0 := by
        simp only [hor]
        rw [hor_add d p _ h.2, Int.zero_mul, Int.zero_add]
      rw [e]
      simp only [dg]
      rw [dg_mod (posL_tail hpos), ih p h.2]
      congr 1
      rw [Int.add_comm, Int.add_mul_ediv_right _ _ (show prod d ≠ 0 by omega), Int.ediv_eq_zero_of_lt hb.1 hb.2, Int.zero_add, Int.emod_eq_of_lt h.1.1 h.1.2]
theorem idxI_none {d p : List Int} (h : ∀ j : Nat, (j : Int) < sizeI d → ¬ dg d j = p) : idxI d p = -1 := by
  unfold idxI
  by_cases c : rightB d = true ∧ inB d p = true
  · exfalso
    have hb := hor_bd d p c.2
    have hs : sizeI d = prod d := by simp [sizeI, c.1]
    apply h (hor d p 0).toNat (by omega)
    rw [show (((hor d p 0).toNat : Nat) : Int) = hor d p 0 from by omega]
    exact dg_hor d p c.2
  · exact if_neg c
theorem idxI_found {d p : List Int} (j : Nat) (hj : (j : Int) < sizeI d) (h : dg d j = p) : idxI d p = j := by
  obtain ⟨hr, hip, _⟩ := sizeI_pos (by omega) hj
  rw [← h]; exact idxI_dg hr j (by omega) hip
end Go.Proofs.YtjmpilmmgfjpmaaDoor.Sh
-- ShapePls2
namespace Go.Proofs.YtjmpilmmgfjpmaaDoor.Sh
open Go.RowKit
set_option linter.unusedVariables false

theorem infoRow : (Tryd.prog.info? 22).map (fun i => (i.zero, i.size, i.bytes)) = some (some (.slice none 0 0), 1, 24) := by kernel_rfl
theorem own_lt {w : World} {base : Nat} {e : TypeId} {size : Nat} {v : Value} {n : Nat} {xs : List Value} (h : w.ownsRow base e size v n xs) : ∀ g, v.ownBlock = some g → g < w.heap.size := by
  intro g hg
  rcases h.2 with ⟨rfl, _⟩ | ⟨g', cap, cur, rfl, _, hh, _⟩
  · simp [Value.ownBlock] at hg
  · simp [Value.ownBlock] at hg
    subst hg
    rcases Nat.lt_or_ge g' w.heap.size with hlt | hge
    · exact hlt
    · rw [Array.getElem?_eq_none hge] at hh; cases hh
theorem own_below {w w' : World} {base : Nat} {e : TypeId} {size : Nat} {v : Value} {n : Nat} {xs : List Value} (h : w.ownsRow base e size v n xs) (hb : Below w.heap.size w w') : w'.ownsRow base e size v n xs := by
  have hlt := own_lt h
  refine ⟨h.1, ?_⟩
  rcases h.2 with hn | ⟨g, cap, cur, rfl, hbg, hh, r⟩
  · exact .inl hn
  · exact .inr ⟨g, cap, cur, rfl, hbg, (hb.block g (hlt g rfl)).trans hh, r⟩
theorem Mine.below {w w' : World} {base : Nat} {v : Value} {xs : List Int} (h : Mine w base v xs) (hb : Below w.heap.size w w') : Mine w' base v xs := own_below h hb
theorem Mine.setBelow {w : World} {base : Nat} {v : Value} {xs : List Int} (h : Mine w base v xs) {a : Addr} (ha : a.block < base) (u : Value) : Mine (w.setCell a u) base v xs := ownsRow_setCell_below h ha u
/-- Rows of two element types never share a block. -/
theorem own_apart {w : World} {base base' : Nat} {e e' : TypeId} {size size' : Nat} {v v' : Value} {n n' : Nat} {xs xs' : List Value} (h : w.ownsRow base e size v n xs) (h' : w.ownsRow base' e' size' v' n' xs') (hne : e ≠ e') :
    v.ownBlock = none ∨ v.ownBlock ≠ v'.ownBlock := by
  rcases h.2 with ⟨rfl, _⟩ | ⟨g, cap, cur, rfl, _, hh, _⟩
  · exact .inl rfl
  · rcases h'.2 with ⟨rfl, _⟩ | ⟨g', cap', cur', rfl, _, hh', _⟩
    · right; simp [Value.ownBlock]
    · right
      intro he
      simp [Value.ownBlock] at he
      subst he
      rw [hh] at hh'
      injection hh' with hh'
      injection hh' with _ ht
      exact hne ht

/-- A row of rows that the call made: the t-th is the t-th place. -/
def Outs (d : List Int) (w : World) (base : Nat) (v : Value) (n : Nat) : Prop :=
  ∃ vs : List Value, w.ownsRow base 22 1 v n vs ∧ ∀ (t : Nat) u, vs[t]? = some u → Mine w base u (dg d t)
theorem Outs.nil (d : List Int) (w : World) (base : Nat) : Outs d w base (.slice none 0 0) 0 := ⟨[], World.ownsRow_nil _ _ _ _, by simp⟩
theorem Outs.below {d : List Int} {w w' : World} {base : Nat} {v : Value} {n : Nat} (h : Outs d w base v n) (hb : Below w.heap.size w w') : Outs d w' base v n := by
  obtain ⟨vs, h1, h2⟩ := h
  exact ⟨vs, own_below h1 hb, fun t u hu => (h2 t u hu).below hb⟩
theorem Outs.setBelow {d : List Int} {w : World} {base : Nat} {v : Value} {n : Nat} (h : Outs d w base v n) {a : Addr} (ha : a.block < base) (u : Value) : Outs d (w.setCell a u) base v n := by
  obtain ⟨vs, h1, h2⟩ := h
  exact ⟨vs, ownsRow_setCell_below h1 ha u, fun t x hx => (h2 t x hx).setBelow ha u⟩
theorem Outs.drewN {d : List Int} {w : World} {base : Nat} {v : Value} {n : Nat} (h : Outs d w base v n) (k : Nat) : Outs d (w.drewN k) base v n := h
theorem Outs.drew {d : List Int} {w : World} {base : Nat} {v : Value} {n : Nat} (h : Outs d w base v n) : Outs d w.drew base v n := h

/-- A copy of a row, in a new array. -/
theorem wpList_copy {ops : Array Oper} {rest : List Oper} {o : Oper} {a : Act} {Q : Exit → Act → World → Prop} {w : World} (hgd : o.guard = none) (s x : Operand)
    (ho : o.op = .call { callee := .builtin .append, args := #[s, x], argTypes := #[22, 22] })
    (base : Nat) (g n c : Nat) (xs : List Int) (hs : a.eval s = .slice (some ⟨w.heap.size, 0, none⟩) 0 0) (hx : a.eval x = .slice (some ⟨g, 0, none⟩) n c) (hn : xs.length = n) (hown : Own w g xs)
    (hlen : n ≤ 100) (hbase : base ≤ w.heap.size)
    (h : ∀ A c' w', Mine w' base (.slice A n c') xs → Below w.heap.size w w' → wpList Tryd.prog ops Q rest (a.put o.dst (.slice A n c')) w') :
    wpList Tryd.prog ops Q (o :: rest) a (w.alloc (.cells #[] 3)) := by
  subst hn
  obtain ⟨i0, hi, hz0, hz1, hz2⟩ := info_parts infoInt
  have hmade := World.ownsRow_made (base := base) (e := 3) (size := 1) w #[] 0 hbase (by simp) rfl
  refine wpList_append_own _ hgd s x 22 ho base 3 i0 (.int .i64 0) 1 8 Tryd.underlying22 hi hz0 hz1 hz2 rfl (by decide) _ 0 [] hs hmade
    ⟨g, 0, none⟩ xs.length c (xs.map (Value.int .i64)) hx (by simp) ?_ ?_ (by unfold maxLen; omega) (by omega) (by simp; omega) ?_
  · intro j u hj
    rw [Go.WideShapes.add_plain, Nat.zero_add, World.cell?_alloc_past _ _ _ hown.lt]
    have hjl : j < xs.length := by
      have := (List.getElem?_eq_some_iff.1 hj).1
      simpa using this
    rw [hown.cell hjl]
    rw [List.getElem?_map, List.getElem?_eq_getElem hjl] at hj
    simp at hj
    simp [List.getD, hjl, hj]
  · intro u hu; simp at hu; obtain ⟨y, _, rfl⟩ := hu; rfl
  · intro v' w' h1 h2 _
    simp only [Nat.zero_add, List.nil_append] at h1
    have hm : Mine w' base v' xs := h1
    obtain ⟨A, c', rfl, _⟩ := hm.ints
    exact h A c' w' hm (((Below.refl _ w).alloc (Nat.le_refl _) _).grown h2 (by simp) (fun k hk => by simp [Value.ownBlock] at hk; omega))

end Go.Proofs.YtjmpilmmgfjpmaaDoor.Sh
-- ShapePls3
namespace Go.Proofs.YtjmpilmmgfjpmaaDoor.Sh
open Go.RowKit
set_option linter.unusedVariables false

theorem dg_zero (d : List Int) : dg d 0 = List.replicate d.length 0 := by
  induction d with
  | nil => rfl
  | cons x d ih => simp [dg, ih, List.replicate_succ]

/-- A row of rows is answered: the t-th is the t-th place. -/
def RetOuts (d : List Int) (w : World) (e : Ending) (w' : World) : Prop := ∃ v base, e = .returned v ∧ Outs d w' base v (sizeI d).toNat ∧ Below w.heap.size w w'

/-- The same, with where the rows lie. -/
def RetOutsB (d : List Int) (w : World) (e : Ending) (w' : World) : Prop := ∃ v base, e = .returned v ∧ w.heap.size ≤ base ∧ Outs d w' base v (sizeI d).toNat ∧ Below w.heap.size w w'

end Go.Proofs.YtjmpilmmgfjpmaaDoor.Sh
-- ShapePls4
namespace Go.Proofs.YtjmpilmmgfjpmaaDoor.Sh
open Go.RowKit
set_option linter.unusedVariables false

theorem Outs.view {d : List Int} {w : World} {base : Nat} {v : Value} {n : Nat} (h : Outs d w base v n) :
    ∃ A c, v = .slice A n c ∧ ∀ t, t < n → ∃ b At ct, A = some ⟨b, 0, none⟩ ∧ w.cell? ⟨b, t, none⟩ = some (.slice At d.length ct) ∧ Ints w At (dg d t) := by
  obtain ⟨vs, h1, h2⟩ := h
  have hlen : vs.length = n := by simpa using h1.1
  rcases h1.2 with ⟨rfl, h0⟩ | ⟨g, cap, cur, rfl, _⟩
  · exact ⟨none, 0, by rw [h0], fun t ht => absurd ht (by omega)⟩
  · refine ⟨_, cap, rfl, fun t ht => ?_⟩
    have hc := h1.cellAt t (by omega)
    have hv : vs[t]? = some vs[t] := List.getElem?_eq_getElem (by omega)
    obtain ⟨At, ct, hu, hi⟩ := (h2 t _ hv).ints
    rw [hv, hu, dg_length] at hc
    exact ⟨g, At, ct, rfl, hc, hi⟩
theorem sizeI_bd (d : List Int) : 0 ≤ sizeI d ∧ sizeI d ≤ 64 := by
  unfold sizeI
  split
  · rename_i h; exact ⟨(prod_bd d (rightB_all h).2.1).1, (rightB_all h).2.2⟩
  · omega

theorem strL_take (d : List Int) (k : Nat) (hk : k < d.length) : (strL d).take (k + 1) = (strL d).take k ++ [prod (d.drop (k + 1))] := by
  have hl : k < (strL d).length := by rw [strL_length]; exact hk
  have h1 := strL_drop d k hk
  have h2 := drop_at (strL d) k hl
  rw [h1] at h2
  injection h2 with h2 _
  rw [take_snoc (strL d) k hl, ← h2]
theorem prod_seg (d : List Int) (k m : Nat) (hm : k + m < d.length) : prod ((d.drop k).take (m + 1)) = prod ((d.drop k).take m) * d.getD (k + m) 0 := by
  rw [prod_take _ _ (by simp; omega)]
  congr 1
  simp [List.getD, List.getElem?_drop]

end Go.Proofs.YtjmpilmmgfjpmaaDoor.Sh
