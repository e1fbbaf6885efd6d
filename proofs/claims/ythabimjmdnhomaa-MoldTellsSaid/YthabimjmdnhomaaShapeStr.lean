/-
  What shape.Strides answers for any axes: the products of the lengths behind each axis, nothing of axes that may not be; nothing that was there is written. Condition: the slice is no longer than an int can say.
-/
import Derived.Test.YthabimjmdnhomaaProg
import Derived.Test.YthabimjmdnhomaaShapeProd
import Derived.Test.YthabimjmdnhomaaShapeOwn
namespace Go.Proofs.Ythabimjmdnhomaa.Sh
open Go.RowKit
set_option linter.unusedVariables false

theorem foldl_mul (l : List Int) (x : Int) : l.foldl (· * ·) x = x * l.foldl (· * ·) 1 := by
  induction l generalizing x with
  | nil => simp
  | cons y t ih => simp only [List.foldl_cons]; rw [ih (x * y), ih (1 * y), Int.one_mul, Int.mul_assoc]
theorem prod_cons (x : Int) (l : List Int) : prod (x :: l) = x * prod l := by
  unfold prod; rw [List.foldl_cons, foldl_mul, Int.one_mul]
/-- Of each axis all lengths behind it, multiplied. -/
def strL : List Int → List Int
  | [] => []
  | _ :: t => prod t :: strL t
theorem strL_length (l : List Int) : (strL l).length = l.length := by induction l with | nil => rfl | cons x t ih => simp [strL, ih]
theorem strL_drop (l : List Int) (k : Nat) (h : k < l.length) : (strL l).drop k = prod (l.drop (k + 1)) :: (strL l).drop (k + 1) := by
  induction l generalizing k with
  | nil => simp at h
  | cons x t ih =>
    cases k with
    | zero => simp [strL]
    | succ k => simp only [strL, List.drop_succ_cons]; exact ih k (by simpa using h)
theorem drop_at (l : List Int) (k : Nat) (h : k < l.length) : l.drop k = l.getD k 0 :: l.drop (k + 1) := by
  rw [List.drop_eq_getElem_cons h]; simp [List.getD, h]
def strB (l : List Int) : List Int := if rightB l = true then strL l else []
theorem set_step (l : List Int) (k : Nat) (h : k < l.length) :
    (List.replicate (l.length - k) 0 ++ (strL l).drop (l.length - k)).set (l.length - 1 - k) (prod (l.drop (l.length - k))) = List.replicate (l.length - (k + 1)) 0 ++ (strL l).drop (l.length - (k + 1)) := by
  have e1 : l.length - k = (l.length - 1 - k) + 1 := by omega
  have e2 : l.length - (k + 1) = l.length - 1 - k := by omega
  rw [e2, strL_drop l (l.length - 1 - k) (by omega), ← e1]
  generalize l.length - 1 - k = m at *
  rw [e1, List.replicate_succ', List.append_assoc, List.set_append_right _ _ (by simp)]
  simp

/-- A slice of these numbers is answered; nothing that was there is written. -/
def RetInts (w : World) (xs : List Int) (e : Ending) (w' : World) : Prop := ∃ A c, e = .returned (.slice A xs.length c) ∧ Ints w' A xs ∧ Below w.heap.size w w'

set_option maxHeartbeats 1000000 in
theorem strides_any (A : Option Addr) (c : Nat) (l : List Int) (w : World) (hl : l.length ≤ maxLen) (hi : Ints w A l) :
    Calls Try.prog 44 #[.slice A l.length c] w (RetInts w (strB l)) := by
  have hR0 := right_any A c l w hl hi
  unfold maxLen at hl
  by_cases hR : rightB l = true
  · obtain ⟨h3, hall, h64⟩ := rightB_all hR
    have HS : strB l = strL l := by simp [strB, hR]
    rw [HS]
    rw [hR] at hR0
    have HR := Lib.hid hR0
    have HA := Lib.hid hall
    clear hR hall HS hR0
    have hmk := fun W => run_make_row' (P := Try.prog) 22 3 (.int .i64 0) 8 Try.underlying22 infoInt rfl .i64 .i64 l.length (by omega) (by omega) W
    go_enter Try.func44, Try.ntmps44
    go_wp2_with (go_at_call 36; refine HR.out.mono ?_; rintro e w1 ⟨rfl, hb1⟩)
    go_loopw [4, 15] (fun s i wr => ∃ k : Nat, k ≤ l.length ∧ i = .int .i64 k ∧ s = .int .i64 (prod (l.drop (l.length - k))) ∧ Own wr w1.heap.size (List.replicate (l.length - k) 0 ++ (strL l).drop (l.length - k)) ∧ Below w.heap.size w wr)
      (fun _ i _ => l.length - (intOf i).toNat)
    case atStart => exact ⟨0, Nat.zero_le _, rfl, by rw [Nat.sub_zero, List.drop_length]; rfl, by rw [Nat.sub_zero, List.drop_of_length_le (by rw [strL_length]; omega), List.append_nil]; exact Own.made _ _, hb1.alloc hb1.size _⟩
    case round =>
      obtain ⟨k, hk, rfl, rfl, hown, hbel⟩ := hrel
      by_cases hlt : k < l.length
      · obtain ⟨b, off, rfl, hb, hcs⟩ := hi (by omega)
        have hck := (hbel.cell (p := ⟨b, off + (l.length - 1 - k), none⟩) hb).trans (hcs (l.length - 1 - k) (by omega))
        have hcw := hown.cell (i := l.length - 1 - k) (by simp [strL_length]; omega)
        have hfw := hown.frozen (l.length - 1 - k)
        have hset := Lib.hid (hown.set_ (l.length - 1 - k) (prod (l.drop (l.length - k))))
        have hst := Lib.hid (set_step l k hlt)
        have hbel' := Lib.hid hbel
        have hg1 := hb1.size
        clear hown hbel hcs hi
        have et : ((l.length : Int) - 1 - (k : Int)).toNat = l.length - 1 - k := by omega
        have e0 : (0 : Int) ≤ (l.length : Int) - 1 - (k : Int) := by omega
        have hxb := okAx_at HA.out (l.length - 1 - k) (by omega)
        have hpb := prod_bd (l.drop (l.length - k)) (by rw [List.all_eq_true]; intro x hx; exact List.all_eq_true.1 HA.out x (List.mem_of_mem_drop hx))
        have hp0 := hpb.1
        have hp1 := hpb.2.2.1 (by simp; omega)
        have hm := mul_bd hp0 hp1 hxb.1 hxb.2
        have hpr : prod (l.drop (l.length - (k + 1))) = prod (l.drop (l.length - k)) * l.getD (l.length - 1 - k) 0 := by
          rw [show l.length - (k + 1) = l.length - 1 - k from by omega, drop_at l _ (by omega), prod_cons, Int.mul_comm, show l.length - 1 - k + 1 = l.length - k from by omega]
        have HP := Lib.hid hpr
        clear hpb hpr
        generalize l.getD (l.length - 1 - k) 0 = x at *
        generalize prod (l.drop (l.length - k)) = q at *
        go_wp2_with fail
        go_roundw
        case rel => exact ⟨k + 1, by omega, by go_num, by rw [HP.out], by rw [← hst.out]; exact hset.out, hbel'.out.setCell hb1.size _⟩
        case measure => simp [intOf]; omega
      · obtain rfl : k = l.length := by omega
        rw [Nat.sub_self, List.drop_zero, List.replicate_zero, List.nil_append] at hown
        have HO := Lib.hid hown
        clear hown
        go_wp2
        go_ret
        exact ⟨some ⟨w1.heap.size, 0, none⟩, l.length, by rw [strL_length]; rfl, HO.out.ints, hbel⟩
  · have HS : strB l = [] := by simp [strB, hR]
    rw [HS]
    have hR' : rightB l = false := by simpa using hR
    rw [hR'] at hR0
    have HR := Lib.hid hR0
    clear hR0 hR hR' HS
    go_enter Try.func44, Try.ntmps44
    go_wp2_with (go_at_call 36; refine HR.out.mono ?_; rintro e w1 ⟨rfl, hb1⟩)
    go_ret
    exact ⟨none, 0, rfl, fun h => absurd h (by simp), hb1⟩
end Go.Proofs.Ythabimjmdnhomaa.Sh
