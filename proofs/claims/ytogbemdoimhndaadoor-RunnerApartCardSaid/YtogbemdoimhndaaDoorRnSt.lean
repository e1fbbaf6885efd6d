/-
  A runner with the rows that came: Push lets one more come; rifflelaw14.lives is true. Conditions: the table of traits holds what its text lays; the function joins; rows have the runner's width, at most 64; the numbers have 64 bits.
-/
import Derived.Test.YtogbemdoimhndaaDoorRnNow
set_option maxRecDepth 100000
namespace Go.Proofs.YtogbemdoimhndaaDoor.Rn
open Go.Proofs.YtogbemdoimhndaaDoor.Sh Go.Proofs.YtogbemdoimhndaaDoor.St Go.Proofs.YtogbemdoimhndaaDoor.Fd
open Go.RowKit
set_option linter.unusedVariables false

/-- A runner of width n to which the rows rs came. -/
def Ru (base : Nat) (w : World) (g : Nat) (V : Value) (c : Int) (s : Bool) (n : Nat) (rs : List (List Int)) : Prop := ∃ xs, Rn base w g V c s rs.length xs ∧ xs.length = n ∧ (0 < rs.length → xs = colsI c s n rs)
section
variable {base : Nat} {w w' : World} {g : Nat} {V : Value} {c : Int} {s : Bool} {n : Nat} {rs : List (List Int)} {T : Nat → Prop}
theorem Ru.turn (r : Ru base w g V c s n rs) (hb : Turn T w w') (hT : ∀ b, Tr g V b → ¬ T b) : Ru base w' g V c s n rs := by
  obtain ⟨xs, h1, h2⟩ := r
  exact ⟨xs, h1.turn hb hT, h2⟩
theorem Ru.next (r : Ru base w g V c s n rs) (hb : Below w.heap.size w w') : Ru base w' g V c s n rs := r.turn (Turn.of_below (fun _ => False) hb) fun _ _ h => h
theorem Ru.lt (r : Ru base w g V c s n rs) : ∀ b, Tr g V b → b < w.heap.size ∧ base ≤ b := by
  obtain ⟨xs, h1, h2⟩ := r
  exact h1.lt
theorem ru_new (r : Rn base w g V c s 0 (List.replicate n 0)) : Ru base w g V c s n [] := ⟨_, r, by simp, fun h => absurd h (by simp)⟩
end
/-- What a push tells: the numbers t, and the runner behind it. -/
def RetPu (base g : Nat) (V : Value) (c : Int) (s : Bool) (n : Nat) (rs : List (List Int)) (t : List Int) (w : World) (e : Ending) (w' : World) : Prop :=
  ∃ A cap, e = .returned (.tuple #[.slice A t.length cap, .int .i64 0]) ∧ MineT 2 w' w.heap.size (.slice A t.length cap) t ∧ Ru base w' g V c s n rs ∧ Turn (Tr g V) w w'
theorem push_st (base g : Nat) (V : Value) (c : Int) (s : Bool) (n : Nat) (rs : List (List Int)) (S : Nat → Prop) (B : Option Addr) (cap : Nat) (r : List Int) (w : World) (st : Ru base w g V c s n rs) (hi : SInts S w B r) (hS : ∀ b, S b → ¬ Tr g V b) (hr : r.length = n) (hn : n ≤ 64) (hk : rs.length ≤ 1000) (hj : (Sc.trOf c).joins = true) (hT : ∀ W, Below base w W → Sc.Tab W) (hR : ∀ q ∈ rs, AllR q) (hrR : AllR r) (t : List Int) (ht : colsI c s n (rs ++ [r]) = t) :
    Calls Tryd.prog 43 #[.pointer (some ⟨g, 0, none⟩), .slice B r.length cap] w (RetPu base g V c s n (rs ++ [r]) t w) := by
  obtain ⟨xs, hRn, hx, hc⟩ := st
  have e : (rs ++ [r]).length = rs.length + 1 := by simp
  have htl : t.length = n := by rw [← ht, colsI_len]
  by_cases h0 : rs.length = 0
  · obtain rfl := List.eq_nil_of_length_eq_zero h0
    have h1 : r = t := by rw [← ht, ← hr]; exact (colsI_one c s r).symm
    refine (push_first base g V c s xs S B cap r w hRn hi hS (by omega) (by omega) (by omega) t h1).mono ?_
    rintro e' w' ⟨A, c', rfl, hm, hrn, htn⟩
    exact ⟨A, c', rfl, hm, ⟨t, hrn, htl, fun _ => ht.symm⟩, htn⟩
  · have hx' := hc (by omega)
    refine (push_more base g V c s rs.length xs S B cap r w hRn hi hS (by omega) (by omega) (by omega) t (by rw [hx', colsI_snoc hj s (by omega) hr]; exact ht) (by omega) hT hrR (by rw [hx']; exact colsI_R hR c s n)).mono ?_
    rintro e' w' ⟨A, c', rfl, hm, hrn, htn⟩
    exact ⟨A, c', rfl, hm, ⟨t, by rw [e]; exact hrn, htl, fun _ => ht.symm⟩, htn⟩
/-- Numbers that stand in a new block. -/
theorem lit_seq (w : World) (xs : List Int) (hl : xs.length ≤ maxLen) : SInts (fun b => b = w.heap.size) (w.alloc (.cells (cellsI xs) 2)) (some ⟨w.heap.size, 0, none⟩) xs :=
  Ints.sints (MineT.new 2 w xs 0 (Nat.zero_le _) hl).ints' fun b off e _ => by injection e with e; injection e with e1 _; exact e1.symm
theorem ru_below {w0 w w' : World} {base g : Nat} {V : Value} {c : Int} {s : Bool} {n : Nat} {rs : List (List Int)} (hb : Below w0.heap.size w0 w) (he : w0.heap.size ≤ base) (d : Ru base w g V c s n rs) (t : Turn (Tr g V) w w') : Below w0.heap.size w0 w' :=
  hb.trans (t.below hb.size fun i hi => Nat.le_trans he (d.lt i hi).2)
theorem nums_same (A : Option Addr) (c : Nat) (a : List Int) (B : Option Addr) (d : Nat) (w : World) (hl : a.length ≤ maxLen) (ha : Ints w A a) (hb : Ints w B a) :
    Calls Tryd.prog 38 #[.slice A a.length c, .slice B a.length d] w fun e w' => e = .returned (.bool true) ∧ Below w.heap.size w w' :=
  (nums_any A c a B d a w hl hl ha hb).mono fun e w' ⟨h1, n, h2⟩ => ⟨by simpa using h1, by rw [h2]; exact Sh.below_drewN (Below.refl _ _) n⟩
theorem live_cols : colsI 1 false 2 [[1, 10]] = [1, 10] ∧ colsI 1 false 2 [[1, 10], [2, 20]] = [3, 30] := by
  constructor
  · exact colsI_one 1 false [1, 10]
  · have d : ∀ a b : Int, Sc.doI 1 false a b = wrap64 (a + b) := fun a b => rfl
    show [wrap64 (1 + 2), wrap64 (10 + 20)] = [3, 30]
    rw [Sc.wrap_def, Sc.wrap_def]
    decide
theorem joins1 : (Sc.trOf 1).joins = true := by decide
theorem allR_lit {l : List Int} (h : ∀ x ∈ l, 0 ≤ x ∧ x < 100) : AllR l := fun x hx => by have := h x hx; unfold Sc.InR; omega
set_option maxHeartbeats 4000000 in
theorem lives_any (w : World) (hT : Sc.Tab w) : Calls Tryd.prog 41 #[] w fun e w' => e = .returned (.bool true) ∧ Below w.heap.size w w' := by
  have NW := Lib.hid (new_yes 1 false 2 w hT (by omega) joins1)
  have HT := Lib.hid (fun W (h : Below w.heap.size w W) => hT.below h)
  have LC := Lib.hid live_cols
  clear hT
  go_enter Tryd.func41, Tryd.ntmps41
  go_wp2_with fail
  refine NW.out.mono ?_
  rintro r w1 ⟨g, V, rfl, d1, hb1⟩
  have L1 := Lib.hid hb1
  have b2 := below_new w1 (.cells #[.int .i64 1, .int .i64 10] 2)
  have L2 := Lib.hid (below_next hb1 b2)
  have R2 := Lib.hid (ru_new (d1.next b2))
  have hlt := d1.lt
  have P2 := Lib.hid (push_st w.heap.size g V 1 false 2 [] (fun b => b = w1.heap.size) (some ⟨w1.heap.size, 0, none⟩) 2 [1, 10] (w1.alloc (.cells #[.int .i64 1, .int .i64 10] 2)) R2.out (lit_seq w1 [1, 10] (by unfold maxLen; simp)) (fun b hb ht => by have := (hlt b ht).1; omega) rfl (by omega) (by simp) joins1 (fun W h => HT.out W (L2.out.trans h)) (fun q hq => by simp at hq) (allR_lit (by simp)) [1, 10] LC.out.1)
  clear d1 hb1 b2 hlt
  go_wp2_with fail
  refine P2.out.mono ?_
  rintro r w3 ⟨A3, c3, rfl, m3, r3, t3⟩
  have L3 := Lib.hid (ru_below L2.out (Nat.le_refl _) R2.out t3)
  have b4 := below_new w3 (.cells #[.int .i64 2, .int .i64 20] 2)
  have L4 := Lib.hid (below_next L3.out b4)
  have R4 := Lib.hid (r3.next b4)
  have M4 := Lib.hid (m3.alloc (.cells #[.int .i64 2, .int .i64 20] 2))
  have hlt := r3.lt
  have HX := Lib.hid (fun b hb => (own_base m3 b hb : _))
  have HG := Lib.hid (fun b (ht : Tr g V b) => (R2.out.lt b ht).1)
  have P4 := Lib.hid (push_st w.heap.size g V 1 false 2 ([] ++ [[1, 10]]) (fun b => b = w3.heap.size) (some ⟨w3.heap.size, 0, none⟩) 2 [2, 20] (w3.alloc (.cells #[.int .i64 2, .int .i64 20] 2)) R4.out (lit_seq w3 [2, 20] (by unfold maxLen; simp)) (fun b hb ht => by have := (hlt b ht).1; omega) rfl (by omega) (by simp) joins1 (fun W h => HT.out W (L4.out.trans h)) (fun q hq => by simp at hq; subst hq; exact allR_lit (by simp)) (allR_lit (by simp)) [3, 30] LC.out.2)
  clear m3 r3 t3 b4 hlt
  go_wp2_with fail
  refine P4.out.mono ?_
  rintro r w5 ⟨A5, c5, rfl, m5, r5, t5⟩
  have L5 := Lib.hid (ru_below L4.out (Nat.le_refl _) R4.out t5)
  have M5 := Lib.hid m5
  have M3 := Lib.hid (own_turn M4.out t5 fun b hb ht => by have h1 := HX.out b hb; have h2 := HG.out b ht; omega)
  have b6 := below_new w5 (.cells #[.int .i64 1, .int .i64 10] 2)
  have M53 := Lib.hid (show MineT 2 w5 _ _ [1, 10] from M3.out)
  have N6 := Lib.hid (nums_same A3 c3 [1, 10] (some ⟨w5.heap.size, 0, none⟩) 2 (w5.alloc (.cells #[.int .i64 1, .int .i64 10] 2)) (by unfold maxLen; simp) (M53.out.alloc _).ints' (lit_seq w5 [1, 10] (by unfold maxLen; simp)).ints)
  have L6 := Lib.hid (below_next L5.out b6)
  have M6 := Lib.hid (M5.out.alloc (.cells #[.int .i64 1, .int .i64 10] 2))
  clear m5 r5 t5 b6
  go_wp2_with fail
  refine N6.out.mono ?_
  rintro r w7 ⟨rfl, hb7⟩
  have b8 := below_new w7 (.cells #[.int .i64 3, .int .i64 30] 2)
  have N8 := Lib.hid (nums_same A5 c5 [3, 30] (some ⟨w7.heap.size, 0, none⟩) 2 (w7.alloc (.cells #[.int .i64 3, .int .i64 30] 2)) (by unfold maxLen; simp) ((M6.out.below hb7 (Nat.le_refl _)).alloc _).ints' (lit_seq w7 [3, 30] (by unfold maxLen; simp)).ints)
  have L8 := Lib.hid (below_next (below_next L6.out hb7) b8)
  clear hb7 b8
  go_wp2_with fail
  refine N8.out.mono ?_
  rintro r w9 ⟨rfl, hb9⟩
  have L9 := Lib.hid (below_next L8.out hb9)
  clear hb9
  go_wp2
  go_ret
  exact ⟨rfl, L9.out⟩
end Go.Proofs.YtogbemdoimhndaaDoor.Rn
