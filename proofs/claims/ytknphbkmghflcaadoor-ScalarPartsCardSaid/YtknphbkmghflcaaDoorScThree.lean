/-
  What rifflelaw04.three answers of any function and any three numbers; that a function which joins makes the same of three numbers, whichever two are taken first, and that its unit changes nothing. Conditions: the table of traits holds what its text lays; the numbers have 64 bits.
-/
import Derived.Test.YtknphbkmghflcaaDoorScCard
namespace Go.Proofs.YtknphbkmghflcaaDoor.Sc
open Go.RowKit
set_option linter.unusedVariables false

theorem twoI_1 (a b : Int) : twoI 1 a b = wrap64 (a + b) := by
  unfold twoI
  rw [if_pos rfl]
theorem twoI_2 (a b : Int) : twoI 2 a b = wrap64 (a - b) := by
  unfold twoI
  rw [if_neg (by decide), if_pos rfl]
theorem twoI_3 (a b : Int) : twoI 3 a b = wrap64 (a * b) := by
  unfold twoI
  rw [if_neg (by decide), if_neg (by decide), if_pos rfl]
theorem twoI_4 (a b : Int) : twoI 4 a b = overI a b := by
  unfold twoI
  rw [if_neg (by decide), if_neg (by decide), if_neg (by decide), if_pos rfl]
theorem twoI_5 (a b : Int) : twoI 5 a b = powI a b := by
  unfold twoI
  rw [if_neg (by decide), if_neg (by decide), if_neg (by decide), if_neg (by decide), if_pos rfl]
theorem twoI_6 (a b : Int) : twoI 6 a b = restI a b := by
  unfold twoI
  rw [if_neg (by decide), if_neg (by decide), if_neg (by decide), if_neg (by decide), if_neg (by decide), if_pos rfl]
theorem twoI_7 (a b : Int) : twoI 7 a b = max a b := by
  unfold twoI
  rw [if_neg (by decide), if_neg (by decide), if_neg (by decide), if_neg (by decide), if_neg (by decide), if_neg (by decide), if_pos rfl]
theorem twoI_8 (a b : Int) : twoI 8 a b = min a b := by
  unfold twoI
  rw [if_neg (by decide), if_neg (by decide), if_neg (by decide), if_neg (by decide), if_neg (by decide), if_neg (by decide), if_neg (by decide), if_pos rfl]
theorem twoI_9 (a b : Int) : twoI 9 a b = (if a = b then 1 else 0) := by
  unfold twoI
  rw [if_neg (by decide), if_neg (by decide), if_neg (by decide), if_neg (by decide), if_neg (by decide), if_neg (by decide), if_neg (by decide), if_neg (by decide), if_pos rfl]
theorem twoI_10 (a b : Int) : twoI 10 a b = (if ¬ a = b then 1 else 0) := by
  unfold twoI
  rw [if_neg (by decide), if_neg (by decide), if_neg (by decide), if_neg (by decide), if_neg (by decide), if_neg (by decide), if_neg (by decide), if_neg (by decide), if_neg (by decide), if_pos rfl]
theorem twoI_11 (a b : Int) : twoI 11 a b = (if a < b then 1 else 0) := by
  unfold twoI
  rw [if_neg (by decide), if_neg (by decide), if_neg (by decide), if_neg (by decide), if_neg (by decide), if_neg (by decide), if_neg (by decide), if_neg (by decide), if_neg (by decide), if_neg (by decide), if_pos rfl]
theorem twoI_12 (a b : Int) : twoI 12 a b = (if a ≤ b then 1 else 0) := by
  unfold twoI
  rw [if_neg (by decide), if_neg (by decide), if_neg (by decide), if_neg (by decide), if_neg (by decide), if_neg (by decide), if_neg (by decide), if_neg (by decide), if_neg (by decide), if_neg (by decide), if_neg (by decide), if_pos rfl]
theorem twoI_13 (a b : Int) : twoI 13 a b = (if b < a then 1 else 0) := by
  unfold twoI
  rw [if_neg (by decide), if_neg (by decide), if_neg (by decide), if_neg (by decide), if_neg (by decide), if_neg (by decide), if_neg (by decide), if_neg (by decide), if_neg (by decide), if_neg (by decide), if_neg (by decide), if_neg (by decide), if_pos rfl]
theorem twoI_14 (a b : Int) : twoI 14 a b = (if b ≤ a then 1 else 0) := by
  unfold twoI
  rw [if_neg (by decide), if_neg (by decide), if_neg (by decide), if_neg (by decide), if_neg (by decide), if_neg (by decide), if_neg (by decide), if_neg (by decide), if_neg (by decide), if_neg (by decide), if_neg (by decide), if_neg (by decide), if_neg (by decide), if_pos rfl]
theorem twoI_15 (a b : Int) : twoI 15 a b = bits .and .i64 a b := by
  unfold twoI
  rw [if_neg (by decide), if_neg (by decide), if_neg (by decide), if_neg (by decide), if_neg (by decide), if_neg (by decide), if_neg (by decide), if_neg (by decide), if_neg (by decide), if_neg (by decide), if_neg (by decide), if_neg (by decide), if_neg (by decide), if_neg (by decide), if_pos rfl]
theorem twoI_16 (a b : Int) : twoI 16 a b = bits .or .i64 a b := by
  unfold twoI
  rw [if_neg (by decide), if_neg (by decide), if_neg (by decide), if_neg (by decide), if_neg (by decide), if_neg (by decide), if_neg (by decide), if_neg (by decide), if_neg (by decide), if_neg (by decide), if_neg (by decide), if_neg (by decide), if_neg (by decide), if_neg (by decide), if_neg (by decide), if_pos rfl]
theorem twoI_17 (a b : Int) : twoI 17 a b = a := by
  unfold twoI
  rw [if_neg (by decide), if_neg (by decide), if_neg (by decide), if_neg (by decide), if_neg (by decide), if_neg (by decide), if_neg (by decide), if_neg (by decide), if_neg (by decide), if_neg (by decide), if_neg (by decide), if_neg (by decide), if_neg (by decide), if_neg (by decide), if_neg (by decide), if_neg (by decide), if_pos rfl]
theorem twoI_18 (a b : Int) : twoI 18 a b = b := by
  unfold twoI
  rw [if_neg (by decide), if_neg (by decide), if_neg (by decide), if_neg (by decide), if_neg (by decide), if_neg (by decide), if_neg (by decide), if_neg (by decide), if_neg (by decide), if_neg (by decide), if_neg (by decide), if_neg (by decide), if_neg (by decide), if_neg (by decide), if_neg (by decide), if_neg (by decide), if_neg (by decide), if_pos rfl]
theorem joins_cases {c : Int} (h : (trOf c).joins = true) : c = 1 ∨ c = 3 ∨ c = 7 ∨ c = 8 ∨ c = 15 ∨ c = 16 ∨ c = 17 ∨ c = 18 := by
  by_cases h1 : 1 ≤ c ∧ c ≤ 19
  · obtain ⟨k, rfl⟩ : ∃ k : Nat, c = k := ⟨c.toNat, by omega⟩
    have hk : ∀ k : Nat, k < 20 → (trL.getD k noTr).joins = true → k = 1 ∨ k = 3 ∨ k = 7 ∨ k = 8 ∨ k = 15 ∨ k = 16 ∨ k = 17 ∨ k = 18 := by decide
    have e : trOf (k : Int) = trL.getD k noTr := trOf_in h1.1 h1.2
    rw [e] at h
    have := hk k (by omega) h
    omega
  · rw [trOf_out (c := c) (by omega)] at h
    cases h
theorem two_assoc {c : Int} (h : (trOf c).joins = true) (a b e : Int) : twoI c a (twoI c b e) = twoI c (twoI c a b) e := by
  rcases joins_cases h with h | h | h | h | h | h | h | h <;> subst h
  · rw [twoI_1, twoI_1, twoI_1, twoI_1, wrap_add_r, wrap_add_l, Int.add_assoc]
  · rw [twoI_3, twoI_3, twoI_3, twoI_3, wrap_mul_r, wrap_mul_l, Int.mul_assoc]
  · rw [twoI_7, twoI_7, twoI_7, twoI_7]; omega
  · rw [twoI_8, twoI_8, twoI_8, twoI_8]; omega
  · rw [twoI_15, twoI_15, twoI_15, twoI_15, and_assoc]
  · rw [twoI_16, twoI_16, twoI_16, twoI_16, or_assoc]
  · rw [twoI_17, twoI_17, twoI_17]
  · rw [twoI_18, twoI_18, twoI_18]
theorem do_assoc {c : Int} (h : (trOf c).joins = true) (s : Bool) (a b e : Int) : doI c s a (doI c s b e) = doI c s (doI c s a b) e := by
  unfold doI
  cases s
  · exact two_assoc h a b e
  · exact (two_assoc h e b a).symm
theorem unit_two {c : Int} (h : (trOf c).joins = true) (hs : (trOf c).starts = true) {a : Int} (ha : InR a) : twoI c (trOf c).unit a = a ∧ twoI c a (trOf c).unit = a := by
  rcases joins_cases h with h | h | h | h | h | h | h | h <;> subst h
  · rw [show (trOf 1).unit = 0 from rfl, twoI_1, twoI_1, Int.zero_add, Int.add_zero]; exact ⟨wrap_in ha, wrap_in ha⟩
  · rw [show (trOf 3).unit = 1 from rfl, twoI_3, twoI_3, Int.one_mul, Int.mul_one]; exact ⟨wrap_in ha, wrap_in ha⟩
  · rw [show (trOf 7).unit = -9223372036854775808 from rfl, twoI_7, twoI_7]; unfold InR at ha; omega
  · rw [show (trOf 8).unit = 9223372036854775807 from rfl, twoI_8, twoI_8]; unfold InR at ha; omega
  · rw [show (trOf 15).unit = -1 from rfl, twoI_15, twoI_15]; exact and_unit ha
  · rw [show (trOf 16).unit = 0 from rfl, twoI_16, twoI_16]; exact or_unit ha
  · cases hs
  · cases hs
theorem unit_do {c : Int} (h : (trOf c).joins = true) (hs : (trOf c).starts = true) (s : Bool) {a : Int} (ha : InR a) : doI c s (trOf c).unit a = a ∧ doI c s a (trOf c).unit = a := by
  have := unit_two h hs ha
  unfold doI
  cases s
  · exact this
  · exact ⟨this.2, this.1⟩
theorem unit_R (c : Int) : InR (trOf c).unit := by
  by_cases h1 : 1 ≤ c ∧ c ≤ 19
  · obtain ⟨k, rfl⟩ : ∃ k : Nat, c = k := ⟨c.toNat, by omega⟩
    have hk : ∀ k : Nat, k < 20 → -9223372036854775808 ≤ (trL.getD k noTr).unit ∧ (trL.getD k noTr).unit ≤ 9223372036854775807 := by decide
    rw [trOf_in h1.1 h1.2]
    exact hk k (by omega)
  · rw [trOf_out (c := c) (by omega)]; unfold InR noTr; decide
theorem joins_has {c : Int} (h : (trOf c).joins = true) : hasB c 2 = true := by
  rcases joins_cases h with h | h | h | h | h | h | h | h <;> subst h <;> decide

theorem do_w (c : Int) (s : Bool) (a b x : Int) (w : World) (h : doI c s a b = x) (hT : Tab w) (ha : InR a) (hb : InR b) : Calls Tryd.prog 10 #[.agg #[.int .i64 c, .bool s], .int .i64 a, .int .i64 b] w fun e w' => e = .returned (.tuple #[.int .i64 x, .bool (twoB c)]) ∧ Below w.heap.size w w' := by
  subst h; exact do_any c s a b w hT ha hb
theorem keepFn {W w1 : World} {g : Nat} {x y : Value} (hb : Below W.heap.size W w1) (h : W.cell? ⟨g, 0, none⟩ = some x ∧ W.cell? ⟨g, 1, none⟩ = some y) :
    w1.cell? ⟨g, 0, none⟩ = some x ∧ w1.cell? ⟨g, 1, none⟩ = some y :=
  ⟨(hb.cell (p := ⟨g, 0, none⟩) (World.block_lt_of_cell? W ⟨g, 0, none⟩ h.1)).trans h.1, (hb.cell (p := ⟨g, 1, none⟩) (World.block_lt_of_cell? W ⟨g, 0, none⟩ h.1)).trans h.2⟩
set_option maxHeartbeats 2000000 in
theorem three_any (c : Int) (s : Bool) (a b d x y : Int) (w : World) (hT : Tab w) (ha : InR a) (hb : InR b) (hd : InR d) (hx : doI c s a (doI c s b d) = x) (hy : doI c s (doI c s a b) d = y) :
    Calls Tryd.prog 22 #[.agg #[.int .i64 c, .bool s], .int .i64 a, .int .i64 b, .int .i64 d] w fun e w' => e = .returned (.tuple #[.int .i64 x, .int .i64 y]) ∧ Below w.heap.size w w' := by
  have hB : Below w.heap.size w (w.alloc (.cells #[.int .i64 c, .bool s] 23)) := (Below.refl _ w).alloc (Nat.le_refl _) _
  have hS : (w.alloc (.cells #[.int .i64 c, .bool s] 23)).cell? ⟨w.heap.size, 0, none⟩ = some (.int .i64 c) ∧ (w.alloc (.cells #[.int .i64 c, .bool s] 23)).cell? ⟨w.heap.size, 1, none⟩ = some (.bool s) :=
    ⟨by rw [World.cell?_alloc_at _ _ _ _ (by simp)]; rfl, by rw [World.cell?_alloc_at _ _ _ _ (by simp)]; rfl⟩
  obtain ⟨p, hp⟩ : ∃ p, doI c s b d = p := ⟨_, rfl⟩
  obtain ⟨q, hq⟩ : ∃ q, doI c s a b = q := ⟨_, rfl⟩
  rw [hp] at hx
  rw [hq] at hy
  have pR : InR p := by rw [← hp]; exact do_R c s b d hb hd
  have qR : InR q := by rw [← hq]; exact do_R c s a b ha hb
  have HX := Lib.hid hx
  have HY := Lib.hid hy
  have HP := Lib.hid hp
  have HQ := Lib.hid hq
  have T0 := Lib.hid (hT.below hB)
  have L0 := Lib.hid hB
  have S0 := Lib.hid hS
  generalize hz : twoB c = z at *
  have HZ := Lib.hid hz
  clear hT hB hS hx hy hp hq hz
  go_enter Tryd.func22, Tryd.ntmps22
  go_wp2_with fail
  refine (do_w c s b d p _ HP.out T0.out hb hd).mono ?_
  rintro e w1 ⟨rfl, hb1⟩
  have T1 := Lib.hid (T0.out.below hb1)
  have L1 := Lib.hid (below_next L0.out hb1)
  have S1 := Lib.hid (keepFn hb1 S0.out)
  obtain ⟨q0, q1⟩ := S1.out
  clear hb1
  go_wp2_with fail
  refine (do_w c s a p x _ HX.out T1.out ha pR).mono ?_
  rintro e w2 ⟨rfl, hb2⟩
  have T2 := Lib.hid (T1.out.below hb2)
  have L2 := Lib.hid (below_next L1.out hb2)
  have S2 := Lib.hid (keepFn hb2 S1.out)
  obtain ⟨q0, q1⟩ := S2.out
  clear hb2
  go_wp2_with fail
  refine (do_w c s a b q _ HQ.out T2.out ha hb).mono ?_
  rintro e w3 ⟨rfl, hb3⟩
  have T3 := Lib.hid (T2.out.below hb3)
  have L3 := Lib.hid (below_next L2.out hb3)
  have S3 := Lib.hid (keepFn hb3 S2.out)
  obtain ⟨q0, q1⟩ := S3.out
  clear hb3
  go_wp2_with fail
  refine (do_w c s q d y _ HY.out T3.out qR hd).mono ?_
  rintro e w4 ⟨rfl, hb4⟩
  have T4 := Lib.hid (T3.out.below hb4)
  have L4 := Lib.hid (below_next L3.out hb4)
  have S4 := Lib.hid (keepFn hb4 S3.out)
  obtain ⟨q0, q1⟩ := S4.out
  clear hb4
  go_wp2
  go_ret2
  exact ⟨rfl, L4.out⟩
end Go.Proofs.YtknphbkmghflcaaDoor.Sc
