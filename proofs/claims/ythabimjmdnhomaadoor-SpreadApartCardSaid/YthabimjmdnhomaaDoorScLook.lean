/-
  What glyph.Class, scalar.lookUp, Has, Unit, Joins and Picks, and riffleref04.Has, Unit and Joins answer of any code; nothing that was there is written. Condition: the table of traits holds what its text lays.
-/
import Derived.Test.YthabimjmdnhomaaDoorScTab
namespace Go.Proofs.YthabimjmdnhomaaDoor.Sc
open Go.RowKit
set_option linter.unusedVariables false

set_option maxHeartbeats 1000000 in
theorem class_in (c : Int) (w : World) (h1 : 1 ≤ c) (h2 : c ≤ 19) : Calls Tryd.prog 50 #[.int .i64 c] w fun e w' => e = .returned (.int .i64 1) ∧ w = w' := by
  go_enter Tryd.func50, Tryd.ntmps50
  go_wp2
  go_ret
  exact ⟨rfl, rfl⟩
def NotOne (w : World) (e : Ending) (w' : World) : Prop := ∃ v : Int, e = .returned (.int .i64 v) ∧ (v != 1) = true ∧ w = w'
set_option maxHeartbeats 1000000 in
theorem class_out (c : Int) (w : World) (h : c < 1 ∨ 19 < c) : Calls Tryd.prog 50 #[.int .i64 c] w (NotOne w) := by
  rcases h with h | h
  · go_enter Tryd.func50, Tryd.ntmps50
    go_wp2
    go_ret
    exact ⟨0, rfl, rfl, rfl⟩
  · have h1 : ¬ c < 1 := by omega
    have h2 : ¬ c ≤ 19 := by omega
    go_enter Tryd.func50, Tryd.ntmps50
    go_wp2
    all_goals (go_ret; exact ⟨_, rfl, rfl, rfl⟩)
theorem trOf_out {c : Int} (h : c < 1 ∨ 19 < c) : trOf c = noTr := by unfold trOf; rw [if_neg (by omega)]
theorem trOf_in {c : Int} (h1 : 1 ≤ c) (h2 : c ≤ 19) : trOf c = trL.getD c.toNat noTr := by unfold trOf; rw [if_pos ⟨h1, h2⟩]
/-- The value of what is known. -/
def Tr.val (t : Tr) : Value := .agg #[.bool t.one, .bool t.two, .bool t.starts, .int .i64 t.unit, .bool t.joins, .bool t.picks]

set_option maxHeartbeats 2000000 in
theorem lookUp_any (c : Int) (w : World) (hT : Tab w) : Calls Tryd.prog 38 #[.int .i64 c] w fun e w' => e = .returned (trOf c).val ∧ Below w.heap.size w w' := by
  by_cases h : 1 ≤ c ∧ c ≤ 19
  · obtain ⟨h1, h2⟩ := h
    obtain ⟨k, rfl⟩ : ∃ k : Nat, c = k := ⟨c.toNat, by omega⟩
    have e : trOf (k : Int) = trL.getD k noTr := trOf_in h1 h2
    rw [e]
    have h0 := hT k (by omega) 0 (by omega)
    have hg : 0 < w.heap.size := World.block_lt_of_cell? w ⟨0, 6 * k + 0, none⟩ h0
    have f0 := h0
    have f1 := hT k (by omega) 1 (by omega)
    have f2 := hT k (by omega) 2 (by omega)
    have f3 := hT k (by omega) 3 (by omega)
    have f4 := hT k (by omega) 4 (by omega)
    have f5 := hT k (by omega) 5 (by omega)
    simp only [Tr.vals, List.getElem?_cons_zero, List.getElem?_cons_succ, Nat.add_zero] at f0 f1 f2 f3 f4 f5
    rw [Nat.mul_comm 6 k] at f0 f1 f2 f3 f4 f5
    unfold Tr.val
    generalize trL.getD k noTr = t at *
    clear hT e h0
    go_enter Tryd.func38, Tryd.ntmps38
    go_wp2_with fail
    refine (class_in _ _ h1 h2).mono ?_
    rintro e w1 ⟨rfl, rfl⟩
    go_wp2
    refine bodyPost_ret (v := .agg #[.bool t.one, .bool t.two, .bool t.starts, .int .i64 t.unit, .bool t.joins, .bool t.picks]) (by simp [results, Tryd.results38, go_sem]) rfl ?_
    exact ⟨rfl, (Below.refl _ _).alloc (Nat.le_refl _) _⟩
  · have h' : c < 1 ∨ 19 < c := by omega
    rw [trOf_out h']
    clear h hT
    go_enter Tryd.func38, Tryd.ntmps38
    go_wp2_with fail
    refine (class_out _ _ h').mono ?_
    rintro e w1 ⟨v, rfl, hv, rfl⟩
    go_wp2
    refine bodyPost_ret (v := .agg #[.bool false, .bool false, .bool false, .int .i64 0, .bool false, .bool false]) (by simp [results, Tryd.results38, go_sem]) rfl ?_
    exact ⟨rfl, (Below.refl _ _).alloc (Nat.le_refl _) _⟩
theorem lookUp_v (c : Int) (t : Tr) (w : World) (ht : trOf c = t) (hT : Tab w) : Calls Tryd.prog 38 #[.int .i64 c] w fun e w' => e = .returned (.agg #[.bool t.one, .bool t.two, .bool t.starts, .int .i64 t.unit, .bool t.joins, .bool t.picks]) ∧ Below w.heap.size w w' := by
  subst ht; exact lookUp_any c w hT

theorem field0 (t : Tr) (w : World) : (Instr.field 57 (.agg #[.bool t.one, .bool t.two, .bool t.starts, .int .i64 t.unit, .bool t.joins, .bool t.picks]) 0).run Tryd.prog w = .ok (.bool t.one) w := by kernel_rfl
theorem field1 (t : Tr) (w : World) : (Instr.field 57 (.agg #[.bool t.one, .bool t.two, .bool t.starts, .int .i64 t.unit, .bool t.joins, .bool t.picks]) 1).run Tryd.prog w = .ok (.bool t.two) w := by kernel_rfl
theorem field4 (t : Tr) (w : World) : (Instr.field 57 (.agg #[.bool t.one, .bool t.two, .bool t.starts, .int .i64 t.unit, .bool t.joins, .bool t.picks]) 4).run Tryd.prog w = .ok (.bool t.joins) w := by kernel_rfl
theorem field5 (t : Tr) (w : World) : (Instr.field 57 (.agg #[.bool t.one, .bool t.two, .bool t.starts, .int .i64 t.unit, .bool t.joins, .bool t.picks]) 5).run Tryd.prog w = .ok (.bool t.picks) w := by kernel_rfl

/-- Has a function a use with that many arguments? -/
def hasB (c v : Int) : Bool := if v = 1 then (trOf c).one else if v = 2 then (trOf c).two else false
set_option maxHeartbeats 1000000 in
theorem has_any (c v : Int) (w : World) (hT : Tab w) : Calls Tryd.prog 22 #[.int .i64 c, .int .i64 v] w fun e w' => e = .returned (.bool (hasB c v)) ∧ Below w.heap.size w w' := by
  have HT := Lib.hid hT
  obtain ⟨t, ht⟩ : ∃ t, trOf c = t := ⟨_, rfl⟩
  have H := Lib.hid ht
  have hf0 := field0 t
  have hf1 := field1 t
  clear hT
  by_cases h1 : v = 1
  · subst h1
    have HV : Hid (hasB c 1 = t.one) := Lib.hid (by simp [hasB, ht])
    clear ht
    go_enter Tryd.func22, Tryd.ntmps22
    go_wp2_with fail
    refine (lookUp_v _ t _ H.out HT.out).mono ?_
    rintro e w1 ⟨rfl, hb1⟩
    go_wp2
    go_ret
    exact ⟨ret_bool HV.out.symm, hb1⟩
  · have h1b : (v == 1) = false := by simpa using h1
    by_cases h2 : v = 2
    · subst h2
      have HV : Hid (hasB c 2 = t.two) := Lib.hid (by simp [hasB, ht])
      clear ht h1 h1b
      go_enter Tryd.func22, Tryd.ntmps22
      go_wp2_with (go_at_call 38; refine (lookUp_v _ t _ H.out HT.out).mono ?_; rintro e w1 ⟨rfl, hb1⟩)
      go_ret
      exact ⟨ret_bool HV.out.symm, hb1⟩
    · have h2b : (v == 2) = false := by simpa using h2
      have HV : Hid (hasB c v = false) := Lib.hid (by simp [hasB, h1, h2])
      clear ht h1 h2
      go_enter Tryd.func22, Tryd.ntmps22
      go_wp2
      go_ret
      exact ⟨ret_bool HV.out.symm, Below.refl _ _⟩
set_option maxHeartbeats 1000000 in
theorem rhas_any (c v : Int) (w : World) : Calls Tryd.prog 28 #[.int .i64 c, .int .i64 v] w fun e w' => e = .returned (.bool (hasB c v)) ∧ w = w' := by
  obtain ⟨b, hb⟩ : ∃ b, hasB c v = b := ⟨_, rfl⟩
  rw [hb]
  have HB := Lib.hid hb
  clear hb
  have hin1 : ∀ k : Nat, k < 20 → (trL.getD k noTr).one = (decide (1 ≤ k) && decide (k ≤ 6) || decide (17 ≤ k) && decide (k ≤ 19)) := by decide
  have hin2 : ∀ k : Nat, k < 20 → (trL.getD k noTr).two = (decide (1 ≤ k) && decide (k ≤ 18)) := by decide
  have key : b = (if v = 2 then decide (1 ≤ c) && decide (c ≤ 18) else decide (v = 1) && (decide (1 ≤ c) && decide (c ≤ 6) || decide (17 ≤ c) && decide (c ≤ 19))) := by
    rw [← HB.out]
    by_cases h : 1 ≤ c ∧ c ≤ 19
    · obtain ⟨k, rfl⟩ : ∃ k : Nat, c = k := ⟨c.toNat, by omega⟩
      have e : trOf (k : Int) = trL.getD k noTr := trOf_in h.1 h.2
      have g1 := hin1 k (by omega)
      have g2 := hin2 k (by omega)
      unfold hasB
      rw [e, g1, g2]
      by_cases h2 : v = 2
      · subst h2; simp; rw [Bool.eq_iff_iff]; simp; omega
      · by_cases h1 : v = 1
        · subst h1; simp; rw [Bool.eq_iff_iff]; simp; omega
        · simp [h1, h2]
    · have e : trOf c = noTr := trOf_out (by omega)
      unfold hasB
      rw [e]
      by_cases h2 : v = 2
      · subst h2; simp [noTr]; omega
      · by_cases h1 : v = 1
        · subst h1; simp [noTr]; omega
        · simp [h1, h2]
  clear hin1 hin2
  by_cases h2 : v = 2
  · subst h2
    rw [if_pos rfl] at key
    rcases (show c < 1 ∨ (1 ≤ c ∧ c ≤ 18) ∨ 18 < c from by omega) with h | ⟨h, h'⟩ | h
    · have hb' : b = false := by rw [key]; simp; omega
      subst hb'
      clear key HB
      go_enter Tryd.func28, Tryd.ntmps28
      go_wp2
      go_ret
      exact ⟨rfl, rfl⟩
    · have hb' : b = true := by rw [key]; simp; omega
      subst hb'
      clear key HB
      go_enter Tryd.func28, Tryd.ntmps28
      go_wp2
      go_ret
      exact ⟨ret_bool (by first | rfl | (simp; done) | (simp; omega)), rfl⟩
    · have hb' : b = false := by rw [key]; simp; omega
      have h1 : 1 ≤ c := by omega
      subst hb'
      clear key HB
      go_enter Tryd.func28, Tryd.ntmps28
      go_wp2
      go_ret
      exact ⟨ret_bool (by first | rfl | (simp; done) | (simp; omega)), rfl⟩
  · rw [if_neg h2] at key
    by_cases h1 : v = 1
    · subst h1
      rcases (show c < 1 ∨ (1 ≤ c ∧ c ≤ 6) ∨ (6 < c ∧ c < 17) ∨ (17 ≤ c ∧ c ≤ 19) ∨ 19 < c from by omega) with h | ⟨h, h'⟩ | ⟨h, h'⟩ | ⟨h, h'⟩ | h
      · have hb' : b = false := by rw [key]; simp; omega
        have g1 : c < 17 := by omega
        subst hb'
        clear key HB h2
        go_enter Tryd.func28, Tryd.ntmps28
        go_wp2
        go_ret
        exact ⟨ret_bool (by first | rfl | (simp; done) | (simp; omega)), rfl⟩
      · have hb' : b = true := by rw [key]; simp; omega
        subst hb'
        clear key HB h2
        go_enter Tryd.func28, Tryd.ntmps28
        go_wp2
        go_ret
        exact ⟨ret_bool (by first | rfl | (simp; done) | (simp; omega)), rfl⟩
      · have hb' : b = false := by rw [key]; simp; omega
        have g1 : 1 ≤ c := by omega
        subst hb'
        clear key HB h2
        go_enter Tryd.func28, Tryd.ntmps28
        go_wp2
        go_ret
        exact ⟨ret_bool (by first | rfl | (simp; done) | (simp; omega)), rfl⟩
      · have hb' : b = true := by rw [key]; simp; omega
        have g1 : 1 ≤ c := by omega
        have g2 : 6 < c := by omega
        subst hb'
        clear key HB h2
        go_enter Tryd.func28, Tryd.ntmps28
        go_wp2
        go_ret
        exact ⟨ret_bool (by first | rfl | (simp; done) | (simp; omega)), rfl⟩
      · have hb' : b = false := by rw [key]; simp; omega
        have g1 : 1 ≤ c := by omega
        have g2 : 6 < c := by omega
        have g3 : 17 ≤ c := by omega
        subst hb'
        clear key HB h2
        go_enter Tryd.func28, Tryd.ntmps28
        go_wp2
        go_ret
        exact ⟨ret_bool (by first | rfl | (simp; done) | (simp; omega)), rfl⟩
    · have hb' : b = false := by rw [key]; simp [h1]
      have g1 : (v == 1) = false := by simpa using h1
      have g2 : (v == 2) = false := by simpa using h2
      subst hb'
      clear key HB h1 h2
      go_enter Tryd.func28, Tryd.ntmps28
      go_wp2
      go_ret
      exact ⟨rfl, rfl⟩
end Go.Proofs.YthabimjmdnhomaaDoor.Sc
