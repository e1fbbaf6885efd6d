/-
  What glyph.lookUp, Sign, Word and Class and riffleref02.Sign, Word and Class answer for any code; nothing that was there is written. No condition.
-/
import Derived.Test.YtdjckobbemkhbaaDoorGlyphRef2
namespace Go.Proofs.YtdjckobbemkhbaaDoor.Gl
open Go.RowKit
set_option linter.unusedVariables false

def inC (c : Int) : Prop := 1 ≤ c ∧ c ≤ 43
theorem conv_sign : ∀ (k : Nat), 1 ≤ k → k < 44 → ∀ W : World, Sem.run Tryd.prog (convert 21 9 (.int .i32 (sgn k))) W = .ok (strV (rs k)) W
  | 0, h, _, _ => absurd h (by omega)
  | 1, _, _, W => by kernel_rfl
  | 2, _, _, W => by kernel_rfl
  | 3, _, _, W => by kernel_rfl
  | 4, _, _, W => by kernel_rfl
  | 5, _, _, W => by kernel_rfl
  | 6, _, _, W => by kernel_rfl
  | 7, _, _, W => by kernel_rfl
  | 8, _, _, W => by kernel_rfl
  | 9, _, _, W => by kernel_rfl
  | 10, _, _, W => by kernel_rfl
  | 11, _, _, W => by kernel_rfl
  | 12, _, _, W => by kernel_rfl
  | 13, _, _, W => by kernel_rfl
  | 14, _, _, W => by kernel_rfl
  | 15, _, _, W => by kernel_rfl
  | 16, _, _, W => by kernel_rfl
  | 17, _, _, W => by kernel_rfl
  | 18, _, _, W => by kernel_rfl
  | 19, _, _, W => by kernel_rfl
  | 20, _, _, W => by kernel_rfl
  | 21, _, _, W => by kernel_rfl
  | 22, _, _, W => by kernel_rfl
  | 23, _, _, W => by kernel_rfl
  | 24, _, _, W => by kernel_rfl
  | 25, _, _, W => by kernel_rfl
  | 26, _, _, W => by kernel_rfl
  | 27, _, _, W => by kernel_rfl
  | 28, _, _, W => by kernel_rfl
  | 29, _, _, W => by kernel_rfl
  | 30, _, _, W => by kernel_rfl
  | 31, _, _, W => by kernel_rfl
  | 32, _, _, W => by kernel_rfl
  | 33, _, _, W => by kernel_rfl
  | 34, _, _, W => by kernel_rfl
  | 35, _, _, W => by kernel_rfl
  | 36, _, _, W => by kernel_rfl
  | 37, _, _, W => by kernel_rfl
  | 38, _, _, W => by kernel_rfl
  | 39, _, _, W => by kernel_rfl
  | 40, _, _, W => by kernel_rfl
  | 41, _, _, W => by kernel_rfl
  | 42, _, _, W => by kernel_rfl
  | 43, _, _, W => by kernel_rfl
  | k + 44, _, h, _ => absurd h (by omega)

set_option maxHeartbeats 1000000 in
theorem lookUp_yes (k : Nat) (h1 : 1 ≤ k) (h2 : k < 44) (w : World) :
    Calls Tryd.prog 26 #[.int .i64 (k : Int)] w fun e w' => e = .returned (.agg #[.int .i32 (sgn k), .string (wB k)]) ∧ Below w.heap.size w w' := by
  have hrun := fun W => run_tab k h2 W
  have hi1 : ¬ ((k : Int) < 1) := by omega
  have hi2 : ¬ ((43 : Int) < (k : Int)) := by omega
  go_enter Tryd.func26, Tryd.ntmps26
  go_wp2_with fail
  refine (table_any _).mono ?_
  rintro e w1 ⟨rfl, hb1⟩
  have hz : w.heap.size < w1.heap.size := by have := hb1.size; simp at this; omega
  have hc0 : w1.cell? ⟨w.heap.size, 0, none⟩ = some (.int .i32 0) := by rw [hb1.cell (p := ⟨w.heap.size, 0, none⟩) (by simp), World.cell?_alloc_at _ _ _ _ rfl]; rfl
  have hc1 : w1.cell? ⟨w.heap.size, 1, none⟩ = some (.string ⟨#[]⟩) := by rw [hb1.cell (p := ⟨w.heap.size, 1, none⟩) (by simp), World.cell?_alloc_at _ _ _ _ rfl]; rfl
  have hf0 : w1.frozen? ⟨w.heap.size, 0, none⟩ = false := by rw [hb1.frozen (p := ⟨w.heap.size, 0, none⟩) (by simp)]; exact World.frozen?_alloc_at _ _ _ _ (by simp)
  have hf1 : w1.frozen? ⟨w.heap.size, 1, none⟩ = false := by rw [hb1.frozen (p := ⟨w.heap.size, 1, none⟩) (by simp)]; exact World.frozen?_alloc_at _ _ _ _ (by simp)
  have HB := Lib.hid (((Below.refl _ w).alloc (Nat.le_refl _) _).trans (hb1.mono (by simp)))
  clear hb1
  go_wp2
  have d0 : ((w1.setCell ⟨w.heap.size, 0, none⟩ (.int .i32 (sgn k))).setCell ⟨w.heap.size, 1, none⟩ (.string (wB k))).cell? ⟨w.heap.size, 0, none⟩ = some (.int .i32 (sgn k)) := by
    rw [World.cell?_setCell_other _ _ _ _ (by intro e; injection e with _ e; omega)]; exact World.cell?_setCell_same _ _ _ hc0
  have d1 : ((w1.setCell ⟨w.heap.size, 0, none⟩ (.int .i32 (sgn k))).setCell ⟨w.heap.size, 1, none⟩ (.string (wB k))).cell? ⟨w.heap.size, 1, none⟩ = some (.string (wB k)) :=
    World.cell?_setCell_same _ _ _ (u := .string ⟨#[]⟩) (by rw [World.cell?_setCell_other _ _ _ _ (by intro e; injection e with _ e; omega)]; exact hc1)
  have HB2 := Lib.hid ((HB.out.setCell (p := ⟨w.heap.size, 0, none⟩) (Nat.le_refl _) (.int .i32 (sgn k))).setCell (p := ⟨w.heap.size, 1, none⟩) (Nat.le_refl _) (.string (wB k)))
  generalize (w1.setCell ⟨w.heap.size, 0, none⟩ (.int .i32 (sgn k))).setCell ⟨w.heap.size, 1, none⟩ (.string (wB k)) = W at *
  exact bodyPost_ret (v := .agg #[.int .i32 (sgn k), .string (wB k)]) (by simp [results, Tryd.results26, go_sem, d0, d1]) rfl ⟨rfl, HB2.out⟩

set_option maxHeartbeats 1000000 in
theorem lookUp_no (c : Int) (h : ¬ inC c) (w : World) :
    Calls Tryd.prog 26 #[.int .i64 c] w fun e w' => e = .returned (.agg #[.int .i32 0, .string ⟨#[]⟩]) ∧ Below w.heap.size w w' := by
  unfold inC at h
  rcases (show c < 1 ∨ (¬ c < 1 ∧ 43 < c) from by omega) with hlo | ⟨hlo, hhi⟩
  all_goals
    clear h
    go_enter Tryd.func26, Tryd.ntmps26
    go_wp2
    exact bodyPost_ret (v := .agg #[.int .i32 0, .string ⟨#[]⟩]) (by simp [results, Tryd.results26, go_sem]) rfl ⟨rfl, (Below.refl _ _).alloc (Nat.le_refl _) _⟩

set_option maxHeartbeats 1000000 in
theorem sign_yes (k : Nat) (h1 : 1 ≤ k) (h2 : k < 44) (w : World) :
    Calls Tryd.prog 11 #[.int .i64 (k : Int)] w fun e w' => e = .returned (strV (rs k)) ∧ Below w.heap.size w w' := by
  have hcv := fun W => conv_sign k h1 h2 W
  have hb := sgn_bd k h1 h2
  have hs0 : (sgn k == 0) = false := by simp; omega
  obtain ⟨v, hv⟩ : ∃ v, strV (rs k) = v := ⟨_, rfl⟩
  rw [hv] at hcv ⊢
  clear hv
  go_enter Tryd.func11, Tryd.ntmps11
  go_wp2_with fail
  refine (lookUp_yes k h1 h2 _).mono ?_
  rintro e w1 ⟨rfl, hb1⟩
  have HB := Lib.hid (hb1.alloc hb1.size (.cells #[.int .i32 (sgn k), .string (wB k)] 35))
  clear hb1
  go_wp2
  go_ret
  exact ⟨rfl, HB.out⟩
set_option maxHeartbeats 1000000 in
theorem sign_no (c : Int) (h : ¬ inC c) (w : World) :
    Calls Tryd.prog 11 #[.int .i64 c] w fun e w' => e = .returned (.string ⟨#[]⟩) ∧ Below w.heap.size w w' := by
  go_enter Tryd.func11, Tryd.ntmps11
  go_wp2_with fail
  refine (lookUp_no c h _).mono ?_
  rintro e w1 ⟨rfl, hb1⟩
  have HB := Lib.hid (hb1.alloc hb1.size (.cells #[.int .i32 0, .string ⟨#[]⟩] 35))
  clear hb1
  go_wp2
  go_ret
  exact ⟨rfl, HB.out⟩
theorem run_word (a b : Value) (W : World) : Sem.run Tryd.prog (Instr.field 35 (.agg #[a, b]) 1) W = .ok b W := by kernel_rfl
set_option maxHeartbeats 1000000 in
theorem word_yes (k : Nat) (h1 : 1 ≤ k) (h2 : k < 44) (w : World) :
    Calls Tryd.prog 13 #[.int .i64 (k : Int)] w fun e w' => e = .returned (strV (wrd k)) ∧ Below w.heap.size w w' := by
  have hfl := run_word
  go_enter Tryd.func13, Tryd.ntmps13
  go_wp2_with fail
  refine (lookUp_yes k h1 h2 _).mono ?_
  rintro e w1 ⟨rfl, hb1⟩
  go_wp2
  go_ret
  exact ⟨rfl, hb1⟩
set_option maxHeartbeats 1000000 in
theorem word_no (c : Int) (h : ¬ inC c) (w : World) :
    Calls Tryd.prog 13 #[.int .i64 c] w fun e w' => e = .returned (.string ⟨#[]⟩) ∧ Below w.heap.size w w' := by
  have hfl := run_word
  go_enter Tryd.func13, Tryd.ntmps13
  go_wp2_with fail
  refine (lookUp_no c h _).mono ?_
  rintro e w1 ⟨rfl, hb1⟩
  go_wp2
  go_ret
  exact ⟨rfl, hb1⟩

def clsI (c : Int) : Int := if c < 1 ∨ 43 < c then 0 else if c ≤ 19 then 1 else if c ≤ 30 then 2 else if c ≤ 38 then 3 else 4
set_option maxHeartbeats 1000000 in
theorem class_any (c : Int) (w : World) : Calls Tryd.prog 15 #[.int .i64 c] w fun e w' => e = .returned (.int .i64 (clsI c)) ∧ w = w' := by
  rcases (show c < 1 ∨ (¬ c < 1 ∧ 43 < c) ∨ (¬ c < 1 ∧ ¬ 43 < c ∧ c ≤ 19) ∨ (¬ c < 1 ∧ ¬ 43 < c ∧ ¬ c ≤ 19 ∧ c ≤ 30) ∨ (¬ c < 1 ∧ ¬ 43 < c ∧ ¬ c ≤ 30 ∧ c ≤ 38) ∨ (¬ c < 1 ∧ ¬ 43 < c ∧ ¬ c ≤ 38) from by omega) with h | ⟨h, h'⟩ | ⟨h, h', h2⟩ | ⟨h, h', h2, h3⟩ | ⟨h, h', h2, h3⟩ | ⟨h, h', h2⟩
  all_goals
    go_enter Tryd.func15, Tryd.ntmps15
    go_wp2
    go_ret
    refine ⟨ret_int ?_, rfl⟩
    unfold clsI
    repeat' split
    all_goals omega
set_option maxHeartbeats 1000000 in
theorem refClass_any (c : Int) (w : World) : Calls Tryd.prog 16 #[.int .i64 c] w fun e w' => e = .returned (.int .i64 (clsI c)) ∧ w = w' := by
  rcases (show c < 1 ∨ (¬ c < 1 ∧ 43 < c) ∨ (¬ c < 1 ∧ ¬ 43 < c ∧ c < 20) ∨ (¬ c < 1 ∧ ¬ 43 < c ∧ ¬ c < 20 ∧ c < 31) ∨ (¬ c < 1 ∧ ¬ 43 < c ∧ ¬ c < 31 ∧ c < 39) ∨ (¬ c < 1 ∧ ¬ 43 < c ∧ ¬ c < 39) from by omega) with h | ⟨h, h'⟩ | ⟨h, h', h2⟩ | ⟨h, h', h2, h3⟩ | ⟨h, h', h2, h3⟩ | ⟨h, h', h2⟩
  all_goals
    go_enter Tryd.func16, Tryd.ntmps16
    go_wp2
    go_ret
    refine ⟨ret_int ?_, rfl⟩
    unfold clsI
    repeat' split
    all_goals omega

set_option maxHeartbeats 1000000 in
theorem refSign_yes (k : Nat) (h1 : 1 ≤ k) (h2 : k < 44) (w : World) :
    Calls Tryd.prog 12 #[.int .i64 (k : Int)] w fun e w' => e = .returned (strV (rs k)) ∧ Below w.heap.size w w' := by
  have hi1 : ¬ ((k : Int) < 1) := by omega
  have hi2 : ¬ ((43 : Int) < (k : Int)) := by omega
  have hc := texts_sign w k h2
  obtain ⟨b, hb, _⟩ := strV_list (rs k)
  rw [hb] at hc ⊢
  clear hb
  go_enter Tryd.func12, Tryd.ntmps12
  go_wp2_with fail
  refine (signs_any _).mono ?_
  rintro e w1 ⟨rfl, rfl⟩
  have HB := Lib.hid ((Below.refl _ w).alloc (Nat.le_refl _) (.cells signA 9))
  generalize w.alloc (.cells signA 9) = W at *
  go_wp2
  go_ret
  exact ⟨rfl, HB.out⟩
set_option maxHeartbeats 1000000 in
theorem refWord_yes (k : Nat) (h1 : 1 ≤ k) (h2 : k < 44) (w : World) :
    Calls Tryd.prog 14 #[.int .i64 (k : Int)] w fun e w' => e = .returned (strV (wrd k)) ∧ Below w.heap.size w w' := by
  have hi1 : ¬ ((k : Int) < 1) := by omega
  have hi2 : ¬ ((43 : Int) < (k : Int)) := by omega
  have hc := texts_word w k h2
  obtain ⟨b, hb, _⟩ := strV_list (wrd k)
  rw [hb] at hc ⊢
  clear hb
  go_enter Tryd.func14, Tryd.ntmps14
  go_wp2_with fail
  refine (words_any _).mono ?_
  rintro e w1 ⟨rfl, rfl⟩
  have HB := Lib.hid ((Below.refl _ w).alloc (Nat.le_refl _) (.cells wordA 9))
  generalize w.alloc (.cells wordA 9) = W at *
  go_wp2
  go_ret
  exact ⟨rfl, HB.out⟩
set_option maxHeartbeats 1000000 in
theorem refSign_no (c : Int) (h : ¬ inC c) (w : World) :
    Calls Tryd.prog 12 #[.int .i64 c] w fun e w' => e = .returned (.string ⟨#[]⟩) ∧ w = w' := by
  unfold inC at h
  rcases (show c < 1 ∨ (¬ c < 1 ∧ 43 < c) from by omega) with hlo | ⟨hlo, hhi⟩
  all_goals
    clear h
    go_enter Tryd.func12, Tryd.ntmps12
    go_wp2
    go_ret
    exact ⟨rfl, rfl⟩
set_option maxHeartbeats 1000000 in
theorem refWord_no (c : Int) (h : ¬ inC c) (w : World) :
    Calls Tryd.prog 14 #[.int .i64 c] w fun e w' => e = .returned (.string ⟨#[]⟩) ∧ w = w' := by
  unfold inC at h
  rcases (show c < 1 ∨ (¬ c < 1 ∧ 43 < c) from by omega) with hlo | ⟨hlo, hhi⟩
  all_goals
    clear h
    go_enter Tryd.func14, Tryd.ntmps14
    go_wp2
    go_ret
    exact ⟨rfl, rfl⟩
end Go.Proofs.YtdjckobbemkhbaaDoor.Gl
