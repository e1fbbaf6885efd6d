/-
  What glyph.lookUp, Sign, Word and Class and riffleref02.Sign, Word and Class answer for any code; nothing that was there is written. No condition.
-/
import Derived.Test.YtjmpilmmgfjpmaaDoorGlyphRef2
set_option maxRecDepth 100000
namespace Go.Proofs.YtjmpilmmgfjpmaaDoor.Gl
open Go.RowKit
set_option linter.unusedVariables false

def inC (c : Int) : Prop := 1 ≤ c ∧ c ≤ 43
theorem conv_sign : ∀ (k : Nat), 1 ≤ k → k < 44 → ∀ W : World, Sem.run Tryd.prog (convert 21 9 (.int .i32 (sgn k))) W = .ok (strV (rs k)) W
  | 0, h, _, _ => absurd h (by omega)
  | 1, _, _, W => by kernel_rfl
  | 2, _, _, W => by kernel_rfl
  | 3, _, _, W => by kernel_rfl
  | 4, _, _, W => by kernel_rfl
  | 5, _, _, W => by kernel_rfl
  | 6, _, _, W => by kernel_rfl
  | 7, _, _, W => by kernel_rfl
  | 8, _, _, W => by kernel_rfl
  | 9, _, _, W => by kernel_rfl
  | 10, _, _, W => by kernel_rfl
  | 11, _, _, W => by kernel_rfl
  | 12, _, _, W => by kernel_rfl
  | 13, _, _, W => by kernel_rfl
  | 14, _, _, W => by kernel_rfl
  | 15, _, _, W => by kernel_rfl
  | 16, _, _, W => by kernel_rfl
  | 17, _, _, W => by kernel_rfl
  | 18, _, _, W => by kernel_rfl
  | 19, _, _, W => by kernel_rfl
  | 20, _, _, W => by kernel_rfl
  | 21, _, _, W => by kernel_rfl
  | 22, _, _, W => by kernel_rfl
  | 23, _, _, W => by kernel_rfl
  | 24, _, _, W => by kernel_rfl
  | 25, _, _, W => by kernel_rfl
  | 26, _, _, W => by kernel_rfl
  | 27, _, _, W => by kernel_rfl
  | 28, _, _, W => by kernel_rfl
  | 29, _, _, W => by kernel_rfl
  | 30, _, _, W => by kernel_rfl
  | 31, _, _, W => by kernel_rfl
  | 32, _, _, W => by kernel_rfl
  | 33, _, _, W => by kernel_rfl
  | 34, _, _, W => by kernel_rfl
  | 35, _, _, W => by kernel_rfl
  | 36, _, _, W => by kernel_rfl
  | 37, _, _, W => by kernel_rfl
  | 38, _, _, W => by kernel_rfl
  | 39, _, _, W => by kernel_rfl
  | 40, _, _, W => by kernel_rfl
  | 41, _, _, W => by kernel_rfl
  | 42, _, _, W => by kernel_rfl
  | 43, _, _, W => by kernel_rfl
  | k + 44, _, h, _ => absurd h (by omega)

def clsI (c : Int) : Int := if c < 1 ∨ 43 < c then 0 else if c ≤ 19 then 1 else if c ≤ 30 then 2 else if c ≤ 38 then 3 else 4
set_option maxHeartbeats 1000000 in
theorem class_any (c : Int) (w : World) : Calls Tryd.prog 70 #[.int .i64 c] w fun e w' => e = .returned (.int .i64 (clsI c)) ∧ w = w' := by
  rcases (show c < 1 ∨ (¬ c < 1 ∧ 43 < c) ∨ (¬ c < 1 ∧ ¬ 43 < c ∧ c ≤ 19) ∨ (¬ c < 1 ∧ ¬ 43 < c ∧ ¬ c ≤ 19 ∧ c ≤ 30) ∨ (¬ c < 1 ∧ ¬ 43 < c ∧ ¬ c ≤ 30 ∧ c ≤ 38) ∨ (¬ c < 1 ∧ ¬ 43 < c ∧ ¬ c ≤ 38) from by omega) with h | ⟨h, h'⟩ | ⟨h, h', h2⟩ | ⟨h, h', h2, h3⟩ | ⟨h, h', h2, h3⟩ | ⟨h, h', h2⟩
  all_goals
    go_enter Tryd.func70, Tryd.ntmps70
    go_wp2
    go_ret
    refine ⟨ret_int ?_, rfl⟩
    unfold clsI
    repeat' split
    all_goals omega
set_option maxHeartbeats 1000000 in
theorem refClass_any (c : Int) (w : World) : Calls Tryd.prog 71 #[.int .i64 c] w fun e w' => e = .returned (.int .i64 (clsI c)) ∧ w = w' := by
  rcases (show c < 1 ∨ (¬ c < 1 ∧ 43 < c) ∨ (¬ c < 1 ∧ ¬ 43 < c ∧ c < 20) ∨ (¬ c < 1 ∧ ¬ 43 < c ∧ ¬ c < 20 ∧ c < 31) ∨ (¬ c < 1 ∧ ¬ 43 < c ∧ ¬ c < 31 ∧ c < 39) ∨ (¬ c < 1 ∧ ¬ 43 < c ∧ ¬ c < 39) from by omega) with h | ⟨h, h'⟩ | ⟨h, h', h2⟩ | ⟨h, h', h2, h3⟩ | ⟨h, h', h2, h3⟩ | ⟨h, h', h2⟩
  all_goals
    go_enter Tryd.func71, Tryd.ntmps71
    go_wp2
    go_ret
    refine ⟨ret_int ?_, rfl⟩
    unfold clsI
    repeat' split
    all_goals omega

end Go.Proofs.YtjmpilmmgfjpmaaDoor.Gl
