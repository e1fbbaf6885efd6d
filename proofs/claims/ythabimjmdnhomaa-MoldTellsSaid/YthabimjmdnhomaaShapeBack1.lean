/-
  Plain facts on lists in another order, and what rifflelaw01.behind answers for two lists of one length. Condition: at most 100 numbers.
-/
import Derived.Test.YthabimjmdnhomaaShapePlace
import Derived.Test.YthabimjmdnhomaaShapeMake4
import Derived.Test.YthabimjmdnhomaaShapeRef
import Derived.Test.YthabimjmdnhomaaShapeLives
namespace Go.Proofs.Ythabimjmdnhomaa.Sh
open Go.RowKit
set_option linter.unusedVariables false

theorem prod_perm {a b : List Int} (h : a.Perm b) : prod a = prod b := by
  induction h with
  | nil => rfl
  | cons x _ ih => rw [prod_cons, prod_cons, ih]
  | swap x y l => rw [prod_cons, prod_cons, prod_cons, prod_cons, ← Int.mul_assoc, ← Int.mul_assoc, Int.mul_comm y x]
  | trans _ _ ih1 ih2 => rw [ih1, ih2]
theorem all_perm {a b : List Int} (h : a.Perm b) : a.all okAx = b.all okAx := by
  rw [Bool.eq_iff_iff, List.all_eq_true, List.all_eq_true]
  exact ⟨fun k x hx => k x (h.mem_iff.2 hx), fun k x hx => k x (h.mem_iff.1 hx)⟩
theorem sizeI_perm {a b : List Int} (h : a.Perm b) : sizeI a = sizeI b := by
  unfold sizeI rightB
  rw [prod_perm h, all_perm h, h.length_eq]
theorem pg_nil (m : Nat) : pg [] [] m = [] := by
  induction m with
  | zero => rfl
  | succ m ih => rw [pg, ih]; rfl
theorem pg_out (x y : Int) (d p : List Int) (m : Nat) (h : y < 0 ∨ (m : Int) ≤ y) : pg (x :: d) (y :: p) m = pg d p m := by
  induction m with
  | zero => rfl
  | succ m ih => rw [pg, pg, ih (by omega), pk, if_neg (by omega)]
theorem pg_one (x y : Int) (d p : List Int) (m : Nat) (h0 : 0 ≤ y) (h1 : y < m) : (pg (x :: d) (y :: p) m).Perm (x :: pg d p m) := by
  induction m with
  | zero => omega
  | succ m ih =>
    rw [pg, pg, pk]
    by_cases e : y = (m : Int)
    · rw [if_pos e, pg_out x y d p m (by omega)]
      exact List.perm_middle
    · rw [if_neg e]
      exact (ih (by omega)).append_right _
theorem pg_perm (d p : List Int) (m : Nat) (h : p.length = d.length) (hr : ∀ y ∈ p, 0 ≤ y ∧ y < m) : (pg d p m).Perm d := by
  induction d generalizing p with
  | nil => cases p with | nil => rw [pg_nil] | cons _ _ => simp at h
  | cons x d ih => cases p with
    | nil => simp at h
    | cons y p =>
      have hy := hr y List.mem_cons_self
      exact (pg_one x y d p m hy.1 hy.2).trans ((ih p (by simpa using h) (fun z hz => hr z (List.mem_cons_of_mem _ hz))).cons x)
theorem pickB_perm {d p : List Int} (h : p.length = d.length) (hp : permB p = true) : (pickB d p).Perm d := by
  rw [pickB_yes h hp, show fI d.length (pf d p) = pg d p d.length from (pg_eq d p h hp d.length (Nat.le_refl _)).symm]
  exact pg_perm d p d.length h (fun y hy => by have := permB_range hp y hy; omega)

theorem gtB_self (a : List Int) : gtB a a = false := by
  induction a with
  | nil => rfl
  | cons x a ih => simp [gtB, ih]
theorem gtB_at (a b : List Int) (k : Nat) (ht : a.take k = b.take k) (ha : k < a.length) (hb : k < b.length) (hne : ¬ a.getD k 0 = b.getD k 0) : gtB a b = decide (b.getD k 0 < a.getD k 0) := by
  induction k generalizing a b with
  | zero => cases a with
    | nil => simp at ha
    | cons x a => cases b with
      | nil => simp at hb
      | cons y b =>
        simp only [List.getD, List.getElem?_cons_zero, Option.getD_some] at hne ⊢
        simp only [gtB, if_neg hne]
        rfl
  | succ k ih => cases a with
    | nil => simp at ha
    | cons x a => cases b with
      | nil => simp at hb
      | cons y b =>
        simp only [List.take_succ_cons, List.cons.injEq] at ht
        simp only [gtB, if_pos ht.1]
        have := ih a b ht.2 (by simpa using ha) (by simpa using hb) (by simpa using hne)
        simpa using this

/-! The contracts at a length that is told beside the list. -/
theorem size_n (A : Option Addr) (c : Nat) (l : List Int) (n : Nat) (w : World) (hn : l.length = n) (hl : n ≤ 100) (hi : Ints w A l) :
    Calls Try.prog 49 #[.slice A n c] w fun e w' => e = .returned (.int .i64 (sizeI l)) ∧ Below w.heap.size w w' := by
  subst hn
  exact size_any A c l w (by unfold maxLen; omega) hi
theorem same_n (A : Option Addr) (c : Nat) (l : List Int) (B : Option Addr) (c2 : Nat) (n : Nat) (w : World) (hn : l.length = n) (hl : n ≤ 100) (hi : Ints w A l) (hj : Ints w B l) :
    Calls Try.prog 34 #[.slice A n c, .slice B n c2] w fun e w' => e = .returned (.bool true) ∧ Below w.heap.size w w' := by
  subst hn
  exact (refSame_any A c l B c2 l w (by unfold maxLen; omega) (by unfold maxLen; omega) hi hj).mono fun _ _ ⟨he, n, hw⟩ => ⟨by rw [he]; simp, by rw [hw]; exact below_drewN (Below.refl _ _) n⟩
end Go.Proofs.Ythabimjmdnhomaa.Sh
