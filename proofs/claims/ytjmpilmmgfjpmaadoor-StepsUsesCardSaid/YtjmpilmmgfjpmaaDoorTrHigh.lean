/-
  Layer 18, tree: height and High. Condition: the parts of a node stand ahead of it.
-/
import Derived.Test.YtjmpilmmgfjpmaaDoorTrRight
set_option maxRecDepth 100000
namespace Go.Proofs.YtjmpilmmgfjpmaaDoor.Tr
open Go.Proofs.YtjmpilmmgfjpmaaDoor.Sh Go.Proofs.YtjmpilmmgfjpmaaDoor.St
open Go.RowKit
set_option linter.unusedVariables false

/-- All parts of a node stand ahead of it. -/
def Ahead (qs : List Nq) : Prop := ∀ (k : Nat) (q : Nq), qs[k]? = some q → ∀ x ∈ q.n.kids, 0 ≤ x ∧ x < (k : Int)
def hgtF (qs : List Nq) : Nat → Int → Nat
  | 0, _ => 0
  | f + 1, i => match qs[i.toNat]? with
    | some q => (q.n.kids.map (hgtF qs f)).foldl max 0 + 1
    | none => 0
def hgt (qs : List Nq) (i : Int) : Nat := hgtF qs (i.toNat + 1) i
theorem hgtF_enough {qs : List Nq} (hA : Ahead qs) : ∀ (f g : Nat) (i : Int), 0 ≤ i → i < (f : Int) → i < (g : Int) → hgtF qs f i = hgtF qs g i
  | 0, g, i, h0, h, h' => by omega
  | f + 1, 0, i, h0, h, h' => by omega
  | f + 1, g + 1, i, h0, h, h' => by
    unfold hgtF
    split
    · rename_i q hq
      congr 2
      apply List.map_congr_left
      intro x hx
      have := hA _ q hq x hx
      exact hgtF_enough hA f g x this.1 (by omega) (by omega)
    · rfl
theorem hgt_eq {qs : List Nq} (hA : Ahead qs) {k : Nat} {q : Nq} (hq : qs[k]? = some q) : hgt qs (k : Int) = (q.n.kids.map (hgt qs)).foldl max 0 + 1 := by
  unfold hgt
  rw [show ((k : Int)).toNat = k by simp]
  rw [hgtF, show ((k : Int)).toNat = k by simp, hq]
  simp only
  congr 2
  apply List.map_congr_left
  intro x hx
  have := hA _ q hq x hx
  exact hgtF_enough hA k _ x this.1 (by omega) (by omega)
theorem foldl_max_le (l : List Nat) (m b : Nat) (hm : m ≤ b) (h : ∀ x ∈ l, x ≤ b) : l.foldl max m ≤ b := by
  induction l generalizing m with
  | nil => exact hm
  | cons x r ih =>
    rw [List.foldl_cons]
    exact ih (max m x) (Nat.max_le.2 ⟨hm, h x List.mem_cons_self⟩) (fun y hy => h y (List.mem_cons_of_mem _ hy))
theorem hgt_le {qs : List Nq} (hA : Ahead qs) : ∀ (k : Nat), k < qs.length → hgt qs (k : Int) ≤ k + 1 := by
  intro k
  induction k using Nat.strongRecOn with
  | ind k ih =>
  intro hk
  obtain ⟨q, hq⟩ : ∃ q, qs[k]? = some q := ⟨_, List.getElem?_eq_getElem hk⟩
  rw [hgt_eq hA hq]
  have : (q.n.kids.map (hgt qs)).foldl max 0 ≤ k := foldl_max_le _ _ _ (Nat.zero_le _) (fun y hy => by
    obtain ⟨x, hx, rfl⟩ := List.mem_map.1 hy
    have h1 := hA _ q hq x hx
    obtain ⟨m, rfl⟩ : ∃ m : Nat, x = (m : Int) := ⟨x.toNat, by omega⟩
    have := ih m (by omega) (by omega)
    omega)
  omega
end Go.Proofs.YtjmpilmmgfjpmaaDoor.Tr
