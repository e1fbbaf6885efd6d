/-
  Layer 18, tree: riffleref18.want and Down. Condition: as told.
-/
import Derived.Test.YtjmpilmmgfjpmaaDoorTrRight
import Derived.Test.YtjmpilmmgfjpmaaDoorTrFieldR
set_option maxRecDepth 100000
namespace Go.Proofs.YtjmpilmmgfjpmaaDoor.Tr
open Go.Proofs.YtjmpilmmgfjpmaaDoor.Sh Go.Proofs.YtjmpilmmgfjpmaaDoor.St
open Go.RowKit
set_option linter.unusedVariables false

/-- The letter of a part. -/
def chJ (j : Nat) : UInt8 := if j = 0 then 118 else if j = 1 then 102 else 110
def wantL (k : Int) : List UInt8 := if 1 ≤ k ∧ k ≤ 12 then (partsL k).map chJ else [110, 111, 110, 101]
set_option maxHeartbeats 4000000 in
theorem rwant_any (k : Int) (w : World) : Calls Tryd.prog 57 #[.int .i64 k] w fun e w' => e = .returned (.string ⟨(wantL k).toArray⟩) ∧ Below w.heap.size w w' := by
  rcases (show k = 1 ∨ k = 2 ∨ k = 3 ∨ k = 4 ∨ k = 5 ∨ k = 6 ∨ k = 7 ∨ k = 8 ∨ k = 9 ∨ k = 10 ∨ k = 11 ∨ k = 12 ∨ k < 1 ∨ (¬ k < 1 ∧ 12 < k) by omega) with rfl | rfl | rfl | rfl | rfl | rfl | rfl | rfl | rfl | rfl | rfl | rfl | h | ⟨h, h2⟩
  any_goals
    go_enter Tryd.func57, Tryd.ntmps57
    go_wp2
    go_ret
    exact ⟨rfl, (Below.refl _ w).alloc (Nat.le_refl _) _⟩
  · have HS := Lib.hid (show wantL k = [110, 111, 110, 101] by unfold wantL; rw [if_neg (by omega)])
    have t1 : decide (k < 1) = true := by simpa using h
    clear h
    go_enter Tryd.func57, Tryd.ntmps57
    go_wp2
    go_ret
    exact ⟨by rw [HS.out]; rfl, (Below.refl _ w).alloc (Nat.le_refl _) _⟩
  · have HS := Lib.hid (show wantL k = [110, 111, 110, 101] by unfold wantL; rw [if_neg (by omega)])
    have t1 : decide (k < 1) = false := by simpa using h
    have t2 : decide (12 < k) = true := by simpa using h2
    clear h h2
    go_enter Tryd.func57, Tryd.ntmps57
    go_wp2
    go_ret
    exact ⟨by rw [HS.out]; rfl, (Below.refl _ w).alloc (Nat.le_refl _) _⟩
/-- From a node's parts, the last one first: the place ahead of them all. -/
def kidsDown (D : Int → Option Int) (qs : List Nq) : List (Nat × Int) → Int → Option Int
  | [], at_ => some at_
  | (j, kid) :: r, at_ => if kid = at_ ∧ 0 ≤ at_ ∧ mayB j (kindAt qs at_) = true then match D at_ with
    | some a => kidsDown D qs r a
    | none => none else none
def nodeOk (q : Nq) : Bool := decide (1 ≤ q.n.kind) && (decide (q.n.kind ≤ 12) && (decide ((partsL q.n.kind).length = q.n.kids.length) && fieldsB q.n))
/-- From a node: the place ahead of the first node of all these. -/
def downF (qs : List Nq) : Nat → Int → Option Int
  | 0, _ => none
  | f + 1, i => if 0 ≤ i then match qs[i.toNat]? with
    | some q => if nodeOk q = true then kidsDown (downF qs f) qs ((partsL q.n.kind).zip q.n.kids).reverse (i - 1) else none
    | none => none else none
theorem kidsDown_le {D : Int → Option Int} {qs : List Nq} (hD : ∀ i a, D i = some a → a < i) : ∀ (l : List (Nat × Int)) (at_ a : Int), kidsDown D qs l at_ = some a → a ≤ at_
  | [], at_, a, h => by injection h with h; omega
  | (j, kid) :: r, at_, a, h => by
    unfold kidsDown at h
    split at h
    · split at h
      · rename_i a' ha
        have h1 := hD _ _ ha
        have h2 := kidsDown_le hD r a' a h
        omega
      · cases h
    · cases h
theorem downF_lt (qs : List Nq) : ∀ (f : Nat) (i a : Int), downF qs f i = some a → a < i
  | 0, i, a, h => by cases h
  | f + 1, i, a, h => by
    unfold downF at h
    split at h
    · split at h
      · split at h
        · have := kidsDown_le (downF_lt qs f) _ _ _ h
          omega
        · cases h
      · cases h
    · cases h
theorem kidsDown_same {D D' : Int → Option Int} {qs : List Nq} {m : Int} (hD : ∀ i a, D i = some a → a < i) (h : ∀ i, i < m → D i = D' i) : ∀ (l : List (Nat × Int)) (at_ : Int), at_ < m → kidsDown D qs l at_ = kidsDown D' qs l at_
  | [], at_, _ => rfl
  | (j, kid) :: r, at_, hm => by
    unfold kidsDown
    rw [← h at_ hm]
    split
    · cases hd : D at_ with
      | none => rfl
      | some a => exact kidsDown_same hD h r a (by have := hD _ _ hd; omega)
    · rfl
/-- Enough is enough. -/
theorem downF_enough (qs : List Nq) : ∀ (f g : Nat) (i : Int), i < (f : Int) → i < (g : Int) → downF qs f i = downF qs g i
  | 0, g, i, h, h' => by
    cases g with
    | zero => rfl
    | succ g => unfold downF; rw [if_neg (by omega)]
  | f + 1, 0, i, h, h' => by unfold downF; rw [if_neg (by omega)]
  | f + 1, g + 1, i, h, h' => by
    unfold downF
    split
    · split
      · split
        · exact kidsDown_same (m := i) (downF_lt qs f) (fun j hj => downF_enough qs f g j (by omega) (by omega)) _ _ (by omega)
        · rfl
      · rfl
    · rfl
def down (qs : List Nq) (i : Int) : Option Int := downF qs (i.toNat + 1) i
theorem down_lt {qs : List Nq} {i a : Int} (h : down qs i = some a) : a < i := downF_lt qs _ i a h
theorem down_eq (qs : List Nq) (i : Int) : down qs i = if 0 ≤ i then match qs[i.toNat]? with
    | some q => if nodeOk q = true then kidsDown (down qs) qs ((partsL q.n.kind).zip q.n.kids).reverse (i - 1) else none
    | none => none else none := by
  show downF qs (i.toNat + 1) i = _
  unfold downF
  split
  · split
    · split
      · exact kidsDown_same (m := i) (downF_lt qs _) (fun j hj => by
          show downF qs i.toNat j = downF qs (j.toNat + 1) j
          exact downF_enough qs _ _ j (by omega) (by omega)) _ _ (by omega)
      · rfl
    · rfl
  · rfl
end Go.Proofs.YtjmpilmmgfjpmaaDoor.Tr
