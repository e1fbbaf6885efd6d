/-
  What riffleref08.Reduce answers for any function and any cell, and fold.Reduce likewise in one sentence; nothing that was there is written. Conditions: the numbers are int64; at most 100 axes and 1000 numbers; for fold.Reduce the table of traits holds what its text lays.
-/
import Derived.Test.YtbanegjmapgkdaaDoorFdRPut
import Derived.Test.YtbanegjmapgkdaaDoorFdRed
set_option maxRecDepth 100000
namespace Go.Proofs.YtbanegjmapgkdaaDoor.Fd
open Go.Proofs.YtbanegjmapgkdaaDoor.Sh
open Go.RowKit
set_option linter.unusedVariables false

def reO (d : List Int) (b : Bool) : List Int := withoutL d (axI d b)
def reE (c : Int) (d : List Int) (n : Nat) (b : Bool) : Int :=
  if cellB d n = true then (if Sc.hasB c 2 = true then (if d.length = 0 then 0 else if d.getD (axI d b).toNat 0 = 0 ∧ (Sc.trOf c).starts = false then 5 else if rightB (reO d b) = true then 0 else 4) else 13) else 1
def reD (c : Int) (d : List Int) (n : Nat) (b : Bool) : List Int := if reE c d n b = 0 then (if d.length = 0 then d else reO d b) else []
/-- What stands at a place of a fold. -/
def reG (c : Int) (s : Bool) (d v : List Int) (b : Bool) (k : Nat) : Int := rowI c s (dlL d v (putL (dg (reO d b) (k : Int)) (axI d b).toNat) (axI d b) (d.getD (axI d b).toNat 0).toNat)
def reV (c : Int) (s : Bool) (d v : List Int) (b : Bool) : List Int := if reE c d v.length b = 0 then (if d.length = 0 then v else (List.range (sizeI (reO d b)).toNat).map (reG c s d v b)) else []
section
variable {c : Int} {s : Bool} {d v : List Int} {b : Bool}
theorem re_1 (h : cellB d v.length = false) : reE c d v.length b = 1 ∧ reD c d v.length b = [] ∧ reV c s d v b = [] := by
  have e : reE c d v.length b = 1 := by simp [reE, h]
  exact ⟨e, by simp [reD, e], by simp [reV, e]⟩
theorem re_13 (h : cellB d v.length = true) (h2 : Sc.hasB c 2 = false) : reE c d v.length b = 13 ∧ reD c d v.length b = [] ∧ reV c s d v b = [] := by
  have e : reE c d v.length b = 13 := by simp [reE, h, h2]
  exact ⟨e, by simp [reD, e], by simp [reV, e]⟩
theorem re_n (h : cellB d v.length = true) (h2 : Sc.hasB c 2 = true) (h0 : d.length = 0) : reE c d v.length b = 0 ∧ reD c d v.length b = d ∧ reV c s d v b = v := by
  have e : reE c d v.length b = 0 := by unfold reE; rw [if_pos h, if_pos h2, if_pos h0]
  exact ⟨e, by unfold reD; rw [if_pos e, if_pos h0], by unfold reV; rw [if_pos e, if_pos h0]⟩
theorem re_5 (h : cellB d v.length = true) (h2 : Sc.hasB c 2 = true) (h0 : ¬ d.length = 0) (h5 : d.getD (axI d b).toNat 0 = 0 ∧ (Sc.trOf c).starts = false) : reE c d v.length b = 5 ∧ reD c d v.length b = [] ∧ reV c s d v b = [] := by
  have e : reE c d v.length b = 5 := by unfold reE; rw [if_pos h, if_pos h2, if_neg h0, if_pos h5]
  exact ⟨e, by simp [reD, e], by simp [reV, e]⟩
theorem re_4 (h : cellB d v.length = true) (h2 : Sc.hasB c 2 = true) (h0 : ¬ d.length = 0) (h5 : ¬ (d.getD (axI d b).toNat 0 = 0 ∧ (Sc.trOf c).starts = false)) (h4 : rightB (reO d b) = false) : reE c d v.length b = 4 ∧ reD c d v.length b = [] ∧ reV c s d v b = [] := by
  have e : reE c d v.length b = 4 := by unfold reE; rw [if_pos h, if_pos h2, if_neg h0, if_neg h5, if_neg (by simp [h4])]
  exact ⟨e, by simp [reD, e], by simp [reV, e]⟩
theorem re_0 (h : cellB d v.length = true) (h2 : Sc.hasB c 2 = true) (h0 : ¬ d.length = 0) (h5 : ¬ (d.getD (axI d b).toNat 0 = 0 ∧ (Sc.trOf c).starts = false)) (h4 : rightB (reO d b) = true) : reE c d v.length b = 0 ∧ reD c d v.length b = reO d b ∧ reV c s d v b = (List.range (sizeI (reO d b)).toNat).map (reG c s d v b) := by
  have e : reE c d v.length b = 0 := by unfold reE; rw [if_pos h, if_pos h2, if_neg h0, if_neg h5, if_pos h4]
  exact ⟨e, by unfold reD; rw [if_pos e, if_neg h0], by unfold reV; rw [if_pos e, if_neg h0]⟩
theorem reO_len : (reO d b).length ≤ d.length := withoutL_len d _
theorem reD_len {n : Nat} : (reD c d n b).length ≤ d.length := by
  unfold reD; split
  · split
    · exact Nat.le_refl _
    · exact reO_len
  · simp
theorem reV_len (hv : v.length ≤ 200) : (reV c s d v b).length ≤ 200 := by
  unfold reV; split
  · split
    · exact hv
    · have := sizeI_bd (reO d b); simp; omega
  · simp
theorem reG_is {a P st n : Nat} (h : cellB d v.length = true) (ok : AxOk d b a P st) (hst : (st : Int) = prod (d.drop (a + 1))) (hR : rightB (reO d b) = true) (hn : sizeI (reO d b) = (n : Int)) {k : Nat} (hk : k < n) : rdF c s v P st k = reG c s d v b k := by
  have hO : reO d b = withoutL d (a : Int) := by unfold reO; rw [axI_nat ok]
  rw [hO] at hR hn
  have hd := (rd_of h ok hst hR hn).2 k hk
  unfold rdF reG lineL dlL
  rw [hO, axI_nat ok, Int.toNat_natCast, ok.hP, Int.toNat_natCast]
  congr 1
  refine List.map_congr_left fun j hj => ?_
  exact (hd j (by simpa using hj)).symm
end
theorem runit_x (c : Int) (t : Bool) (w : World) (ht : (Sc.trOf c).starts = t) : Calls Tryd.prog 42 #[.int .i64 c] w fun e w' => ∃ u : Int, e = .returned (.tuple #[.int .i64 u, .bool t]) ∧ Below w.heap.size w w' := by
  subst ht; exact (Sc.runit_any c w).mono fun _ _ ⟨h1, h2⟩ => ⟨_, h1, h2⟩
end Go.Proofs.YtbanegjmapgkdaaDoor.Fd
