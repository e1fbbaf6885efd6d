/-
  What riffleref08.Scan answers for any function and any cell, and fold.Scan likewise in one sentence; nothing that was there is written. Conditions: the numbers are int64; at most 100 axes and 1000 numbers; for fold.Scan the table of traits holds what its text lays.
-/
import Derived.Test.YtbanegjmapgkdaaDoorFdRLine
import Derived.Test.YtbanegjmapgkdaaDoorCellBox
import Derived.Test.YtbanegjmapgkdaaDoorPkY
import Derived.Deep.QuietTactic
set_option maxRecDepth 100000
namespace Go.Proofs.YtbanegjmapgkdaaDoor.Fd
open Go.Proofs.YtbanegjmapgkdaaDoor.Sh
open Go.RowKit
set_option linter.unusedVariables false

def axI (d : List Int) (b : Bool) : Int := if b = true then 0 else (d.length : Int) - 1
def scE (c : Int) (d : List Int) (n : Nat) : Int := if cellB d n = true then (if Sc.hasB c 2 = true then 0 else 13) else 1
def scD (c : Int) (d : List Int) (n : Nat) : List Int := if scE c d n = 0 then d else []
/-- What stands at a place of a scan. -/
def scG (c : Int) (s : Bool) (d v : List Int) (b : Bool) (k : Nat) : Int := rowI c s (dlL d v (dg d (k : Int)) (axI d b) (((dg d (k : Int)).getD (axI d b).toNat 0).toNat + 1))
def scV (c : Int) (s : Bool) (d v : List Int) (b : Bool) : List Int := if scE c d v.length = 0 then (if d.length = 0 then v else (List.range v.length).map (scG c s d v b)) else []
section
variable {c : Int} {s : Bool} {d v : List Int} {b : Bool} {n : Nat}
theorem sc_1 (h : cellB d v.length = false) : scE c d v.length = 1 ∧ scD c d v.length = [] ∧ scV c s d v b = [] := by
  have e : scE c d v.length = 1 := by simp [scE, h]
  exact ⟨e, by simp [scD, e], by simp [scV, e]⟩
theorem sc_13 (h : cellB d v.length = true) (h2 : Sc.hasB c 2 = false) : scE c d v.length = 13 ∧ scD c d v.length = [] ∧ scV c s d v b = [] := by
  have e : scE c d v.length = 13 := by simp [scE, h, h2]
  exact ⟨e, by simp [scD, e], by simp [scV, e]⟩
theorem sc_n (h : cellB d v.length = true) (h2 : Sc.hasB c 2 = true) (h0 : d.length = 0) : scE c d v.length = 0 ∧ scD c d v.length = d ∧ scV c s d v b = v := by
  have e : scE c d v.length = 0 := by simp [scE, h, h2]
  exact ⟨e, by simp [scD, e], by unfold scV; rw [if_pos e, if_pos h0]⟩
theorem sc_0 (h : cellB d v.length = true) (h2 : Sc.hasB c 2 = true) (h0 : ¬ d.length = 0) : scE c d v.length = 0 ∧ scD c d v.length = d ∧ scV c s d v b = (List.range v.length).map (scG c s d v b) := by
  have e : scE c d v.length = 0 := by simp [scE, h, h2]
  exact ⟨e, by simp [scD, e], by unfold scV; rw [if_pos e, if_neg h0]⟩
theorem scV_len : (scV c s d v b).length ≤ v.length := by
  unfold scV; split
  · split <;> simp
  · simp
theorem scD_len : (scD c d n).length ≤ d.length := by unfold scD; split <;> simp
theorem axI_nat {a P st : Nat} (ok : AxOk d b a P st) : axI d b = (a : Int) := ok.ax
theorem dg_ax {a P st : Nat} (ok : AxOk d b a P st) (hst : (st : Int) = prod (d.drop (a + 1))) (k : Nat) : (dg d (k : Int)).getD a 0 = ((k / st % P : Nat) : Int) := by
  rw [dg_at d _ a ok.lt, ok.hP, ← hst]; simp
theorem scG_is {a P st : Nat} (h : cellB d v.length = true) (ok : AxOk d b a P st) (hst : (st : Int) = prod (d.drop (a + 1))) {k : Nat} (hk : k < v.length) : scF c s v P st k = scG c s d v b k := by
  obtain ⟨⟨q1, q2⟩, -⟩ := (scok_of h ok hst).pos (by omega)
  unfold scF scG lineL dlL
  rw [axI_nat ok, Int.toNat_natCast, dg_ax ok hst k, Int.toNat_natCast]
  congr 1
  refine List.map_congr_left fun j hj => ?_
  have hj2 : j < k / st % P + 1 := by simpa using hj
  have hp : k / st % P < P := Nat.mod_lt _ q1
  exact (sc_at h ok hst hk (by omega)).symm
end
theorem rhas_x (c v : Int) (b : Bool) (w : World) (h : Sc.hasB c v = b) : Calls Tryd.prog 41 #[.int .i64 c, .int .i64 v] w fun e w' => e = .returned (.bool b) ∧ Below w.heap.size w w' :=
  (Sc.rhas_b c v b w h).mono fun _ _ ⟨e1, e2⟩ => ⟨e1, by subst e2; exact Below.refl _ _⟩
theorem RRow_x (c : Int) (s : Bool) (A : Option Addr) (cap : Nat) (l : List Int) (n : Nat) (x : Int) (w : World) (h2 : Sc.hasB c 2 = true) (hn : l.length = n) (hx : rowI c s l = x) (hl : n ≤ 1000) (hc : n ≤ cap) (hcm : cap ≤ maxLen) (hR : AllR l) (hi : Ints w A l) :
    Calls Tryd.prog 47 #[.agg #[.int .i64 c, .bool s], .slice A n cap] w fun e w' => ∃ t : Bool, e = .returned (.tuple #[.int .i64 x, .bool t]) ∧ Below w.heap.size w w' := by
  subst hn
  refine (RRow_any c s l A cap w hl hc hcm hR hi).mono ?_
  rintro e w' ⟨rfl, hb⟩
  refine ⟨rowB c l, ?_, hb⟩
  unfold rowV
  rw [if_pos h2, hx]
theorem keepG {w w' : World} {g : Nat} {p : Addr} {x : Value} (hg : w.grownBy w' (some g)) (hne : p.block ≠ g) (h : w.cell? p = some x) : w'.cell? p = some x :=
  (World.cell?_of_block (hg.block p.block (World.block_lt_of_cell? w p h) (fun e => hne (by injection e)))).trans h
end Go.Proofs.YtbanegjmapgkdaaDoor.Fd
