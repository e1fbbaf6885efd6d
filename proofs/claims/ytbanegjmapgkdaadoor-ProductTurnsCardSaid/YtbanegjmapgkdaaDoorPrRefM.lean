/-
  Plain facts on what the document's side of the products reads: the numbers at the parts of a place. No condition; nothing of the program stands here.
-/
import Derived.Test.YtbanegjmapgkdaaDoorPrAny
import Derived.Test.YtbanegjmapgkdaaDoorFdMath
set_option maxRecDepth 100000
namespace Go.Proofs.YtbanegjmapgkdaaDoor.Pr
open Go.Proofs.YtbanegjmapgkdaaDoor.Sh
open Go.Proofs.YtbanegjmapgkdaaDoor.Fd
open Go.RowKit
set_option linter.unusedVariables false

theorem at_dg {D v : List Int} {k : Nat} (h : cellB D v.length = true) (hk : k < v.length) : atI D v (dg D (k : Int)) = v.getD k 0 := by
  have hp := pos_of h (by omega)
  have e := (cellB_len h).1
  rw [atI_hor h (dg_in hp _), hor_dg hp, Int.zero_mul, Int.zero_add, ← e, ← Int.natCast_emod, Int.toNat_natCast, Nat.mod_eq_of_lt hk]
/-- The flat list of a row of equal parts, number by number. -/
theorem flat_range (f : Int → Int → Int) (v u : List Int) : (List.range (v.length * u.length)).map (fun k => f (v.getD (k / u.length) 0) (u.getD (k % u.length) 0)) = v.flatMap fun x => u.map fun y => f x y := by
  induction v with
  | nil => simp
  | cons x l ih =>
    by_cases h0 : u.length = 0
    · obtain rfl := List.eq_nil_of_length_eq_zero h0
      simp
    have hm : 0 < u.length := by omega
    rw [List.flatMap_cons, ← ih, List.length_cons, Nat.add_mul, Nat.one_mul, Nat.add_comm, List.range_add, List.map_append, List.map_map]
    congr 1
    · apply List.ext_getElem
      · simp
      · intro i h1 h2
        have hi : i < u.length := by simpa using h1
        simp [Nat.div_eq_of_lt hi, Nat.mod_eq_of_lt hi, List.getD, hi]
    · refine List.map_congr_left fun i hi => ?_
      simp only [Function.comp]
      rw [Nat.add_div_left _ hm, Nat.add_mod_left]
      simp [List.getD]
/-- The parts of a place. -/
def leftP (d d' : List Int) (k : Nat) : List Int := (dg (d ++ d') (k : Int)).take d.length
def rightP (d d' : List Int) (k : Nat) : List Int := (dg (d ++ d') (k : Int)).drop d.length
theorem leftP_len (d d' : List Int) (k : Nat) : (leftP d d' k).length = d.length := by unfold leftP; rw [List.length_take, dg_length, List.length_append]; omega
theorem rightP_len (d d' : List Int) (k : Nat) : (rightP d d' k).length = d'.length := by unfold rightP; rw [List.length_drop, dg_length, List.length_append]; omega
theorem parts_of {d d' : List Int} (h : posL (d ++ d')) (k n : Nat) (hn : prod d' = n) : leftP d d' k = dg d ((k / n : Nat) : Int) ∧ rightP d d' k = dg d' ((k % n : Nat) : Int) := by
  obtain ⟨hp, hp'⟩ := posL_append h
  have p1 := prod_pos hp'
  have e := dg_append d d' (by omega) (k : Int)
  have hl := dg_length d ((k : Int) / prod d')
  unfold leftP rightP
  rw [e]
  refine ⟨?_, ?_⟩
  · rw [List.take_append_of_le_length (by rw [hl]; exact Nat.le_refl _), List.take_of_length_le (by rw [hl]; exact Nat.le_refl _), hn]
    simp
  · rw [List.drop_append_of_le_length (by rw [hl]; exact Nat.le_refl _), List.drop_of_length_le (by rw [hl]; exact Nat.le_refl _), List.nil_append]
    have := dg_mod hp' ((k : Int) / prod d') ((k : Int) % prod d')
    rw [Int.mul_comm, Int.mul_ediv_add_emod] at this
    rw [this, hn]
    simp
def rouG (c : Int) (s : Bool) (d v d' v' : List Int) (k : Nat) : Int := Sc.doI c s (atI d v (leftP d d' k)) (atI d' v' (rightP d d' k))
theorem rou_is {c : Int} {s : Bool} {d v d' v' : List Int} (h : cellB d v.length = true) (h' : cellB d' v'.length = true) : (List.range (v.length * v'.length)).map (rouG c s d v d' v') = outV c s v v' := by
  unfold outV
  rw [← flat_range]
  refine List.map_congr_left fun k hk => ?_
  have hk' : k < v.length * v'.length := by simpa using hk
  have h0 : 0 < v'.length := by
    rcases Nat.eq_zero_or_pos v'.length with e | e
    · rw [e] at hk'; simp at hk'
    · exact e
  have hq : k / v'.length < v.length := Nat.div_lt_of_lt_mul (by rw [Nat.mul_comm]; exact hk')
  have hr : k % v'.length < v'.length := Nat.mod_lt _ h0
  have p1 := pos_of h (Nat.lt_of_le_of_lt (Nat.zero_le _) hq)
  have p2 := pos_of h' h0
  have hpp : posL (d ++ d') := fun x hx => by
    rcases List.mem_append.1 hx with hx | hx
    · exact p1 x hx
    · exact p2 x hx
  obtain ⟨e1, e2⟩ := parts_of hpp k v'.length (cellB_len h').1.symm
  unfold rouG
  rw [e1, e2, at_dg h hq, at_dg h' hr]
theorem rou_size {d v d' v' : List Int} (h : cellB d v.length = true) (h' : cellB d' v'.length = true) (hR : rightB (d ++ d') = true) : sizeI (d ++ d') = ((v.length * v'.length : Nat) : Int) := by
  have e : sizeI (d ++ d') = prod (d ++ d') := by simp [sizeI, hR]
  rw [e, prod_app, ← (cellB_len h).1, ← (cellB_len h').1, Int.natCast_mul]
end Go.Proofs.YtbanegjmapgkdaaDoor.Pr
