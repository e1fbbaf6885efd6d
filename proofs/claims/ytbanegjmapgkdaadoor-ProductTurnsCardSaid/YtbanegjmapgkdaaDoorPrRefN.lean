/-
  Plain facts on the lines that an inner product reads: number by number, by places. No condition; nothing of the program stands here.
-/
import Derived.Test.YtbanegjmapgkdaaDoorPrRefM
set_option maxRecDepth 100000
namespace Go.Proofs.YtbanegjmapgkdaaDoor.Pr
open Go.Proofs.YtbanegjmapgkdaaDoor.Sh
open Go.Proofs.YtbanegjmapgkdaaDoor.Fd
open Go.RowKit
set_option linter.unusedVariables false

/-- The number of the left cell, at a place of the result and of the line; likewise the right one's. -/
def liA (d v d' : List Int) (k j : Nat) : Int := if d.length = 0 then v.getD 0 0 else atI d v (leftP (aheadL d) (behindL d') k ++ [(j : Int)])
def liB (d d' v' : List Int) (k j : Nat) : Int := if d'.length = 0 then v'.getD 0 0 else atI d' v' ((j : Int) :: rightP (aheadL d) (behindL d') k)
def rinL (c : Int) (s : Bool) (d v d' v' : List Int) (k n : Nat) : List Int := (List.range n).map fun j => Sc.doI c s (liA d v d' k j) (liB d d' v' k j)
def rinF (cf : Int) (sf : Bool) (cg : Int) (sg : Bool) (d v d' v' : List Int) (k : Nat) : Int := rowI cf sf (rinL cg sg d v d' v' k (comI d d').toNat)
theorem rinL_len (c : Int) (s : Bool) (d v d' v' : List Int) (k n : Nat) : (rinL c s d v d' v' k n).length = n := by simp [rinL]
theorem rinL_succ (c : Int) (s : Bool) (d v d' v' : List Int) (k n : Nat) : rinL c s d v d' v' k (n + 1) = rinL c s d v d' v' k n ++ [Sc.doI c s (liA d v d' k n) (liB d d' v' k n)] := by unfold rinL; rw [List.range_succ, List.map_append]; rfl
theorem isEmpty_no {d : List Int} (h : ¬ d.length = 0) : d.isEmpty = false := by cases d <;> simp_all
theorem atI_R {v : List Int} (h : AllR v) (d p : List Int) : Sc.InR (atI d v p) := by
  unfold atI; split
  · exact h.at _
  · unfold Sc.InR; omega
theorem liA_R {v : List Int} (h : AllR v) (d d' : List Int) (k j : Nat) : Sc.InR (liA d v d' k j) := by
  unfold liA; split
  · exact h.at _
  · exact atI_R h _ _
theorem liB_R {v' : List Int} (h : AllR v') (d d' : List Int) (k j : Nat) : Sc.InR (liB d d' v' k j) := by
  unfold liB; split
  · exact h.at _
  · exact atI_R h _ _
theorem rinL_R {c : Int} {s : Bool} {d v d' v' : List Int} (h : AllR v) (h' : AllR v') (k n : Nat) : AllR (rinL c s d v d' v' k n) := by
  intro x hx
  simp only [rinL, List.mem_map] at hx
  obtain ⟨j, _, rfl⟩ := hx
  exact Sc.do_R c s _ _ (liA_R h _ _ _ _) (liB_R h' _ _ _ _)
theorem rin_is {cf : Int} {sf : Bool} {cg : Int} {sg : Bool} {d v d' v' : List Int} (h : cellB d v.length = true) (h' : cellB d' v'.length = true) (hf : Sc.hasB cf 2 = true) (hC : comB d d' = true) (hR : rightB (aheadL d ++ behindL d') = true) {k : Nat} (hk : k < (sizeI (aheadL d ++ behindL d')).toNat) :
    rinF cf sf cg sg d v d' v' k = innF cf sf cg sg d v d' v' k := by
  obtain ⟨r1, p1, m1⟩ := cell_prod h
  obtain ⟨r2, p2, m2⟩ := cell_prod h'
  have eN : sizeI (aheadL d ++ behindL d') = prod (aheadL d ++ behindL d') := by simp [sizeI, hR]
  have hk2 := hk
  rw [eN] at hk2
  obtain ⟨h3, h4, h5⟩ := rightB_all hR
  have hpp : posL (aheadL d ++ behindL d') := posL_of h4 (by omega)
  obtain ⟨hpX, hpY⟩ := posL_append hpp
  obtain ⟨-, rb, -, -⟩ := right_part hR (by omega)
  have eW : sizeI (behindL d') = prod (behindL d') := by simp [sizeI, rb]
  have q1 := prod_pos hpY
  obtain ⟨W, hW⟩ : ∃ W : Nat, prod (behindL d') = W := ⟨(prod (behindL d')).toNat, by omega⟩
  obtain ⟨e1, e2⟩ := parts_of hpp k W hW
  obtain ⟨L, hL⟩ : ∃ L : Nat, comI d d' = L := ⟨(comI d d').toNat, by have := com_bd r1 r2; omega⟩
  unfold rinF innF rowV
  rw [if_pos hf, eW, hW, hL]
  simp only [Int.toNat_natCast]
  congr 1
  unfold rinL metL
  refine List.map_congr_left fun j hj => ?_
  have hj : j < L := by simpa using hj
  rw [prod_app] at hk2
  obtain ⟨Q, hQ⟩ : ∃ Q : Nat, prod (aheadL d) = Q := ⟨(prod (aheadL d)).toNat, by have := prod_pos hpX; omega⟩
  rw [hW, hQ, ← Int.natCast_mul, Int.toNat_natCast] at hk2
  have w0 : 0 < W := by omega
  have hkq : k / W < Q := Nat.div_lt_of_lt_mul (by rw [Nat.mul_comm]; exact hk2)
  have hkw : k % W < W := Nat.mod_lt k w0
  congr 1
  · unfold liA alongL
    by_cases h0 : d.length = 0
    · rw [if_pos h0, if_pos h0]
      simp [lineL, List.getD, hj]
    · rw [if_neg h0, if_neg h0, e1]
      have hd : d = aheadL d ++ lastD d :: [] := by
        conv => lhs; rw [last_app (by omega : 0 < d.length)]
        unfold aheadL
        rw [without_last (by omega)]
      have hlast : lastD d = (L : Int) := by
        rw [← hL]
        unfold comI
        rw [if_neg h0]
        by_cases h' : d'.length = 0
        · rw [if_pos h']
        · rw [if_neg h']
          unfold comB at hC
          have i1 : d.isEmpty = false := isEmpty_no h0
          have i2 : d'.isEmpty = false := isEmpty_no h'
          rw [i1, i2] at hC
          have e3 : lastD d = headD d' := by simpa using hC
          rw [if_pos e3, e3]
      rw [hlast] at hd
      have key := at_mid (X := aheadL d) (Y := []) (v := v) (P := (L : Int)) (S := 1) (i := ((k / W : Nat) : Int)) (j := (j : Int)) (by rw [← hd]; exact h) hpX (fun x hx => by simp at hx) (by omega) (Int.natCast_nonneg _) (by rw [prod_app, prod_cons, prod_nil, hQ]; exact (by simpa using (Int.ofNat_lt.2 hkq)))  (by omega) (by omega)
      rw [prod_nil, Int.mul_one, Int.ediv_one, ← hd] at key
      have k1 := key.1
      rw [show dg [] ((k / W : Nat) : Int) = [] from rfl] at k1
      rw [k1]
      simp only [lineL, List.getD, List.getElem?_map, List.getElem?_range hj, Option.map_some, Option.getD_some]
      congr 2
      rw [Int.mul_one, Int.emod_one, Int.add_zero, Nat.mul_one]
      rw [← Int.natCast_mul, ← Int.natCast_add, Int.toNat_natCast]
  · unfold liB alongL
    by_cases h0 : d'.length = 0
    · rw [if_pos h0, if_pos h0]
      simp [lineL, List.getD, hj]
    · rw [if_neg h0, if_neg h0, e2]
      have hd : d' = [] ++ headD d' :: behindL d' := by
        conv => lhs; rw [head_app (by omega : 0 < d'.length)]
        unfold behindL
        rw [without_first (by omega)]
        rfl
      have hhead : headD d' = (L : Int) := by
        rw [← hL]
        unfold comI
        by_cases h' : d.length = 0
        · rw [if_pos h', if_neg h0]
        · rw [if_neg h', if_neg h0]
          unfold comB at hC
          have i1 : d.isEmpty = false := isEmpty_no h'
          have i2 : d'.isEmpty = false := isEmpty_no h0
          rw [i1, i2] at hC
          have e3 : lastD d = headD d' := by simpa using hC
          rw [if_pos e3]
      rw [hhead] at hd
      have key := at_mid (X := []) (Y := behindL d') (v := v') (P := (L : Int)) (S := 1) (i := ((k % W : Nat) : Int)) (j := (j : Int)) (by rw [← hd]; exact h') (fun x hx => by simp at hx) hpY (by omega) (by omega) (by rw [List.nil_append, prod_cons, hW]; omega) (by omega) (by omega)
      rw [← hd, hW, Int.one_mul] at key
      have k1 := key.1
      rw [show dg [] (((k % W : Nat) : Int) / (W : Int)) = [] from rfl, List.nil_append] at k1
      rw [k1]
      simp only [lineL, List.getD, List.getElem?_map, List.getElem?_range hj, Option.map_some, Option.getD_some]
      congr 2
      have z : ((k % W : Nat) : Int) / (W : Int) = 0 := Int.ediv_eq_zero_of_lt (by omega) (by omega)
      have z2 : ((k % W : Nat) : Int) % (W : Int) = ((k % W : Nat) : Int) := Int.emod_eq_of_lt (by omega) (by omega)
      rw [z, z2, Int.zero_mul, Int.zero_add, ← Int.natCast_mul, ← Int.natCast_add, Int.toNat_natCast, Nat.add_comm]
end Go.Proofs.YtbanegjmapgkdaaDoor.Pr
