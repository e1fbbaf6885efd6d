/-
  The inner product of two cells, turned, is that of both turned, the other way round. Plain facts; nothing of the program stands here but the list that carve.Turn makes.
-/
import Derived.Test.YtbanegjmapgkdaaDoorPrRefN
import Derived.Test.YtbanegjmapgkdaaDoorPkV
set_option maxRecDepth 100000
namespace Go.Proofs.YtbanegjmapgkdaaDoor.Pr
open Go.Proofs.YtbanegjmapgkdaaDoor.Sh
open Go.Proofs.YtbanegjmapgkdaaDoor.Fd
open Go.RowKit
set_option linter.unusedVariables false

theorem atI_map {D : List Int} {N : Nat} {G : List Int → Int} {p : List Int} (hR : rightB D = true) (hN : sizeI D = N) (hp : inB D p = true) :
    atI D ((List.range N).map fun k : Nat => G (dg D (k : Int))) p = G p := by
  have hc : cellB D ((List.range N).map fun k : Nat => G (dg D (k : Int))).length = true := by unfold cellB; rw [hR, hN]; simp
  have hb := hor_bd D p hp
  have hz : sizeI D = prod D := by unfold sizeI; rw [if_pos hR]
  rw [Fd.atI_hor hc hp]
  obtain ⟨j, hj⟩ := Int.eq_ofNat_of_zero_le hb.1
  have hj2 : j < N := by omega
  rw [hj]
  simp [List.getD, hj2]
  rw [← hj, dg_hor D p hp]
theorem inB_rev' {d p : List Int} (h : inB d p = true) : inB d.reverse p.reverse = true := by
  induction d generalizing p with
  | nil => cases p with
    | nil => rfl
    | cons => simp [inB] at h
  | cons x d ih =>
    cases p with
    | nil => simp [inB] at h
    | cons z p =>
      have hl := inB_length h
      simp only [inB, Bool.and_eq_true] at h
      rw [List.reverse_cons, List.reverse_cons, inB_snoc _ _ _ _ (by simpa using hl), ih h.2]
      simpa using h.1
theorem tuV_len {d v : List Int} (h : cellB d v.length = true) : (tuV d v).length = v.length := by
  unfold tuV; rw [(rev_right (cellB_parts h).1).2, ← (cellB_parts h).2]; simp
theorem rev_cell {d : List Int} {n : Nat} (h : cellB d n = true) : cellB d.reverse n = true := by
  have hr := cellB_parts h
  have := rev_right hr.1
  unfold cellB
  rw [this.1, this.2, ← hr.2]; simp
/-- The number at a place of a turned cell. -/
theorem turn_at {d v p : List Int} (h : cellB d v.length = true) (hp : inB d.reverse p = true) : atI d.reverse (tuV d v) p = atI d v p.reverse := by
  have hr := rev_right (cellB_parts h).1
  obtain ⟨N, hN⟩ : ∃ N : Nat, sizeI d.reverse = (N : Int) := ⟨v.length, by rw [hr.2]; exact (cellB_parts h).2.symm⟩
  unfold tuV
  rw [hN, Int.toNat_natCast]
  exact atI_map (G := fun q => atI d v q.reverse) hr.1 hN hp
theorem ahead_rev (d : List Int) : aheadL d.reverse = (behindL d).reverse := by
  cases d with
  | nil => rfl
  | cons x t =>
    have h1 : 0 < (x :: t).reverse.length := by simp
    unfold aheadL behindL
    rw [without_last h1, without_first (by simp)]
    simp
theorem behind_rev (d : List Int) : behindL d.reverse = (aheadL d).reverse := by
  have := ahead_rev d.reverse
  rw [List.reverse_reverse] at this
  rw [this, List.reverse_reverse]
theorem head_rev {d : List Int} (h : 0 < d.length) : headD d.reverse = lastD d := by
  unfold lastD headD
  simp only [List.getD]
  rw [List.getElem?_reverse (by simpa using h)]
  simp
theorem last_rev {d : List Int} (h : 0 < d.length) : lastD d.reverse = headD d := by
  have := head_rev (d := d.reverse) (by simpa using h)
  rw [List.reverse_reverse] at this
  exact this.symm
theorem com_rev {d d' : List Int} (h : comB d d' = true) : comB d'.reverse d.reverse = true ∧ comI d'.reverse d.reverse = comI d d' := by
  by_cases h1 : d.length = 0
  · obtain rfl := List.eq_nil_of_length_eq_zero h1
    by_cases h2 : d'.length = 0
    · obtain rfl := List.eq_nil_of_length_eq_zero h2
      exact ⟨rfl, rfl⟩
    · refine ⟨by simp [comB], ?_⟩
      unfold comI
      rw [List.length_reverse, List.length_reverse, if_neg h2, if_pos h1, if_pos h1, if_neg h2, last_rev (by omega)]
  · by_cases h2 : d'.length = 0
    · obtain rfl := List.eq_nil_of_length_eq_zero h2
      refine ⟨by simp [comB], ?_⟩
      unfold comI
      rw [List.length_reverse, List.length_reverse, if_pos h2, if_neg h1, if_neg h1, if_pos h2, head_rev (by omega)]
    · have e : lastD d = headD d' := by
        unfold comB at h
        rw [isEmpty_no h1, isEmpty_no h2] at h
        simpa using h
      have l1 := last_rev (d := d') (by omega)
      have l2 := head_rev (d := d) (by omega)
      refine ⟨by unfold comB; rw [l1, l2, e]; simp, ?_⟩
      unfold comI
      rw [List.length_reverse, List.length_reverse, l1, l2, e, if_neg h2, if_neg h1, if_pos rfl, if_neg h1, if_neg h2]
/-- A part of a box. -/
theorem inB_cat {X Y p q : List Int} (hp : p.length = X.length) : inB (X ++ Y) (p ++ q) = (inB X p && inB Y q) := inB_append X Y p q hp
theorem rowI_cong {c : Int} {s : Bool} {a b : List Int} (h : a = b) : rowI c s a = rowI c s b := by rw [h]
theorem do_swap (c : Int) (s : Bool) (x y : Int) : Sc.doI c (!s) x y = Sc.doI c s y x := by
  unfold Sc.doI
  cases s <;> simp
variable {cf : Int} {sf : Bool} {cg : Int} {sg : Bool} {d v e u : List Int}
theorem inn_cells (h0 : innE cf sf cg sg d v.length e u.length = 0) : cellB d v.length = true ∧ cellB e u.length = true := by
  unfold innE at h0
  split at h0
  · rename_i h; exact ⟨(pfit_cells h).1, (pfit_cells h).2.1⟩
  · rename_i h; exact absurd h0 h
/-- What turning an inner product's numbers gives. -/
theorem inn_turn (h : cellB d v.length = true) (h' : cellB e u.length = true) (h0 : innE cf sf cg sg d v.length e u.length = 0) :
    innE cf sf cg (!sg) e.reverse (tuV e u).length d.reverse (tuV d v).length = 0 ∧ aheadL e.reverse ++ behindL d.reverse = (aheadL d ++ behindL e).reverse ∧
      innV cf sf cg (!sg) e.reverse (tuV e u) d.reverse (tuV d v) = tuV (aheadL d ++ behindL e) (innV cf sf cg sg d v e u) ∧ cellB (aheadL d ++ behindL e) (innV cf sf cg sg d v e u).length = true := by
  unfold innE pfitE at h0
  have hA : cellB d v.length = true ∧ cellB e u.length = true := ⟨h, h'⟩
  have hF : hasAll [(cf, sf), (cg, sg)] = true := by
    by_cases hh : hasAll [(cf, sf), (cg, sg)] = true
    · exact hh
    · rw [if_pos hA, if_neg hh, if_neg (by decide)] at h0; exact absurd h0 (by decide)
  rw [if_pos hA, if_pos hF, if_pos rfl] at h0
  have hC : comB d e = true := by
    by_cases hh : comB d e = true
    · exact hh
    · rw [if_neg hh] at h0; exact absurd h0 (by decide)
  rw [if_pos hC] at h0
  have h5 : ¬ (comI d e = 0 ∧ (Sc.trOf cf).starts = false) := fun hh => by rw [if_pos hh] at h0; exact absurd h0 (by decide)
  rw [if_neg h5] at h0
  have hR : rightB (aheadL d ++ behindL e) = true := by
    by_cases hh : rightB (aheadL d ++ behindL e) = true
    · exact hh
    · rw [if_neg hh] at h0; exact absurd h0 (by decide)
  clear h0
  have hf : Sc.hasB cf 2 = true := by simp [hasAll] at hF; exact hF.1
  have hg : Sc.hasB cg 2 = true := by simp [hasAll] at hF; exact hF.2
  have hF' : hasAll [(cf, sf), (cg, !sg)] = true := by simp [hasAll, hf, hg]
  have k1 : cellB e.reverse (tuV e u).length = true := by rw [tuV_len h']; exact rev_cell h'
  have k2 : cellB d.reverse (tuV d v).length = true := by rw [tuV_len h]; exact rev_cell h
  obtain ⟨c1, c2⟩ := com_rev hC
  have hax : aheadL e.reverse ++ behindL d.reverse = (aheadL d ++ behindL e).reverse := by rw [ahead_rev, behind_rev, List.reverse_append]
  have hr := rev_right hR
  have hR' : rightB (aheadL e.reverse ++ behindL d.reverse) = true := by rw [hax]; exact hr.1
  have hN : (innV cf sf cg sg d v e u).length = (sizeI (aheadL d ++ behindL e)).toNat := by simp [innV]
  have hV : cellB (aheadL d ++ behindL e) (innV cf sf cg sg d v e u).length = true := by
    unfold cellB
    rw [hR, hN]
    have := sizeI_bd (aheadL d ++ behindL e)
    simp; omega
  refine ⟨?_, hax, ?_, hV⟩
  · unfold innE pfitE
    have hK : cellB e.reverse (tuV e u).length = true ∧ cellB d.reverse (tuV d v).length = true := ⟨k1, k2⟩
    rw [if_pos hK, if_pos hF', if_pos rfl, if_pos c1, c2, if_neg h5, if_pos hR']
  · conv => rhs; unfold tuV
    conv => lhs; unfold innV
    rw [hax]
    refine List.map_congr_left fun k hk => ?_
    have hk : k < (sizeI (aheadL d ++ behindL e).reverse).toNat := by simpa using hk
    have hk' := hk
    rw [hr.2] at hk'
    rw [← rin_is k1 k2 hf c1 hR' (by rw [hax]; exact hk)]
    -- the place
    have ep : sizeI (aheadL d ++ behindL e) = prod (aheadL d ++ behindL e) := by simp [sizeI, hR]
    have hp0 : posL (aheadL d ++ behindL e) := posL_of (rightB_all hR).2.1 (by omega)
    have hpr : posL (aheadL d ++ behindL e).reverse := fun x hx => hp0 x (List.mem_reverse.1 hx)
    obtain ⟨q, hq⟩ : ∃ q, dg (aheadL d ++ behindL e).reverse (k : Int) = q := ⟨_, rfl⟩
    have hin : inB (aheadL d ++ behindL e).reverse q = true := by rw [← hq]; exact dg_in hpr _
    have hql : q.length = (aheadL d ++ behindL e).length := by rw [← hq, dg_length, List.length_reverse]
    have hinr : inB (aheadL d ++ behindL e) q.reverse = true := by
      have := inB_rev' hin
      rwa [List.reverse_reverse] at this
    -- the number of the right side
    have hb := hor_bd _ _ hinr
    obtain ⟨m, hm⟩ : ∃ m : Nat, hor (aheadL d ++ behindL e) q.reverse 0 = (m : Int) := ⟨(hor (aheadL d ++ behindL e) q.reverse 0).toNat, by omega⟩
    have hm2 : m < (sizeI (aheadL d ++ behindL e)).toNat := by rw [ep]; omega
    have hdm : dg (aheadL d ++ behindL e) (m : Int) = q.reverse := by rw [← hm]; exact dg_hor _ _ hinr
    rw [hq, Fd.atI_hor hV hinr, hm, Int.toNat_natCast]
    have hget : (innV cf sf cg sg d v e u).getD m 0 = innF cf sf cg sg d v e u m := by simp [innV, List.getD, hm2]
    rw [hget, ← rin_is h h' hf hC hR hm2]
    unfold rinF
    rw [c2]
    apply rowI_cong
    unfold rinL
    have hlr : (aheadL d).length + (behindL e).length = q.length := by rw [hql, List.length_append]
    have el1 : leftP (aheadL e.reverse) (behindL d.reverse) k = q.take (behindL e).length := by
      unfold leftP; rw [hax, hq, ahead_rev, List.length_reverse]
    have er1 : rightP (aheadL e.reverse) (behindL d.reverse) k = q.drop (behindL e).length := by
      unfold rightP; rw [hax, hq, ahead_rev, List.length_reverse]
    have el2 : leftP (aheadL d) (behindL e) m = (q.drop (behindL e).length).reverse := by
      unfold leftP; rw [hdm, List.take_reverse]
      congr 2; omega
    have er2 : rightP (aheadL d) (behindL e) m = (q.take (behindL e).length).reverse := by
      unfold rightP; rw [hdm, List.drop_reverse]
      congr 2; omega
    have hsp : inB (behindL e).reverse (q.take (behindL e).length) = true ∧ inB (aheadL d).reverse (q.drop (behindL e).length) = true := by
      rw [List.reverse_append] at hin
      have hx := inB_cat (X := (behindL e).reverse) (Y := (aheadL d).reverse) (p := q.take (behindL e).length) (q := q.drop (behindL e).length) (by rw [List.length_take, List.length_reverse]; omega)
      rw [List.take_append_drop, hin] at hx
      simpa using hx.symm
    refine List.map_congr_left fun j hj => ?_
    have hj : j < (comI d e).toNat := by simpa using hj
    rw [do_swap]
    have hA : liA e.reverse (tuV e u) d.reverse k j = liB d e u m j := by
      unfold liA liB
      rw [List.length_reverse]
      by_cases hz : e.length = 0
      · rw [if_pos hz, if_pos hz]
        obtain rfl := List.eq_nil_of_length_eq_zero hz
        have hu : u.length = 1 := by have := (cellB_len h').1; rw [prod_nil] at this; omega
        obtain ⟨x, rfl⟩ : ∃ x, u = [x] := by
          match u, hu with
          | [x], _ => exact ⟨x, rfl⟩
        have := turn_at (d := []) (v := [x]) (p := []) h' rfl
        rw [Fd.atI_hor (by simpa using k1) rfl, Fd.atI_hor h' rfl] at this
        simpa [hor] using this
      · rw [if_neg hz, if_neg hz, el1, er2]
        have he : e = headD e :: behindL e := by
          conv => lhs; rw [head_app (by omega : 0 < e.length)]
          unfold behindL
          rw [without_first (by omega)]
        have hh : headD e = comI d e := by
          unfold comI
          by_cases hy : d.length = 0
          · rw [if_pos hy, if_neg hz]
          · rw [if_neg hy, if_neg hz]
            unfold comB at hC
            rw [isEmpty_no hy, isEmpty_no hz] at hC
            have e3 : lastD d = headD e := by simpa using hC
            rw [if_pos e3]
        have hin2 : inB e.reverse (q.take (behindL e).length ++ [(j : Int)]) = true := by
          have hrev : e.reverse = (behindL e).reverse ++ [headD e] := by conv => lhs; rw [he, List.reverse_cons]
          rw [hrev, inB_cat (by rw [List.length_take, List.length_reverse]; omega), hsp.1]
          simp [inB, hh]; omega
        rw [turn_at h' hin2, List.reverse_append]
        rfl
    have hB : liB e.reverse d.reverse (tuV d v) k j = liA d v e m j := by
      unfold liA liB
      rw [List.length_reverse]
      by_cases hz : d.length = 0
      · rw [if_pos hz, if_pos hz]
        obtain rfl := List.eq_nil_of_length_eq_zero hz
        have hu : v.length = 1 := by have := (cellB_len h).1; rw [prod_nil] at this; omega
        obtain ⟨x, rfl⟩ : ∃ x, v = [x] := by
          match v, hu with
          | [x], _ => exact ⟨x, rfl⟩
        have := turn_at (d := []) (v := [x]) (p := []) h rfl
        rw [Fd.atI_hor (by simpa using k2) rfl, Fd.atI_hor h rfl] at this
        simpa [hor] using this
      · rw [if_neg hz, if_neg hz, er1, el2]
        have hd : d = aheadL d ++ [lastD d] := by
          conv => lhs; rw [last_app (by omega : 0 < d.length)]
          unfold aheadL
          rw [without_last (by omega)]
        have hh : lastD d = comI d e := by
          unfold comI
          rw [if_neg hz]
          by_cases hy : e.length = 0
          · rw [if_pos hy]
          · rw [if_neg hy]
            unfold comB at hC
            rw [isEmpty_no hz, isEmpty_no hy] at hC
            have e3 : lastD d = headD e := by simpa using hC
            rw [if_pos e3, e3]
        have hin2 : inB d.reverse ((j : Int) :: q.drop (behindL e).length) = true := by
          have hrev : d.reverse = lastD d :: (aheadL d).reverse := by
            conv => lhs; rw [hd, List.reverse_append]
            rfl
          rw [hrev]
          simp only [inB, hsp.2, hh]
          simp; omega
        rw [turn_at h hin2, List.reverse_cons]
    rw [hA, hB]
end Go.Proofs.YtbanegjmapgkdaaDoor.Pr
