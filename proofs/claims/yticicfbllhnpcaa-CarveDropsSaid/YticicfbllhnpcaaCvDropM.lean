/-
  Dropping axis by axis is dropping at once. Arithmetic alone.
-/
import Derived.Test.YticicfbllhnpcaaCvChosen
import Derived.Test.YticicfbllhnpcaaPkW
set_option maxRecDepth 100000
namespace Go.Proofs.Yticicfbllhnpcaa.Sh
open Go.RowKit
set_option linter.unusedVariables false

theorem right_le {a b : List Int} (hl : a.length = b.length) (h : ∀ i, i < b.length → 0 ≤ a.getD i 0 ∧ a.getD i 0 ≤ b.getD i 0) (hD : b.all okAx = true) (h3 : b.length ≤ 3) (hp : prod b ≤ 64) : rightB a = true := by
  have hp2 := prod_le hl h
  refine rightB_mk (by omega) ?_ (by omega)
  rw [List.all_eq_true]
  intro x hx
  obtain ⟨i, hi, rfl⟩ := List.getElem_of_mem hx
  have h1 := h i (by omega)
  have h2 := okAx_at hD i (by omega)
  have e : a[i] = a.getD i 0 := by simp [List.getD, hi]
  rw [e]
  simp only [okAx, Bool.and_eq_true, decide_eq_true_eq]
  omega
/-- The axes behind the first steps, and how far the numbers are behind. -/
def dpD (D r : List Int) (a : Nat) : List Int := (List.range D.length).map fun i => if i < a then r.getD i 0 else D.getD i 0
def dpG (g : List Int) (n a : Nat) : List Int := (List.range n).map fun i => if i < a then g.getD i 0 else 0
theorem dpD_len (D r : List Int) (a : Nat) : (dpD D r a).length = D.length := by simp [dpD]
theorem dpD_at (D r : List Int) (a i : Nat) (h : i < D.length) : (dpD D r a).getD i 0 = if i < a then r.getD i 0 else D.getD i 0 := by simp [dpD, List.getD, h]
theorem dpG_at (g : List Int) (n a i : Nat) (h : i < n) : (dpG g n a).getD i 0 = if i < a then g.getD i 0 else 0 := by simp [dpG, List.getD, h]
theorem list_eq {a b : List Int} (hl : a.length = b.length) (h : ∀ i, i < b.length → a.getD i 0 = b.getD i 0) : a = b := by
  apply List.ext_getElem hl
  intro i h1 h2
  have := h i h2
  simpa [List.getD, h1, h2] using this
theorem dpD_0 (D r : List Int) : dpD D r 0 = D := list_eq (dpD_len _ _ _) fun i hi => by rw [dpD_at _ _ _ _ hi, if_neg (by omega)]
theorem dpD_n {D r : List Int} (h : r.length = D.length) : dpD D r D.length = r := list_eq (by rw [dpD_len, h]) fun i hi => by rw [dpD_at _ _ _ _ (by omega), if_pos (by omega)]
theorem dpG_n {g : List Int} {n : Nat} (h : g.length = n) : dpG g n n = g := list_eq (by simp [dpG, h]) fun i hi => by rw [dpG_at _ _ _ _ (by omega), if_pos (by omega)]
theorem dpD_set {D r : List Int} {a : Nat} (h : a < D.length) {x : Int} (hx : x = r.getD a 0) : withL (dpD D r a) (a : Int) x = dpD D r (a + 1) := by
  unfold withL
  rw [if_pos ⟨by omega, by rw [dpD_len]; omega⟩, Int.toNat_natCast]
  refine list_eq (by simp [dpD_len]) fun i hi => ?_
  rw [dpD_len] at hi
  rw [dpD_at _ _ _ _ hi]
  by_cases he : i = a
  · subst he; rw [if_pos (by omega), hx]; simp [List.getD, dpD_len, hi]
  · have e : ((dpD D r a).set a x).getD i 0 = (dpD D r a).getD i 0 := by simp only [List.getD]; rw [List.getElem?_set_ne (by omega)]
    rw [e, dpD_at _ _ _ _ hi]
    by_cases h1 : i < a
    · rw [if_pos h1, if_pos (by omega)]
    · rw [if_neg h1, if_neg (by omega)]
theorem set_at (q : List Int) (a i : Nat) (y : Int) (h : i < q.length) : (q.set a y).getD i 0 = if i = a then y else q.getD i 0 := by
  by_cases he : i = a
  · subst he; simp [List.getD, h]
  · rw [if_neg he]; simp only [List.getD]; rw [List.getElem?_set_ne (by omega)]
theorem shP_at (ah p : List Int) (i : Nat) (h : i < p.length) : (shP ah p).getD i 0 = p.getD i 0 + ah.getD i 0 := by simp [shP, List.getD, h]
theorem shV_zero {D u g : List Int} (h : cellB D u.length = true) : shV D (dpG g D.length 0) D u = u := by
  have hs := (cellB_parts h).2
  unfold shV
  rw [← hs, Int.toNat_natCast]
  refine list_eq (by simp) fun k hk => ?_
  have e : shP (dpG g D.length 0) (dg D (k : Int)) = dg D (k : Int) := list_eq (shP_len _ _) fun i hi => by
    rw [dg_length] at hi
    rw [shP_at _ _ _ (by rw [dg_length]; exact hi), dpG_at _ _ _ _ hi, if_neg (by omega), Int.add_zero]
  have : ((List.range u.length).map fun k : Nat => atI D u (shP (dpG g D.length 0) (dg D (k : Int)))).getD k 0 = atI D u (shP (dpG g D.length 0) (dg D (k : Int))) := by simp [List.getD, hk]
  rw [this, e]
  exact atI_dg h hk
/-- The list that is chosen: so many from the first one that stays. -/
def lstL (x : Int) (n : Nat) : List Int := (List.range n).map fun i : Nat => x + (i : Int)
theorem lstL_len (x : Int) (n : Nat) : (lstL x n).length = n := by simp [lstL]
theorem lstL_at (x : Int) (n i : Nat) (h : i < n) : (lstL x n).getD i 0 = x + (i : Int) := by simp [lstL, List.getD, h]
theorem lstL_succ (x : Int) (n : Nat) : lstL x (n + 1) = lstL x n ++ [x + (n : Int)] := by unfold lstL; rw [List.range_succ, List.map_append]; rfl
structure DrOk (D r g : List Int) : Prop where
  hr : r.length = D.length
  hg : g.length = D.length
  b : ∀ i, i < D.length → 0 ≤ r.getD i 0 ∧ 0 ≤ g.getD i 0 ∧ g.getD i 0 + r.getD i 0 ≤ D.getD i 0
theorem dpD_right {D r g : List Int} {n : Nat} (ok : DrOk D r g) (h : rightB D = true) (a : Nat) : rightB (dpD D r a) = true := by
  obtain ⟨h3, hD, hp⟩ := rightB_all h
  refine right_le (dpD_len _ _ _) (fun i hi => ?_) hD h3 hp
  have := ok.b i hi
  have := okAx_at hD i hi
  rw [dpD_at _ _ _ _ hi]; split <;> omega
theorem drop_step {D u r g : List Int} (ok : DrOk D r g) (h : rightB D = true) {a : Nat} (ha : a < D.length) {O : List Int} {n : Nat}
    (hO : withL (dpD D r a) (a : Int) ((lstL (g.getD a 0) (r.getD a 0).toNat).length : Int) = O) (hn : sizeI O = (n : Int)) :
    O = dpD D r (a + 1) ∧ (List.range n).map (chF (dpD D r a) (shV (dpD D r a) (dpG g D.length a) D u) (lstL (g.getD a 0) (r.getD a 0).toNat) a O) = shV (dpD D r (a + 1)) (dpG g D.length (a + 1)) D u := by
  have hb := ok.b a ha
  rw [lstL_len] at hO
  have hOe : O = dpD D r (a + 1) := by rw [← hO]; exact dpD_set ha (by omega)
  refine ⟨hOe, ?_⟩
  subst hOe
  unfold shV
  rw [hn, Int.toNat_natCast]
  refine List.map_congr_left fun k hk => ?_
  have hk2 : k < n := by simpa using hk
  have hpos := (sizeI_pos (d := dpD D r (a + 1)) (i := (k : Int)) (by omega) (by rw [hn]; omega)).2.2
  have hin := dg_in (i := (k : Int)) hpos
  have hql : (dg (dpD D r (a + 1)) (k : Int)).length = D.length := by rw [dg_length, dpD_len]
  have hq : ∀ i, i < D.length → 0 ≤ (dg (dpD D r (a + 1)) (k : Int)).getD i 0 ∧ (dg (dpD D r (a + 1)) (k : Int)).getD i 0 < (dpD D r (a + 1)).getD i 0 := fun i hi => inB_at hin (by rw [dpD_len]; exact hi)
  unfold chF
  generalize dg (dpD D r (a + 1)) (k : Int) = q at *
  have hqa := hq a ha
  rw [dpD_at _ _ _ _ ha, if_pos (by omega)] at hqa
  rw [lstL_at _ _ _ (by omega), Int.toNat_of_nonneg hqa.1]
  have hN : sizeI (dpD D r a) = (((sizeI (dpD D r a)).toNat : Nat) : Int) := by have := sizeI_bd (dpD D r a); omega
  have hin2 : inB (dpD D r a) (q.set a (g.getD a 0 + q.getD a 0)) = true := by
    refine inB_of (by simp [hql, dpD_len]) fun i hi => ?_
    rw [dpD_len] at hi
    rw [set_at _ _ _ _ (by omega), dpD_at _ _ _ _ hi]
    have h1 := hq i hi
    rw [dpD_at _ _ _ _ hi] at h1
    by_cases he : i = a
    · subst he; rw [if_pos rfl, if_neg (by omega)]; omega
    · rw [if_neg he]
      by_cases h2 : i < a
      · rw [if_pos h2]; rw [if_pos (by omega)] at h1; exact h1
      · rw [if_neg h2]; rw [if_neg (by omega)] at h1; exact h1
  have hm := atI_map (D := dpD D r a) (N := (sizeI (dpD D r a)).toNat) (G := fun p => atI D u (shP (dpG g D.length a) p)) (dpD_right (n := 0) ok h a) hN hin2
  have e : shP (dpG g D.length a) (q.set a (g.getD a 0 + q.getD a 0)) = shP (dpG g D.length (a + 1)) q := by
    refine list_eq (by simp [shP_len]) fun i hi => ?_
    rw [shP_len, hql] at hi
    rw [shP_at _ _ _ (by simp [hql]; exact hi), shP_at _ _ _ (by omega), set_at _ _ _ _ (by omega), dpG_at _ _ _ _ hi, dpG_at _ _ _ _ hi]
    by_cases he : i = a
    · subst he; rw [if_pos rfl, if_neg (by omega), if_pos (by omega)]; omega
    · rw [if_neg he]
      by_cases h2 : i < a
      · rw [if_pos h2, if_pos (by omega)]
      · rw [if_neg h2, if_neg (by omega)]
  rw [hm, e]
/-- What Drop's own numbers are. -/
theorem dr_ok {dn vn d v : List Int} (h : coE dn vn d v = 0) : DrOk (coD vn d) (rowF vn.length (drF (smL vn) (coD vn d))) (rowF vn.length (drG (smL vn) (coD vn d))) := by
  obtain ⟨h1, h2, h3, h4⟩ := coE_0 h
  have hD := (coD_right (vn := vn) (cellB_parts h2).1).1
  refine ⟨by rw [rowF_len, h4], by rw [rowF_len, h4], fun i hi => ?_⟩
  have hx := okAx_at hD i hi
  rw [rowF_at _ _ _ (by omega), rowF_at _ _ _ (by omega)]
  unfold drF drG absI
  split <;> omega
/-- Which ones stay. -/
theorem dr_stay {vn D : List Int} {a k : Nat} (ha : a < vn.length) (hD : 0 ≤ D.getD a 0 ∧ D.getD a 0 ≤ 64) (hk : (k : Int) < D.getD a 0) :
    ((0 ≤ vn.getD a 0 ∧ vn.getD a 0 ≤ (k : Int)) ∨ (vn.getD a 0 < 0 ∧ (k : Int) - D.getD a 0 < vn.getD a 0)) ↔ (drG (smL vn) D a ≤ (k : Int) ∧ (k : Int) < drG (smL vn) D a + drF (smL vn) D a) := by
  unfold drF drG
  rw [smL_at vn a ha]
  unfold absI sm65
  split <;> omega
end Go.Proofs.Yticicfbllhnpcaa.Sh
