/-
  Folding deltas: what the deltas of a Set come to, done one behind the other. Plain lists, no condition but what each says.
-/
import Derived.Test.YtakoehgjgdcmmaaTpMath
set_option maxRecDepth 100000
namespace Go.Proofs.Ytakoehgjgdcmmaa.Tp
set_option linter.unusedVariables false

/-- A delta done. -/
def foldS (cur : List (List Int)) (d : Dl) : Option (List (List Int)) :=
  if d.1 = 1 then (if d.2.1 = cur.length then some (cur ++ [d.2.2]) else none)
  else if d.1 = 2 then (if d.2.1 < cur.length then some (cur.set d.2.1 d.2.2) else none)
  else if d.1 = 3 then (if d.2.1 + 1 = cur.length ∧ d.2.2 = [] then some (cur.take d.2.1) else none) else none
def foldL (cur : List (List Int)) : List Dl → Option (List (List Int))
  | [] => some cur
  | d :: l => (foldS cur d).bind fun c => foldL c l
theorem foldL_app (cur : List (List Int)) (a b : List Dl) : foldL cur (a ++ b) = (foldL cur a).bind fun c => foldL c b := by
  induction a generalizing cur with
  | nil => rfl
  | cons d a ih =>
    show (foldS cur d).bind (fun c => foldL c (a ++ b)) = ((foldS cur d).bind fun c => foldL c a).bind fun c => foldL c b
    cases h : foldS cur d with
    | none => rfl
    | some c => exact ih c
theorem foldL_one (cur : List (List Int)) (d : Dl) : foldL cur [d] = foldS cur d := by
  unfold foldL
  cases foldS cur d <;> rfl
theorem foldL_snoc {cur c c' : List (List Int)} {l : List Dl} {d : Dl} (h : foldL cur l = some c) (hd : foldS c d = some c') : foldL cur (l ++ [d]) = some c' := by
  rw [foldL_app, h]
  exact (foldL_one c d).trans hd
theorem foldS_1 {cur : List (List Int)} {i : Nat} {r : List Int} (h : i = cur.length) : foldS cur (1, i, r) = some (cur ++ [r]) := by simp [foldS, h]
theorem foldS_2 {cur : List (List Int)} {i : Nat} {r : List Int} (h : i < cur.length) : foldS cur (2, i, r) = some (cur.set i r) := by simp [foldS, h]
theorem foldS_3 {cur : List (List Int)} {i : Nat} (h : i + 1 = cur.length) : foldS cur (3, i, []) = some (cur.take i) := by simp [foldS, h]
/-- What has come to something has come to something all the way. -/
theorem foldL_take {cur fin : List (List Int)} {l : List Dl} (h : foldL cur l = some fin) (k : Nat) : ∃ c, foldL cur (l.take k) = some c := by
  have e := foldL_app cur (l.take k) (l.drop k)
  rw [List.take_append_drop, h] at e
  cases hc : foldL cur (l.take k) with
  | none => rw [hc] at e; cases e
  | some c => exact ⟨c, rfl⟩
theorem foldL_step {cur fin c : List (List Int)} {l : List Dl} {k : Nat} {d : Dl} (h : foldL cur l = some fin) (hc : foldL cur (l.take k) = some c) (hd : l[k]? = some d) : ∃ c', foldS c d = some c' ∧ foldL cur (l.take (k + 1)) = some c' := by
  obtain ⟨hk, e⟩ := List.getElem?_eq_some_iff.1 hd
  obtain ⟨c', h'⟩ := foldL_take h (k + 1)
  have e2 : foldL cur (l.take (k + 1)) = foldS c d := by
    rw [List.take_succ_eq_append_getElem hk, foldL_app, hc, e]
    exact foldL_one c d
  exact ⟨c', by rw [← e2, h'], h'⟩
theorem foldS_len {c c' : List (List Int)} {d : Dl} (h : foldS c d = some c') : c'.length ≤ c.length + 1 := by
  unfold foldS at h
  split at h
  · split at h
    · injection h with h; rw [← h]; simp
    · cases h
  · split at h
    · split at h
      · injection h with h; rw [← h]; simp
      · cases h
    · split at h
      · split at h
        · injection h with h; rw [← h]; rw [List.length_take]; omega
        · cases h
      · cases h
theorem fold_len : ∀ (l : List Dl) {c c' : List (List Int)}, foldL c l = some c' → c'.length ≤ c.length + l.length
  | [], c, c', h => by injection h with h; rw [h]; simp
  | d :: l, c, c', h => by
    unfold foldL at h
    cases hs : foldS c d with
    | none => rw [hs] at h; cases h
    | some x =>
      rw [hs] at h
      have := fold_len l h
      have := foldS_len hs
      rw [List.length_cons]
      omega
/-- With the first j of the new rows in their places. -/
def mix (rows news : List (List Int)) (p j : Nat) : List (List Int) := rows.take p ++ (news.take j ++ rows.drop (p + j))
theorem mix_len {rows news : List (List Int)} {p j : Nat} (h1 : p + j ≤ rows.length) (h2 : j ≤ news.length) : (mix rows news p j).length = rows.length := by
  simp [mix]
  omega
theorem mix_0 (rows news : List (List Int)) (p : Nat) : mix rows news p 0 = rows := by simp [mix]
theorem mix_succ {rows news : List (List Int)} {p j : Nat} (h1 : p + j < rows.length) (h2 : j < news.length) : mix rows news p (j + 1) = (mix rows news p j).set (p + j) (news.getD j []) := by
  have hl : (rows.take p).length = p := by rw [List.length_take]; omega
  have hl2 : (news.take j).length = j := by rw [List.length_take]; omega
  unfold mix
  rw [List.set_append_right _ _ (by omega), hl, Nat.add_sub_cancel_left, List.set_append_right _ _ (by omega), hl2, Nat.sub_self]
  rw [List.take_succ_eq_append_getElem h2, List.append_assoc]
  congr 2
  rw [List.drop_eq_getElem_cons (show p + j < rows.length from h1), List.set_cons_zero, show p + j + 1 = p + (j + 1) by omega]
  simp [List.getD, h2]
theorem mix_at {rows news : List (List Int)} {p j : Nat} (h1 : p + j < rows.length) (h2 : j ≤ news.length) : (mix rows news p j).getD (p + j) [] = rows.getD (p + j) [] := by
  have hl : (rows.take p).length = p := by rw [List.length_take]; omega
  have hl2 : (news.take j).length = j := by rw [List.length_take]; omega
  unfold mix
  simp only [List.getD]
  rw [List.getElem?_append_right (by omega), hl, Nat.add_sub_cancel_left, List.getElem?_append_right (by omega), hl2, Nat.sub_self, List.getElem?_drop]
  simp
theorem set_same {l : List (List Int)} {i : Nat} {x : List Int} (h : l.getD i [] = x) (hi : i < l.length) : l.set i x = l := by
  apply List.ext_getElem
  · simp
  · intro n h1 h2
    rw [List.getElem_set]
    split
    · next e =>
      subst e
      rw [← h]
      simp [List.getD, hi]
    · rfl
theorem fold_acc (rows news : List (List Int)) (p : Nat) (hp : p ≤ rows.length) : ∀ j, p + j ≤ rows.length → j ≤ news.length → foldL rows (acc (f2 rows news p) j) = some (mix rows news p j)
  | 0, _, _ => by rw [mix_0]; rfl
  | j + 1, h1, h2 => by
    have ih := fold_acc rows news p hp j (by omega) (by omega)
    have hm := mix_succ (rows := rows) (news := news) (p := p) (j := j) (by omega) (by omega)
    have hl := mix_len (rows := rows) (news := news) (p := p) (j := j) (by omega) (by omega)
    by_cases he : rows.getD (p + j) [] = news.getD j []
    · have hf : f2 rows news p j = none := by unfold f2; rw [if_neg (fun h => h.2.2 he)]
      rw [acc_no hf, ih, hm, set_same (by rw [mix_at (by omega) (by omega), he]) (by rw [hl]; omega)]
    · have hf : f2 rows news p j = some (2, p + j, news.getD j []) := by unfold f2; rw [if_pos ⟨by omega, by omega, he⟩]
      rw [acc_yes hf]
      exact foldL_snoc ih (by rw [foldS_2 (by rw [hl]; omega), hm])
theorem fold_gone (c : List (List Int)) : ∀ k, k ≤ c.length → foldL c (gone c.length k) = some (c.take (c.length - k))
  | 0, _ => by rw [Nat.sub_zero, List.take_length]; rfl
  | k + 1, h => by
    rw [gone_succ]
    refine foldL_snoc (fold_gone c k (by omega)) ?_
    rw [foldS_3 (by rw [List.length_take]; omega), List.take_take, show min (c.length - 1 - k) (c.length - k) = c.length - (k + 1) by omega]
theorem fold_come (c news : List (List Int)) (p e : Nat) (hc : c.length = e) (hp : p ≤ e) : ∀ k, e - p + k ≤ news.length → foldL c (come news p e k) = some (c ++ (news.drop (e - p)).take k)
  | 0, _ => by rw [List.take_zero, List.append_nil]; rfl
  | k + 1, h => by
    rw [come_succ]
    refine foldL_snoc (fold_come c news p e hc hp k (by omega)) ?_
    have hl : (c ++ (news.drop (e - p)).take k).length = e + k := by
      rw [List.length_append, List.length_take, List.length_drop]; omega
    rw [foldS_1 hl.symm]
    congr 1
    rw [List.append_assoc]
    congr 1
    have hk : k < (news.drop (e - p)).length := by rw [List.length_drop]; omega
    rw [List.take_succ_eq_append_getElem hk]
    congr 2
    rw [List.getElem_drop]
    simp [List.getD, show e + k - p = e - p + k by omega, show e - p + k < news.length by omega]
/-- Folded, the deltas of a Set are the Set. -/
theorem fold_changes (rows news : List (List Int)) (p : Nat) (hp : p ≤ rows.length) : foldL rows (deltasL rows news p) = some (setL rows news p) := by
  rw [deltas_eq rows news p hp]
  unfold changesL
  have h1 := fold_acc rows news p hp (min (rows.length - p) news.length) (by omega) (by omega)
  rw [foldL_app, h1]
  show foldL _ _ = _
  have hl := mix_len (rows := rows) (news := news) (p := p) (j := min (rows.length - p) news.length) (by omega) (by omega)
  by_cases h : p + news.length ≤ rows.length
  · rw [show p + news.length - rows.length = 0 by omega, show come news p rows.length 0 = [] from rfl, List.append_nil]
    have hg := fold_gone (mix rows news p (min (rows.length - p) news.length)) (rows.length - (p + news.length)) (by rw [hl]; omega)
    rw [hl, show rows.length - (rows.length - (p + news.length)) = p + news.length by omega] at hg
    rw [hg]
    congr 1
    unfold mix setL
    rw [show min (rows.length - p) news.length = news.length by omega, List.take_length, ← List.append_assoc, List.take_left']
    rw [List.length_append, List.length_take]
    omega
  · rw [show rows.length - (p + news.length) = 0 by omega, show gone rows.length 0 = [] from rfl, List.nil_append]
    rw [fold_come _ news p rows.length hl hp _ (by omega)]
    congr 1
    unfold mix setL
    rw [show min (rows.length - p) news.length = rows.length - p by omega, show p + (rows.length - p) = rows.length by omega, List.drop_length, List.append_nil, List.append_assoc]
    congr 1
    have e : (news.drop (rows.length - p)).take (p + news.length - rows.length) = news.drop (rows.length - p) := List.take_of_length_le (by rw [List.length_drop]; omega)
    rw [e, List.take_append_drop]
/-- Set again as it is: nothing. -/
theorem deltas_none (rows : List (List Int)) (p : Nat) (hp : p ≤ rows.length) : deltasL rows (rows.drop p) p = [] := by
  rw [deltas_eq _ _ _ hp]
  unfold changesL
  rw [List.length_drop, show rows.length - (p + (rows.length - p)) = 0 by omega, show p + (rows.length - p) - rows.length = 0 by omega]
  have h : ∀ k, acc (f2 rows (rows.drop p) p) k = [] := fun k => by
    induction k with
    | zero => rfl
    | succ k ih =>
      rw [acc_no, ih]
      unfold f2
      rw [if_neg]
      rintro ⟨h1, h2, h3⟩
      apply h3
      simp [List.getD]
  rw [h]
  rfl
theorem set_again (rows : List (List Int)) (p : Nat) : setL rows (rows.drop p) p = rows := List.take_append_drop p rows
end Go.Proofs.Ytakoehgjgdcmmaa.Tp
