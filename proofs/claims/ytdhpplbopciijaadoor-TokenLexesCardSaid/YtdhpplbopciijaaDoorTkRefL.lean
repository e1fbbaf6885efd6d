/-
  Layer 17, token: what riffleref17.Lex reads at a stroke (blanks, a remark, a run of numbers), as steps of the relation. No condition.
-/
import Derived.Test.YtdhpplbopciijaaDoorTkRefB
set_option maxRecDepth 100000
namespace Go.Proofs.YtdhpplbopciijaaDoor.Tk
open Go.RowKit
set_option linter.unusedVariables false

theorem cnt_cls {r : List UInt8} (h : cntB r = true) : clsN r = 2 := by
  cases r with
  | nil => simp [cntB, has_iff] at h
  | cons c t =>
    have hp : diB c = true ∨ 0 < Dg.signL (c :: t) := by
      rw [sign_two]
      unfold cntB at h
      simp only [Bool.or_eq_true] at h ⊢
      rcases h with h | h | h
      · exact .inr (.inr h)
      · exact .inr (.inl h)
      · exact .inl h
    have hne : ¬ (c = 32 ∨ c = 9) ∧ ¬ c = 10 := by
      unfold cntB at h
      simp only [Bool.or_eq_true, has_iff, List.cons_prefix_cons] at h
      rcases h with ⟨h, -⟩ | ⟨h, -⟩ | h
      · subst h; decide
      · subst h; decide
      · unfold diB at h
        simp at h
        refine ⟨?_, ?_⟩
        · rintro (e | e) <;> subst e <;> simp at h
        · rintro e; subst e; simp at h
    unfold clsN
    simp only [hne.1, hne.2, hp, if_true, if_false]
theorem cls_cnt {r : List UInt8} (h : clsN r = 2) : cntB r = true := by
  cases r with
  | nil => simp [clsN] at h
  | cons c t =>
    unfold clsN at h
    have hp : diB c = true ∨ 0 < Dg.signL (c :: t) := by
      by_cases hp : diB c = true ∨ 0 < Dg.signL (c :: t)
      · exact hp
      · simp only [hp, if_false] at h
        repeat' split at h
        all_goals omega
    rw [sign_two] at hp
    unfold cntB
    simp only [Bool.or_eq_true] at hp ⊢
    rcases hp with h | h | h
    · exact .inr (.inr h)
    · exact .inr (.inl h)
    · exact .inl h
theorem bl_cls {c : UInt8} {t : List UInt8} (h : blB c = true) : clsN (c :: t) = 0 := by
  unfold blB at h
  simp at h
  unfold clsN
  simp only [h, if_true]
theorem drop_cons' {l : List UInt8} {a : Nat} (ha : a < l.length) : ∃ c, l[a]? = some c ∧ l.drop a = c :: l.drop (a + 1) := ⟨l[a], List.getElem?_eq_getElem ha, List.drop_eq_getElem_cons ha⟩
/-- Blanks are passed over. -/
theorem lexes_blanks {l : List UInt8} {ts : List Tk} {R : List Tk ⊕ Nat × Nat} : ∀ (k a : Nat), a + k ≤ l.length → (∀ j, j < k → ∃ c, l[a + j]? = some c ∧ blB c = true) → Lexes l (a + k) ts R → Lexes l a ts R
  | 0, a, _, _, h => h
  | k + 1, a, hk, hb, h => by
    have ha : a < l.length := by omega
    obtain ⟨c, hc, hd⟩ := drop_cons' ha
    obtain ⟨c', hc', hbl⟩ := hb 0 (by omega)
    rw [Nat.add_zero, hc] at hc'
    injection hc' with hc'
    subst hc'
    refine .next ha (.inl ⟨by rw [hd]; exact bl_cls hbl, rfl⟩) ?_
    exact lexes_blanks k (a + 1) (by omega) (fun j hj => by
      have := hb (j + 1) (by omega)
      rwa [show a + (j + 1) = a + 1 + j by omega] at this) (by rwa [show a + (k + 1) = a + 1 + k by omega] at h)
theorem blanks_at {r : List UInt8} {j : Nat} (h : j < blanksN r) : ∃ c, r[j]? = some c ∧ blB c = true := by
  have hp := List.takeWhile_prefix (p := blB) (l := r)
  have hj : j < (r.takeWhile blB).length := h
  have h1 : r[j]? = (r.takeWhile blB)[j]? := by
    obtain ⟨u, hu⟩ := hp
    have h3 : (r.takeWhile blB ++ u)[j]? = (r.takeWhile blB)[j]? := List.getElem?_append_left hj
    rwa [hu] at h3
  have h2 := List.all_eq_true.1 (List.all_takeWhile (p := blB) (l := r)) _ (List.getElem_mem hj)
  exact ⟨_, by rw [h1, List.getElem?_eq_getElem hj], h2⟩
/-- All blanks that stand there. -/
theorem lexes_past {l : List UInt8} {ts : List Tk} {R : List Tk ⊕ Nat × Nat} {a : Nat} (ha : a ≤ l.length) (h : Lexes l (a + blanksN (l.drop a)) ts R) : Lexes l a ts R := by
  have hl := blanks_le (l.drop a)
  rw [List.length_drop] at hl
  refine lexes_blanks _ a (by omega) (fun j hj => ?_) h
  obtain ⟨c, h1, h2⟩ := blanks_at hj
  exact ⟨c, by rw [List.getElem?_drop] at h1; exact h1, h2⟩
/-- The tokens with a run of numbers that began at a place. -/
def tsN (ts : List Tk) (a : Nat) (N : List Int) : List Tk := if N = [] then ts else ts ++ [⟨1, a, 0, N, []⟩]
/-- The last token is no run of numbers. -/
def NoNum (ts : List Tk) : Prop := ∀ ps q, ts = ps ++ [q] → q.kind ≠ 1
theorem put_first {ts : List Tk} {p b : Nat} {v : Int} (h : NoNum ts) : putO ts p b v = addO ts ⟨1, p, 0, [v], []⟩ b := by
  rcases List.eq_nil_or_concat ts with rfl | ⟨ps, q, rfl⟩
  · rfl
  · rw [List.concat_eq_append] at h ⊢
    exact putO_other (h ps q rfl)
theorem run_bad7 {l : List UInt8} {p : Nat} {ts : List Tk} (hc : cntB (l.drop p) = true) (hv : Dg.valB (Dg.readD (l.drop p)) (Dg.readS (l.drop p)) = false) : Step l p ts (.bad 7 p) :=
  .inr (.inr (.inl ⟨cnt_cls hc, by unfold numO; rw [if_pos hv]⟩))
theorem num_ok {l : List UInt8} {p : Nat} {ts : List Tk} {o : Out} (hc : cntB (l.drop p) = true) (hv : Dg.valB (Dg.readD (l.drop p)) (Dg.readS (l.drop p)) = true)
    (ho : putO ts p (p + Dg.readN (l.drop p)) (Dg.valI (Dg.readD (l.drop p)) (Dg.readS (l.drop p))) = o) : Step l p ts o :=
  .inr (.inr (.inl ⟨cnt_cls hc, by unfold numO; rw [if_neg (by rw [hv]; simp)]; exact ho.symm⟩))
theorem run_full {l : List UInt8} {p : Nat} {ts : List Tk} (hn : NoNum ts) (hf : ts.length = 400) (hc : cntB (l.drop p) = true) (hv : Dg.valB (Dg.readD (l.drop p)) (Dg.readS (l.drop p)) = true) : Step l p ts (.bad 8 p) :=
  num_ok hc hv (by rw [put_first hn]; unfold addO; rw [if_pos hf])
theorem run_64 {l : List UInt8} {a p : Nat} {ts : List Tk} {N : List Int} (h6 : N.length = 64) (hc : cntB (l.drop p) = true) (hv : Dg.valB (Dg.readD (l.drop p)) (Dg.readS (l.drop p)) = true) : Step l p (tsN ts a N) (.bad 8 p) := by
  have hN : N ≠ [] := fun e => by rw [e] at h6; cases h6
  refine num_ok hc hv ?_
  unfold tsN
  rw [if_neg hN, putO_num rfl, if_pos h6]
theorem run_more {l : List UInt8} {a p : Nat} {ts : List Tk} {N : List Int} (hn : NoNum ts) (hf : ts.length ≠ 400) (h6 : N.length ≠ 64) (ha : N = [] → a = p) (hc : cntB (l.drop p) = true) (hv : Dg.valB (Dg.readD (l.drop p)) (Dg.readS (l.drop p)) = true) :
    Step l p (tsN ts a N) (.next (p + Dg.readN (l.drop p)) (tsN ts a (N ++ [Dg.valI (Dg.readD (l.drop p)) (Dg.readS (l.drop p))]))) := by
  refine num_ok hc hv ?_
  unfold tsN
  by_cases hN : N = []
  · rw [if_pos hN, put_first hn, ha hN, hN]
    unfold addO
    rw [if_neg hf]
    simp
  · rw [if_neg hN, putO_num rfl, if_neg h6]
    simp
/-- A number, and the blanks behind it. -/
theorem lexes_num {l : List UInt8} {a p : Nat} {ts : List Tk} {N : List Int} {R : List Tk ⊕ Nat × Nat} (hp : p < l.length) (hn : NoNum ts) (hf : ts.length ≠ 400) (h6 : N.length ≠ 64) (ha : N = [] → a = p) (hc : cntB (l.drop p) = true) (hv : Dg.valB (Dg.readD (l.drop p)) (Dg.readS (l.drop p)) = true)
    (h : Lexes l (p + Dg.readN (l.drop p) + blanksN (l.drop (p + Dg.readN (l.drop p)))) (tsN ts a (N ++ [Dg.valI (Dg.readD (l.drop p)) (Dg.readS (l.drop p))])) R) : Lexes l p (tsN ts a N) R := by
  have hr := (readN_pos hv).2
  rw [List.length_drop] at hr
  exact .next hp (run_more hn hf h6 ha hc hv) (lexes_past (by omega) h)
end Go.Proofs.YtdhpplbopciijaaDoor.Tk
