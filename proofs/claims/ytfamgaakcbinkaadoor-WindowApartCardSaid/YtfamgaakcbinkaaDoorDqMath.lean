/-
  Plain facts on the numbers of a window that none behind beats, each with how many came ahead: what becomes of them when a number comes or goes, which one is the first, and that they rise or fall. No condition; nothing of the program stands here.
-/
import Derived.WalkKit
namespace Go.Proofs.YtfamgaakcbinkaaDoor.Dq
set_option linter.unusedVariables false

/-- Does b, behind a, let a not be asked for? -/
def beatB (ls : Bool) (b a : Int) : Bool := if ls then decide (b ≤ a) else decide (a ≤ b)
theorem beat_t (b a : Int) : beatB true b a = decide (b ≤ a) := rfl
theorem beat_f (b a : Int) : beatB false b a = decide (a ≤ b) := rfl
/-- Those that none behind beats, each with its place, the first number's place being f. -/
def keptF (ls : Bool) : Nat → List Int → List (Int × Nat)
  | _, [] => []
  | f, x :: l => if l.any (fun b => beatB ls b x) then keptF ls (f + 1) l else (x, f) :: keptF ls (f + 1) l
section
variable {ls : Bool} {f : Nat} {l : List Int} {x y : Int}
theorem kept_yes (h : l.any (fun b => beatB ls b x) = true) : keptF ls f (x :: l) = keptF ls (f + 1) l := by rw [keptF, if_pos h]
theorem kept_no (h : l.any (fun b => beatB ls b x) = false) : keptF ls f (x :: l) = (x, f) :: keptF ls (f + 1) l := by rw [keptF, if_neg (by simp [h])]
end
theorem kept_snoc (ls : Bool) (y : Int) : ∀ (l : List Int) (f : Nat), keptF ls f (l ++ [y]) = (keptF ls f l).filter (fun p => !beatB ls y p.1) ++ [(y, f + l.length)]
  | [], f => by simp [keptF]
  | x :: l, f => by
    have ih := kept_snoc ls y l (f + 1)
    have e : f + 1 + l.length = f + (x :: l).length := by simp; omega
    rw [e] at ih
    by_cases h1 : l.any (fun b => beatB ls b x) = true
    · rw [List.cons_append, kept_yes (by rw [List.any_append, h1, Bool.true_or]), kept_yes h1, ih]
    · have h1' : l.any (fun b => beatB ls b x) = false := by simpa using h1
      by_cases h2 : beatB ls y x = true
      · rw [List.cons_append, kept_yes (by rw [List.any_append]; simp [h2]), kept_no h1', ih, List.filter_cons, if_neg (by simp [h2])]
      · have h2' : beatB ls y x = false := by simpa using h2
        rw [List.cons_append, kept_no (by rw [List.any_append, h1']; simp [h2']), kept_no h1', ih, List.filter_cons, if_pos (by simp [h2'])]
        rfl
theorem kept_mem (ls : Bool) : ∀ (l : List Int) (f : Nat) (p : Int × Nat), p ∈ keptF ls f l → p.1 ∈ l ∧ f ≤ p.2 ∧ p.2 < f + l.length
  | [], f, p, h => by simp [keptF] at h
  | x :: l, f, p, h => by
    by_cases h1 : l.any (fun b => beatB ls b x) = true
    · rw [kept_yes h1] at h
      obtain ⟨k1, k2, k3⟩ := kept_mem ls l (f + 1) p h
      exact ⟨List.mem_cons_of_mem _ k1, by omega, by simp; omega⟩
    · rw [kept_no (by simpa using h1)] at h
      rcases List.mem_cons.1 h with rfl | h
      · exact ⟨by simp, Nat.le_refl _, by simp⟩
      · obtain ⟨k1, k2, k3⟩ := kept_mem ls l (f + 1) p h
        exact ⟨List.mem_cons_of_mem _ k1, by omega, by simp; omega⟩
theorem kept_len (ls : Bool) : ∀ (l : List Int) (f : Nat), (keptF ls f l).length ≤ l.length
  | [], f => by simp [keptF]
  | x :: l, f => by
    have ih := kept_len ls l (f + 1)
    by_cases h1 : l.any (fun b => beatB ls b x) = true
    · rw [kept_yes h1]; simp; omega
    · rw [kept_no (by simpa using h1)]; simp; omega
theorem kept_pair (ls : Bool) : ∀ (l : List Int) (f : Nat), (keptF ls f l).Pairwise (fun p q => beatB ls q.1 p.1 = false)
  | [], f => by simp [keptF]
  | x :: l, f => by
    have ih := kept_pair ls l (f + 1)
    by_cases h1 : l.any (fun b => beatB ls b x) = true
    · rw [kept_yes h1]; exact ih
    · have h1' : l.any (fun b => beatB ls b x) = false := by simpa using h1
      rw [kept_no h1']
      refine List.Pairwise.cons (fun q hq => ?_) ih
      have hm := (kept_mem ls l (f + 1) q hq).1
      have := List.any_eq_false.1 h1' q.1 hm
      simpa using this
theorem beat_trans {ls : Bool} {y a b : Int} (h1 : beatB ls b a = false) (h2 : beatB ls y b = false) : beatB ls y a = false := by
  cases ls
  · simp only [beat_f, decide_eq_false_iff_not] at *; omega
  · simp only [beat_t, decide_eq_false_iff_not] at *; omega
/-- Those that a number does not beat stand at the beginning. -/
theorem kept_take {ls : Bool} {y : Int} {ks : List (Int × Nat)} (hp : ks.Pairwise (fun p q => beatB ls q.1 p.1 = false)) {e : Nat} (h1 : ∀ p ∈ ks.drop e, beatB ls y p.1 = true) (h2 : e = 0 ∨ ∃ p, ks[e - 1]? = some p ∧ beatB ls y p.1 = false) : ks.filter (fun p => !beatB ls y p.1) = ks.take e := by
  conv => lhs; rw [← List.take_append_drop e ks]
  rw [List.filter_append]
  have d : (ks.drop e).filter (fun p => !beatB ls y p.1) = [] := by
    rw [List.filter_eq_nil_iff]
    intro p hp
    simp [h1 p hp]
  rw [d, List.append_nil, List.filter_eq_self]
  intro p hm
  rcases h2 with rfl | ⟨q, hq, hb⟩
  · simp at hm
  · obtain ⟨i, hi⟩ := List.getElem?_of_mem hm
    have hie : i < e := by
      have := (List.getElem?_eq_some_iff.1 hi).1
      simp at this; omega
    rw [List.getElem?_take_of_lt hie] at hi
    by_cases he : i = e - 1
    · subst he
      rw [hq] at hi
      injection hi with hi
      subst hi
      simp [hb]
    · obtain ⟨l1, g1⟩ := List.getElem?_eq_some_iff.1 hi
      obtain ⟨l2, g2⟩ := List.getElem?_eq_some_iff.1 hq
      have hpw := List.pairwise_iff_getElem.1 hp i (e - 1) l1 l2 (by omega)
      rw [g1, g2] at hpw
      rw [beat_trans hpw hb]
      rfl
/-- What is kept behind a number more, e being where those end that it does not beat. -/
theorem kept_push {ls : Bool} {y : Int} {f : Nat} {l : List Int} {e : Nat} (h1 : ∀ p ∈ (keptF ls f l).drop e, beatB ls y p.1 = true) (h2 : e = 0 ∨ ∃ p, (keptF ls f l)[e - 1]? = some p ∧ beatB ls y p.1 = false) : keptF ls f (l ++ [y]) = (keptF ls f l).take e ++ [(y, f + l.length)] := by
  rw [kept_snoc, kept_take (kept_pair ls l f) h1 h2]

/-- Is v as good as x? -/
def goodB (ls : Bool) (v x : Int) : Prop := if ls then v ≤ x else x ≤ v
/-- Is y better than n? -/
def bettB (ls : Bool) (y n : Int) : Bool := if ls then decide (y < n) else decide (y > n)
def bestI (ls : Bool) : List Int → Int
  | [] => 0
  | x :: l => l.foldl (fun n y => if bettB ls y n then y else n) x
theorem fold_best (ls : Bool) : ∀ (l : List Int) (x : Int), (l.foldl (fun n y => if bettB ls y n then y else n) x ∈ x :: l) ∧ ∀ z ∈ x :: l, goodB ls (l.foldl (fun n y => if bettB ls y n then y else n) x) z
  | [], x => ⟨by simp, fun z hz => by simp at hz; subst hz; cases ls <;> simp [goodB]⟩
  | y :: l, x => by
    obtain ⟨i1, i2⟩ := fold_best ls l (if bettB ls y x then y else x)
    rw [List.foldl_cons]
    generalize l.foldl (fun n y => if bettB ls y n then y else n) (if bettB ls y x then y else x) = F at *
    have hx := i2 _ (List.mem_cons_self ..)
    have hb : goodB ls F x ∧ goodB ls F y := by
      cases ls <;> simp only [goodB, bettB, if_true, if_false, Bool.false_eq_true, decide_eq_true_eq] at hx ⊢ <;> split at hx <;> omega
    refine ⟨?_, fun z hz => ?_⟩
    · rcases List.mem_cons.1 i1 with h | h
      · rw [h]
        split <;> simp
      · exact List.mem_cons_of_mem _ (List.mem_cons_of_mem _ h)
    · rcases List.mem_cons.1 hz with rfl | hz
      · exact hb.1
      · rcases List.mem_cons.1 hz with rfl | hz
        · exact hb.2
        · exact i2 z (List.mem_cons_of_mem _ hz)
theorem best_good {ls : Bool} {l : List Int} (h : 0 < l.length) : bestI ls l ∈ l ∧ ∀ z ∈ l, goodB ls (bestI ls l) z := by
  cases l with
  | nil => simp at h
  | cons x l => exact fold_best ls l x
theorem good_one {ls : Bool} {a b : Int} (h1 : goodB ls a b) (h2 : goodB ls b a) : a = b := by
  cases ls <;> simp only [goodB, if_true, if_false, Bool.false_eq_true] at h1 h2 <;> omega
/-- The first that is kept is the best one. -/
theorem kept_head (ls : Bool) : ∀ (l : List Int) (f : Nat), 0 < l.length → ∃ p t, keptF ls f l = p :: t ∧ p.1 ∈ l ∧ ∀ z ∈ l, goodB ls p.1 z
  | [], f, h => by simp at h
  | [x], f, _ => ⟨(x, f), [], by simp [keptF], by simp, fun z hz => by simp at hz; subst hz; cases ls <;> simp [goodB]⟩
  | x :: y :: l, f, _ => by
    obtain ⟨p, t, h1, h2, h3⟩ := kept_head ls (y :: l) (f + 1) (by simp)
    by_cases hb : (y :: l).any (fun b => beatB ls b x) = true
    · refine ⟨p, t, by rw [kept_yes hb, h1], List.mem_cons_of_mem _ h2, fun z hz => ?_⟩
      rcases List.mem_cons.1 hz with rfl | hz
      · obtain ⟨b, hb1, hb2⟩ := List.any_eq_true.1 hb
        have := h3 b hb1
        cases ls
        · simp only [beat_f, decide_eq_true_eq] at hb2; simp only [goodB, if_false, Bool.false_eq_true] at this ⊢; omega
        · simp only [beat_t, decide_eq_true_eq] at hb2; simp only [goodB, if_true] at this ⊢; omega
      · exact h3 z hz
    · have hb' : (y :: l).any (fun b => beatB ls b x) = false := by simpa using hb
      refine ⟨(x, f), keptF ls (f + 1) (y :: l), kept_no hb', by simp, fun z hz => ?_⟩
      rcases List.mem_cons.1 hz with rfl | hz
      · cases ls <;> simp [goodB]
      · have := List.any_eq_false.1 hb' z hz
        cases ls
        · simp only [beat_f, decide_eq_true_eq] at this; simp only [goodB, if_false, Bool.false_eq_true]; omega
        · simp only [beat_t, decide_eq_true_eq] at this; simp only [goodB, if_true]; omega
theorem kept_best {ls : Bool} {l : List Int} {f : Nat} (h : 0 < l.length) : ∃ a t, keptF ls f l = (bestI ls l, a) :: t := by
  obtain ⟨⟨v, a⟩, t, h1, h2, h3⟩ := kept_head ls l f h
  obtain ⟨k1, k2⟩ := best_good (ls := ls) h
  have e : v = bestI ls l := good_one (h3 _ k1) (k2 _ h2)
  exact ⟨a, t, by rw [h1, e]⟩
/-- The first number goes: what is kept has it in front, or has it not. -/
theorem kept_drop (ls : Bool) (f : Nat) (x : Int) (l : List Int) : (keptF ls f (x :: l) = (x, f) :: keptF ls (f + 1) l) ∨ (keptF ls f (x :: l) = keptF ls (f + 1) l ∧ ∃ p t, keptF ls (f + 1) l = p :: t ∧ p.2 ≠ f) := by
  by_cases h1 : l.any (fun b => beatB ls b x) = true
  · refine .inr ⟨kept_yes h1, ?_⟩
    have hl : 0 < l.length := by
      cases l with
      | nil => simp at h1
      | cons y t => simp
    obtain ⟨p, t, e, _⟩ := kept_head ls l (f + 1) hl
    have := (kept_mem ls l (f + 1) p (by rw [e]; simp)).2.1
    exact ⟨p, t, e, by omega⟩
  · exact .inl (kept_no (by simpa using h1))
/-- The numbers that are kept. -/
def keptV (ls : Bool) : List Int → List Int
  | [] => []
  | x :: l => if l.any (fun b => beatB ls b x) then keptV ls l else x :: keptV ls l
theorem keptV_yes {ls : Bool} {l : List Int} {x : Int} (h : l.any (fun b => beatB ls b x) = true) : keptV ls (x :: l) = keptV ls l := by rw [keptV, if_pos h]
theorem keptV_no {ls : Bool} {l : List Int} {x : Int} (h : l.any (fun b => beatB ls b x) = false) : keptV ls (x :: l) = x :: keptV ls l := by rw [keptV, if_neg (by simp [h])]
theorem kept_vals (ls : Bool) : ∀ (l : List Int) (f : Nat), (keptF ls f l).map (·.1) = keptV ls l
  | [], f => rfl
  | x :: l, f => by
    have ih := kept_vals ls l (f + 1)
    by_cases h1 : l.any (fun b => beatB ls b x) = true
    · rw [kept_yes h1, keptV_yes h1, ih]
    · have h1' : l.any (fun b => beatB ls b x) = false := by simpa using h1
      rw [kept_no h1', keptV_no h1', List.map_cons, ih]
theorem keptV_len (ls : Bool) (l : List Int) : (keptV ls l).length ≤ l.length := by
  rw [← kept_vals ls l 0, List.length_map]; exact kept_len ls l 0
theorem keptV_best {ls : Bool} {l : List Int} (h : 0 < l.length) : ∃ t, keptV ls l = bestI ls l :: t := by
  obtain ⟨a, t, e⟩ := kept_best (ls := ls) (f := 0) h
  exact ⟨t.map (·.1), by rw [← kept_vals ls l 0, e]; rfl⟩
theorem keptV_last (ls : Bool) (l : List Int) (y : Int) : ∃ t, keptV ls (l ++ [y]) = t ++ [y] :=
  ⟨_, by rw [← kept_vals ls (l ++ [y]) 0, kept_snoc, List.map_append]; rfl⟩
theorem keptV_rise {ls : Bool} {l : List Int} {i : Nat} {a b : Int} (h1 : (keptV ls l)[i]? = some a) (h2 : (keptV ls l)[i + 1]? = some b) : beatB ls b a = false := by
  have hp := kept_pair ls l 0
  have hq : (keptV ls l).Pairwise (fun p q => beatB ls q p = false) := by
    rw [← kept_vals ls l 0, List.pairwise_map]; exact hp
  obtain ⟨l1, g1⟩ := List.getElem?_eq_some_iff.1 h1
  obtain ⟨l2, g2⟩ := List.getElem?_eq_some_iff.1 h2
  have := List.pairwise_iff_getElem.1 hq i (i + 1) l1 l2 (by omega)
  rwa [g1, g2] at this
end Go.Proofs.YtfamgaakcbinkaaDoor.Dq
