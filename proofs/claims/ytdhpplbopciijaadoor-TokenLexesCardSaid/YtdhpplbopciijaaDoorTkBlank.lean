/-
  Layer 17, token: a blank more ahead of a text, and a remark behind it, change nothing but where its tokens begin. No condition.
-/
import Derived.Test.YtdhpplbopciijaaDoorTkRise
set_option maxRecDepth 100000
namespace Go.Proofs.YtdhpplbopciijaaDoor.Tk
open Go.RowKit
set_option linter.unusedVariables false

def up (t : Tk) : Tk := { t with pos := t.pos + 1 }
def upO : Out → Out
  | .next a ts => .next (a + 1) (ts.map up)
  | .bad e p => .bad e (p + 1)
/-- What is put behind: it begins with a 9, and has no 10. -/
structure Tail (z : List UInt8) : Prop where
  head : ∃ y, z = 9 :: 35 :: y
  no10 : ∀ x ∈ z, x ≠ 10
theorem tw_app {p : UInt8 → Bool} {r z : List UInt8} (hz : ∃ y, z = 9 :: y) (hp : p 9 = false) : (r ++ z).takeWhile p = r.takeWhile p := by
  obtain ⟨y, rfl⟩ := hz
  induction r with
  | nil => simp [hp]
  | cons c r ih => simp only [List.cons_append, List.takeWhile_cons]; split
                   · rw [ih]
                   · rfl
theorem pre_app {q r z : List UInt8} (hz : ∃ y, z = 9 :: y) (hq : ∀ x ∈ q, x ≠ 9) : q <+: r ++ z ↔ q <+: r := by
  obtain ⟨y, rfl⟩ := hz
  induction q generalizing r with
  | nil => simp
  | cons c q ih =>
    cases r with
    | nil =>
      simp
      intro h
      exact absurd h (hq c (by simp))
    | cons d r =>
      rw [List.cons_append, List.cons_prefix_cons, List.cons_prefix_cons, ih (fun x hx => hq x (by simp [hx]))]
theorem has_iff (l q : List UInt8) : Lib.hasPrefix l q = true ↔ q <+: l := by
  unfold Lib.hasPrefix
  exact List.isPrefixOf_iff_prefix
theorem has_app {q r z : List UInt8} (hz : ∃ y, z = 9 :: y) (hq : ∀ x ∈ q, x ≠ 9) : Lib.hasPrefix (r ++ z) q = Lib.hasPrefix r q := by
  rw [Bool.eq_iff_iff, has_iff, has_iff]
  exact pre_app hz hq
theorem sign_app {r z : List UInt8} (hz : ∃ y, z = 9 :: y) : Dg.signL (r ++ z) = Dg.signL r := by
  unfold Dg.signL
  rw [has_app hz (by decide), has_app hz (by decide)]
theorem cls_app {r z : List UInt8} (hz : ∃ y, z = 9 :: y) (hr : r ≠ []) : clsN (r ++ z) = clsN r := by
  cases r with
  | nil => exact absurd rfl hr
  | cons c t =>
    have h1 := sign_app (r := c :: t) hz
    have h2 := has_app (r := c :: t) (q := [226, 141, 157]) hz (by decide)
    have h3 := has_app (r := c :: t) (q := [35]) hz (by decide)
    rw [List.cons_append] at h1 h2 h3 ⊢
    unfold clsN
    simp only [h1, h2, h3]
theorem drop_app {r z : List UInt8} {k : Nat} (hk : k ≤ r.length) : (r ++ z).drop k = r.drop k ++ z := by rw [List.drop_append_of_le_length hk]
theorem runL_app {r z : List UInt8} (hz : ∃ y, z = 9 :: y) : Dg.runL (r ++ z) = Dg.runL r := by unfold Dg.runL; rw [tw_app hz rfl]
theorem runA_app {r z : List UInt8} (hz : ∃ y, z = 9 :: y) : runA (r ++ z) = runA r := by unfold runA; rw [tw_app hz rfl]
theorem readN_app {r z : List UInt8} (hz : ∃ y, z = 9 :: y) : Dg.readN (r ++ z) = Dg.readN r := by
  unfold Dg.readN
  rw [sign_app hz, drop_app (Dg.signL_le r), runL_app hz]
theorem readD_app {r z : List UInt8} (hz : ∃ y, z = 9 :: y) : Dg.readD (r ++ z) = Dg.readD r := by
  unfold Dg.readD
  rw [sign_app hz, drop_app (Dg.signL_le r), runL_app hz, List.take_append_of_le_length (Dg.runL_le _)]
theorem readS_app {r z : List UInt8} (hz : ∃ y, z = 9 :: y) : Dg.readS (r ++ z) = Dg.readS r := by unfold Dg.readS; rw [sign_app hz]
theorem rs_no9 : ∀ k, k < 44 → ∀ x ∈ Gl.rs k, x ≠ 9 := Gl.all44 (by decide)
theorem first_app {r z : List UInt8} {c n : Nat} (hz : ∃ y, z = 9 :: y) (hr : r ≠ []) (h : Gl.FirstIs r c n) : Gl.FirstIs (r ++ z) c n := by
  have hh : (r ++ z).head? = r.head? := by cases r with
    | nil => exact absurd rfl hr
    | cons c t => rfl
  have hw : Gl.wordOf (r ++ z) = Gl.wordOf r := by
    unfold Gl.wordOf
    rw [drop_app (by cases r with
      | nil => exact absurd rfl hr
      | cons c t => simp), tw_app hz rfl]
  rcases h with ⟨h1, h2, h3⟩ | ⟨h1, h2, h3⟩
  · refine .inl ⟨by rw [hh]; exact h1, ?_, h3⟩
    exact Gl.first_congr h2 fun j hj hj2 => (pre_app hz (rs_no9 j hj2)).symm
  · exact .inr ⟨by rw [hh]; exact h1, by rw [hw]; exact h2, by rw [hw]; exact h3⟩
theorem addO_up {ts : List Tk} {t : Tk} {b : Nat} : addO (ts.map up) (up t) (b + 1) = upO (addO ts t b) := by
  unfold addO
  rw [List.length_map]
  split
  · rfl
  · simp [upO]
theorem putO_up {ts : List Tk} {a b : Nat} {v : Int} : putO (ts.map up) (a + 1) (b + 1) v = upO (putO ts a b v) := by
  rcases List.eq_nil_or_concat ts with rfl | ⟨ps, q, rfl⟩
  · rfl
  · rw [List.concat_eq_append, List.map_append]
    by_cases hk : q.kind = 1
    · have hk' : (up q).kind = 1 := hk
      rw [putO_num hk]
      show putO (ps.map up ++ [up q]) _ _ _ = _
      rw [putO_num hk']
      have hn : (up q).nums = q.nums := rfl
      rw [hn]
      split
      · rfl
      · simp [upO, up]
    · have hk' : (up q).kind ≠ 1 := hk
      rw [putO_other hk]
      show putO (ps.map up ++ [up q]) _ _ _ = _
      rw [putO_other hk', ← addO_up, List.map_append]
      rfl
theorem numO_up {r z : List UInt8} {a : Nat} {ts : List Tk} (hz : ∃ y, z = 9 :: y) : numO (r ++ z) (a + 1) (ts.map up) = upO (numO r a ts) := by
  unfold numO
  rw [readD_app hz, readS_app hz, readN_app hz]
  split
  · rfl
  · rw [show a + 1 + Dg.readN r = a + Dg.readN r + 1 by omega, putO_up]
theorem nameO_up {r z : List UInt8} {a : Nat} {ts : List Tk} (hz : ∃ y, z = 9 :: y) : nameO (r ++ z) (a + 1) (ts.map up) = upO (nameO r a ts) := by
  unfold nameO
  rw [runA_app hz, List.take_append_of_le_length (runA_le r)]
  split
  · rfl
  · rw [show a + 1 + runA r = a + runA r + 1 by omega, ← addO_up]
    rfl
theorem signO_up {c n a : Nat} {ts : List Tk} : signO c n (a + 1) (ts.map up) = upO (signO c n a ts) := by
  unfold signO
  split
  · rfl
  · split
    · rw [show a + 1 + n = a + n + 1 by omega, ← addO_up]; rfl
    · rw [show a + 1 + n = a + n + 1 by omega, ← addO_up]; rfl
theorem line_in {z : List UInt8} : ∀ {r : List UInt8}, (10 : UInt8) ∈ r → lineN (r ++ z) = lineN r
  | [], h => by simp at h
  | c :: r, h => by
    unfold lineN
    rw [List.cons_append, List.takeWhile_cons, List.takeWhile_cons]
    by_cases hc : c = 10
    · simp [hc]
    · have h2 : (10 : UInt8) ∈ r := by
        rcases List.mem_cons.1 h with h | h
        · exact absurd h.symm hc
        · exact h
      have ih := line_in (z := z) h2
      unfold lineN at ih
      simp only [ne_eq, hc, not_false_eq_true, decide_true, if_true, List.length_cons]
      rw [ih]
theorem line_out : ∀ {r : List UInt8}, (∀ x ∈ r, x ≠ (10 : UInt8)) → lineN r = r.length
  | [], _ => rfl
  | c :: r, h => by
    unfold lineN
    have hc := h c (by simp)
    have ih := line_out (r := r) fun x hx => h x (by simp [hx])
    unfold lineN at ih
    rw [List.takeWhile_cons]
    simp only [ne_eq, hc, not_false_eq_true, decide_true, if_true, List.length_cons, ih]
def upR : List Tk ⊕ Nat × Nat → List Tk ⊕ Nat × Nat
  | .inl ts => .inl (ts.map up)
  | .inr (e, p) => .inr (e, p + 1)
theorem drop_up {l z : List UInt8} {a : Nat} (ha : a ≤ l.length) : (32 :: (l ++ z)).drop (a + 1) = l.drop a ++ z := by rw [List.drop_succ_cons, drop_app ha]
theorem step_up {l z : List UInt8} {a : Nat} {ts : List Tk} {o : Out} (ha : a < l.length) (hz : Tail z) (hc : clsN (l.drop a) = 4 → (10 : UInt8) ∈ l.drop a) (h : Step l a ts o) : Step (32 :: (l ++ z)) (a + 1) (ts.map up) (upO o) := by
  obtain ⟨y, hy⟩ := hz.head
  have hz9 : ∃ y, z = 9 :: y := ⟨_, hy⟩
  have hne : l.drop a ≠ [] := fun e => by have := congrArg List.length e; rw [List.length_drop] at this; simp at this; omega
  unfold Step
  rw [drop_up (Nat.le_of_lt ha), cls_app hz9 hne]
  rcases h with ⟨h, rfl⟩ | ⟨h, rfl⟩ | ⟨h, rfl⟩ | ⟨h, rfl⟩ | ⟨h, rfl⟩ | ⟨h, c', n, hf, rfl⟩
  · exact .inl ⟨h, rfl⟩
  · exact .inr (.inl ⟨h, by rw [← addO_up]; rfl⟩)
  · exact .inr (.inr (.inl ⟨h, (numO_up hz9).symm⟩))
  · exact .inr (.inr (.inr (.inl ⟨h, (nameO_up hz9).symm⟩)))
  · refine .inr (.inr (.inr (.inr (.inl ⟨h, ?_⟩))))
    rw [line_in (hc h)]
    show Out.next _ _ = _
    rw [show a + 1 + lineN (l.drop a) = a + lineN (l.drop a) + 1 by omega]
  · exact .inr (.inr (.inr (.inr (.inr ⟨h, c', n, first_app hz9 hne hf, signO_up.symm⟩))))
theorem lexes_end {l z : List UInt8} {ts : List Tk} (hz : Tail z) : Lexes (32 :: (l ++ z)) (l.length + 1) ts (.inl ts) := by
  obtain ⟨y, hy⟩ := hz.head
  have hl : (32 :: (l ++ z)).length = l.length + 1 + (y.length + 2) := by rw [hy]; simp; omega
  have e1 : (32 :: (l ++ z)).drop (l.length + 1) = 9 :: 35 :: y := by rw [drop_up (Nat.le_refl _), List.drop_length, hy]; rfl
  have e2 : (32 :: (l ++ z)).drop (l.length + 1 + 1) = 35 :: y := by rw [show l.length + 1 + 1 = 1 + (l.length + 1) by omega, ← List.drop_drop, List.drop_drop, Nat.add_comm 1, ← List.drop_drop, e1]; rfl
  refine .next (by rw [hl]; omega) (.inl ⟨by rw [e1]; rfl, rfl⟩) ?_
  have hno : ∀ x ∈ 35 :: y, x ≠ (10 : UInt8) := fun x hx => hz.no10 x (by rw [hy]; exact List.mem_cons_of_mem _ hx)
  refine .next (by rw [hl]; omega) (.inr (.inr (.inr (.inr (.inl ⟨?_, rfl⟩))))) ?_
  · rw [e2]
    unfold clsN
    have h1 : Dg.signL (35 :: y) = 0 := rfl
    have h2 : Lib.hasPrefix (35 :: y) [35] = true := by rw [has_iff]; exact ⟨y, rfl⟩
    simp [h1, h2]
    decide
  · rw [e2, line_out hno]
    refine .done ?_
    rw [hl]; simp; omega
theorem lexes_up {l z : List UInt8} (hz : Tail z) {a : Nat} {ts : List Tk} {R : List Tk ⊕ Nat × Nat} (h : Lexes l a ts R) : a ≤ l.length → Lexes (32 :: (l ++ z)) (a + 1) (ts.map up) (upR R) := by
  have hlen : (32 :: (l ++ z)).length = l.length + 1 + z.length := by simp; omega
  induction h with
  | done h =>
    intro ha
    obtain rfl : _ = l.length := Nat.le_antisymm ha h
    exact lexes_end hz
  | @bad a ts e p h hs =>
    intro ha
    have h4 : clsN (l.drop a) = 4 → (10 : UInt8) ∈ l.drop a := fun h4 => by
      rcases hs with ⟨k, e⟩ | ⟨k, e⟩ | ⟨k, e⟩ | ⟨k, e⟩ | ⟨k, e⟩ | ⟨k, c', n, hf, e⟩
      · omega
      · omega
      · omega
      · omega
      · cases e
      · omega
    exact .bad (by rw [hlen]; omega) (step_up h hz h4 hs)
  | @next a ts a' ts' R h hs hn ih =>
    intro ha
    have hon := step_on h hs
    by_cases h4 : clsN (l.drop a) = 4 ∧ ¬ (10 : UInt8) ∈ l.drop a
    · have hno : ∀ x ∈ l.drop a, x ≠ (10 : UInt8) := fun x hx e => h4.2 (e ▸ hx)
      obtain ⟨rfl, rfl⟩ : a' = l.length ∧ ts' = ts := by
        rcases hs with ⟨k, e⟩ | ⟨k, e⟩ | ⟨k, e⟩ | ⟨k, e⟩ | ⟨k, e⟩ | ⟨k, c', n, hf, e⟩
        · omega
        · omega
        · omega
        · omega
        · cases e
          rw [line_out hno, List.length_drop]
          exact ⟨by omega, rfl⟩
        · omega
      obtain rfl : R = .inl ts' := lexes_same hn (.done (Nat.le_refl _))
      obtain ⟨y, hy⟩ := hz.head
      have hne : l.drop a ≠ [] := fun e => by have := congrArg List.length e; rw [List.length_drop] at this; simp at this; omega
      refine .next (a' := l.length + 1 + z.length) (ts' := ts'.map up) (by rw [hlen]; omega) (.inr (.inr (.inr (.inr (.inl ⟨?_, ?_⟩))))) (.done (by rw [hlen]; exact Nat.le_refl _))
      · rw [drop_up ha, cls_app ⟨_, hy⟩ hne]; exact h4.1
      · rw [drop_up ha, line_out (by
          intro x hx
          rcases List.mem_append.1 hx with hx | hx
          · exact hno x hx
          · exact hz.no10 x hx), List.length_append, List.length_drop]
        congr 1
        omega
    · have h5 : clsN (l.drop a) = 4 → (10 : UInt8) ∈ l.drop a := fun k => Decidable.byContradiction fun e => h4 ⟨k, e⟩
      exact .next (by rw [hlen]; omega) (step_up h hz h5 hs) (ih hon.2)
theorem lex_up {l z : List UInt8} {R : List Tk ⊕ Nat × Nat} (hz : Tail z) (hl : l.length ≤ 1900) (hzl : z.length ≤ 10) (h : LexIs l R) : LexIs (32 :: (l ++ z)) (upR R) := by
  unfold LexIs at h ⊢
  rw [if_neg (by omega)] at h
  rw [if_neg (by simp; omega)]
  refine .next (a' := 1) (ts' := []) (by simp) (.inl ⟨rfl, rfl⟩) ?_
  exact lexes_up hz h (Nat.zero_le _)
end Go.Proofs.YtdhpplbopciijaaDoor.Tk
