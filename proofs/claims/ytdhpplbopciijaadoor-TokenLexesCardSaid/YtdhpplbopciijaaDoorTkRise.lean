/-
  Layer 17, token: that tokens rise, and have just what is their kind's; what comes of the document's example. No condition.
-/
import Derived.Test.YtdhpplbopciijaaDoorTkLex
set_option maxRecDepth 100000
namespace Go.Proofs.YtdhpplbopciijaaDoor.Tk
open Go.RowKit
set_option linter.unusedVariables false

def TkOk (n : Nat) (t : Tk) : Prop := t.pos < n ∧ 1 ≤ t.kind ∧ t.kind ≤ 5 ∧ (t.kind = 1 ↔ t.nums ≠ []) ∧ (t.kind = 4 ↔ 0 < t.code) ∧ ((t.kind = 2 ∨ t.kind = 3) ↔ t.name ≠ []) ∧ (t.name ≠ [] → namedN t.name = t.kind) ∧ t.name.length ≤ n
def Inv (n a : Nat) (ts : List Tk) : Prop := (∀ t ∈ ts, TkOk n t ∧ t.pos < a) ∧ (ts.map Tk.pos).Pairwise (· < ·)
theorem inv_more {n a b : Nat} {ts : List Tk} (h : Inv n a ts) (hb : a ≤ b) : Inv n b ts := ⟨fun t ht => ⟨(h.1 t ht).1, by have := (h.1 t ht).2; omega⟩, h.2⟩
theorem inv_app {n a b : Nat} {ts : List Tk} {t : Tk} (h : Inv n a ts) (ht : TkOk n t) (hp : t.pos = a) (hb : a < b) : Inv n b (ts ++ [t]) := by
  refine ⟨fun x hx => ?_, ?_⟩
  · rcases List.mem_append.1 hx with hx | hx
    · exact ⟨(h.1 x hx).1, by have := (h.1 x hx).2; omega⟩
    · simp at hx; subst hx; exact ⟨ht, by omega⟩
  · rw [List.map_append, List.pairwise_append]
    refine ⟨h.2, by simp, fun x hx y hy => ?_⟩
    obtain ⟨t', ht', rfl⟩ := List.mem_map.1 hx
    simp at hy
    subst hy
    have := (h.1 t' ht').2
    omega
theorem inv_add {n a b a' : Nat} {ts ts' : List Tk} {t : Tk} (h : Inv n a ts) (ht : TkOk n t) (hp : t.pos = a) (hb : a < a') (e : addO ts t b = .next a' ts') : Inv n a' ts' := by
  obtain ⟨rfl, rfl, -⟩ := addO_next e
  exact inv_app h ht hp hb
theorem named_23 (l : List UInt8) : namedN l = 0 ∨ namedN l = 2 ∨ namedN l = 3 := by
  unfold namedN
  split
  · exact .inl rfl
  · split
    · exact .inl rfl
    · repeat' split
      all_goals simp
theorem named_nil : namedN [] = 0 := rfl
theorem step_inv {l : List UInt8} {a a' : Nat} {ts ts' : List Tk} (ha : a < l.length) (h : Inv l.length a ts) (hs : Step l a ts (.next a' ts')) : Inv l.length a' ts' := by
  have ho := (step_on ha hs).1
  rcases hs with ⟨_, e⟩ | ⟨_, e⟩ | ⟨_, e⟩ | ⟨_, e⟩ | ⟨_, e⟩ | ⟨_, c', n, hf, e⟩
  · cases e; exact inv_more h (by omega)
  · exact inv_add h ⟨ha, by simp, by simp, by simp, by simp, by simp, by simp, by simp⟩ rfl ho e.symm
  · unfold numO at e
    split at e
    · cases e
    · generalize Dg.valI _ _ = v at e
      generalize a + Dg.readN _ = b at e
      have hn : ∀ v : Int, TkOk l.length ⟨1, a, 0, [v], []⟩ := fun v => ⟨ha, by simp, by simp, by simp, by simp, by simp, by simp, by simp⟩
      rcases List.eq_nil_or_concat ts with rfl | ⟨ps, q, rfl⟩
      · rw [putO_nil] at e; cases e; exact inv_app (ts := []) h (hn v) rfl ho
      · rw [List.concat_eq_append] at e h
        by_cases hk : q.kind = 1
        · rw [putO_num hk] at e
          split at e
          · cases e
          · cases e
            refine ⟨fun x hx => ?_, ?_⟩
            · rcases List.mem_append.1 hx with hx | hx
              · have := h.1 x (by simp [hx]); exact ⟨this.1, by omega⟩
              · simp at hx
                subst hx
                have hq := h.1 q (by simp)
                obtain ⟨⟨h1, h2, h3, h4, h5, h6, h7, h8⟩, h9⟩ := hq
                exact ⟨⟨h1, h2, h3, by simp [hk], h5, h6, h7, h8⟩, by show q.pos < _; omega⟩
            · have := h.2
              rw [List.map_append] at this ⊢
              exact this
        · rw [putO_other hk] at e; exact inv_add h (hn v) rfl ho e.symm
  · unfold nameO at e
    split at e
    · cases e
    · rename_i hk
      refine inv_add h ?_ rfl ho e.symm
      generalize hl : (l.drop a).take (runA (l.drop a)) = p at *
      have hp : p ≠ [] := fun e => hk (by rw [e]; rfl)
      have h23 := (named_23 p).resolve_left hk
      have hlen : p.length ≤ l.length := by rw [← hl, List.length_take, List.length_drop]; omega
      have h1 : ¬ namedN p = 1 := by omega
      have h4 : ¬ namedN p = 4 := by omega
      exact ⟨ha, by show 1 ≤ namedN p; omega, by show namedN p ≤ 5; omega, by simp [h1], by simp [h4], ⟨fun _ => hp, fun _ => h23⟩, fun _ => rfl, hlen⟩
  · cases e; exact inv_more h (by omega)
  · unfold signO at e
    split at e
    · cases e
    · rename_i hc
      split at e
      · exact inv_add h ⟨ha, by simp, by simp, by simp, by simp, by simp, by simp, by simp⟩ rfl ho e.symm
      · exact inv_add h ⟨ha, by simp, by simp, by simp, by show (4 = 4 ↔ 0 < c'); simp; omega, by simp, by simp, by simp⟩ rfl ho e.symm
theorem addO_bad {ts : List Tk} {t : Tk} {b e p : Nat} (h : addO ts t b = .bad e p) : e = 8 ∧ p = t.pos := by
  unfold addO at h
  split at h
  · cases h; exact ⟨rfl, rfl⟩
  · cases h
theorem step_bad {l : List UInt8} {a e p : Nat} {ts : List Tk} (hs : Step l a ts (.bad e p)) : e ≠ 0 ∧ p = a := by
  have ad : ∀ (k c b : Nat) (nm : List Int) (n : List UInt8), addO ts ⟨k, a, c, nm, n⟩ b = .bad e p → e ≠ 0 ∧ p = a := fun k c b nm n h => by
    have h2 := addO_bad h
    exact ⟨by omega, h2.2⟩
  rcases hs with ⟨_, h⟩ | ⟨_, h⟩ | ⟨_, h⟩ | ⟨_, h⟩ | ⟨_, h⟩ | ⟨_, c', n, hf, h⟩
  · cases h
  · exact ad _ _ _ _ _ h.symm
  · unfold numO at h
    split at h
    · cases h; exact ⟨by simp, rfl⟩
    · unfold putO at h
      split at h
      · exact ad _ _ _ _ _ h.symm
      · split at h
        · split at h
          · cases h; exact ⟨by simp, rfl⟩
          · cases h
        · exact ad _ _ _ _ _ h.symm
  · unfold nameO at h
    split at h
    · cases h; exact ⟨by simp, rfl⟩
    · exact ad _ _ _ _ _ h.symm
  · cases h
  · unfold signO at h
    split at h
    · cases h; exact ⟨by simp, rfl⟩
    · split at h
      · exact ad _ _ _ _ _ h.symm
      · exact ad _ _ _ _ _ h.symm
/-- What a result is. -/
def Fine (n : Nat) (R : List Tk ⊕ Nat × Nat) : Prop := match R with
  | .inl us => ∃ b, Inv n b us
  | .inr (e, p) => e ≠ 0 ∧ p ≤ n
theorem lexes_facts {l : List UInt8} {a : Nat} {ts : List Tk} {R : List Tk ⊕ Nat × Nat} (h : Lexes l a ts R) : Inv l.length a ts → Fine l.length R := by
  induction h with
  | done h => exact fun k => ⟨_, k⟩
  | bad h hs => intro k; have := step_bad hs; exact ⟨this.1, by omega⟩
  | next h hs _ ih => exact fun k => ih (step_inv h k hs)
theorem lexIs_facts {l : List UInt8} {R : List Tk ⊕ Nat × Nat} (h : LexIs l R) : Fine l.length R := by
  unfold LexIs at h
  split at h
  · subst h; exact ⟨by simp, by omega⟩
  · exact lexes_facts h ⟨fun t ht => by simp at ht, by simp⟩
/-- The document's example. -/
def exL : List UInt8 := [120, 195, 151, 49, 32, 194, 175, 50]
def exT : List Tk := [⟨2, 0, 0, [], [120]⟩, ⟨4, 1, 3, [], []⟩, ⟨1, 3, 0, [1, -2], []⟩]
theorem ex_sign : Gl.FirstIs [195, 151, 49, 32, 194, 175, 50] 3 2 := by
  refine .inl ⟨by decide, .inr ⟨by omega, by omega, by decide, fun k h1 h2 => ?_⟩, by decide⟩
  rcases (show k = 1 ∨ k = 2 by omega) with rfl | rfl <;> decide
theorem ex_any : LexIs exL (.inl exT) := by
  unfold LexIs
  rw [if_neg (by decide)]
  refine .next (a' := 1) (ts' := [⟨2, 0, 0, [], [120]⟩]) (by decide) (.inr (.inr (.inr (.inl ⟨by decide, by rfl⟩)))) ?_
  refine .next (a' := 3) (ts' := [⟨2, 0, 0, [], [120]⟩, ⟨4, 1, 3, [], []⟩]) (by decide) (.inr (.inr (.inr (.inr (.inr ⟨by decide, 3, 2, ex_sign, by rfl⟩))))) ?_
  refine .next (a' := 4) (ts' := [⟨2, 0, 0, [], [120]⟩, ⟨4, 1, 3, [], []⟩, ⟨1, 3, 0, [1], []⟩]) (by decide) (.inr (.inr (.inl ⟨by decide, by rfl⟩))) ?_
  refine .next (a' := 5) (ts' := [⟨2, 0, 0, [], [120]⟩, ⟨4, 1, 3, [], []⟩, ⟨1, 3, 0, [1], []⟩]) (by decide) (.inl ⟨by decide, by rfl⟩) ?_
  refine .next (a' := 8) (ts' := exT) (by decide) (.inr (.inr (.inl ⟨by decide, by rfl⟩))) ?_
  exact .done (by decide)
end Go.Proofs.YtdhpplbopciijaaDoor.Tk
