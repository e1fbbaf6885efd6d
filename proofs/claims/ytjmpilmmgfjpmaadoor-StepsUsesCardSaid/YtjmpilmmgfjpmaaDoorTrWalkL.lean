/-
  Layer 18, tree: the nodes below one, as a list: just those in a row up to it, each once. No condition.
-/
import Derived.Test.YtjmpilmmgfjpmaaDoorTrRHigh
import Derived.Test.YtjmpilmmgfjpmaaDoorTrEq2
set_option maxRecDepth 100000
namespace Go.Proofs.YtjmpilmmgfjpmaaDoor.Tr
open Go.Proofs.YtjmpilmmgfjpmaaDoor.Sh Go.Proofs.YtjmpilmmgfjpmaaDoor.St
open Go.RowKit
set_option linter.unusedVariables false

def walkF (qs : List Nq) : Nat → Int → List Int
  | 0, _ => []
  | f + 1, i => match qs[i.toNat]? with
    | some q => i :: q.n.kids.flatMap (walkF qs f)
    | none => []
/-- A node, then those of its parts, from the left to the right. -/
def walkL (qs : List Nq) (i : Int) : List Int := walkF qs (i.toNat + 1) i
theorem flatMap_same {α β : Type} {f g : α → List β} : ∀ (l : List α), (∀ x ∈ l, f x = g x) → l.flatMap f = l.flatMap g
  | [], _ => rfl
  | x :: r, h => by
    rw [List.flatMap_cons, List.flatMap_cons, h x List.mem_cons_self, flatMap_same r (fun y hy => h y (List.mem_cons_of_mem _ hy))]
theorem walkF_enough {qs : List Nq} (hA : Ahead qs) : ∀ (f g : Nat) (i : Int), 0 ≤ i → i < (f : Int) → i < (g : Int) → walkF qs f i = walkF qs g i
  | 0, g, i, h0, h, h' => by omega
  | f + 1, 0, i, h0, h, h' => by omega
  | f + 1, g + 1, i, h0, h, h' => by
    unfold walkF
    split
    · rename_i q hq
      congr 1
      apply flatMap_same
      intro x hx
      have := hA _ q hq x hx
      exact walkF_enough hA f g x this.1 (by omega) (by omega)
    · rfl
theorem walkL_eq {qs : List Nq} (hA : Ahead qs) {k : Nat} {q : Nq} (hq : qs[k]? = some q) : walkL qs (k : Int) = (k : Int) :: q.n.kids.flatMap (walkL qs) := by
  unfold walkL
  rw [show ((k : Int)).toNat = k by simp]
  rw [walkF, show ((k : Int)).toNat = k by simp, hq]
  simp only
  congr 1
  apply flatMap_same
  intro x hx
  have := hA _ q hq x hx
  exact walkF_enough hA k _ x this.1 (by omega) (by omega)
/-- Just those in a row behind a up to i, each once. -/
structure Span (l : List Int) (a i : Int) : Prop where
  le : a ≤ i
  len : (l.length : Int) = i - a
  nodup : l.Nodup
  mem : ∀ j, j ∈ l ↔ a < j ∧ j ≤ i
theorem Span.app {l m : List Int} {a b i : Int} (h : Span l a b) (g : Span m b i) : Span (l ++ m) a i := by
  refine ⟨by have := h.le; have := g.le; omega, ?_, ?_, fun j => ?_⟩
  · rw [List.length_append, Int.natCast_add, h.len, g.len]; omega
  · rw [List.nodup_append]
    refine ⟨h.nodup, g.nodup, fun x hx y hy e => ?_⟩
    have h1 := (h.mem x).1 hx
    have h2 := (g.mem y).1 hy
    omega
  · rw [List.mem_append, h.mem, g.mem]
    have := h.le
    have := g.le
    omega
theorem Span.top {l : List Int} {a i : Int} (h : Span l a (i - 1)) : Span (i :: l) a i := by
  refine ⟨by have := h.le; omega, ?_, ?_, fun j => ?_⟩
  · rw [List.length_cons, Int.natCast_add, h.len]; omega
  · rw [List.nodup_cons]
    refine ⟨fun hx => ?_, h.nodup⟩
    have := (h.mem i).1 hx
    omega
  · rw [List.mem_cons, h.mem]
    have := h.le
    omega
theorem kids_span {qs : List Nq} {m : Int} (H : ∀ x a, x < m → down qs x = some a → Span (walkL qs x) a x) : ∀ (l : List (Nat × Int)) (at_ a : Int), at_ < m → kidsDown (down qs) qs l at_ = some a → Span ((l.reverse.map Prod.snd).flatMap (walkL qs)) a at_
  | [], at_, a, hm, h => by
    injection h with h
    subst h
    exact ⟨Int.le_refl _, by simp, List.nodup_nil, fun j => by simp⟩
  | (j, kid) :: r, at_, a, hm, h => by
    unfold kidsDown at h
    split at h
    · rename_i hc
      split at h
      · rename_i a' ha
        have hlt := down_lt ha
        have h1 := H at_ a' hm ha
        have h2 := kids_span H r a' a (by omega) h
        rw [List.reverse_cons, List.map_append, List.flatMap_append]
        have h3 := h2.app h1
        simpa [hc.1] using h3
      · cases h
    · cases h
theorem down_span {qs : List Nq} (hA : Ahead qs) : ∀ (k : Nat) (a : Int), down qs (k : Int) = some a → Span (walkL qs (k : Int)) a (k : Int) := by
  intro k
  induction k using Nat.strongRecOn with
  | ind k ih =>
  intro a h
  rw [down_eq, if_pos (by omega), show ((k : Int)).toNat = k by simp] at h
  split at h
  · rename_i q hq
    split at h
    · rename_i hok
      rw [walkL_eq hA hq]
      apply Span.top
      have hl : ((partsL q.n.kind).zip q.n.kids).reverse.reverse.map Prod.snd = q.n.kids := by
        rw [List.reverse_reverse]
        exact zip_snd ((nodeOk_iff q).1 hok).2
      have := kids_span (m := (k : Int)) (fun x a hx hd => by
        by_cases h0 : 0 ≤ x
        · obtain ⟨y, rfl⟩ : ∃ y : Nat, x = (y : Int) := ⟨x.toNat, by omega⟩
          exact ih y (by omega) a hd
        · rw [down_eq, if_neg h0] at hd; cases hd) _ _ _ (by omega) h
      rw [hl] at this
      exact this
    · cases h
  · cases h
theorem down_all {p : Pq} (h : rightT p = true) (k : Nat) (hk : k < p.nodes.length) : ∃ a, down p.nodes (k : Int) = some a := by
  unfold rightT at h
  simp only [Bool.and_eq_true] at h
  obtain ⟨-, -, -, -, h⟩ := h
  split at h
  · rename_i t ht
    have hl := ord_link _ _ ht
    obtain ⟨S, hS⟩ := covered _ _ hl (k : Int) (by omega) (by omega)
    cases S with
    | nil => simp only [Lnk] at hS; omega
    | cons u S =>
      obtain ⟨rfl, -, a2, hd, -⟩ := hS
      exact ⟨a2, hd⟩
  · cases h
/-- Below any node of a program that may be stand just those in a row up to it. -/
theorem walk_span {p : Pq} (h : rightT p = true) (k : Nat) (hk : k < p.nodes.length) : ∃ a, a < (k : Int) ∧ Span (walkL p.nodes (k : Int)) a (k : Int) := by
  obtain ⟨a, ha⟩ := down_all h k hk
  exact ⟨a, down_lt ha, down_span (ahead_right h) k a ha⟩
end Go.Proofs.YtjmpilmmgfjpmaaDoor.Tr
