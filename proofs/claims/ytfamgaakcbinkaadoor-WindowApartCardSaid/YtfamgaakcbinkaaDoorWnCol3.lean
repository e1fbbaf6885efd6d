/-
  A window's columns: a clone of one; n of them side by side, each in blocks of its own, and what a deed on one of them leaves of the others. Conditions: as told in each.
-/
import Derived.Test.YtfamgaakcbinkaaDoorWnCol2
namespace Go.Proofs.YtfamgaakcbinkaaDoor.Wn
open Go.Proofs.YtfamgaakcbinkaaDoor.Sh Go.Proofs.YtfamgaakcbinkaaDoor.St
open Go.RowKit
set_option linter.unusedVariables false

theorem own_lo {w : World} {base b size n : Nat} {e : TypeId} {v : Value} {xs : List Value} (h : w.ownsRow base e size v n xs) (hb : b ≤ base) : w.ownsRow b e size v n xs := by
  obtain ⟨h1, h2⟩ := h
  refine ⟨h1, ?_⟩
  rcases h2 with h2 | ⟨g, cap, cur, e1, hg, h3⟩
  · exact .inl h2
  · exact .inr ⟨g, cap, cur, e1, Nat.le_trans hb hg, h3⟩
theorem Turn.trans2 {T T' : Nat → Prop} {a b w : World} (h : Turn T a b) (k : Turn T' b w) (hT : ∀ i, T' i → T i ∨ a.heap.size ≤ i) : Turn T a w :=
  ⟨k.1.trans h.1, k.2.1.trans h.2.1, k.2.2.1.trans h.2.2.1, Nat.le_trans h.size k.size, fun i hi hn => (k.at_ (Nat.lt_of_lt_of_le hi h.size) (fun e => (hT i e).elim hn (by omega))).trans (h.at_ hi hn)⟩
section
variable {n₀ m q : Nat} {c : Int} {s : Bool} {w w' : World} {x : Value} {l : List Int} {T S : Nat → Prop}
theorem Col.size (h : Col n₀ c s m q w x l T) : n₀ ≤ w.heap.size := by
  obtain ⟨h0, hT, hR, hm, h64, ⟨hy, g, V, rfl, d, k⟩ | ⟨hy, J, g, base, ec, es, hb, rfl, o, jb, fb⟩ | ⟨hy, g, V, f, rfl, d, hq, k⟩⟩ := h
  · have := d.lt g (.inl rfl); omega
  · have := jb.2.2.2; omega
  · have := d.lt g (.inl rfl); omega
end
theorem col_clone (n₀ : Nat) (c : Int) (s : Bool) (m q : Nat) (x : Value) (l : List Int) (T : Nat → Prop) (w : World) (h : Col n₀ c s m q w x l T) (hq : q ≤ 999) :
    Calls Tryd.prog (m_clone (wayN c)) #[x] w fun e w' => ∃ x', e = .returned (.iface (colT (wayN c)) x') ∧ Col n₀ c s m q w' x' l (w.heap.size ≤ ·) ∧ Below w.heap.size w w' := by
  have hz := h.size
  obtain ⟨h0, hT, hR, hm, h64, h⟩ := h
  rcases h with ⟨hy, g, V, rfl, d, k⟩ | ⟨hy, J, g, base, ec, es, hbb, rfl, o, jb, fb⟩ | ⟨hy, g, V, f, rfl, d, hqf, k⟩
  · rw [hy]
    refine (clone_past n₀ g c s V l w d (by omega)).mono ?_
    rintro e w' ⟨g', V', rfl, d', hb⟩
    exact ⟨.pointer (some ⟨g', 0, none⟩), rfl, ⟨h0, hT.below hb, hR, hm, h64, .inl ⟨hy, g', V', rfl, ⟨d'.1, own_lo d'.2.1 hz, Nat.le_trans hz d'.2.2⟩, fun b kb => (d'.lt b kb).2⟩⟩, hb⟩
  · rw [hy]
    refine (clone_joined base g m l T w o (by omega)).mono ?_
    rintro e w' ⟨g', rfl, o', hb⟩
    exact ⟨.agg #[.pointer (some ⟨g', 0, none⟩)], rfl, ⟨h0, hT.below hb, hR, hm, h64, .inr (.inl ⟨hy, J, g', w.heap.size, ec, es, hz, rfl, o', ⟨(jb.next hb).1, Nat.lt_of_lt_of_le jb.2.1 jb.2.2.2, Nat.lt_of_lt_of_le jb.2.2.1 jb.2.2.2, hb.size⟩, fb.next hb⟩)⟩, hb⟩
  · rw [hy]
    refine (clone_picked n₀ g V (decide (c = 8)) m f l w d (by omega)).mono ?_
    rintro e w' ⟨g', V', rfl, d', hb⟩
    have d2 := d'
    obtain ⟨k1, k2, k3, k4, k5⟩ := d'
    exact ⟨.agg #[.pointer (some ⟨g', 0, none⟩)], rfl, ⟨h0, hT.below hb, hR, hm, h64, .inr (.inr ⟨hy, g', V', f, rfl, ⟨k1, Dq.RowK.mono k2 hz, k3, k4, Nat.le_trans hz k5⟩, hqf, fun b kb => (d2.lt b kb).2⟩)⟩, hb⟩
theorem NF.turn {w w' : World} {T S : Nat → Prop} (h : NF w T) (lt : ∀ b, T b → b < w.heap.size) (t : Turn S w w') (hS : ∀ b, T b → ¬ S b) : NF w' T := fun b hb cs hk => h b hb cs ((t.at_ (lt b hb) (hS b hb)).symm.trans hk)
/-- A column with just its blocks. -/
def ColG (n₀ : Nat) (c : Int) (s : Bool) (m q : Nat) (w : World) (x : Value) (l : List Int) (T : Nat → Prop) : Prop := Col n₀ c s m q w x l T ∧ NF w T ∧ ∀ b, T b → b < w.heap.size ∧ n₀ ≤ b
section
variable {n₀ m q : Nat} {c : Int} {s : Bool} {w w' : World} {x : Value} {l : List Int} {T S : Nat → Prop}
theorem ColG.turn (h : ColG n₀ c s m q w x l T) (t : Turn S w w') (hS : ∀ b, T b → ¬ S b) (nS : NF w S) (lS : ∀ b, S b → n₀ ≤ b) : ColG n₀ c s m q w' x l T :=
  ⟨h.1.turn t hS nS lS, h.2.1.turn (fun b k => (h.2.2 b k).1) t hS, fun b k => ⟨Nat.lt_of_lt_of_le (h.2.2 b k).1 t.size, (h.2.2 b k).2⟩⟩
theorem Col.good (h : Col n₀ c s m q w x l T) : ∃ T0, ColG n₀ c s m q w x l T0 ∧ ∀ b, T0 b → T b := by
  obtain ⟨T0, h1, h2, h3⟩ := h.own
  exact ⟨T0, ⟨h1, h2, fun b k => (h3 b k).2⟩, fun b k => (h3 b k).1⟩
end
/-- The blocks of all columns. -/
def All (n : Nat) (T : Nat → Nat → Prop) (b : Nat) : Prop := ∃ i, i < n ∧ T i b
/-- n columns side by side. -/
def Cols (n₀ : Nat) (c : Int) (s : Bool) (m : Nat) (w : World) (n : Nat) (X : Nat → Value) (Q : Nat → Nat) (L : Nat → List Int) (T : Nat → Nat → Prop) : Prop :=
  (∀ i, i < n → ColG n₀ c s m (Q i) w (X i) (L i) (T i)) ∧ ∀ i j, i < n → j < n → i ≠ j → ∀ b, T i b → ¬ T j b
def upd {α : Type} (f : Nat → α) (i : Nat) (v : α) : Nat → α := fun j => if j = i then v else f j
/-- The first k are of a, the others of b. -/
def mix {α : Type} (a b : Nat → α) (k : Nat) : Nat → α := fun j => if j < k then a j else b j
theorem mix_zero {α : Type} (a b : Nat → α) : mix a b 0 = b := by funext j; unfold mix; rw [if_neg (by omega)]
theorem mix_at {α : Type} (a b : Nat → α) (k : Nat) : mix a b k k = b k := by unfold mix; rw [if_neg (by omega)]
theorem mix_lt {α : Type} (a b : Nat → α) {k j : Nat} (h : j < k) : mix a b k j = a j := by unfold mix; rw [if_pos h]
theorem mix_upd {α : Type} (a b : Nat → α) (k : Nat) : upd (mix a b k) k (a k) = mix a b (k + 1) := by
  funext j
  unfold upd mix
  by_cases h : j = k
  · subst h; rw [if_pos rfl, if_pos (by omega)]
  · rw [if_neg h]
    by_cases h2 : j < k
    · rw [if_pos h2, if_pos (by omega)]
    · rw [if_neg h2, if_neg (by omega)]
section
variable {n₀ m n : Nat} {c : Int} {s : Bool} {w w' : World} {X : Nat → Value} {Q Q' : Nat → Nat} {L L' : Nat → List Int} {T : Nat → Nat → Prop} {S : Nat → Prop}
theorem Cols.nf (h : Cols n₀ c s m w n X Q L T) : NF w (All n T) := fun b ⟨i, hi, hb⟩ => (h.1 i hi).2.1 b hb
theorem Cols.lt (h : Cols n₀ c s m w n X Q L T) : ∀ b, All n T b → b < w.heap.size ∧ n₀ ≤ b := fun b ⟨i, hi, hb⟩ => (h.1 i hi).2.2 b hb
theorem Cols.turn (h : Cols n₀ c s m w n X Q L T) (t : Turn S w w') (hS : ∀ b, All n T b → ¬ S b) (nS : NF w S) (lS : ∀ b, S b → n₀ ≤ b) : Cols n₀ c s m w' n X Q L T :=
  ⟨fun i hi => (h.1 i hi).turn t (fun b hb => hS b ⟨i, hi, hb⟩) nS lS, h.2⟩
theorem Cols.next (h : Cols n₀ c s m w n X Q L T) (hb : Below w.heap.size w w') : Cols n₀ c s m w' n X Q L T := h.turn (Turn.of_below (fun _ => False) hb) (fun _ _ k => k) (fun _ k => k.elim) fun _ k => k.elim
theorem Cols.congr (h : Cols n₀ c s m w n X Q L T) (hQ : ∀ i, i < n → Q' i = Q i) (hL : ∀ i, i < n → L' i = L i) : Cols n₀ c s m w n X Q' L' T :=
  ⟨fun i hi => by rw [hQ i hi, hL i hi]; exact h.1 i hi, h.2⟩
theorem Cols.step (h : Cols n₀ c s m w n X Q L T) {i : Nat} (hi : i < n) {q' : Nat} {l' : List Int} (hl : ColLeft n₀ c s m q' (X i) l' (T i) w w') :
    ∃ T', Cols n₀ c s m w' n X (upd Q i q') (upd L i l') T' ∧ Turn (All n T) w w' ∧ ∀ b, All n T' b → All n T b ∨ w.heap.size ≤ b := by
  obtain ⟨T1, c1, t1, f1⟩ := hl
  obtain ⟨T2, g2, s2⟩ := c1.good
  have hi' := h.1 i hi
  have new : ∀ b, T2 b → T i b ∨ w.heap.size ≤ b := fun b k => f1 b (s2 b k)
  refine ⟨upd T i T2, ⟨fun j hj => ?_, fun j k hj hk hne b h1 h2 => ?_⟩, t1.mono fun b k => ⟨i, hi, k⟩, fun b ⟨j, hj, hb⟩ => ?_⟩
  · by_cases e : j = i
    · subst e
      simp only [upd, ↓reduceIte]
      exact g2
    · simp only [upd, if_neg e]
      exact (h.1 j hj).turn t1 (fun b hb => h.2 j i hj hi e b hb) hi'.2.1 fun b hb => (hi'.2.2 b hb).2
  · simp only [upd] at h1 h2
    by_cases e1 : j = i
    · rw [if_pos e1] at h1
      rw [if_neg (by omega)] at h2
      rcases new b h1 with h3 | h3
      · exact h.2 i k hi hk (by omega) b h3 h2
      · have := ((h.1 k hk).2.2 b h2).1; omega
    · rw [if_neg e1] at h1
      by_cases e2 : k = i
      · rw [if_pos e2] at h2
        rcases new b h2 with h3 | h3
        · exact h.2 j i hj hi (by omega) b h1 h3
        · have := ((h.1 j hj).2.2 b h1).1; omega
      · rw [if_neg e2] at h2
        exact h.2 j k hj hk hne b h1 h2
  · simp only [upd] at hb
    by_cases e : j = i
    · rw [if_pos e] at hb
      exact (new b hb).imp (fun k => ⟨i, hi, k⟩) id
    · rw [if_neg e] at hb
      exact .inl ⟨j, hj, hb⟩
end
/-- Columns on their way, since the world w0 with the blocks T0. -/
def Colz (n₀ : Nat) (c : Int) (s : Bool) (m n : Nat) (X : Nat → Value) (w0 : World) (T0 : Nat → Nat → Prop) (wr : World) (Q : Nat → Nat) (L : Nat → List Int) : Prop :=
  ∃ T, Cols n₀ c s m wr n X Q L T ∧ Turn (All n T0) w0 wr ∧ ∀ b, All n T b → All n T0 b ∨ w0.heap.size ≤ b
section
variable {n₀ m n : Nat} {c : Int} {s : Bool} {w w0 w' : World} {X : Nat → Value} {Q Q' : Nat → Nat} {L L' : Nat → List Int} {T T0 : Nat → Nat → Prop} {S : Nat → Prop}
theorem Colz.start (h : Cols n₀ c s m w0 n X Q L T0) : Colz n₀ c s m n X w0 T0 w0 Q L := ⟨T0, h, Turn.refl _ _, fun _ k => .inl k⟩
theorem Colz.from (h : Cols n₀ c s m w0 n X Q L T0) (hb : Below w0.heap.size w0 w) : Colz n₀ c s m n X w0 T0 w Q L := ⟨T0, h.next hb, Turn.of_below _ hb, fun _ k => .inl k⟩
/-- One more column's turn: the column's next numbers are the ones of Q', L'. -/
theorem colz_step {i : Nat} (h : Cols n₀ c s m w n X (mix Q' Q i) (mix L' L i) T) (t : Turn (All n T0) w0 w) (f : ∀ b, All n T b → All n T0 b ∨ w0.heap.size ≤ b) (hi : i < n) (hl : ColLeft n₀ c s m (Q' i) (X i) (L' i) (T i) w w') : Colz n₀ c s m n X w0 T0 w' (mix Q' Q (i + 1)) (mix L' L (i + 1)) := by
  obtain ⟨T', h1, h2, h3⟩ := h.step hi hl
  rw [mix_upd, mix_upd] at h1
  exact ⟨T', h1, Turn.trans2 t h2 f, fun b k => (h3 b k).elim (f b) fun k => .inr (Nat.le_trans t.size k)⟩
theorem Colz.end_ (h : Colz n₀ c s m n X w0 T0 w (mix Q' Q n) (mix L' L n)) : Colz n₀ c s m n X w0 T0 w Q' L' := by
  obtain ⟨T, h1, h2⟩ := h
  exact ⟨T, h1.congr (fun i hi => (mix_lt _ _ hi).symm) (fun i hi => (mix_lt _ _ hi).symm), h2⟩
end
end Go.Proofs.YtfamgaakcbinkaaDoor.Wn
