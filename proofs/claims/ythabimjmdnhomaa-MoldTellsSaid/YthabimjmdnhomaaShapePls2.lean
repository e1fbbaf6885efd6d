/-
  What riffleref01.Places answers for any axes: all places, one behind the other; nothing that was there is written. Condition: at most 100 axes.
-/
import Derived.Test.YthabimjmdnhomaaShapePls1
import Derived.Test.YthabimjmdnhomaaShapeApp
namespace Go.Proofs.Ythabimjmdnhomaa.Sh
open Go.RowKit
set_option linter.unusedVariables false

theorem infoRow : (Try.prog.info? 22).map (fun i => (i.zero, i.size, i.bytes)) = some (some (.slice none 0 0), 1, 24) := by kernel_rfl
theorem own_lt {w : World} {base : Nat} {e : TypeId} {size : Nat} {v : Value} {n : Nat} {xs : List Value} (h : w.ownsRow base e size v n xs) : ∀ g, v.ownBlock = some g → g < w.heap.size := by
  intro g hg
  rcases h.2 with ⟨rfl, _⟩ | ⟨g', cap, cur, rfl, _, hh, _⟩
  · simp [Value.ownBlock] at hg
  · simp [Value.ownBlock] at hg
    subst hg
    rcases Nat.lt_or_ge g' w.heap.size with hlt | hge
    · exact hlt
    · rw [Array.getElem?_eq_none hge] at hh; cases hh
theorem own_below {w w' : World} {base : Nat} {e : TypeId} {size : Nat} {v : Value} {n : Nat} {xs : List Value} (h : w.ownsRow base e size v n xs) (hb : Below w.heap.size w w') : w'.ownsRow base e size v n xs := by
  have hlt := own_lt h
  refine ⟨h.1, ?_⟩
  rcases h.2 with hn | ⟨g, cap, cur, rfl, hbg, hh, r⟩
  · exact .inl hn
  · exact .inr ⟨g, cap, cur, rfl, hbg, (hb.block g (hlt g rfl)).trans hh, r⟩
theorem Mine.below {w w' : World} {base : Nat} {v : Value} {xs : List Int} (h : Mine w base v xs) (hb : Below w.heap.size w w') : Mine w' base v xs := own_below h hb
theorem Mine.setBelow {w : World} {base : Nat} {v : Value} {xs : List Int} (h : Mine w base v xs) {a : Addr} (ha : a.block < base) (u : Value) : Mine (w.setCell a u) base v xs := ownsRow_setCell_below h ha u
/-- Rows of two element types never share a block. -/
theorem own_apart {w : World} {base base' : Nat} {e e' : TypeId} {size size' : Nat} {v v' : Value} {n n' : Nat} {xs xs' : List Value} (h : w.ownsRow base e size v n xs) (h' : w.ownsRow base' e' size' v' n' xs') (hne : e ≠ e') :
    v.ownBlock = none ∨ v.ownBlock ≠ v'.ownBlock := by
  rcases h.2 with ⟨rfl, _⟩ | ⟨g, cap, cur, rfl, _, hh, _⟩
  · exact .inl rfl
  · rcases h'.2 with ⟨rfl, _⟩ | ⟨g', cap', cur', rfl, _, hh', _⟩
    · right; simp [Value.ownBlock]
    · right
      intro he
      simp [Value.ownBlock] at he
      subst he
      rw [hh] at hh'
      injection hh' with hh'
      injection hh' with _ ht
      exact hne ht

/-- A row of rows that the call made: the t-th is the t-th place. -/
def Outs (d : List Int) (w : World) (base : Nat) (v : Value) (n : Nat) : Prop :=
  ∃ vs : List Value, w.ownsRow base 22 1 v n vs ∧ ∀ (t : Nat) u, vs[t]? = some u → Mine w base u (dg d t)
theorem Outs.nil (d : List Int) (w : World) (base : Nat) : Outs d w base (.slice none 0 0) 0 := ⟨[], World.ownsRow_nil _ _ _ _, by simp⟩
theorem Outs.below {d : List Int} {w w' : World} {base : Nat} {v : Value} {n : Nat} (h : Outs d w base v n) (hb : Below w.heap.size w w') : Outs d w' base v n := by
  obtain ⟨vs, h1, h2⟩ := h
  exact ⟨vs, own_below h1 hb, fun t u hu => (h2 t u hu).below hb⟩
theorem Outs.setBelow {d : List Int} {w : World} {base : Nat} {v : Value} {n : Nat} (h : Outs d w base v n) {a : Addr} (ha : a.block < base) (u : Value) : Outs d (w.setCell a u) base v n := by
  obtain ⟨vs, h1, h2⟩ := h
  exact ⟨vs, ownsRow_setCell_below h1 ha u, fun t x hx => (h2 t x hx).setBelow ha u⟩
theorem Outs.drewN {d : List Int} {w : World} {base : Nat} {v : Value} {n : Nat} (h : Outs d w base v n) (k : Nat) : Outs d (w.drewN k) base v n := h
theorem Outs.drew {d : List Int} {w : World} {base : Nat} {v : Value} {n : Nat} (h : Outs d w base v n) : Outs d w.drew base v n := h

/-- A copy of a row, in a new array. -/
theorem wpList_copy {ops : Array Oper} {rest : List Oper} {o : Oper} {a : Act} {Q : Exit → Act → World → Prop} {w : World} (hgd : o.guard = none) (s x : Operand)
    (ho : o.op = .call { callee := .builtin .append, args := #[s, x], argTypes := #[22, 22] })
    (base : Nat) (g n c : Nat) (xs : List Int) (hs : a.eval s = .slice (some ⟨w.heap.size, 0, none⟩) 0 0) (hx : a.eval x = .slice (some ⟨g, 0, none⟩) n c) (hn : xs.length = n) (hown : Own w g xs)
    (hlen : n ≤ 100) (hbase : base ≤ w.heap.size)
    (h : ∀ A c' w', Mine w' base (.slice A n c') xs → Below w.heap.size w w' → wpList Try.prog ops Q rest (a.put o.dst (.slice A n c')) w') :
    wpList Try.prog ops Q (o :: rest) a (w.alloc (.cells #[] 3)) := by
  subst hn
  obtain ⟨i0, hi, hz0, hz1, hz2⟩ := info_parts infoInt
  have hmade := World.ownsRow_made (base := base) (e := 3) (size := 1) w #[] 0 hbase (by simp) rfl
  refine wpList_append_own _ hgd s x 22 ho base 3 i0 (.int .i64 0) 1 8 Try.underlying22 hi hz0 hz1 hz2 rfl (by decide) _ 0 [] hs hmade
    ⟨g, 0, none⟩ xs.length c (xs.map (Value.int .i64)) hx (by simp) ?_ ?_ (by unfold maxLen; omega) (by omega) (by simp; omega) ?_
  · intro j u hj
    rw [Go.WideShapes.add_plain, Nat.zero_add, World.cell?_alloc_past _ _ _ hown.lt]
    have hjl : j < xs.length := by
      have := (List.getElem?_eq_some_iff.1 hj).1
      simpa using this
    rw [hown.cell hjl]
    rw [List.getElem?_map, List.getElem?_eq_getElem hjl] at hj
    simp at hj
    simp [List.getD, hjl, hj]
  · intro u hu; simp at hu; obtain ⟨y, _, rfl⟩ := hu; rfl
  · intro v' w' h1 h2 _
    simp only [Nat.zero_add, List.nil_append] at h1
    have hm : Mine w' base v' xs := h1
    obtain ⟨A, c', rfl, _⟩ := hm.ints
    exact h A c' w' hm (((Below.refl _ w).alloc (Nat.le_refl _) _).grown h2 (by simp) (fun k hk => by simp [Value.ownBlock] at hk; omega))

/-- A row appended to the row of rows. -/
theorem wpList_appOut {ops : Array Oper} {rest : List Oper} {o : Oper} {a : Act} {Q : Exit → Act → World → Prop} {w : World} (d : List Int) {A : Option Addr} {m c : Nat} (hgd : o.guard = none) (s x : Operand)
    (ho : o.op = .call { callee := .builtin .append, args := #[s, x], argTypes := #[52, 52] })
    (base : Nat) (v : Value) (n : Nat) (hs : a.eval s = v) (hx : a.eval x = .slice (some ⟨w.heap.size, 0, none⟩) 1 1) (hout : Outs d w base v n) (hmine : Mine w base (.slice A m c) (dg d n))
    (hlen : n ≤ 100) (hbase : base ≤ w.heap.size)
    (h : ∀ v' w', Outs d w' base v' (n + 1) → Below base w w' → wpList Try.prog ops Q rest (a.put o.dst v') w') :
    wpList Try.prog ops Q (o :: rest) a (w.alloc (.cells #[.slice A m c] 22)) := by
  obtain ⟨i0, hi, hz0, hz1, hz2⟩ := info_parts infoRow
  obtain ⟨vs, h1, h2⟩ := hout
  refine wpList_append_own _ hgd s x 52 ho base 22 i0 (.slice none 0 0) 1 24 Try.underlying52 hi hz0 hz1 hz2 rfl (by decide) v n vs hs (World.ownsRow.alloc h1 _)
    ⟨w.heap.size, 0, none⟩ 1 1 [.slice A m c] hx rfl ?_ ?_ (by unfold maxLen; omega) (by omega) (by simp; omega) ?_
  · intro j u hj
    match j, hj with
    | 0, hj => simp at hj; subst hj; simp [Addr.add]
  · intro u hu; simp at hu; subst hu; rfl
  · intro v' w' k1 k2 _
    have hne : ∀ {u : Value} {ys : List Int}, Mine w base u ys → Mine w' base u ys := fun {u ys} hu =>
      World.ownsRow.kept (World.ownsRow.alloc hu _) k2 (own_apart hu h1 (by decide))
    refine h v' w' ⟨vs ++ [.slice A m c], k1, fun t u hu => ?_⟩ (((Below.refl _ w).alloc hbase _).grown k2 (by simp; omega) (fun k hk => ?_))
    · have hlv : vs.length = n := by simpa using h1.1
      rcases Nat.lt_or_ge t vs.length with hlt | hge
      · rw [List.getElem?_append_left hlt] at hu; exact hne (h2 t u hu)
      · rw [List.getElem?_append_right hge] at hu
        have ht : t - vs.length = 0 := by
          have := (List.getElem?_eq_some_iff.1 hu).1
          simp at this; omega
        rw [ht] at hu
        simp at hu
        subst hu
        have : t = n := by omega
        subst this
        exact hne hmine
    · rcases h1.2 with ⟨rfl, _⟩ | ⟨g, cap, cur, rfl, hb, _⟩
      · simp [Value.ownBlock] at hk
      · simp [Value.ownBlock] at hk; omega
end Go.Proofs.Ythabimjmdnhomaa.Sh
