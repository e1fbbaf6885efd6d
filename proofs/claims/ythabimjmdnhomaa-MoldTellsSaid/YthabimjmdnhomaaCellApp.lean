/-
  append(row, list...) where the row is the call's own and the list is any slice of numbers, nil let in: what the row holds behind it. Condition: both are short.
-/
import Derived.Test.YthabimjmdnhomaaShapeRef
import Derived.Test.YthabimjmdnhomaaShapeApp
import Derived.Maps.AppendAt
namespace Go.Proofs.Ythabimjmdnhomaa.Sh
open Go.RowKit
set_option linter.unusedVariables false

/-- The value v is a slice of the call's own (blocks from base on, elements of type t) with these numbers. -/
def MineT (t : TypeId) (w : World) (base : Nat) (v : Value) (xs : List Int) : Prop := w.ownsRow base t 1 v xs.length (xs.map (Value.int .i64))
/-- t is the type of a number of 64 bits. -/
def NumT (t : TypeId) : Prop := (Try.prog.info? t).map (fun i => (i.zero, i.size, i.bytes)) = some (some (.int .i64 0), 1, 8)
section
variable {w w' : World} {t : TypeId} {base : Nat} {v : Value} {xs : List Int}
theorem MineT.nil (t : TypeId) (w : World) (base : Nat) : MineT t w base (.slice none 0 0) [] := World.ownsRow_nil _ _ _ _
theorem MineT.ints (h : MineT t w base v xs) : ∃ A c, v = .slice A xs.length c ∧ Ints w A xs := by
  have hc := World.ownsRow.cells h (g := v.ownBlock.getD 0)
  rcases h.2 with ⟨rfl, h0⟩ | ⟨g, cap, cur, rfl, hb, hg, _⟩
  · exact ⟨none, 0, by rw [h0], fun hp => absurd hp (by omega)⟩
  · refine ⟨some ⟨g, 0, none⟩, cap, rfl, fun _ => ⟨g, 0, rfl, ?_, fun i hi => ?_⟩⟩
    · rcases Nat.lt_or_ge g w.heap.size with hlt | hge
      · exact hlt
      · rw [Array.getElem?_eq_none hge] at hg; cases hg
    · have := hc rfl i (.int .i64 (xs.getD i 0)) (by simp [List.getD, hi])
      have e : ((⟨g, 0, none⟩ : Addr).add i) = ⟨g, 0 + i, none⟩ := Go.WideShapes.add_plain ..
      rw [← e]; exact this
theorem MineT.lt (h : MineT t w base v xs) : ∀ g, v.ownBlock = some g → g < w.heap.size := by
  intro g hg
  rcases h.2 with ⟨rfl, _⟩ | ⟨g', cap, cur, rfl, _, hh, _⟩
  · simp [Value.ownBlock] at hg
  · simp [Value.ownBlock] at hg
    subst hg
    rcases Nat.lt_or_ge g' w.heap.size with hlt | hge
    · exact hlt
    · rw [Array.getElem?_eq_none hge] at hh; cases hh
theorem MineT.block (h : MineT t w base v xs) : ∀ k, v.ownBlock = some k → base ≤ k := by
  intro k hk
  rcases h.2 with ⟨rfl, _⟩ | ⟨g, cap, cur, rfl, hb, _⟩
  · simp [Value.ownBlock] at hk
  · simp [Value.ownBlock] at hk; omega
theorem MineT.keep (h : MineT t w base v xs) (hk : ∀ g, v.ownBlock = some g → w'.heap[g]? = w.heap[g]?) : MineT t w' base v xs := by
  refine ⟨h.1, ?_⟩
  rcases h.2 with h0 | ⟨g, cap, cur, rfl, hb, hg, hr⟩
  · exact .inl h0
  · exact .inr ⟨g, cap, cur, rfl, hb, (hk g rfl).trans hg, hr⟩
theorem MineT.below {B : Nat} (h : MineT t w base v xs) (hb : Below B w w') (hB : w.heap.size ≤ B) : MineT t w' base v xs :=
  h.keep fun g hg => hb.block g (Nat.lt_of_lt_of_le (h.lt g hg) hB)
theorem MineT.alloc (h : MineT t w base v xs) (o : Obj) : MineT t (w.alloc o) base v xs := h.keep fun g hg => Below.heap_alloc w o g (h.lt g hg)
theorem MineT.setCell (h : MineT t w base v xs) {p : Addr} (hp : v.ownBlock ≠ some p.block) (u : Value) : MineT t (w.setCell p u) base v xs :=
  h.keep fun g hg => Below.heap_setCell w p u g (fun e => hp (by rw [hg, e]))
theorem MineT.drewN (h : MineT t w base v xs) (n : Nat) : MineT t (w.drewN n) base v xs := h
theorem MineT.drew (h : MineT t w base v xs) : MineT t w.drew base v xs := h
theorem MineT.mono {b : Nat} (h : MineT t w base v xs) (hb : b ≤ base) : MineT t w b v xs := by
  refine ⟨h.1, ?_⟩
  rcases h.2 with h0 | ⟨g, cap, cur, rfl, hb', hr⟩
  · exact .inl h0
  · exact .inr ⟨g, cap, cur, rfl, by omega, hr⟩
theorem MineT.new (t : TypeId) (w : World) (xs : List Int) (base : Nat) (hb : base ≤ w.heap.size) (hl : xs.length ≤ maxLen) : MineT t (w.alloc (.cells (cellsI xs) t)) base (.slice (some ⟨w.heap.size, 0, none⟩) xs.length xs.length) xs :=
  ⟨by simp, .inr ⟨w.heap.size, xs.length, cellsI xs, rfl, hb, heap_alloc_new w _, Nat.le_refl _, hl, by simp [cellsI], by simp [cellsI, ← List.map_take]⟩⟩
end

theorem run_app_nil {P : Program} {w : World} {base : Nat} {t ty e : TypeId} {i : TypeInfo} {size : Nat} (ht : P.underlying t = some (.slice e)) (hi : P.info? e = some i)
    {v : Value} {n : Nat} {xs : List Value} (hown : w.ownsRow base e size v n xs) (c : Nat) : (Builtin.append_ #[t, t] ty #[v, .slice none 0 c]).run P w = .ok v w := by
  rcases hown.2 with ⟨rfl, rfl⟩ | ⟨g, cap, cur, rfl, _, _, hle, _⟩ <;>
    simp [Builtin.append_, run_underlying ht, sizeOf, typeInfo, Builtin.lenOf, Builtin.firstCells, storeCells, *]

theorem run_appI {t ty e : TypeId} (hinf : NumT e) (ht : Try.prog.underlying t = some (.slice e)) {w : World} {base : Nat} {v : Value} {xs : List Int} (hown : MineT e w base v xs)
    {A : Option Addr} {c : Nat} {ys : List Int} (hi : Ints w A ys) (hlen : xs.length + ys.length ≤ 100000) (hbase : base ≤ w.heap.size) :
    ∃ v' w', (Builtin.append_ #[t, t] ty #[v, .slice A ys.length c]).run Try.prog w = .ok v' w' ∧ MineT e w' base v' (xs ++ ys) ∧ w.grownBy w' v.ownBlock ∧ (v'.ownBlock = v.ownBlock ∨ v'.ownBlock = some w.heap.size) := by
  obtain ⟨i0, hi0, hz0, hz1, hz2⟩ := info_parts hinf
  rcases A with _ | ad
  · have h0 : ys = [] := by
      rcases Nat.eq_zero_or_pos ys.length with h | h
      · exact List.eq_nil_of_length_eq_zero h
      · obtain ⟨_, _, e, _⟩ := hi h; cases e
    subst h0
    exact ⟨v, w, run_app_nil ht hi0 hown c, by simpa using hown, World.grownBy.refl w _, .inl rfl⟩
  · obtain ⟨v', w', hr, h1, h2, _, h4⟩ := run_append_own_at (P := Try.prog) w base t ty e i0 (.int .i64 0) 1 8 ht hi0 hz0 hz1 hz2 rfl (by decide) v xs.length (xs.map (Value.int .i64)) hown ad ys.length c (ys.map (Value.int .i64)) (by simp)
      (fun j u hj => by
        have hjl : j < ys.length := by
          have := (List.getElem?_eq_some_iff.1 hj).1
          simpa using this
        obtain ⟨b, off, e1, hb, hc⟩ := hi (by omega)
        injection e1 with e1
        subst e1
        rw [Go.WideShapes.add_plain, hc j hjl]
        rw [List.getElem?_map, List.getElem?_eq_getElem hjl] at hj
        simp at hj
        simp [List.getD, hjl, hj])
      (fun u hu => by simp at hu; obtain ⟨y, _, rfl⟩ := hu; rfl) (by unfold maxLen; omega) (by omega) hbase
    exact ⟨v', w', hr, by unfold MineT; simpa using h1, h2, h4⟩

theorem wp_appI {t e : TypeId} (hinf : NumT e) (ht : Try.prog.underlying t = some (.slice e)) {w : World} {o : Oper} {a : Act} {K : Act → World → Prop} {Q : Exit → Act → World → Prop} (s x : Operand)
    (ho : o.op = .call { callee := .builtin .append, args := #[s, x], argTypes := #[t, t] })
    (base : Nat) (v : Value) (xs : List Int) (hs : a.eval s = v) (hown : MineT e w base v xs) (A : Option Addr) (c : Nat) (ys : List Int) (hx : a.eval x = .slice A ys.length c) (hi : Ints w A ys)
    (hlen : xs.length + ys.length ≤ 100000) (hbase : base ≤ w.heap.size)
    (h : ∀ v' w', MineT e w' base v' (xs ++ ys) → w.grownBy w' v.ownBlock → (v'.ownBlock = v.ownBlock ∨ v'.ownBlock = some w.heap.size) → K (a.put o.dst v') w') : o.wp Try.prog a w K Q := by
  obtain ⟨v', w', hrun, h2, h3, h4⟩ := run_appI (ty := o.type) (c := c) hinf ht hown hi hlen hbase
  unfold Oper.wp execOp
  simp only [ho, resolve, invoke, builtin, Sem.run_bind, Sem.run_pure, Result.andThen_ok, List.map_toArray, List.map_cons, List.map_nil, hs, hx, hrun]
  exact h v' w' h2 h3 h4

theorem wpList_appI {t e : TypeId} (hinf : NumT e) (ht : Try.prog.underlying t = some (.slice e)) {w : World} {ops : Array Oper} {rest : List Oper} {o : Oper} {a : Act} {Q : Exit → Act → World → Prop} (hgd : o.guard = none) (s x : Operand)
    (ho : o.op = .call { callee := .builtin .append, args := #[s, x], argTypes := #[t, t] })
    (base : Nat) (v : Value) (xs : List Int) (hs : a.eval s = v) (hown : MineT e w base v xs) (A : Option Addr) (c : Nat) (ys : List Int) (hx : a.eval x = .slice A ys.length c) (hi : Ints w A ys)
    (hlen : xs.length + ys.length ≤ 100000) (hbase : base ≤ w.heap.size)
    (h : ∀ v' w', MineT e w' base v' (xs ++ ys) → w.grownBy w' v.ownBlock → (v'.ownBlock = v.ownBlock ∨ v'.ownBlock = some w.heap.size) → wpList Try.prog ops Q rest (a.put o.dst v') w') : wpList Try.prog ops Q (o :: rest) a w :=
  wpList_plain hgd fun _ hK => wp_appI hinf ht s x ho base v xs hs hown A c ys hx hi hlen hbase fun v' w' h2 h3 h4 => hK _ _ (h v' w' h2 h3 h4)

theorem numI : NumT 3 := by unfold NumT; kernel_rfl
theorem numL : NumT 2 := by unfold NumT; kernel_rfl

/-- A copy of a list in a new row: the row that was there has no numbers. -/
theorem wpList_copyI {t e : TypeId} (hinf : NumT e) (ht : Try.prog.underlying t = some (.slice e)) {w : World} {ops : Array Oper} {rest : List Oper} {o : Oper} {a : Act} {Q : Exit → Act → World → Prop} (hgd : o.guard = none) (s x : Operand)
    (ho : o.op = .call { callee := .builtin .append, args := #[s, x], argTypes := #[t, t] })
    (hs : a.eval s = .slice (some ⟨w.heap.size, 0, none⟩) 0 0) (A : Option Addr) (c : Nat) (ys : List Int) (hx : a.eval x = .slice A ys.length c) (hi : Ints w A ys)
    (hlen : ys.length ≤ 100000)
    (h : ∀ B c' w', MineT e w' w.heap.size (.slice B ys.length c') ys → Below w.heap.size w w' → wpList Try.prog ops Q rest (a.put o.dst (.slice B ys.length c')) w') : wpList Try.prog ops Q (o :: rest) a (w.alloc (.cells #[] e)) := by
  have hb0 : Below w.heap.size w (w.alloc (.cells #[] e)) := (Below.refl _ w).alloc (Nat.le_refl _) _
  refine wpList_appI hinf ht hgd s x ho w.heap.size _ [] hs (by have := MineT.new e w [] w.heap.size (Nat.le_refl _) (by simp); exact this) A c ys hx (hi.below hb0) (by simpa using hlen) (by simp) ?_
  intro v' w' h1 h2 h3
  rw [List.nil_append] at h1
  obtain ⟨B, c', rfl, _⟩ := h1.ints
  exact h B c' w' h1 (hb0.grown h2 (by simp) (fun k hk => by simp [Value.ownBlock] at hk; omega))
end Go.Proofs.Ythabimjmdnhomaa.Sh
