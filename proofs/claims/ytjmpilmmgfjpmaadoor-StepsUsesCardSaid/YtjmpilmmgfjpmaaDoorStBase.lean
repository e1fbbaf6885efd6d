/-
  What a call leaves of memory where only some blocks have turned; slices of values, of numbers and of rows of numbers that lie in given blocks; append of such. Conditions: as told in each.
-/
import Derived.Test.YtjmpilmmgfjpmaaDoorPkM
import Derived.Lib.SliceRun
set_option maxRecDepth 100000
namespace Go.Proofs.YtjmpilmmgfjpmaaDoor.St
open Go.Proofs.YtjmpilmmgfjpmaaDoor.Sh
open Go.RowKit
set_option linter.unusedVariables false

/-- Of the blocks of a only those of T have turned. -/
def Turn (T : Nat → Prop) (a w : World) : Prop := w.os = a.os ∧ w.tape = a.tape ∧ w.output = a.output ∧ a.heap.size ≤ w.heap.size ∧ ∀ i, i < a.heap.size → ¬ T i → w.heap[i]? = a.heap[i]?
section
variable {T T' : Nat → Prop} {a b w w' : World}
theorem Turn.refl (T : Nat → Prop) (w : World) : Turn T w w := ⟨rfl, rfl, rfl, Nat.le_refl _, fun _ _ _ => rfl⟩
theorem Turn.size (h : Turn T a w) : a.heap.size ≤ w.heap.size := h.2.2.2.1
theorem Turn.at_ (h : Turn T a w) {i : Nat} (hi : i < a.heap.size) (hn : ¬ T i) : w.heap[i]? = a.heap[i]? := h.2.2.2.2 i hi hn
theorem Turn.trans (h : Turn T a b) (k : Turn T b w) : Turn T a w :=
  ⟨k.1.trans h.1, k.2.1.trans h.2.1, k.2.2.1.trans h.2.2.1, Nat.le_trans h.size k.size, fun i hi hn => (k.at_ (Nat.lt_of_lt_of_le hi h.size) hn).trans (h.at_ hi hn)⟩
theorem Turn.mono (h : Turn T a w) (hT : ∀ i, T i → T' i) : Turn T' a w := ⟨h.1, h.2.1, h.2.2.1, h.size, fun i hi hn => h.at_ hi fun k => hn (hT i k)⟩
theorem Turn.of_below (T : Nat → Prop) (h : Below a.heap.size a w) : Turn T a w := ⟨h.os, h.tape, h.output, h.size, fun i hi _ => h.block i hi⟩
theorem Turn.next (h : Turn T a b) (k : Below b.heap.size b w) : Turn T a w := h.trans (Turn.of_below T k)
theorem Turn.of_grown {row : Option Nat} (h : a.grownBy w row) (hr : ∀ g, row = some g → T g) : Turn T a w := ⟨h.os, h.tape, h.output, h.size, fun i hi hn => h.block i hi fun e => hn (hr i e.symm)⟩
theorem Turn.drew (h : Turn T a w) : Turn T a w.drew := h
theorem Turn.drewN (h : Turn T a w) (n : Nat) : Turn T a (w.drewN n) := h
theorem Turn.alloc (h : Turn T a w) (o : Obj) : Turn T a (w.alloc o) := h.next ((Below.refl _ w).alloc (Nat.le_refl _) o)
theorem Turn.setCell (h : Turn T a w) {p : Addr} (hp : T p.block ∨ a.heap.size ≤ p.block) (u : Value) : Turn T a (w.setCell p u) :=
  ⟨h.1, h.2.1, h.2.2.1, by simpa [World.setCell] using h.size, fun i hi hn => (Below.heap_setCell w p u i (by
    rintro rfl
    rcases hp with hp | hp
    · exact hn hp
    · omega)).trans (h.at_ hi hn)⟩
theorem Turn.below (h : Turn T a w) {B : Nat} (hB : B ≤ a.heap.size) (hT : ∀ i, T i → B ≤ i) : Below B a w := ⟨h.1, h.2.1, h.2.2.1, h.size, fun i hi => h.at_ (by omega) fun k => by have := hT i k; omega⟩
theorem Turn.cell (h : Turn T a w) {p : Addr} (hn : ¬ T p.block) {u : Value} (hc : a.cell? p = some u) : w.cell? p = some u :=
  (World.cell?_of_block (h.at_ (World.block_lt_of_cell? a p hc) hn)).trans hc
end

/-- Block g has just these cells, none frozen. -/
def Bk (t : TypeId) (w : World) (g : Nat) (xs : List Value) : Prop := w.heap[g]? = some (.cells xs.toArray t (0, 0))
section
variable {t t' : TypeId} {w w' a : World} {g : Nat} {xs : List Value} {T : Nat → Prop}
theorem Bk.lt (h : Bk t w g xs) : g < w.heap.size := by
  rcases Nat.lt_or_ge g w.heap.size with hlt | hge
  · exact hlt
  · unfold Bk at h; rw [Array.getElem?_eq_none hge] at h; cases h
theorem Bk.new (t : TypeId) (w : World) (xs : List Value) : Bk t (w.alloc (.cells xs.toArray t)) w.heap.size xs := heap_alloc_new w _
theorem Bk.c (h : Bk t w g xs) (i : Nat) : w.cell? ⟨g, i, none⟩ = xs[i]? := by rw [cell_of_row w g i _ _ _ h]; simp
theorem Bk.f (h : Bk t w g xs) (i : Nat) : w.frozen? ⟨g, i, none⟩ = false := by unfold Bk at h; simp [World.frozen?, h]
theorem Bk.drewN (h : Bk t w g xs) (n : Nat) : Bk t (w.drewN n) g xs := h
theorem Bk.drew (h : Bk t w g xs) : Bk t w.drew g xs := h
theorem Bk.alloc (h : Bk t w g xs) (o : Obj) : Bk t (w.alloc o) g xs := (Below.heap_alloc w o g h.lt).trans h
theorem Bk.next (h : Bk t w g xs) (hb : Below w.heap.size w w') : Bk t w' g xs := (hb.block g h.lt).trans h
theorem Bk.turn (h : Bk t w g xs) (hb : Turn T w w') (hg : ¬ T g) : Bk t w' g xs := (hb.at_ h.lt hg).trans h
theorem Bk.far (h : Bk t w g xs) {p : Addr} (hp : g ≠ p.block) (u : Value) : Bk t (w.setCell p u) g xs := (Below.heap_setCell w p u g hp).trans h
theorem Bk.set_ (h : Bk t w g xs) (i : Nat) (u : Value) : Bk t (w.setCell ⟨g, i, none⟩ u) g (xs.set i u) := by
  unfold Bk at h ⊢
  simp [World.setCell, Array.getElem?_modify, h]
theorem Bk.ne_ {g' : Nat} {ys : List Value} (h : Bk t w g xs) (h' : Bk t' w g' ys) (hne : t ≠ t') : g ≠ g' := by
  rintro rfl
  unfold Bk at h h'
  rw [h] at h'
  injection h' with h'
  injection h' with _ ht
  exact hne ht
end

/-- These values lie one behind the other from A on, in a block of S. -/
def Seq (S : Nat → Prop) (w : World) (A : Option Addr) (vs : List Value) : Prop :=
  0 < vs.length → ∃ b off, A = some ⟨b, off, none⟩ ∧ S b ∧ b < w.heap.size ∧ ∀ j u, vs[j]? = some u → w.cell? ⟨b, off + j, none⟩ = some u
section
variable {S S' T : Nat → Prop} {w w' : World} {A : Option Addr} {vs : List Value} {l : List Int}
theorem Seq.nil (S : Nat → Prop) (w : World) (A : Option Addr) : Seq S w A [] := fun h => absurd h (by simp)
theorem Seq.mono (h : Seq S w A vs) (hS : ∀ i, S i → S' i) : Seq S' w A vs := fun hp => by
  obtain ⟨b, off, e, hs, hb, hc⟩ := h hp
  exact ⟨b, off, e, hS b hs, hb, hc⟩
theorem Seq.turn (h : Seq S w A vs) (hb : Turn T w w') (hT : ∀ i, S i → ¬ T i) : Seq S w' A vs := fun hp => by
  obtain ⟨b, off, e, hs, hlt, hc⟩ := h hp
  exact ⟨b, off, e, hs, Nat.lt_of_lt_of_le hlt hb.size, fun j u hu => hb.cell (p := ⟨b, off + j, none⟩) (hT b hs) (hc j u hu)⟩
theorem Seq.next (h : Seq S w A vs) (hb : Below w.heap.size w w') : Seq S w' A vs := h.turn (Turn.of_below (fun _ => False) hb) (fun _ _ hf => hf)
theorem Seq.one (h : Seq S w A vs) {j : Nat} {u : Value} (hu : vs[j]? = some u) : ∃ b off, A = some ⟨b, off, none⟩ ∧ S b ∧ b < w.heap.size ∧ w.cell? ⟨b, off + j, none⟩ = some u := by
  obtain ⟨b, off, e, hs, hb, hc⟩ := h (by have := (List.getElem?_eq_some_iff.1 hu).1; omega)
  exact ⟨b, off, e, hs, hb, hc j u hu⟩
/-- Numbers. -/
def SInts (S : Nat → Prop) (w : World) (A : Option Addr) (l : List Int) : Prop := Seq S w A (l.map (Value.int .i64))
theorem SInts.ints (h : SInts S w A l) : Ints w A l := fun hp => by
  obtain ⟨b, off, e, _, hb, hc⟩ := h (by simpa using hp)
  exact ⟨b, off, e, hb, fun i hi => hc i _ (by simp [List.getD, hi])⟩
theorem Ints.sints (h : Ints w A l) (hS : ∀ b off, A = some ⟨b, off, none⟩ → b < w.heap.size → S b) : SInts S w A l := fun hp => by
  obtain ⟨b, off, e, hb, hc⟩ := h (by simpa using hp)
  refine ⟨b, off, e, hS b off e hb, hb, fun j u hu => ?_⟩
  have hj : j < l.length := by have := (List.getElem?_eq_some_iff.1 hu).1; simpa using this
  rw [hc j hj]
  rw [List.getElem?_map, List.getElem?_eq_getElem hj] at hu
  simpa [List.getD, hj] using hu
end
theorem own_seq {w : World} {base : Nat} {e : TypeId} {size : Nat} {v : Value} {n : Nat} {xs : List Value} (h : w.ownsRow base e size v n xs) (hs : 0 < size) : ∃ A c, v = .slice A n c ∧ n ≤ c ∧ c ≤ maxLen ∧ Seq (base ≤ ·) w A xs := by
  have hc := h.cells (g := v.ownBlock.getD 0)
  have hl := h.1
  rcases h.2 with ⟨rfl, h0⟩ | ⟨g, cap, cur, rfl, hb, hg, hn, hm, _⟩
  · refine ⟨none, 0, by rw [h0], by omega, by unfold maxLen; omega, fun hp => absurd hp (by rw [hl, h0]; simp)⟩
  · refine ⟨some ⟨g, 0, none⟩, cap, rfl, hn, hm, fun _ => ⟨g, 0, rfl, hb, ?_, fun i u hu => ?_⟩⟩
    · rcases Nat.lt_or_ge g w.heap.size with hlt | hge
      · exact hlt
      · rw [Array.getElem?_eq_none hge] at hg; cases hg
    · have := hc rfl i u hu
      have e : ((⟨g, 0, none⟩ : Addr).add i) = ⟨g, 0 + i, none⟩ := Go.WideShapes.add_plain ..
      rw [← e]; exact this
theorem own_keep {w w' : World} {base : Nat} {e : TypeId} {size : Nat} {v : Value} {n : Nat} {xs : List Value} (h : w.ownsRow base e size v n xs) (hk : ∀ g, v.ownBlock = some g → w'.heap[g]? = w.heap[g]?) : w'.ownsRow base e size v n xs := by
  refine ⟨h.1, ?_⟩
  rcases h.2 with hn | ⟨g, cap, cur, rfl, hb, hh, r⟩
  · exact .inl hn
  · exact .inr ⟨g, cap, cur, rfl, hb, (hk g rfl).trans hh, r⟩
theorem own_turn {w w' : World} {base : Nat} {e : TypeId} {size : Nat} {v : Value} {n : Nat} {xs : List Value} {T : Nat → Prop} (h : w.ownsRow base e size v n xs) (hb : Turn T w w') (hT : ∀ g, v.ownBlock = some g → ¬ T g) : w'.ownsRow base e size v n xs :=
  own_keep h fun g hg => hb.at_ (own_lt h g hg) (hT g hg)
theorem own_base {w : World} {base : Nat} {e : TypeId} {size : Nat} {v : Value} {n : Nat} {xs : List Value} (h : w.ownsRow base e size v n xs) : ∀ k, v.ownBlock = some k → base ≤ k := by
  intro k hk
  rcases h.2 with ⟨rfl, _⟩ | ⟨g, cap, cur, rfl, hb, _⟩
  · simp [Value.ownBlock] at hk
  · simp [Value.ownBlock] at hk; omega

/-- append, of values that lie anywhere, to a row of the call's own. -/
theorem run_appS {t ty e : TypeId} {z : Value} {size bytes : Nat} (hinf : (Tryd.prog.info? e).map (fun i => (i.zero, i.size, i.bytes)) = some (some z, size, bytes)) (hzs : z.cells.size = size) (hsz : 0 < size) (hby : bytes ≤ 64) (ht : Tryd.prog.underlying t = some (.slice e)) {w : World} {base : Nat} {v : Value} {n : Nat} {xs : List Value} (hown : w.ownsRow base e size v n xs)
    {S : Nat → Prop} {A : Option Addr} {m c : Nat} {news : List Value} (hm : news.length = m * size) (hi : Seq S w A news) (h1 : ∀ u ∈ news, u.oneCell' = true) (hlen : n + m ≤ 100000) (hbase : base ≤ w.heap.size) :
    ∃ v' w', (Builtin.append_ #[t, t] ty #[v, .slice A m c]).run Tryd.prog w = .ok v' w' ∧ w'.ownsRow base e size v' (n + m) (xs ++ news) ∧ w.grownBy w' v.ownBlock ∧ (v'.ownBlock = v.ownBlock ∨ v'.ownBlock = some w.heap.size) := by
  obtain ⟨i0, hi0, hz0, hz1, hz2⟩ := info_parts hinf
  rcases Nat.eq_zero_or_pos m with h0 | h0
  · subst h0
    have hn : news = [] := List.eq_nil_of_length_eq_zero (by simpa using hm)
    subst hn
    rcases A with _ | ad
    · exact ⟨v, w, run_app_nil ht hi0 hown c, by simpa using hown, World.grownBy.refl w _, .inl rfl⟩
    · obtain ⟨v', w', hr, k1, k2, _, k4⟩ := run_append_own_at (P := Tryd.prog) w base t ty e i0 z size bytes ht hi0 hz0 hz1 hz2 hzs hsz v n xs hown ad 0 c [] (by simp) (fun j u hj => by simp at hj) (fun u hu => by simp at hu) (by unfold maxLen; omega) (Nat.le_trans (Nat.mul_le_mul hlen hby) (by omega)) hbase
      exact ⟨v', w', hr, k1, k2, k4⟩
  · obtain ⟨b, off, rfl, _, hb, hc⟩ := hi (by rw [hm]; exact Nat.mul_pos h0 hsz)
    obtain ⟨v', w', hr, k1, k2, _, k4⟩ := run_append_own_at (P := Tryd.prog) w base t ty e i0 z size bytes ht hi0 hz0 hz1 hz2 hzs hsz v n xs hown ⟨b, off, none⟩ m c news hm (fun j u hj => by rw [Go.WideShapes.add_plain]; exact hc j u hj) h1 (by unfold maxLen; omega) (Nat.le_trans (Nat.mul_le_mul hlen hby) (by omega)) hbase
    exact ⟨v', w', hr, k1, k2, k4⟩
theorem wp_appS {t e : TypeId} {z : Value} {size bytes : Nat} (hinf : (Tryd.prog.info? e).map (fun i => (i.zero, i.size, i.bytes)) = some (some z, size, bytes)) (hzs : z.cells.size = size) (hsz : 0 < size) (hby : bytes ≤ 64) (ht : Tryd.prog.underlying t = some (.slice e)) {w : World} {o : Oper} {a : Act} {K : Act → World → Prop} {Q : Exit → Act → World → Prop} (s x : Operand)
    (ho : o.op = .call { callee := .builtin .append, args := #[s, x], argTypes := #[t, t] })
    (base : Nat) (v : Value) (n : Nat) (xs : List Value) (hs : a.eval s = v) (hown : w.ownsRow base e size v n xs) (S : Nat → Prop) (A : Option Addr) (m c : Nat) (news : List Value) (hx : a.eval x = .slice A m c) (hm : news.length = m * size) (hi : Seq S w A news)
    (h1 : ∀ u ∈ news, u.oneCell' = true) (hlen : n + m ≤ 100000) (hbase : base ≤ w.heap.size)
    (h : ∀ v' w', w'.ownsRow base e size v' (n + m) (xs ++ news) → w.grownBy w' v.ownBlock → (v'.ownBlock = v.ownBlock ∨ v'.ownBlock = some w.heap.size) → K (a.put o.dst v') w') : o.wp Tryd.prog a w K Q := by
  obtain ⟨v', w', hrun, h2, h3, h4⟩ := run_appS (ty := o.type) (c := c) hinf hzs hsz hby ht hown hm hi h1 hlen hbase
  unfold Oper.wp execOp
  simp only [ho, resolve, invoke, builtin, Sem.run_bind, Sem.run_pure, Result.andThen_ok, List.map_toArray, List.map_cons, List.map_nil, hs, hx, hrun]
  exact h v' w' h2 h3 h4
theorem wpList_appS {t e : TypeId} {z : Value} {size bytes : Nat} (hinf : (Tryd.prog.info? e).map (fun i => (i.zero, i.size, i.bytes)) = some (some z, size, bytes)) (hzs : z.cells.size = size) (hsz : 0 < size) (hby : bytes ≤ 64) (ht : Tryd.prog.underlying t = some (.slice e)) {w : World} {ops : Array Oper} {rest : List Oper} {o : Oper} {a : Act} {Q : Exit → Act → World → Prop} (hgd : o.guard = none) (s x : Operand)
    (ho : o.op = .call { callee := .builtin .append, args := #[s, x], argTypes := #[t, t] })
    (base : Nat) (v : Value) (n : Nat) (xs : List Value) (hs : a.eval s = v) (hown : w.ownsRow base e size v n xs) (S : Nat → Prop) (A : Option Addr) (m c : Nat) (news : List Value) (hx : a.eval x = .slice A m c) (hm : news.length = m * size) (hi : Seq S w A news)
    (h1 : ∀ u ∈ news, u.oneCell' = true) (hlen : n + m ≤ 100000) (hbase : base ≤ w.heap.size)
    (h : ∀ v' w', w'.ownsRow base e size v' (n + m) (xs ++ news) → w.grownBy w' v.ownBlock → (v'.ownBlock = v.ownBlock ∨ v'.ownBlock = some w.heap.size) → wpList Tryd.prog ops Q rest (a.put o.dst v') w') : wpList Tryd.prog ops Q (o :: rest) a w :=
  wpList_plain hgd fun _ hK => wp_appS hinf hzs hsz hby ht s x ho base v n xs hs hown S A m c news hx hm hi h1 hlen hbase fun v' w' h2 h3 h4 => hK _ _ (h v' w' h2 h3 h4)

/-- Rows of numbers behind a slice, all in blocks of S. -/
def RwsIn (S : Nat → Prop) (w : World) (V : Value) (rs : List (List Int)) : Prop :=
  ∃ A c vs, V = .slice A rs.length c ∧ rs.length ≤ c ∧ c ≤ maxLen ∧ vs.length = rs.length ∧ Seq S w A vs ∧ ∀ (t : Nat) (r : List Int), rs[t]? = some r → ∃ (B : Option Addr) (d : Nat), vs[t]? = some (Value.slice B r.length d) ∧ r.length ≤ d ∧ d ≤ maxLen ∧ SInts S w B r
section
variable {S S' T : Nat → Prop} {w w' : World} {V : Value} {rs : List (List Int)}
theorem RwsIn.none (S : Nat → Prop) (w : World) : RwsIn S w (.slice none 0 0) [] := ⟨.none, 0, [], rfl, by simp, by simp [maxLen], rfl, Seq.nil _ _ _, fun t r h => by simp at h⟩
theorem RwsIn.mono (h : RwsIn S w V rs) (hS : ∀ i, S i → S' i) : RwsIn S' w V rs := by
  obtain ⟨A, c, vs, e, h1, h2, h3, h4, h5⟩ := h
  refine ⟨A, c, vs, e, h1, h2, h3, h4.mono hS, fun t r hr => ?_⟩
  obtain ⟨B, d, k1, k2, k3, k4⟩ := h5 t r hr
  exact ⟨B, d, k1, k2, k3, Seq.mono k4 hS⟩
theorem RwsIn.turn (h : RwsIn S w V rs) (hb : Turn T w w') (hT : ∀ i, S i → ¬ T i) : RwsIn S w' V rs := by
  obtain ⟨A, c, vs, e, h1, h2, h3, h4, h5⟩ := h
  refine ⟨A, c, vs, e, h1, h2, h3, h4.turn hb hT, fun t r hr => ?_⟩
  obtain ⟨B, d, k1, k2, k3, k4⟩ := h5 t r hr
  exact ⟨B, d, k1, k2, k3, Seq.turn k4 hb hT⟩
theorem RwsIn.next (h : RwsIn S w V rs) (hb : Below w.heap.size w w') : RwsIn S w' V rs := h.turn (Turn.of_below (fun _ => False) hb) (fun _ _ hf => hf)
end
/-- Rows that the call makes by append: the row of rows is its own, and each row too. -/
def RowsOwn (base : Nat) (w : World) (V : Value) (rs : List (List Int)) : Prop :=
  ∃ vs, w.ownsRow base 43 1 V rs.length vs ∧ ∀ (t : Nat) (r : List Int), rs[t]? = some r → ∃ u, vs[t]? = some u ∧ MineT 2 w base u r
theorem RowsOwn.nil (base : Nat) (w : World) : RowsOwn base w (.slice none 0 0) [] := ⟨[], World.ownsRow_nil _ _ _ _, fun t r h => by simp at h⟩
theorem mine_row {w : World} {base : Nat} {u : Value} {r : List Int} (h : MineT 2 w base u r) : ∃ B d, u = .slice B r.length d ∧ r.length ≤ d ∧ d ≤ maxLen ∧ SInts (base ≤ ·) w B r := by
  obtain ⟨B, d, e, h1, h2, h3⟩ := own_seq h (by decide)
  exact ⟨B, d, e, h1, h2, h3⟩
theorem RowsOwn.rows {base : Nat} {w : World} {V : Value} {rs : List (List Int)} (h : RowsOwn base w V rs) : RwsIn (base ≤ ·) w V rs := by
  obtain ⟨vs, k1, k2⟩ := h
  obtain ⟨A, c, rfl, hn, hm, hs⟩ := own_seq k1 (by decide)
  refine ⟨A, c, vs, rfl, hn, hm, by simpa using k1.1, hs, fun t r hr => ?_⟩
  obtain ⟨u, j1, j2⟩ := k2 t r hr
  obtain ⟨B, d, rfl, j3, j4, j5⟩ := mine_row j2
  exact ⟨B, d, j1, j3, j4, j5⟩
theorem RowsOwn.next {base : Nat} {w w' : World} {V : Value} {rs : List (List Int)} (h : RowsOwn base w V rs) (hb : Below w.heap.size w w') : RowsOwn base w' V rs := by
  obtain ⟨vs, k1, k2⟩ := h
  refine ⟨vs, own_below k1 hb, fun t r hr => ?_⟩
  obtain ⟨u, j1, j2⟩ := k2 t r hr
  exact ⟨u, j1, own_below j2 hb⟩
/-- One row more. -/
theorem RowsOwn.app {base : Nat} {w w' : World} {V V' u : Value} {rs : List (List Int)} {y : List Int} {vs : List Value} (h1 : w.ownsRow base 43 1 V rs.length vs) (h2 : ∀ (t : Nat) (r : List Int), rs[t]? = some r → ∃ u, vs[t]? = some u ∧ MineT 2 w base u r) (hy : MineT 2 w base u y) (o : Obj)
    (k1 : w'.ownsRow base 43 1 V' (rs.length + 1) (vs ++ [u])) (k2 : (w.alloc o).grownBy w' V.ownBlock) : RowsOwn base w' V' (rs ++ [y]) := by
  have keep : ∀ {x : Value} {l : List Int}, MineT 2 w base x l → MineT 2 w' base x l := fun {x l} hx =>
    World.ownsRow.kept (World.ownsRow.alloc hx _) k2 (own_apart hx h1 (by decide))
  refine ⟨vs ++ [u], by simpa using k1, fun t r hr => ?_⟩
  have hvl : vs.length = rs.length := by simpa using h1.1
  rcases Nat.lt_or_ge t rs.length with hlt | hge
  · rw [List.getElem?_append_left hlt] at hr
    obtain ⟨x, j1, j2⟩ := h2 t r hr
    exact ⟨x, by rw [List.getElem?_append_left (by omega)]; exact j1, keep j2⟩
  · rw [List.getElem?_append_right hge] at hr
    have ht : t - rs.length = 0 := by
      have := (List.getElem?_eq_some_iff.1 hr).1
      simp at this; omega
    rw [ht] at hr
    simp at hr
    subst hr
    exact ⟨u, by rw [List.getElem?_append_right (by omega), hvl, ht]; rfl, keep hy⟩
theorem RowsOwn.below {base : Nat} {a w w' : World} {V : Value} {n : Nat} {vs : List Value} {o : Obj} (h : w.ownsRow base 43 1 V n vs) (hb : Below base a w) (hle : base ≤ w.heap.size) (k2 : (w.alloc o).grownBy w' V.ownBlock) : Below base a w' :=
  (hb.alloc hle _).grown k2 (by simp; omega) (own_base h)

/-- copy, of a list of values into a place of a row that is known whole. -/
theorem run_copyB {t ty e : TypeId} (hinf : (Tryd.prog.info? e).map (·.size) = some 1) (ht : Tryd.prog.underlying t = some (.slice e)) {S : Nat → Prop} {w : World} {g off : Nat} {cur news : List Value} {dp A : Option Addr} {s m c c' : Nat} (hms : m = s) (hg : Bk e w g cur) (hdp : 0 < s → dp = some ⟨g, off, none⟩) (hy : Seq S w A news) (hn : news.length = s) (h1 : ∀ u ∈ news, u.oneCell' = true) (hf : off + s ≤ cur.length) :
    ∃ w', (Builtin.copy_ #[t, t] ty #[.slice dp s c, .slice A m c']).run Tryd.prog w = .ok (goInt s) w' ∧ Bk e w' g (splice cur off news) ∧ w.grownBy w' (some g) := by
  subst hms
  subst hn
  rcases Nat.eq_zero_or_pos news.length with h0 | h0
  · obtain rfl : news = [] := List.eq_nil_of_length_eq_zero h0
    refine ⟨w, ?_, by simpa [splice] using hg, World.grownBy.refl w _⟩
    exact run_copy_none (P := Tryd.prog) w t t ty e dp A 0 c 0 c' ht hinf (by simp)
  · obtain ⟨b, o, rfl, _, hb, hcs⟩ := hy h0
    have hd := hdp (by omega)
    subst hd
    have hrun := run_copy_row (P := Tryd.prog) w t t ty e g off news.length c ⟨b, o, none⟩ news.length c' cur.toArray e news ht hinf hg (by simp)
      (fun j v hj => by rw [Go.WideShapes.add_plain]; exact hcs j v hj) (by simpa using hf) h1
    refine ⟨_, hrun, ?_, ?_⟩
    · unfold Bk
      rw [setRow_heap w g _ _ e _ hg]
      simp [splice]
    · exact ⟨rfl, rfl, rfl, by simp [World.setRow], fun i hi hne => setRow_other w g i _ (fun e => hne (by rw [e]))⟩
theorem wpList_copyB {t e : TypeId} (hinf : (Tryd.prog.info? e).map (·.size) = some 1) (ht : Tryd.prog.underlying t = some (.slice e)) {S : Nat → Prop} {w : World} {ops : Array Oper} {rest : List Oper} {o : Oper} {a : Act} {Q : Exit → Act → World → Prop} (hgd : o.guard = none) (d x : Operand)
    (ho : o.op = .call { callee := .builtin .copy, args := #[d, x], argTypes := #[t, t] })
    (g off : Nat) (cur news : List Value) (dp A : Option Addr) (s m c c' : Nat) (hd : a.eval d = .slice dp s c) (hx : a.eval x = .slice A m c') (hms : m = s) (hg : Bk e w g cur) (hdp : 0 < s → dp = some ⟨g, off, none⟩) (hy : Seq S w A news) (hn : news.length = s) (h1 : ∀ u ∈ news, u.oneCell' = true) (hf : off + s ≤ cur.length)
    (h : ∀ w', Bk e w' g (splice cur off news) → w.grownBy w' (some g) → wpList Tryd.prog ops Q rest (a.put o.dst (goInt s)) w') : wpList Tryd.prog ops Q (o :: rest) a w := by
  refine wpList_plain hgd fun K hK => ?_
  obtain ⟨w', hrun, h1, h2⟩ := run_copyB (ty := o.type) (c := c) (c' := c') hinf ht hms hg hdp hy hn h1 hf
  unfold Oper.wp execOp
  simp only [ho, resolve, invoke, builtin, Sem.run_bind, Sem.run_pure, Result.andThen_ok, List.map_toArray, List.map_cons, List.map_nil, hd, hx, hrun]
  exact hK _ _ (h w' h1 h2)
theorem sizeL : (Tryd.prog.info? 2).map (·.size) = some 1 := by kernel_rfl
theorem infoL : (Tryd.prog.info? 2).map (fun i => (i.zero, i.size, i.bytes)) = some (some (.int .i64 0), 1, 8) := by kernel_rfl
theorem infoR : (Tryd.prog.info? 43).map (fun i => (i.zero, i.size, i.bytes)) = some (some (.slice none 0 0), 1, 24) := by kernel_rfl
theorem seq1 (t : TypeId) (w : World) (u : Value) : Seq (fun _ => True) (w.alloc (.cells #[u] t)) (some ⟨w.heap.size, 0, none⟩) [u] := fun _ => ⟨w.heap.size, 0, rfl, trivial, by simp, fun j x hx => by
  rw [Nat.zero_add]; exact (Bk.c (Bk.new t w [u]) j).trans hx⟩
theorem one_sl (A : Option Addr) (n c : Nat) : ∀ u ∈ [Value.slice A n c], u.oneCell' = true := by intro u hu; simp at hu; subst hu; rfl
theorem Bk.grown {t : TypeId} {w w' : World} {g : Nat} {xs : List Value} {row : Option Nat} (h : Bk t w g xs) (hb : w.grownBy w' row) (hg : some g ≠ row) : Bk t w' g xs := (hb.block g h.lt hg).trans h
theorem own_bk_ne {base : Nat} {e t : TypeId} {size n : Nat} {w : World} {v : Value} {xs cs : List Value} {g : Nat} (h : w.ownsRow base e size v n xs) (hg : Bk t w g cs) (hne : e ≠ t) : some g ≠ v.ownBlock := by
  rcases h.2 with ⟨rfl, _⟩ | ⟨g', cap, cur, rfl, _, hh, _⟩
  · simp [Value.ownBlock]
  · intro he
    have e1 : g = g' := by simpa [Value.ownBlock] using he
    subst e1
    unfold Bk at hg
    rw [hh] at hg
    injection hg with hg
    injection hg with _ ht
    exact hne ht
/-- A new row without values. -/
theorem own_empty (w : World) (e : TypeId) (size base g : Nat) (hg : w.heap.size = g) (hb : base ≤ g) : (w.alloc (.cells #[] e)).ownsRow base e size (.slice (some ⟨g, 0, none⟩) 0 0) 0 [] := by
  subst hg
  exact ⟨by simp, .inr ⟨w.heap.size, 0, #[], rfl, hb, heap_alloc_new w _, Nat.le_refl _, by unfold maxLen; omega, by simp, by simp⟩⟩
/-- Numbers as values. -/
def vals (l : List Int) : List Value := l.map (Value.int .i64)
theorem vals_length (l : List Int) : (vals l).length = l.length := by simp [vals]
theorem vals_one (l : List Int) : ∀ u ∈ vals l, u.oneCell' = true := fun u hu => by obtain ⟨y, _, rfl⟩ := List.mem_map.1 hu; rfl
end Go.Proofs.YtjmpilmmgfjpmaaDoor.St
