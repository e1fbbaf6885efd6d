/-
  append of values of up to 200 bytes to a row of the call's own. Conditions: as told. Layer 22, steps: steps as they lie in memory, and the maker. No condition. Layer 22, steps: (*maker).add. Conditions: as told. Layer 22, steps: what makes one step. Conditions: as told. Layer 22, steps: num, prim, op without a swap, near, dot, outer. Conditions: as told.
-/
import Derived.Test.YtjmpilmmgfjpmaaDoorStBase
import Derived.Test.YtjmpilmmgfjpmaaDoorPkQa
import Derived.Laws.EntriesVeiled
import Derived.Deep.RegionLaw
import Derived.Deep.RegionHeld3
-- StBig
set_option maxRecDepth 100000
namespace Go.Proofs.YtjmpilmmgfjpmaaDoor.Big
open Go.Proofs.YtjmpilmmgfjpmaaDoor.Sh Go.Proofs.YtjmpilmmgfjpmaaDoor.St
open Go.RowKit
set_option linter.unusedVariables false

/-- append, of values that lie anywhere, to a row of the call's own. -/
theorem run_appW {t ty e : TypeId} {z : Value} {size bytes : Nat} (hinf : (Tryd.prog.info? e).map (fun i => (i.zero, i.size, i.bytes)) = some (some z, size, bytes)) (hzs : z.cells.size = size) (hsz : 0 < size) (hby : bytes ≤ 200) (ht : Tryd.prog.underlying t = some (.slice e)) {w : World} {base : Nat} {v : Value} {n : Nat} {xs : List Value} (hown : w.ownsRow base e size v n xs)
    {S : Nat → Prop} {A : Option Addr} {m c : Nat} {news : List Value} (hm : news.length = m * size) (hi : Seq S w A news) (h1 : ∀ u ∈ news, u.oneCell' = true) (hlen : n + m ≤ 100000) (hbase : base ≤ w.heap.size) :
    ∃ v' w', (Builtin.append_ #[t, t] ty #[v, .slice A m c]).run Tryd.prog w = .ok v' w' ∧ w'.ownsRow base e size v' (n + m) (xs ++ news) ∧ w.grownBy w' v.ownBlock ∧ (v'.ownBlock = v.ownBlock ∨ v'.ownBlock = some w.heap.size) := by
  obtain ⟨i0, hi0, hz0, hz1, hz2⟩ := info_parts hinf
  rcases Nat.eq_zero_or_pos m with h0 | h0
  · subst h0
    have hn : news = [] := List.eq_nil_of_length_eq_zero (by simpa using hm)
    subst hn
    rcases A with _ | ad
    · exact ⟨v, w, run_app_nil ht hi0 hown c, by simpa using hown, World.grownBy.refl w _, .inl rfl⟩
    · obtain ⟨v', w', hr, k1, k2, _, k4⟩ := run_append_own_at (P := Tryd.prog) w base t ty e i0 z size bytes ht hi0 hz0 hz1 hz2 hzs hsz v n xs hown ad 0 c [] (by simp) (fun j u hj => by simp at hj) (fun u hu => by simp at hu) (by unfold maxLen; omega) (Nat.le_trans (Nat.mul_le_mul hlen hby) (by omega)) hbase
      exact ⟨v', w', hr, k1, k2, k4⟩
  · obtain ⟨b, off, rfl, _, hb, hc⟩ := hi (by rw [hm]; exact Nat.mul_pos h0 hsz)
    obtain ⟨v', w', hr, k1, k2, _, k4⟩ := run_append_own_at (P := Tryd.prog) w base t ty e i0 z size bytes ht hi0 hz0 hz1 hz2 hzs hsz v n xs hown ⟨b, off, none⟩ m c news hm (fun j u hj => by rw [Go.WideShapes.add_plain]; exact hc j u hj) h1 (by unfold maxLen; omega) (Nat.le_trans (Nat.mul_le_mul hlen hby) (by omega)) hbase
    exact ⟨v', w', hr, k1, k2, k4⟩
theorem wp_appW {t e : TypeId} {z : Value} {size bytes : Nat} (hinf : (Tryd.prog.info? e).map (fun i => (i.zero, i.size, i.bytes)) = some (some z, size, bytes)) (hzs : z.cells.size = size) (hsz : 0 < size) (hby : bytes ≤ 200) (ht : Tryd.prog.underlying t = some (.slice e)) {w : World} {o : Oper} {a : Act} {K : Act → World → Prop} {Q : Exit → Act → World → Prop} (s x : Operand)
    (ho : o.op = .call { callee := .builtin .append, args := #[s, x], argTypes := #[t, t] })
    (base : Nat) (v : Value) (n : Nat) (xs : List Value) (hs : a.eval s = v) (hown : w.ownsRow base e size v n xs) (S : Nat → Prop) (A : Option Addr) (m c : Nat) (news : List Value) (hx : a.eval x = .slice A m c) (hm : news.length = m * size) (hi : Seq S w A news)
    (h1 : ∀ u ∈ news, u.oneCell' = true) (hlen : n + m ≤ 100000) (hbase : base ≤ w.heap.size)
    (h : ∀ v' w', w'.ownsRow base e size v' (n + m) (xs ++ news) → w.grownBy w' v.ownBlock → (v'.ownBlock = v.ownBlock ∨ v'.ownBlock = some w.heap.size) → K (a.put o.dst v') w') : o.wp Tryd.prog a w K Q := by
  obtain ⟨v', w', hrun, h2, h3, h4⟩ := run_appW (ty := o.type) (c := c) hinf hzs hsz hby ht hown hm hi h1 hlen hbase
  unfold Oper.wp execOp
  simp only [ho, resolve, invoke, builtin, Sem.run_bind, Sem.run_pure, Result.andThen_ok, List.map_toArray, List.map_cons, List.map_nil, hs, hx, hrun]
  exact h v' w' h2 h3 h4
theorem wpList_appW {t e : TypeId} {z : Value} {size bytes : Nat} (hinf : (Tryd.prog.info? e).map (fun i => (i.zero, i.size, i.bytes)) = some (some z, size, bytes)) (hzs : z.cells.size = size) (hsz : 0 < size) (hby : bytes ≤ 200) (ht : Tryd.prog.underlying t = some (.slice e)) {w : World} {ops : Array Oper} {rest : List Oper} {o : Oper} {a : Act} {Q : Exit → Act → World → Prop} (hgd : o.guard = none) (s x : Operand)
    (ho : o.op = .call { callee := .builtin .append, args := #[s, x], argTypes := #[t, t] })
    (base : Nat) (v : Value) (n : Nat) (xs : List Value) (hs : a.eval s = v) (hown : w.ownsRow base e size v n xs) (S : Nat → Prop) (A : Option Addr) (m c : Nat) (news : List Value) (hx : a.eval x = .slice A m c) (hm : news.length = m * size) (hi : Seq S w A news)
    (h1 : ∀ u ∈ news, u.oneCell' = true) (hlen : n + m ≤ 100000) (hbase : base ≤ w.heap.size)
    (h : ∀ v' w', w'.ownsRow base e size v' (n + m) (xs ++ news) → w.grownBy w' v.ownBlock → (v'.ownBlock = v.ownBlock ∨ v'.ownBlock = some w.heap.size) → wpList Tryd.prog ops Q rest (a.put o.dst v') w') : wpList Tryd.prog ops Q (o :: rest) a w :=
  wpList_plain hgd fun _ hK => wp_appW hinf hzs hsz hby ht s x ho base v n xs hs hown S A m c news hx hm hi h1 hlen hbase fun v' w' h2 h3 h4 => hK _ _ (h v' w' h2 h3 h4)

theorem step_appW {t e : TypeId} {z : Value} {size bytes : Nat} (hinf : (Tryd.prog.info? e).map (fun i => (i.zero, i.size, i.bytes)) = some (some z, size, bytes)) (hzs : z.cells.size = size) (hsz : 0 < size) (hby : bytes ≤ 200) (ht : Tryd.prog.underlying t = some (.slice e)) {w : World} {ops : Array Oper} {o : Oper} {a : Act} {K : Act → World → Prop} {Q : Exit → Act → World → Prop} {E : Prop} (hgd : o.guard = none) (s x : Operand)
    (ho : o.op = .call { callee := .builtin .append, args := #[s, x], argTypes := #[t, t] })
    (base : Nat) (v : Value) (n : Nat) (xs : List Value) (hs : a.eval s = v) (hown : w.ownsRow base e size v n xs) (S : Nat → Prop) (A : Option Addr) (m c : Nat) (news : List Value) (hx : a.eval x = .slice A m c) (hm : news.length = m * size) (hi : Seq S w A news)
    (h1 : ∀ u ∈ news, u.oneCell' = true) (hlen : n + m ≤ 100000) (hbase : base ≤ w.heap.size)
    (h : ∀ v' w', w'.ownsRow base e size v' (n + m) (xs ++ news) → w.grownBy w' v.ownBlock → (v'.ownBlock = v.ownBlock ∨ v'.ownBlock = some w.heap.size) → K (a.put o.dst v') w') :
    if Region.wanted o (yielded ops a.tmps) = true then Oper.wp Tryd.prog o a w K Q else E := by
  have hw : Region.wanted o (yielded ops a.tmps) = true := by simp [Region.wanted, hgd]
  rw [if_pos hw]
  exact wp_appW hinf hzs hsz hby ht s x ho base v n xs hs hown S A m c news hx hm hi h1 hlen hbase h
theorem seq_new (t : TypeId) (w : World) (xs : List Value) : Seq (fun _ => True) (w.alloc (.cells xs.toArray t)) (some ⟨w.heap.size, 0, none⟩) xs := fun _ => ⟨w.heap.size, 0, rfl, trivial, by simp, fun j x hx => by
  rw [Nat.zero_add]; exact (Bk.c (Bk.new t w xs) j).trans hx⟩
end Go.Proofs.YtjmpilmmgfjpmaaDoor.Big
-- StpObj
set_option maxRecDepth 100000
namespace Go.Proofs.YtjmpilmmgfjpmaaDoor.Stp
open Go.Proofs.YtjmpilmmgfjpmaaDoor.Sh Go.Proofs.YtjmpilmmgfjpmaaDoor.St Go.Proofs.YtjmpilmmgfjpmaaDoor.Tr Go.Proofs.YtjmpilmmgfjpmaaDoor.Big
open Go.RowKit
set_option linter.unusedVariables false
set_option linter.unusedSimpArgs false

/-- A step. -/
structure Sx where
  kind : Int
  fc : Int
  fs : Bool
  gc : Int
  gs : Bool
  code : Int
  a : Int
  b : Int
  nums : List Int
  pos : Int
/-- A step with the slice that holds its numbers. -/
abbrev Qs : Type := Sx × (Option Addr × Nat)
def vq (q : Qs) : Value := .slice q.2.1 q.1.nums.length q.2.2
def cq (q : Qs) : List Value := [.int .i64 q.1.kind, .int .i64 q.1.fc, .bool q.1.fs, .int .i64 q.1.gc, .bool q.1.gs, .int .i64 q.1.code, .int .i64 q.1.a, .int .i64 q.1.b, vq q, .int .i64 q.1.pos]
def stV (q : Qs) : Value := .agg #[.int .i64 q.1.kind, .int .i64 q.1.fc, .bool q.1.fs, .int .i64 q.1.gc, .bool q.1.gs, .int .i64 q.1.code, .int .i64 q.1.a, .int .i64 q.1.b, .slice q.2.1 q.1.nums.length q.2.2, .int .i64 q.1.pos]
def flat10 (qs : List Qs) : List Value := qs.flatMap cq
theorem flat10_app (a b : List Qs) : flat10 (a ++ b) = flat10 a ++ flat10 b := List.flatMap_append
theorem cq_len (q : Qs) : (cq q).length = 10 := rfl
theorem flat10_len : ∀ qs : List Qs, (flat10 qs).length = qs.length * 10
  | [] => rfl
  | q :: qs => by
    show (cq q ++ flat10 qs).length = _
    rw [List.length_append, cq_len, flat10_len qs, List.length_cons]; omega
theorem flat10_at : ∀ (qs : List Qs) (i : Nat) (q : Qs), qs[i]? = some q → ∀ j, j < 10 → (flat10 qs)[i * 10 + j]? = (cq q)[j]?
  | [], i, q, h, j, hj => by simp at h
  | p :: qs, 0, q, h, j, hj => by
    obtain rfl : p = q := by simpa using h
    show (cq p ++ flat10 qs)[0 * 10 + j]? = _
    rw [List.getElem?_append_left (by rw [cq_len]; omega)]
    congr 1; omega
  | p :: qs, i + 1, q, h, j, hj => by
    have ih := flat10_at qs i q (by simpa using h) j hj
    show (cq p ++ flat10 qs)[(i + 1) * 10 + j]? = _
    rw [List.getElem?_append_right (by rw [cq_len]; omega), cq_len, show (i + 1) * 10 + j - 10 = i * 10 + j by omega]
    exact ih
theorem cq_ones (q : Qs) : ∀ u ∈ cq q, u.oneCell' = true := by
  intro u hu
  simp [cq] at hu
  rcases hu with rfl | rfl | rfl | rfl | rfl | rfl | rfl | rfl | rfl | rfl <;> rfl
theorem infoT : (Tryd.prog.info? 49).map (fun i => (i.zero, i.size, i.bytes)) = some (some (.agg #[.int .i64 0, .int .i64 0, .bool false, .int .i64 0, .bool false, .int .i64 0, .int .i64 0, .int .i64 0, .slice none 0 0, .int .i64 0]), 10, 96) := by kernel_rfl
/-- The world beside the maker: what is read lies in blocks of X. -/
structure Cx (w0 : World) (X : Nat → Prop) (w : World) : Prop where
  bel : Below w0.heap.size w0 w
  low : ∀ b, b < w0.heap.size → X b
  bd : ∀ b, X b → b < w.heap.size
/-- Only blocks that are none of X have turned. -/
abbrev Out (X : Nat → Prop) (w w' : World) : Prop := Turn (fun b => ¬ X b) w w'
def More (X : Nat → Prop) (b : Nat) : Nat → Prop := fun c => X c ∨ c = b
/-- The maker at g, with its steps and its fault; it has no block of X. -/
def Mk (X : Nat → Prop) (g : Nat) (NV : Value) (ls : List Qs) (fe fp : Int) (w : World) : Prop :=
  ∃ V, Bk 54 w g [NV, V, .int .i64 fe, .int .i64 fp] ∧ w.ownsRow 0 49 10 V ls.length (flat10 ls) ∧ (∀ q ∈ ls, MineT 2 w 0 (vq q) q.1.nums ∧ (vq q).ownBlock ≠ some g) ∧ ¬ X g ∧ (∀ b, V.ownBlock = some b → ¬ X b)
section
variable {w0 w w' : World} {X : Nat → Prop} {g : Nat} {NV : Value} {ls : List Qs} {fe fp : Int}
theorem Cx.next (h : Cx w0 X w) (ht : Out X w w') : Cx w0 X w' :=
  ⟨h.bel.trans (ht.below h.bel.size (fun i hi => by
    rcases Nat.lt_or_ge i w0.heap.size with hl | hl
    · exact absurd (h.low i hl) hi
    · exact hl)), h.low, fun b hb => Nat.lt_of_lt_of_le (h.bd b hb) ht.size⟩
theorem Cx.below (h : Cx w0 X w) (hb : Below w.heap.size w w') : Cx w0 X w' := h.next (Turn.of_below _ hb)
theorem Cx.more' (h : Cx w0 X w) {b : Nat} (hb : b < w.heap.size) : Cx w0 (More X b) w :=
  ⟨h.bel, fun b hb => .inl (h.low b hb), fun c hc => by
    rcases hc with hc | hc
    · exact h.bd c hc
    · omega⟩
theorem Cx.more (h : Cx w0 X w) (o : Obj) : Cx w0 (More X w.heap.size) (w.alloc o) := (h.below (below_new w o)).more' (by rw [World.size_alloc]; omega)
theorem Mk.below (h : Mk X g NV ls fe fp w) (hb : Below w.heap.size w w') : Mk X g NV ls fe fp w' := by
  obtain ⟨V, h1, h2, h3, h4, h5⟩ := h
  exact ⟨V, h1.next hb, own_below h2 hb, fun q hq => ⟨own_below (h3 q hq).1 hb, (h3 q hq).2⟩, h4, h5⟩
theorem Mk.lt (h : Mk X g NV ls fe fp w) : g < w.heap.size := by obtain ⟨V, h1, -⟩ := h; exact h1.lt
theorem Mk.more' (h : Mk X g NV ls fe fp w) {b : Nat} (hg : g ≠ b) (hV : ∀ V, Bk 54 w g [NV, V, .int .i64 fe, .int .i64 fp] → V.ownBlock ≠ some b) : Mk (More X b) g NV ls fe fp w := by
  obtain ⟨V, h1, h2, h3, h4, h5⟩ := h
  refine ⟨V, h1, h2, h3, ?_, fun c hc => ?_⟩
  · rintro (h | h)
    · exact h4 h
    · exact hg h
  · rintro (h | h)
    · exact h5 c hc h
    · exact hV V h1 (by rw [← h]; exact hc)
theorem Mk.more (h : Mk X g NV ls fe fp w) (o : Obj) : Mk (More X w.heap.size) g NV ls fe fp (w.alloc o) := by
  obtain ⟨V, h1, h2, h3, h4, h5⟩ := h
  refine ⟨V, h1.alloc o, own_below h2 (below_new w o), fun q hq => ⟨own_below (h3 q hq).1 (below_new w o), (h3 q hq).2⟩, ?_, fun b hb => ?_⟩
  · rintro (h | h)
    · exact h4 h
    · have := h1.lt; omega
  · rintro (h | h)
    · exact h5 b hb h
    · have := own_lt h2 b hb; omega
theorem Mk.less {b : Nat} (h : Mk (More X b) g NV ls fe fp w) : Mk X g NV ls fe fp w := by
  obtain ⟨V, h1, h2, h3, h4, h5⟩ := h
  exact ⟨V, h1, h2, h3, fun h => h4 (.inl h), fun c hc h => h5 c hc (.inl h)⟩
theorem Out.less {b : Nat} (h : Out (More X b) w w') : Out X w w' := h.mono fun i hi hx => hi (.inl hx)
theorem Bk.out {T : TypeId} {b : Nat} {xs : List Value} (h : Bk T w b xs) (ht : Out X w w') (hb : X b) : Bk T w' b xs := h.turn ht (fun hn => hn hb)
/-- The maker's box. -/
theorem Mk.view (h : Mk X g NV ls fe fp w) : ∃ A c, Bk 54 w g [NV, .slice A ls.length c, .int .i64 fe, .int .i64 fp] ∧ w.ownsRow 0 49 10 (.slice A ls.length c) ls.length (flat10 ls) ∧ Seq (fun _ => True) w A (flat10 ls) := by
  obtain ⟨V, h1, h2, h3, h4, h5⟩ := h
  obtain ⟨A, c, rfl, -, -, hs⟩ := own_seq h2 (by decide)
  exact ⟨A, c, h1, h2, fun hp => by obtain ⟨b, o, e1, -, e2, e3⟩ := hs hp; exact ⟨b, o, e1, trivial, e2, e3⟩⟩
end
/-- What a method leaves that has made steps: the place of the last one. -/
def RetP (X : Nat → Prop) (g : Nat) (NV : Value) (L : List Sx) (fe fp : Int) (w : World) (e : Ending) (w' : World) : Prop :=
  ∃ (ls : List Qs) (m : Nat), ls.map Prod.fst = L ∧ L.length = m + 1 ∧ e = .returned (.int .i64 (m : Int)) ∧ Mk X g NV ls fe fp w' ∧ Out X w w'
end Go.Proofs.YtjmpilmmgfjpmaaDoor.Stp
-- StpAdd
set_option maxRecDepth 100000
namespace Go.Proofs.YtjmpilmmgfjpmaaDoor.Stp
open Go.Proofs.YtjmpilmmgfjpmaaDoor.Sh Go.Proofs.YtjmpilmmgfjpmaaDoor.St Go.Proofs.YtjmpilmmgfjpmaaDoor.Tr Go.Proofs.YtjmpilmmgfjpmaaDoor.Big
open Go.RowKit
set_option linter.unusedVariables false
set_option linter.unusedSimpArgs false

theorem Mk.app {X : Nat → Prop} {g : Nat} {NV : Value} {ls : List Qs} {fe fp : Int} {w w5 : World} {A : Option Addr} {c : Nat} {V5 : Value} {q : Qs} (h : Mk X g NV ls fe fp w) (hbd : ∀ b, X b → b < w.heap.size) (hb : Bk 54 w g [NV, .slice A ls.length c, .int .i64 fe, .int .i64 fp])
    (hq : MineT 2 w 0 (vq q) q.1.nums ∧ (vq q).ownBlock ≠ some g) (h5 : w5.ownsRow 0 49 10 V5 (ls.length + 1) (flat10 ls ++ cq q)) (hg : w.grownBy w5 (Value.slice A ls.length c).ownBlock) (ha : V5.ownBlock = (Value.slice A ls.length c).ownBlock ∨ V5.ownBlock = some w.heap.size) :
    Mk X g NV (ls ++ [q]) fe fp (w5.setCell ⟨g, 1, none⟩ V5) ∧ Out X w (w5.setCell ⟨g, 1, none⟩ V5) := by
  obtain ⟨V, h1, h2, h3, h4, h6⟩ := h
  obtain rfl : V = .slice A ls.length c := by
    have e1 := h1.c 1
    have e2 := hb.c 1
    rw [e1] at e2
    simpa using e2
  have hne : some g ≠ (Value.slice A ls.length c).ownBlock := own_bk_ne h2 h1 (by decide)
  have hb5 : Bk 54 w5 g [NV, .slice A ls.length c, .int .i64 fe, .int .i64 fp] := h1.grown hg hne
  have hne5 : some g ≠ V5.ownBlock := own_bk_ne h5 hb5 (by decide)
  have keep : ∀ p : Qs, MineT 2 w 0 (vq p) p.1.nums ∧ (vq p).ownBlock ≠ some g → MineT 2 (w5.setCell ⟨g, 1, none⟩ V5) 0 (vq p) p.1.nums ∧ (vq p).ownBlock ≠ some g := fun p hp => ⟨Go.ownsRow_setCell_other (World.ownsRow.kept hp.1 hg (own_apart hp.1 h2 (by decide))) (a := ⟨g, 1, none⟩) hp.2 _, hp.2⟩
  refine ⟨⟨V5, hb5.set_ 1 _, ?_, fun p hp => ?_, h4, fun b hb hx => ?_⟩, ?_⟩
  · rw [flat10_app, List.length_append]
    have : flat10 [q] = cq q := by show cq q ++ [] = _; simp
    rw [this]
    exact Go.ownsRow_setCell_other h5 (a := ⟨g, 1, none⟩) (fun e => hne5 e.symm) _
  · rcases List.mem_append.1 hp with hp | hp
    · exact keep p (h3 p hp)
    · simp at hp
      subst hp
      exact keep p hq
  · rcases ha with ha | ha
    · exact h6 b (ha ▸ hb) hx
    · rw [ha] at hb
      injection hb with hb
      have := hbd b hx
      omega
  · exact (Turn.of_grown hg (fun b hb hx => h6 b hb hx)).setCell (p := ⟨g, 1, none⟩) (.inl h4) _
/-- What add leaves. -/
def RetA (X : Nat → Prop) (g : Nat) (NV : Value) (ls : List Qs) (fe fp : Int) (w : World) (e : Ending) (w' : World) : Prop :=
  e = .returned (.int .i64 ((ls.length : Int) - 1)) ∧ Mk X g NV ls fe fp w' ∧ Out X w w'
set_option maxHeartbeats 4000000 in
theorem add_any (X : Nat → Prop) (g : Nat) (NV : Value) (ls : List Qs) (fe fp : Int) (w : World) (q : Qs) (hm : Mk X g NV ls fe fp w) (hbd : ∀ b, X b → b < w.heap.size) (hq : MineT 2 w 0 (vq q) q.1.nums ∧ (vq q).ownBlock ≠ some g) (hl : ls.length ≤ 2000) :
    Calls Tryd.prog 48 #[.pointer (some ⟨g, 0, none⟩), .agg #[.int .i64 q.1.kind, .int .i64 q.1.fc, .bool q.1.fs, .int .i64 q.1.gc, .bool q.1.gs, .int .i64 q.1.code, .int .i64 q.1.a, .int .i64 q.1.b, .slice q.2.1 q.1.nums.length q.2.2, .int .i64 q.1.pos]] w (RetA X g NV (ls ++ [q]) fe fp w) := by
  have HM := Lib.hid hm
  have HBD := Lib.hid hbd
  have HQ := Lib.hid hq
  have HL := Lib.hid hl
  have HB0 := Lib.hid (below_new w (.cells #[.int .i64 q.1.kind, .int .i64 q.1.fc, .bool q.1.fs, .int .i64 q.1.gc, .bool q.1.gs, .int .i64 q.1.code, .int .i64 q.1.a, .int .i64 q.1.b, .slice q.2.1 q.1.nums.length q.2.2, .int .i64 q.1.pos] 49))
  have HX := Lib.hid (Bk.new 49 w [.int .i64 q.1.kind, .int .i64 q.1.fc, .bool q.1.fs, .int .i64 q.1.gc, .bool q.1.gs, .int .i64 q.1.code, .int .i64 q.1.a, .int .i64 q.1.b, .slice q.2.1 q.1.nums.length q.2.2, .int .i64 q.1.pos])
  clear hm hbd hq hl
  go_enter Tryd.func48, Tryd.ntmps48
  go_upto_region 1 with fail
  generalize (w.alloc (.cells #[.int .i64 q.1.kind, .int .i64 q.1.fc, .bool q.1.fs, .int .i64 q.1.gc, .bool q.1.gs, .int .i64 q.1.code, .int .i64 q.1.a, .int .i64 q.1.b, .slice q.2.1 q.1.nums.length q.2.2, .int .i64 q.1.pos] 49)) = wq at *
  have b3 := below_new wq.drew (.cells #[.int .i64 q.1.kind, .int .i64 q.1.fc, .bool q.1.fs, .int .i64 q.1.gc, .bool q.1.gs, .int .i64 q.1.code, .int .i64 q.1.a, .int .i64 q.1.b, .slice q.2.1 q.1.nums.length q.2.2, .int .i64 q.1.pos] 49)
  have K2 := Lib.hid (show Below w.heap.size w wq.drew from HB0.out.drew)
  have K3 := Lib.hid (Gl.below_next (show Below w.heap.size w wq.drew from HB0.out.drew) b3)
  have M2 := Lib.hid (HM.out.below K2.out)
  have M3 := Lib.hid (HM.out.below K3.out)
  obtain ⟨A, c, D3, O3, -⟩ := M3.out.view
  have D2 : Bk 54 wq.drew g [NV, .slice A ls.length c, .int .i64 fe, .int .i64 fp] := (b3.block g M2.out.lt).symm.trans D3
  have D1 : Bk 54 wq g [NV, .slice A ls.length c, .int .i64 fe, .int .i64 fp] := D2
  have Y3 := Lib.hid (Big.seq_new 49 wq.drew [.int .i64 q.1.kind, .int .i64 q.1.fc, .bool q.1.fs, .int .i64 q.1.gc, .bool q.1.gs, .int .i64 q.1.code, .int .i64 q.1.a, .int .i64 q.1.b, .slice q.2.1 q.1.nums.length q.2.2, .int .i64 q.1.pos])
  have L3 : Hid (ls.length + 1 ≤ 100000) := Lib.hid (by have := HL.out; omega)
  have OO3 := Lib.hid O3
  have DD3 := Lib.hid D3
  have YA := Lib.hid (cq_ones q)
  have c1 := D1.c 1
  have d1 := D2.c 1
  have z1 := D3.c 1
  have f1 := D3.f 1
  have x0 := HX.out.c 0
  have x1 := HX.out.c 1
  have x2 := HX.out.c 2
  have x3 := HX.out.c 3
  have x4 := HX.out.c 4
  have x5 := HX.out.c 5
  have x6 := HX.out.c 6
  have x7 := HX.out.c 7
  have x8 := HX.out.c 8
  have x9 := HX.out.c 9
  simp only [List.getElem?_cons_zero, List.getElem?_cons_succ] at c1 d1 z1 x0 x1 x2 x3 x4 x5 x6 x7 x8 x9
  have zz : (wq.alloc (.cells #[.int .i64 q.1.kind, .int .i64 q.1.fc, .bool q.1.fs, .int .i64 q.1.gc, .bool q.1.gs, .int .i64 q.1.code, .int .i64 q.1.a, .int .i64 q.1.b, .slice q.2.1 q.1.nums.length q.2.2, .int .i64 q.1.pos] 49)).cell? ⟨g, 1, none⟩ = some (.slice A ls.length c) := z1
  clear b3 D1 D2 D3 O3
  go_region_law ((refine step_appW infoT rfl (by decide) (by decide) Tryd.underlying29 rfl (.tmp 9) (.tmp 11) rfl 0 (.slice A ls.length c) ls.length (flat10 ls) (by simp [Act.eval]) OO3.out (fun _ => True) (some ⟨wq.heap.size, 0, none⟩) 1 1 (cq q) (by simp [Act.eval]) rfl Y3.out YA.out L3.out (Nat.zero_le _) ?_; intro v5 w5 hv5 hg5 ha5; obtain ⟨A5, c5, rfl, -⟩ := own_seq hv5 (by decide); have HAP := Lib.hid (Mk.app M3.out (fun b hb => Nat.lt_of_lt_of_le (HBD.out b hb) K3.out.size) DD3.out ⟨own_below HQ.out.1 K3.out, HQ.out.2⟩ hv5 hg5 ha5); have D5 := Lib.hid (Bk.grown DD3.out hg5 (own_bk_ne OO3.out DD3.out (by decide))); have y1 := D5.out.c 1; have yf := D5.out.f 1; (simp only [List.getElem?_cons_zero, List.getElem?_cons_succ] at y1); clear hv5 hg5 ha5))
  all_goals
    have hl2 := HL.out
    go_wp2
    go_ret
    refine ⟨?_, HAP.out.1, (Turn.of_below _ K3.out).trans HAP.out.2⟩
    rw [List.length_append, show ((ls.length + [q].length : Nat) : Int) - 1 = (ls.length : Int) by simp]
    exact congrArg (fun x => Ending.returned (.int .i64 x)) (by go_num)
end Go.Proofs.YtjmpilmmgfjpmaaDoor.Stp
-- StpLeaf
set_option maxRecDepth 100000
namespace Go.Proofs.YtjmpilmmgfjpmaaDoor.Stp
open Go.Proofs.YtjmpilmmgfjpmaaDoor.Sh Go.Proofs.YtjmpilmmgfjpmaaDoor.St Go.Proofs.YtjmpilmmgfjpmaaDoor.Tr Go.Proofs.YtjmpilmmgfjpmaaDoor.Big
open Go.RowKit
set_option linter.unusedVariables false
set_option linter.unusedSimpArgs false

structure Arg where
  a : Int
  b : Int
  two : Bool
def Arg.sw (t : Arg) : Arg := if t.two = true then ⟨t.b, t.a, true⟩ else ⟨t.b, t.b, true⟩
def argV (t : Arg) : Value := .agg #[.int .i64 t.a, .int .i64 t.b, .bool t.two]
def fnO (qs : List Nq) (i : Int) : Int × Bool := (scV qs i).getD (0, false)
def foldK (c : Int) (two : Bool) : Int := if c = 31 then 6 else if c = 33 then 7 else if c = 34 then 9 else if two = true then 10 else 8
def prS (n : Nd) (t : Arg) : Sx := if 1 ≤ n.code ∧ n.code ≤ 19 then ⟨if t.two = true then 3 else 2, n.code, false, 0, false, 0, t.a, t.b, [], n.pos⟩ else ⟨if t.two = true then 5 else 4, 0, false, 0, false, n.code, t.a, t.b, [], n.pos⟩
def fdS (qs : List Nq) (n : Nd) (t : Arg) : Sx := ⟨foldK n.code t.two, (fnO qs (kid n 0)).1, (fnO qs (kid n 0)).2, 0, false, 0, t.a, t.b, [], n.pos⟩
def nrS (qs : List Nq) (n : Nd) (t : Arg) : Sx := ⟨11, (fnO qs (kid n 0)).1, (fnO qs (kid n 0)).2, 0, false, 0, t.a, t.b, n.nums, n.pos⟩
def dtS (qs : List Nq) (n : Nd) (t : Arg) : Sx := ⟨12, (fnO qs (kid n 0)).1, (fnO qs (kid n 0)).2, (fnO qs (kid n 1)).1, (fnO qs (kid n 1)).2, 0, t.a, t.b, [], n.pos⟩
def otS (qs : List Nq) (n : Nd) (t : Arg) : Sx := ⟨13, 0, false, (fnO qs (kid n 0)).1, (fnO qs (kid n 0)).2, 0, t.a, t.b, [], n.pos⟩
def nmS (n : Nd) : Sx := ⟨1, 0, false, 0, false, 0, 0, 0, n.nums, 0⟩
theorem res_st {fn : Func} {W : World} {g i : Nat} {v0 v1 v2 v3 v4 v5 v6 v7 v8 v9 : Value} (h : fn.results = #[.cell i 49]) (tmps : Array Value) (h0 : tmps.getD i undef = .pointer (some ⟨g, 0, none⟩))
    (b : Bk 49 W g [v0, v1, v2, v3, v4, v5, v6, v7, v8, v9]) : (results fn tmps).run Tryd.prog W = .ok (.agg #[v0, v1, v2, v3, v4, v5, v6, v7, v8, v9]) W := by
  have a0 : W.cell? ⟨g, 0, none⟩ = some v0 := b.c 0
  have a1 : W.cell? ⟨g, 1, none⟩ = some v1 := b.c 1
  have a2 : W.cell? ⟨g, 2, none⟩ = some v2 := b.c 2
  have a3 : W.cell? ⟨g, 3, none⟩ = some v3 := b.c 3
  have a4 : W.cell? ⟨g, 4, none⟩ = some v4 := b.c 4
  have a5 : W.cell? ⟨g, 5, none⟩ = some v5 := b.c 5
  have a6 : W.cell? ⟨g, 6, none⟩ = some v6 := b.c 6
  have a7 : W.cell? ⟨g, 7, none⟩ = some v7 := b.c 7
  have a8 : W.cell? ⟨g, 8, none⟩ = some v8 := b.c 8
  have a9 : W.cell? ⟨g, 9, none⟩ = some v9 := b.c 9
  rw [Array.getD_eq_getD_getElem?] at h0
  simp [results, h, h0, go_sem, a0, a1, a2, a3, a4, a5, a6, a7, a8, a9]
theorem res_ar {fn : Func} {W : World} {g i : Nat} {v0 v1 v2 : Value} (h : fn.results = #[.cell i 68]) (tmps : Array Value) (h0 : tmps.getD i undef = .pointer (some ⟨g, 0, none⟩))
    (b : Bk 68 W g [v0, v1, v2]) : (results fn tmps).run Tryd.prog W = .ok (.agg #[v0, v1, v2]) W := by
  have a0 : W.cell? ⟨g, 0, none⟩ = some v0 := b.c 0
  have a1 : W.cell? ⟨g, 1, none⟩ = some v1 := b.c 1
  have a2 : W.cell? ⟨g, 2, none⟩ = some v2 := b.c 2
  rw [Array.getD_eq_getD_getElem?] at h0
  simp [results, h, h0, go_sem, a0, a1, a2]
theorem res_fn {fn : Func} {W : World} {g i : Nat} {v0 v1 : Value} (h : fn.results = #[.cell i 37]) (tmps : Array Value) (h0 : tmps.getD i undef = .pointer (some ⟨g, 0, none⟩))
    (b : Bk 37 W g [v0, v1]) : (results fn tmps).run Tryd.prog W = .ok (.agg #[v0, v1]) W := by
  have a0 : W.cell? ⟨g, 0, none⟩ = some v0 := b.c 0
  have a1 : W.cell? ⟨g, 1, none⟩ = some v1 := b.c 1
  rw [Array.getD_eq_getD_getElem?] at h0
  simp [results, h, h0, go_sem, a0, a1]
/-- A box that is made behind others. -/
theorem new_at {t : TypeId} (w : World) (xs : List Value) {g : Nat} (h : w.heap.size = g) : Bk t (w.alloc (.cells xs.toArray t)) g xs := by subst h; exact Bk.new _ w _
set_option maxHeartbeats 4000000 in
theorem folding_any (c : Int) (two : Bool) (w : World) : Calls Tryd.prog 90 #[.int .i64 c, .bool two] w fun e w' => e = .returned (.int .i64 (foldK c two)) ∧ w = w' := by
  have HF := Lib.hid (show foldK c two = if c = 31 then 6 else if c = 33 then 7 else if c = 34 then 9 else if two = true then 10 else 8 from rfl)
  rcases (show c = 31 ∨ c = 33 ∨ c = 34 ∨ (c ≠ 31 ∧ c ≠ 33 ∧ c ≠ 34) by omega) with h | h | h | ⟨h1, h2, h3⟩
  all_goals try
    subst h
    go_enter Tryd.func90, Tryd.ntmps90
    go_wp2
    go_ret
    exact ⟨rfl, rfl⟩
  have HV := Lib.hid (show foldK c two = if two = true then 10 else 8 by rw [HF.out, if_neg h1, if_neg h2, if_neg h3])
  have u1 : (c == 31) = false := by simp [h1]
  have u2 : (c == 33) = false := by simp [h2]
  have u3 : (c == 34) = false := by simp [h3]
  clear HF h1 h2 h3
  cases two
  all_goals
    go_enter Tryd.func90, Tryd.ntmps90
    go_wp2
    go_ret
    exact ⟨by rw [HV.out]; rfl, rfl⟩
set_option maxHeartbeats 4000000 in
theorem swapped_any (a b : Int) (two : Bool) (w : World) : Calls Tryd.prog 89 #[.agg #[.int .i64 a, .int .i64 b, .bool two]] w fun e w' => (∃ x y, (Arg.mk a b two).sw = ⟨x, y, true⟩ ∧ e = .returned (.agg #[.int .i64 x, .int .i64 y, .bool true])) ∧ Below w.heap.size w w' := by
  have e1 : (w.alloc (.cells #[.int .i64 a, .int .i64 b, .bool two] 68)).heap.size = w.heap.size + 1 := by simp
  have E1 := Lib.hid e1
  clear e1
  cases two
  · go_enter Tryd.func89, Tryd.ntmps89
    go_wp2
    refine bodyPost_ret (res_ar (i := 2) Tryd.results89 _ rfl (new_at _ [.int .i64 b, .int .i64 b, .bool true] E1.out)) rfl ?_
    exact ⟨⟨b, b, rfl, rfl⟩, below_next (below_new w _) (below_new _ _)⟩
  · go_enter Tryd.func89, Tryd.ntmps89
    go_wp2
    refine bodyPost_ret (res_ar (i := 2) Tryd.results89 _ rfl (new_at _ [.int .i64 b, .int .i64 a, .bool true] E1.out)) rfl ?_
    exact ⟨⟨b, a, rfl, rfl⟩, below_next (below_new w _) (below_new _ _)⟩
set_option maxHeartbeats 4000000 in
theorem fits_any (a b : Int) (two u v : Bool) (w : World) : Calls Tryd.prog 50 #[.agg #[.int .i64 a, .int .i64 b, .bool two], .agg #[.bool u, .bool v]] w (RetBl (if two = true then v else u) w) := by
  cases two
  all_goals
    go_enter Tryd.func50, Tryd.ntmps50
    go_wp2
    go_ret
    exact ⟨rfl, below_next (below_new w _) (below_new _ _)⟩
set_option maxHeartbeats 4000000 in
theorem stands_any (kd : Int) (q : Nq) (a b : Int) (two : Bool) (w : World) : Calls Tryd.prog 88 #[.int .i64 kd, nodeV q, .agg #[.int .i64 a, .int .i64 b, .bool two]] w fun e w' => e = .returned (.agg #[.int .i64 kd, .int .i64 0, .bool false, .int .i64 0, .bool false, .int .i64 0, .int .i64 a, .int .i64 b, .slice none 0 0, .int .i64 q.n.pos]) ∧ Below w.heap.size w w' := by
  obtain ⟨⟨kk, pp, cc, kids, nums, name⟩, ka, kc, na, nc⟩ := q
  unfold nodeV
  simp only
  have e1 : ((w.alloc (.cells #[.int .i64 kk, .int .i64 pp, .int .i64 cc, .slice ka kids.length kc, .slice na nums.length nc, .string name] 45)).alloc (.cells #[.int .i64 a, .int .i64 b, .bool two] 68)).heap.size = w.heap.size + 1 + 1 := by simp
  have E1 := Lib.hid e1
  clear e1
  go_enter Tryd.func88, Tryd.ntmps88
  go_wp2
  refine bodyPost_ret (res_st (i := 6) Tryd.results88 _ rfl (new_at _ [.int .i64 kd, .int .i64 0, .bool false, .int .i64 0, .bool false, .int .i64 0, .int .i64 a, .int .i64 b, .slice none 0 0, .int .i64 pp] E1.out)) rfl ?_
  exact ⟨rfl, below_next (below_next (below_new w _) (below_new _ _)) (below_new _ _)⟩
/-- What the maker's methods are called in. -/
structure Ins (w0 : World) (A : Option Addr) (c : Nat) (qs : List Nq) (X : Nat → Prop) (g : Nat) (ls : List Qs) (fe fp : Int) (w : World) : Prop where
  fl : Fl qs
  tab : Sc.Tab w0
  nodes : Nodes w0 A qs
  cx : Cx w0 X w
  mkr : Mk X g (.slice A qs.length c) ls fe fp w
  lim : ls.length ≤ 1500
  lowg : w0.heap.size ≤ g
section
variable {w0 w w' : World} {A : Option Addr} {c : Nat} {qs : List Nq} {X : Nat → Prop} {g : Nat} {ls : List Qs} {fe fp : Int}
theorem Ins.below (h : Ins w0 A c qs X g ls fe fp w) (hb : Below w.heap.size w w') : Ins w0 A c qs X g ls fe fp w' := ⟨h.fl, h.tab, h.nodes, h.cx.below hb, h.mkr.below hb, h.lim, h.lowg⟩
theorem Ins.tab' (h : Ins w0 A c qs X g ls fe fp w) : Sc.Tab w := h.tab.below h.cx.bel
theorem Ins.nodes' (h : Ins w0 A c qs X g ls fe fp w) : Nodes w A qs := h.nodes.next h.cx.bel
/-- The maker's first cell. -/
theorem Ins.cell0 (h : Ins w0 A c qs X g ls fe fp w) : w.cell? ⟨g, 0, none⟩ = some (.slice A qs.length c) := by
  obtain ⟨A2, c2, hb, -⟩ := h.mkr.view
  exact hb.c 0
theorem Ins.nodeIn (h : Ins w0 A c qs X g ls fe fp w) {k : Nat} {q : Nq} (hq : qs[k]? = some q) : NodeIn w q := h.nodes'.2 q (List.mem_of_getElem? hq)
/-- One step more by add. -/
theorem Ins.add (h : Ins w0 A c qs X g ls fe fp w) (q : Qs) (hq : MineT 2 w 0 (vq q) q.1.nums ∧ (vq q).ownBlock ≠ some g) :
    Calls Tryd.prog 48 #[.pointer (some ⟨g, 0, none⟩), .agg #[.int .i64 q.1.kind, .int .i64 q.1.fc, .bool q.1.fs, .int .i64 q.1.gc, .bool q.1.gs, .int .i64 q.1.code, .int .i64 q.1.a, .int .i64 q.1.b, .slice q.2.1 q.1.nums.length q.2.2, .int .i64 q.1.pos]] w (RetP X g (.slice A qs.length c) (ls.map Prod.fst ++ [q.1]) fe fp w) :=
  (add_any X g _ ls fe fp w q h.mkr h.cx.bd hq (by have := h.lim; omega)).mono fun e w' ⟨he, h1, h2⟩ => ⟨ls ++ [q], ls.length, by simp, by simp, by rw [he]; congr 2; simp, h1, h2⟩
theorem none_row (t : TypeId) (w : World) (b g : Nat) : MineT t w b (.slice none 0 0) [] ∧ (Value.slice none 0 0).ownBlock ≠ some g := ⟨World.ownsRow_nil _ _ _ _, fun h => by simp [Value.ownBlock] at h⟩
theorem RetP.pre (h : Below w.heap.size w w') {NV : Value} {L : List Sx} {e : Ending} {w2 : World} (hr : RetP X g NV L fe fp w' e w2) : RetP X g NV L fe fp w e w2 := by
  obtain ⟨ls, m, h1, h2, h3, h4, h5⟩ := hr
  exact ⟨ls, m, h1, h2, h3, h4, (Turn.of_below _ h).trans h5⟩
end
def RetFn (r : Int × Bool) (w : World) (e : Ending) (w' : World) : Prop := ∃ c s, r = (c, s) ∧ e = .returned (.agg #[.int .i64 c, .bool s]) ∧ Below w.heap.size w w'
set_option maxHeartbeats 8000000 in
theorem mscal_any {w0 : World} {A : Option Addr} {c : Nat} {qs : List Nq} {X : Nat → Prop} {g : Nat} {ls : List Qs} {fe fp : Int} (w : World) (h : Ins w0 A c qs X g ls fe fp w) (k : Nat) (kk pp cc : Int) (kids nums : List Int) (name : ByteArray) (ka : Option Addr) (kc : Nat) (na : Option Addr) (nc : Nat) (hq : qs[k]? = some ⟨⟨kk, pp, cc, kids, nums, name⟩, ka, kc, na, nc⟩) (j : Nat) (hj : j < (partsL kk).length) :
    Calls Tryd.prog 91 #[.pointer (some ⟨g, 0, none⟩), .agg #[.int .i64 kk, .int .i64 pp, .int .i64 cc, .slice ka kids.length kc, .slice na nums.length nc, .string name], .int .i64 (j : Int)] w (RetFn (fnO qs (kid ⟨kk, pp, cc, kids, nums, name⟩ j)) w) := by
  obtain ⟨m, q', hx, hkm, hmk, hqm, -, -⟩ := h.fl.kid hq j hj
  simp only at hx hkm
  have hkl := (List.getElem?_eq_some_iff.1 hq).1
  have hml := (List.getElem?_eq_some_iff.1 hx).1
  obtain ⟨bK, oK, eka, hbK, hcK⟩ := (h.nodeIn hq).1 (by simp only; omega)
  simp only at eka hcK
  subst eka
  have hy := hcK j hml
  rw [show kids.getD j 0 = (m : Int) by rw [List.getD_eq_getElem?_getD, hx]; rfl] at hy
  have HY := Lib.hid hy
  have HH := Lib.hid h
  have HSC := Lib.hid (fun W (hW : Below w.heap.size w W) => scal_k A c qs h.fl m W (h.below hW).tab' (h.below hW).nodes' (by omega))
  have HV := Lib.hid (show fnO qs (kid ⟨kk, pp, cc, kids, nums, name⟩ j) = (scV qs (m : Int)).getD (0, false) by rw [hkm]; rfl)
  have i0 : (0 : Int) ≤ (j : Int) := by omega
  have i1 : (j : Int) < (kids.length : Int) := by omega
  have j1 : j < kids.length := hml
  have e1 : (w.alloc (.cells #[.int .i64 kk, .int .i64 pp, .int .i64 cc, .slice (some ⟨bK, oK, none⟩) kids.length kc, .slice na nums.length nc, .string name] 45)).heap.size = w.heap.size + 1 := by simp
  have L1 := Lib.hid (show Below w.heap.size w ((w.alloc (.cells #[.int .i64 kk, .int .i64 pp, .int .i64 cc, .slice (some ⟨bK, oK, none⟩) kids.length kc, .slice na nums.length nc, .string name] 45)).alloc (.cells #[.int .i64 0, .bool false] 37)) from below_next (below_new w _) (below_new _ _))
  have BN := Lib.hid (show Bk 45 ((w.alloc (.cells #[.int .i64 kk, .int .i64 pp, .int .i64 cc, .slice (some ⟨bK, oK, none⟩) kids.length kc, .slice na nums.length nc, .string name] 45)).alloc (.cells #[.int .i64 0, .bool false] 37)) w.heap.size [.int .i64 kk, .int .i64 pp, .int .i64 cc, .slice (some ⟨bK, oK, none⟩) kids.length kc, .slice na nums.length nc, .string name] from (Bk.new _ w _).alloc _)
  have BR := Lib.hid (show Bk 37 ((w.alloc (.cells #[.int .i64 kk, .int .i64 pp, .int .i64 cc, .slice (some ⟨bK, oK, none⟩) kids.length kc, .slice na nums.length nc, .string name] 45)).alloc (.cells #[.int .i64 0, .bool false] 37)) (w.heap.size + 1) [.int .i64 0, .bool false] from new_at _ _ e1)
  clear h hq hj hx hkm hmk hqm hcK hy hkl hml e1
  go_enter Tryd.func91, Tryd.ntmps91
  go_upto_region 1 with fail
  generalize ((w.alloc (.cells #[.int .i64 kk, .int .i64 pp, .int .i64 cc, .slice (some ⟨bK, oK, none⟩) kids.length kc, .slice na nums.length nc, .string name] 45)).alloc (.cells #[.int .i64 0, .bool false] 37)) = w1 at *
  have Ld := Lib.hid (L1.out.drew)
  have BNd := Lib.hid (BN.out.drew)
  have BRd := Lib.hid (BR.out.drew)
  go_cut [7] (fun s7 wx => ∃ gF c1 s1, s7 = .pointer (some ⟨gF, 0, none⟩) ∧ w.heap.size + 1 < gF ∧ Hid ((scV qs (m : Int)).getD (0, false) = (c1, s1)) ∧ Hid (Bk 37 wx gF [.int .i64 c1, .bool s1]) ∧ Hid (Below w.heap.size w wx) ∧ Hid (Bk 37 wx (w.heap.size + 1) [.int .i64 0, .bool false]))
  case first =>
    have Kd := Lib.hid (show w1.drew.cell? ⟨g, 0, none⟩ = some (.slice A qs.length c) ∧ w1.drew.cell? ⟨w.heap.size, 3, none⟩ = some (.slice (some ⟨bK, oK, none⟩) kids.length kc) ∧ w1.drew.cell? ⟨bK, oK + j, none⟩ = some (.int .i64 (m : Int)) from ⟨(HH.out.below Ld.out).cell0, BNd.out.c 3, (Ld.out.cell (p := ⟨bK, oK + j, none⟩) hbK).trans HY.out⟩)
    have Ke := Lib.hid (show (w1.alloc (.cells #[.int .i64 0, .bool false] 37)).drew.cell? ⟨g, 0, none⟩ = some (.slice A qs.length c) ∧ (w1.alloc (.cells #[.int .i64 0, .bool false] 37)).drew.cell? ⟨w.heap.size, 3, none⟩ = some (.slice (some ⟨bK, oK, none⟩) kids.length kc) ∧ (w1.alloc (.cells #[.int .i64 0, .bool false] 37)).drew.cell? ⟨bK, oK + j, none⟩ = some (.int .i64 (m : Int)) from ⟨(HH.out.below ((L1.out.trans ((below_new w1 _).mono L1.out.size)).drew)).cell0, (BN.out.alloc _).drew.c 3, ((L1.out.trans ((below_new w1 _).mono L1.out.size)).drew.cell (p := ⟨bK, oK + j, none⟩) hbK).trans HY.out⟩)
    have Le := Lib.hid ((L1.out.trans ((below_new w1 (.cells #[.int .i64 0, .bool false] 37)).mono L1.out.size)).drew)
    have BRe := Lib.hid ((BR.out.alloc (.cells #[.int .i64 0, .bool false] 37)).drew)
    have BFe := Lib.hid ((new_at (t := 37) w1 [.int .i64 0, .bool false] rfl).drew)
    have HK3 := Lib.hid (fun W (L : Below w.heap.size w W) (B : Bk 45 W w.heap.size [.int .i64 kk, .int .i64 pp, .int .i64 cc, .slice (some ⟨bK, oK, none⟩) kids.length kc, .slice na nums.length nc, .string name]) => (show W.cell? ⟨g, 0, none⟩ = some (.slice A qs.length c) ∧ W.cell? ⟨w.heap.size, 3, none⟩ = some (.slice (some ⟨bK, oK, none⟩) kids.length kc) ∧ W.cell? ⟨bK, oK + j, none⟩ = some (.int .i64 (m : Int)) from ⟨(HH.out.below L).cell0, B.c 3, (L.cell (p := ⟨bK, oK + j, none⟩) hbK).trans HY.out⟩))
    have BNe := Lib.hid ((BN.out.alloc (.cells #[.int .i64 0, .bool false] 37)).drew)
    have SZ1 := Lib.hid (show w.heap.size + 1 < w1.heap.size from BR.out.lt)
    go_region_held3 (fun w' => w'.cell? ⟨g, 0, none⟩ = some (.slice A qs.length c) ∧ w'.cell? ⟨w.heap.size, 3, none⟩ = some (.slice (some ⟨bK, oK, none⟩) kids.length kc) ∧ w'.cell? ⟨bK, oK + j, none⟩ = some (.int .i64 (m : Int)))
      (first
        | with_reducible exact Kd.out
        | with_reducible exact Ke.out
        | with_reducible exact K4.out
        | with_reducible exact K3.out
        | with_reducible exact K2.out
        | go_keep)
      (first
        | (go_at_call 24; (with_reducible refine (HSC.out _ Ld.out).mono ?_); rintro r w2 ⟨c1, s1, hcs, rfl, hb2⟩; have CS := Lib.hid hcs; have L2 := Lib.hid (Gl.below_next Ld.out hb2); have BR2 := Lib.hid (BRd.out.next hb2); have BN2 := Lib.hid (BNd.out.next hb2); have K2 := Lib.hid (HK3.out _ L2.out BN2.out); have L3 := Lib.hid (L2.out.trans ((below_new w2 (.cells #[.int .i64 c1, .bool s1] 37)).mono L2.out.size)); have BR3 := Lib.hid (BR2.out.alloc (.cells #[.int .i64 c1, .bool s1] 37)); have BF3 := Lib.hid (new_at (t := 37) w2 [.int .i64 c1, .bool s1] rfl); have K3 := Lib.hid (HK3.out _ L3.out (BN2.out.alloc _)); clear hb2 hcs)
        | (go_at_call 24; (with_reducible refine (HSC.out _ Le.out).mono ?_); rintro r w2 ⟨c1, s1, hcs, rfl, hb2⟩; have CS := Lib.hid hcs; have L2 := Lib.hid (Gl.below_next Le.out hb2); have BR2 := Lib.hid (BRe.out.next hb2); have BN2 := Lib.hid (BNe.out.next hb2); have BF2 := Lib.hid (BFe.out.next hb2); have q0 := BF2.out.c 0; have q1 := BF2.out.c 1; have r0 := BF2.out.f 0; have r1 := BF2.out.f 1; (simp only [List.getElem?_cons_zero, List.getElem?_cons_succ] at q0 q1); have K2 := Lib.hid (HK3.out _ L2.out BN2.out); have BR4 := Lib.hid ((BR2.out.far (p := ⟨w1.heap.size, 0, none⟩) (Nat.ne_of_lt SZ1.out) (.int .i64 c1)).far (p := ⟨w1.heap.size, 1, none⟩) (Nat.ne_of_lt SZ1.out) (.bool s1)); have BF4 := Lib.hid ((BF2.out.set_ 0 (.int .i64 c1)).set_ 1 (.bool s1)); have L4 := Lib.hid ((L2.out.setCell (p := ⟨w1.heap.size, 0, none⟩) (by have := SZ1.out; show w.heap.size ≤ w1.heap.size; omega) (.int .i64 c1)).setCell (p := ⟨w1.heap.size, 1, none⟩) (by have := SZ1.out; show w.heap.size ≤ w1.heap.size; omega) (.bool s1)); have K4 := Lib.hid (HK3.out _ L4.out ((BN2.out.far (p := ⟨w1.heap.size, 0, none⟩) (by have := SZ1.out; show w.heap.size ≠ w1.heap.size; omega) _).far (p := ⟨w1.heap.size, 1, none⟩) (by have := SZ1.out; show w.heap.size ≠ w1.heap.size; omega) _)); clear hb2 hcs))
    all_goals (go_wp2_with fail; go_meet; (first | exact ⟨_, c1, s1, rfl, (by have := SZ1.out; omega), CS, BF4, L4, BR4⟩ | exact ⟨_, c1, s1, rfl, (by have := BR2.out.lt; omega), CS, BF3, L3, BR3⟩))
  case rest =>
    obtain ⟨gF, c1, s1, rfl, hgF, CS, BF, LC, BRC⟩ := hcut
    clear hgF
    generalize wc = wA at *
    have z0 := BF.out.c 0
    have z1 := BF.out.c 1
    have v0 := BRC.out.c 0
    have v1 := BRC.out.c 1
    have f0 := BRC.out.f 0
    have f1 := BRC.out.f 1
    simp only [List.getElem?_cons_zero, List.getElem?_cons_succ] at z0 z1 v0 v1
    go_wp2
    refine bodyPost_ret (res_fn (i := 6) Tryd.results91 _ rfl ((BRC.out.set_ 0 _).set_ 1 _)) rfl ?_
    exact ⟨c1, s1, by rw [HV.out, CS.out], rfl, (LC.out.setCell (p := ⟨w.heap.size + 1, 0, none⟩) (Nat.le_succ _) _).setCell (p := ⟨w.heap.size + 1, 1, none⟩) (Nat.le_succ _) _⟩
end Go.Proofs.YtjmpilmmgfjpmaaDoor.Stp
-- StpLeaf2
set_option maxRecDepth 100000
namespace Go.Proofs.YtjmpilmmgfjpmaaDoor.Stp
open Go.Proofs.YtjmpilmmgfjpmaaDoor.Sh Go.Proofs.YtjmpilmmgfjpmaaDoor.St Go.Proofs.YtjmpilmmgfjpmaaDoor.Tr Go.Proofs.YtjmpilmmgfjpmaaDoor.Big
open Go.RowKit
set_option linter.unusedVariables false
set_option linter.unusedSimpArgs false

theorem nest3 (w : World) (o1 o2 : Obj) : Below w.heap.size w ((w.alloc o1).alloc o2) := below_next (below_new w _) (below_new _ _)
set_option maxHeartbeats 8000000 in
theorem num_any {w0 : World} {A : Option Addr} {c : Nat} {qs : List Nq} {X : Nat → Prop} {g : Nat} {ls : List Qs} {fe fp : Int} (w : World) (h : Ins w0 A c qs X g ls fe fp w) (k : Nat) (kk pp cc : Int) (kids nums : List Int) (name : ByteArray) (ka : Option Addr) (kc : Nat) (na : Option Addr) (nc : Nat) (hq : qs[k]? = some ⟨⟨kk, pp, cc, kids, nums, name⟩, ka, kc, na, nc⟩) (hn : nums.length ≤ 1000) :
    Calls Tryd.prog 29 #[.pointer (some ⟨g, 0, none⟩), .agg #[.int .i64 kk, .int .i64 pp, .int .i64 cc, .slice ka kids.length kc, .slice na nums.length nc, .string name]] w (RetP X g (.slice A qs.length c) (ls.map Prod.fst ++ [nmS ⟨kk, pp, cc, kids, nums, name⟩]) fe fp w) := by
  have HH := Lib.hid h
  have HNI := Lib.hid (h.nodeIn hq)
  have HC := Lib.hid (fun W (hW : Below w.heap.size w W) (hn : nums.length ≤ 1000) => clone64_any na nc nums W hn ((h.nodeIn hq).2.1.below hW))
  have L1 := Lib.hid (below_new w (.cells #[.int .i64 kk, .int .i64 pp, .int .i64 cc, .slice ka kids.length kc, .slice na nums.length nc, .string name] 45))
  clear h hq
  go_enter Tryd.func29, Tryd.ntmps29
  go_wp2_with fail
  generalize (w.alloc (.cells #[.int .i64 kk, .int .i64 pp, .int .i64 cc, .slice ka kids.length kc, .slice na nums.length nc, .string name] 45)) = w1 at *
  refine (HC.out w1 L1.out hn).mono ?_
  rintro e w2 ⟨N, cN, rfl, hmN, hb2⟩
  have L2 := Lib.hid (Gl.below_next L1.out hb2)
  have HM := Lib.hid (own_weakT hmN (Nat.zero_le _))
  have HG := Lib.hid (show (Value.slice N nums.length cN).ownBlock ≠ some g from fun e => by have h1 := own_base hmN g e; have h2 := HH.out.mkr.lt; have h3 := L1.out.size; omega)
  clear hmN hb2
  go_wp2_with fail
  refine ((HH.out.below L2.out).add (nmS ⟨kk, pp, cc, kids, nums, name⟩, (N, cN)) ⟨HM.out, HG.out⟩).mono ?_
  rintro e w3 hr
  obtain ⟨ls3, m3, e1, e2, rfl, M3, O3⟩ := hr.pre L2.out
  have F3 := Lib.hid (And.intro e1 (And.intro e2 (And.intro M3 O3)))
  clear hr e1 e2 M3 O3
  go_wp2
  go_ret
  exact ⟨ls3, m3, F3.out.1, F3.out.2.1, rfl, F3.out.2.2.1, F3.out.2.2.2⟩
set_option maxHeartbeats 8000000 in
theorem prim_10 {w0 : World} {A : Option Addr} {c : Nat} {qs : List Nq} {X : Nat → Prop} {g : Nat} {ls : List Qs} {fe fp : Int} (w : World) (h : Ins w0 A c qs X g ls fe fp w) (k : Nat) (kk pp cc : Int) (kids nums : List Int) (name : ByteArray) (ka : Option Addr) (kc : Nat) (na : Option Addr) (nc : Nat) (hq : qs[k]? = some ⟨⟨kk, pp, cc, kids, nums, name⟩, ka, kc, na, nc⟩) (ta tb : Int) (hc : 1 ≤ cc ∧ cc ≤ 19) :
    Calls Tryd.prog 80 #[.pointer (some ⟨g, 0, none⟩), .agg #[.int .i64 kk, .int .i64 pp, .int .i64 cc, .slice ka kids.length kc, .slice na nums.length nc, .string name], .agg #[.int .i64 ta, .int .i64 tb, .bool false]] w (RetP X g (.slice A qs.length c) (ls.map Prod.fst ++ [prS ⟨kk, pp, cc, kids, nums, name⟩ ⟨ta, tb, false⟩]) fe fp w) := by
  have HEV := Lib.hid (show prS ⟨kk, pp, cc, kids, nums, name⟩ ⟨ta, tb, false⟩ = ⟨2, cc, false, 0, false, 0, ta, tb, [], pp⟩ by unfold prS; simp only; rw [if_pos hc]; rfl)
  have HH := Lib.hid h
  have HST := Lib.hid (fun kd W => stands_any kd ⟨⟨kk, pp, cc, kids, nums, name⟩, ka, kc, na, nc⟩ ta tb false W)
  unfold nodeV at HST
  simp only at HST
  have L1 := Lib.hid (nest3 w (.cells #[.int .i64 kk, .int .i64 pp, .int .i64 cc, .slice ka kids.length kc, .slice na nums.length nc, .string name] 45) (.cells #[.int .i64 ta, .int .i64 tb, .bool false] 68))
  have e1 : (w.alloc (.cells #[.int .i64 kk, .int .i64 pp, .int .i64 cc, .slice ka kids.length kc, .slice na nums.length nc, .string name] 45)).heap.size = w.heap.size + 1 := by simp
  have BN := Lib.hid (show Bk 45 ((w.alloc (.cells #[.int .i64 kk, .int .i64 pp, .int .i64 cc, .slice ka kids.length kc, .slice na nums.length nc, .string name] 45)).alloc (.cells #[.int .i64 ta, .int .i64 tb, .bool false] 68)) w.heap.size [.int .i64 kk, .int .i64 pp, .int .i64 cc, .slice ka kids.length kc, .slice na nums.length nc, .string name] from (Bk.new _ w _).alloc _)
  have BA := Lib.hid (show Bk 68 ((w.alloc (.cells #[.int .i64 kk, .int .i64 pp, .int .i64 cc, .slice ka kids.length kc, .slice na nums.length nc, .string name] 45)).alloc (.cells #[.int .i64 ta, .int .i64 tb, .bool false] 68)) (w.heap.size + 1) [.int .i64 ta, .int .i64 tb, .bool false] from new_at _ _ e1)
  have HCI := Lib.hid (fun W h1 h2 => Sc.class_in cc W h1 h2)
  have HCO := Lib.hid (fun W h => Sc.class_out cc W h)
  clear h hq e1
  go_enter Tryd.func80, Tryd.ntmps80
  go_wp2_with fail
  generalize ((w.alloc (.cells #[.int .i64 kk, .int .i64 pp, .int .i64 cc, .slice ka kids.length kc, .slice na nums.length nc, .string name] 45)).alloc (.cells #[.int .i64 ta, .int .i64 tb, .bool false] 68)) = w1 at *
  refine (HCI.out w1 hc.1 hc.2).mono ?_
  rintro e w2 ⟨rfl, rfl⟩
  have y0 := BN.out.c 0
  have y1 := BN.out.c 1
  have y2 := BN.out.c 2
  have y3 := BN.out.c 3
  have y4 := BN.out.c 4
  have y5 := BN.out.c 5
  have u0 := BA.out.c 0
  have u1 := BA.out.c 1
  have u2 := BA.out.c 2
  simp only [List.getElem?_cons_zero, List.getElem?_cons_succ] at y0 y1 y2 y3 y4 y5 u0 u1 u2
  go_wp2_with fail
  refine (HST.out _ w1).mono ?_
  rintro e w3 ⟨rfl, hb3⟩
  have L3 := Lib.hid (Gl.below_next L1.out hb3)
  have BN3 := Lib.hid (BN.out.next hb3)
  have BA3 := Lib.hid (BA.out.next hb3)
  clear hb3
  clear y0 y1 y2 y3 y4 y5 u0 u1 u2
  have y0 := BN3.out.c 0
  have y1 := BN3.out.c 1
  have y2 := BN3.out.c 2
  have y3 := BN3.out.c 3
  have y4 := BN3.out.c 4
  have y5 := BN3.out.c 5
  have u0 := BA3.out.c 0
  have u1 := BA3.out.c 1
  have u2 := BA3.out.c 2
  simp only [List.getElem?_cons_zero, List.getElem?_cons_succ] at y0 y1 y2 y3 y4 y5 u0 u1 u2
  have L4 := Lib.hid (L3.out.trans ((below_new w3 (.cells #[.int .i64 2, .int .i64 cc, .bool false, .int .i64 0, .bool false, .int .i64 0, .int .i64 ta, .int .i64 tb, .slice none 0 0, .int .i64 pp] 49)).mono L3.out.size))
  have BA4 := Lib.hid (BA3.out.alloc (.cells #[.int .i64 2, .int .i64 0, .bool false, .int .i64 0, .bool false, .int .i64 0, .int .i64 ta, .int .i64 tb, .slice none 0 0, .int .i64 pp] 49))
  have a2 := BA4.out.c 2
  have BN5 := Lib.hid (BN3.out.alloc (.cells #[.int .i64 2, .int .i64 0, .bool false, .int .i64 0, .bool false, .int .i64 0, .int .i64 ta, .int .i64 tb, .slice none 0 0, .int .i64 pp] 49))
  have n2 := BN5.out.c 2
  simp only [List.getElem?_cons_zero, List.getElem?_cons_succ] at a2 n2
  go_wp2_with fail
  refine ((HH.out.below L4.out).add (⟨2, cc, false, 0, false, 0, ta, tb, [], pp⟩, (none, 0)) (none_row _ _ _ _)).mono ?_
  rintro e w9 hr
  obtain ⟨ls9, m9, e1, e2, rfl, M9, O9⟩ := hr.pre L4.out
  have F9 := Lib.hid (And.intro e1 (And.intro e2 (And.intro M9 O9)))
  clear hr e1 e2 M9 O9
  go_wp2
  go_ret
  rw [HEV.out]
  exact ⟨ls9, m9, F9.out.1, F9.out.2.1, rfl, F9.out.2.2.1, F9.out.2.2.2⟩
set_option maxHeartbeats 8000000 in
theorem prim_11 {w0 : World} {A : Option Addr} {c : Nat} {qs : List Nq} {X : Nat → Prop} {g : Nat} {ls : List Qs} {fe fp : Int} (w : World) (h : Ins w0 A c qs X g ls fe fp w) (k : Nat) (kk pp cc : Int) (kids nums : List Int) (name : ByteArray) (ka : Option Addr) (kc : Nat) (na : Option Addr) (nc : Nat) (hq : qs[k]? = some ⟨⟨kk, pp, cc, kids, nums, name⟩, ka, kc, na, nc⟩) (ta tb : Int) (hc : 1 ≤ cc ∧ cc ≤ 19) :
    Calls Tryd.prog 80 #[.pointer (some ⟨g, 0, none⟩), .agg #[.int .i64 kk, .int .i64 pp, .int .i64 cc, .slice ka kids.length kc, .slice na nums.length nc, .string name], .agg #[.int .i64 ta, .int .i64 tb, .bool true]] w (RetP X g (.slice A qs.length c) (ls.map Prod.fst ++ [prS ⟨kk, pp, cc, kids, nums, name⟩ ⟨ta, tb, true⟩]) fe fp w) := by
  have HEV := Lib.hid (show prS ⟨kk, pp, cc, kids, nums, name⟩ ⟨ta, tb, true⟩ = ⟨3, cc, false, 0, false, 0, ta, tb, [], pp⟩ by unfold prS; simp only; rw [if_pos hc]; rfl)
  have HH := Lib.hid h
  have HST := Lib.hid (fun kd W => stands_any kd ⟨⟨kk, pp, cc, kids, nums, name⟩, ka, kc, na, nc⟩ ta tb true W)
  unfold nodeV at HST
  simp only at HST
  have L1 := Lib.hid (nest3 w (.cells #[.int .i64 kk, .int .i64 pp, .int .i64 cc, .slice ka kids.length kc, .slice na nums.length nc, .string name] 45) (.cells #[.int .i64 ta, .int .i64 tb, .bool true] 68))
  have e1 : (w.alloc (.cells #[.int .i64 kk, .int .i64 pp, .int .i64 cc, .slice ka kids.length kc, .slice na nums.length nc, .string name] 45)).heap.size = w.heap.size + 1 := by simp
  have BN := Lib.hid (show Bk 45 ((w.alloc (.cells #[.int .i64 kk, .int .i64 pp, .int .i64 cc, .slice ka kids.length kc, .slice na nums.length nc, .string name] 45)).alloc (.cells #[.int .i64 ta, .int .i64 tb, .bool true] 68)) w.heap.size [.int .i64 kk, .int .i64 pp, .int .i64 cc, .slice ka kids.length kc, .slice na nums.length nc, .string name] from (Bk.new _ w _).alloc _)
  have BA := Lib.hid (show Bk 68 ((w.alloc (.cells #[.int .i64 kk, .int .i64 pp, .int .i64 cc, .slice ka kids.length kc, .slice na nums.length nc, .string name] 45)).alloc (.cells #[.int .i64 ta, .int .i64 tb, .bool true] 68)) (w.heap.size + 1) [.int .i64 ta, .int .i64 tb, .bool true] from new_at _ _ e1)
  have HCI := Lib.hid (fun W h1 h2 => Sc.class_in cc W h1 h2)
  have HCO := Lib.hid (fun W h => Sc.class_out cc W h)
  clear h hq e1
  go_enter Tryd.func80, Tryd.ntmps80
  go_wp2_with fail
  generalize ((w.alloc (.cells #[.int .i64 kk, .int .i64 pp, .int .i64 cc, .slice ka kids.length kc, .slice na nums.length nc, .string name] 45)).alloc (.cells #[.int .i64 ta, .int .i64 tb, .bool true] 68)) = w1 at *
  refine (HCI.out w1 hc.1 hc.2).mono ?_
  rintro e w2 ⟨rfl, rfl⟩
  have y0 := BN.out.c 0
  have y1 := BN.out.c 1
  have y2 := BN.out.c 2
  have y3 := BN.out.c 3
  have y4 := BN.out.c 4
  have y5 := BN.out.c 5
  have u0 := BA.out.c 0
  have u1 := BA.out.c 1
  have u2 := BA.out.c 2
  simp only [List.getElem?_cons_zero, List.getElem?_cons_succ] at y0 y1 y2 y3 y4 y5 u0 u1 u2
  go_wp2_with fail
  refine (HST.out _ w1).mono ?_
  rintro e w3 ⟨rfl, hb3⟩
  have L3 := Lib.hid (Gl.below_next L1.out hb3)
  have BN3 := Lib.hid (BN.out.next hb3)
  have BA3 := Lib.hid (BA.out.next hb3)
  clear hb3
  clear y0 y1 y2 y3 y4 y5 u0 u1 u2
  have y0 := BN3.out.c 0
  have y1 := BN3.out.c 1
  have y2 := BN3.out.c 2
  have y3 := BN3.out.c 3
  have y4 := BN3.out.c 4
  have y5 := BN3.out.c 5
  have u0 := BA3.out.c 0
  have u1 := BA3.out.c 1
  have u2 := BA3.out.c 2
  simp only [List.getElem?_cons_zero, List.getElem?_cons_succ] at y0 y1 y2 y3 y4 y5 u0 u1 u2
  have L4 := Lib.hid (L3.out.trans ((below_new w3 (.cells #[.int .i64 3, .int .i64 cc, .bool false, .int .i64 0, .bool false, .int .i64 0, .int .i64 ta, .int .i64 tb, .slice none 0 0, .int .i64 pp] 49)).mono L3.out.size))
  have BA4 := Lib.hid (BA3.out.alloc (.cells #[.int .i64 2, .int .i64 0, .bool false, .int .i64 0, .bool false, .int .i64 0, .int .i64 ta, .int .i64 tb, .slice none 0 0, .int .i64 pp] 49))
  have a2 := BA4.out.c 2
  have BA5 := Lib.hid (BA3.out.alloc (.cells #[.int .i64 3, .int .i64 0, .bool false, .int .i64 0, .bool false, .int .i64 0, .int .i64 ta, .int .i64 tb, .slice none 0 0, .int .i64 pp] 49))
  have BN5 := Lib.hid (BN3.out.alloc (.cells #[.int .i64 3, .int .i64 0, .bool false, .int .i64 0, .bool false, .int .i64 0, .int .i64 ta, .int .i64 tb, .slice none 0 0, .int .i64 pp] 49))
  have n2 := BN5.out.c 2
  simp only [List.getElem?_cons_zero, List.getElem?_cons_succ] at a2 n2
  go_wp2_with fail
  refine ((HH.out.below L4.out).add (⟨3, cc, false, 0, false, 0, ta, tb, [], pp⟩, (none, 0)) (none_row _ _ _ _)).mono ?_
  rintro e w9 hr
  obtain ⟨ls9, m9, e1, e2, rfl, M9, O9⟩ := hr.pre L4.out
  have F9 := Lib.hid (And.intro e1 (And.intro e2 (And.intro M9 O9)))
  clear hr e1 e2 M9 O9
  go_wp2
  go_ret
  rw [HEV.out]
  exact ⟨ls9, m9, F9.out.1, F9.out.2.1, rfl, F9.out.2.2.1, F9.out.2.2.2⟩
set_option maxHeartbeats 8000000 in
theorem prim_00 {w0 : World} {A : Option Addr} {c : Nat} {qs : List Nq} {X : Nat → Prop} {g : Nat} {ls : List Qs} {fe fp : Int} (w : World) (h : Ins w0 A c qs X g ls fe fp w) (k : Nat) (kk pp cc : Int) (kids nums : List Int) (name : ByteArray) (ka : Option Addr) (kc : Nat) (na : Option Addr) (nc : Nat) (hq : qs[k]? = some ⟨⟨kk, pp, cc, kids, nums, name⟩, ka, kc, na, nc⟩) (ta tb : Int) (hc : ¬ (1 ≤ cc ∧ cc ≤ 19)) :
    Calls Tryd.prog 80 #[.pointer (some ⟨g, 0, none⟩), .agg #[.int .i64 kk, .int .i64 pp, .int .i64 cc, .slice ka kids.length kc, .slice na nums.length nc, .string name], .agg #[.int .i64 ta, .int .i64 tb, .bool false]] w (RetP X g (.slice A qs.length c) (ls.map Prod.fst ++ [prS ⟨kk, pp, cc, kids, nums, name⟩ ⟨ta, tb, false⟩]) fe fp w) := by
  have HEV := Lib.hid (show prS ⟨kk, pp, cc, kids, nums, name⟩ ⟨ta, tb, false⟩ = ⟨4, 0, false, 0, false, cc, ta, tb, [], pp⟩ by unfold prS; simp only; rw [if_neg hc]; rfl)
  have HH := Lib.hid h
  have HST := Lib.hid (fun kd W => stands_any kd ⟨⟨kk, pp, cc, kids, nums, name⟩, ka, kc, na, nc⟩ ta tb false W)
  unfold nodeV at HST
  simp only at HST
  have L1 := Lib.hid (nest3 w (.cells #[.int .i64 kk, .int .i64 pp, .int .i64 cc, .slice ka kids.length kc, .slice na nums.length nc, .string name] 45) (.cells #[.int .i64 ta, .int .i64 tb, .bool false] 68))
  have e1 : (w.alloc (.cells #[.int .i64 kk, .int .i64 pp, .int .i64 cc, .slice ka kids.length kc, .slice na nums.length nc, .string name] 45)).heap.size = w.heap.size + 1 := by simp
  have BN := Lib.hid (show Bk 45 ((w.alloc (.cells #[.int .i64 kk, .int .i64 pp, .int .i64 cc, .slice ka kids.length kc, .slice na nums.length nc, .string name] 45)).alloc (.cells #[.int .i64 ta, .int .i64 tb, .bool false] 68)) w.heap.size [.int .i64 kk, .int .i64 pp, .int .i64 cc, .slice ka kids.length kc, .slice na nums.length nc, .string name] from (Bk.new _ w _).alloc _)
  have BA := Lib.hid (show Bk 68 ((w.alloc (.cells #[.int .i64 kk, .int .i64 pp, .int .i64 cc, .slice ka kids.length kc, .slice na nums.length nc, .string name] 45)).alloc (.cells #[.int .i64 ta, .int .i64 tb, .bool false] 68)) (w.heap.size + 1) [.int .i64 ta, .int .i64 tb, .bool false] from new_at _ _ e1)
  have HCI := Lib.hid (fun W h1 h2 => Sc.class_in cc W h1 h2)
  have HCO := Lib.hid (fun W h => Sc.class_out cc W h)
  clear h hq e1
  go_enter Tryd.func80, Tryd.ntmps80
  go_wp2_with fail
  generalize ((w.alloc (.cells #[.int .i64 kk, .int .i64 pp, .int .i64 cc, .slice ka kids.length kc, .slice na nums.length nc, .string name] 45)).alloc (.cells #[.int .i64 ta, .int .i64 tb, .bool false] 68)) = w1 at *
  refine (HCO.out w1 (by omega)).mono ?_
  rintro e w2 ⟨v, rfl, hv, rfl⟩
  have hv1 : (v == 1) = false := by simpa using hv
  clear hv
  have y0 := BN.out.c 0
  have y1 := BN.out.c 1
  have y2 := BN.out.c 2
  have y3 := BN.out.c 3
  have y4 := BN.out.c 4
  have y5 := BN.out.c 5
  have u0 := BA.out.c 0
  have u1 := BA.out.c 1
  have u2 := BA.out.c 2
  simp only [List.getElem?_cons_zero, List.getElem?_cons_succ] at y0 y1 y2 y3 y4 y5 u0 u1 u2
  go_wp2_with fail
  refine (HST.out _ w1).mono ?_
  rintro e w3 ⟨rfl, hb3⟩
  have L3 := Lib.hid (Gl.below_next L1.out hb3)
  have BN3 := Lib.hid (BN.out.next hb3)
  have BA3 := Lib.hid (BA.out.next hb3)
  clear hb3
  clear y0 y1 y2 y3 y4 y5 u0 u1 u2
  have y0 := BN3.out.c 0
  have y1 := BN3.out.c 1
  have y2 := BN3.out.c 2
  have y3 := BN3.out.c 3
  have y4 := BN3.out.c 4
  have y5 := BN3.out.c 5
  have u0 := BA3.out.c 0
  have u1 := BA3.out.c 1
  have u2 := BA3.out.c 2
  simp only [List.getElem?_cons_zero, List.getElem?_cons_succ] at y0 y1 y2 y3 y4 y5 u0 u1 u2
  have L4 := Lib.hid (L3.out.trans ((below_new w3 (.cells #[.int .i64 4, .int .i64 0, .bool false, .int .i64 0, .bool false, .int .i64 cc, .int .i64 ta, .int .i64 tb, .slice none 0 0, .int .i64 pp] 49)).mono L3.out.size))
  have BA4 := Lib.hid (BA3.out.alloc (.cells #[.int .i64 4, .int .i64 0, .bool false, .int .i64 0, .bool false, .int .i64 0, .int .i64 ta, .int .i64 tb, .slice none 0 0, .int .i64 pp] 49))
  have a2 := BA4.out.c 2
  have BN5 := Lib.hid (BN3.out.alloc (.cells #[.int .i64 4, .int .i64 0, .bool false, .int .i64 0, .bool false, .int .i64 0, .int .i64 ta, .int .i64 tb, .slice none 0 0, .int .i64 pp] 49))
  have n2 := BN5.out.c 2
  simp only [List.getElem?_cons_zero, List.getElem?_cons_succ] at a2 n2
  go_wp2_with fail
  refine ((HH.out.below L4.out).add (⟨4, 0, false, 0, false, cc, ta, tb, [], pp⟩, (none, 0)) (none_row _ _ _ _)).mono ?_
  rintro e w9 hr
  obtain ⟨ls9, m9, e1, e2, rfl, M9, O9⟩ := hr.pre L4.out
  have F9 := Lib.hid (And.intro e1 (And.intro e2 (And.intro M9 O9)))
  clear hr e1 e2 M9 O9
  go_wp2
  go_ret
  rw [HEV.out]
  exact ⟨ls9, m9, F9.out.1, F9.out.2.1, rfl, F9.out.2.2.1, F9.out.2.2.2⟩
set_option maxHeartbeats 8000000 in
theorem prim_01 {w0 : World} {A : Option Addr} {c : Nat} {qs : List Nq} {X : Nat → Prop} {g : Nat} {ls : List Qs} {fe fp : Int} (w : World) (h : Ins w0 A c qs X g ls fe fp w) (k : Nat) (kk pp cc : Int) (kids nums : List Int) (name : ByteArray) (ka : Option Addr) (kc : Nat) (na : Option Addr) (nc : Nat) (hq : qs[k]? = some ⟨⟨kk, pp, cc, kids, nums, name⟩, ka, kc, na, nc⟩) (ta tb : Int) (hc : ¬ (1 ≤ cc ∧ cc ≤ 19)) :
    Calls Tryd.prog 80 #[.pointer (some ⟨g, 0, none⟩), .agg #[.int .i64 kk, .int .i64 pp, .int .i64 cc, .slice ka kids.length kc, .slice na nums.length nc, .string name], .agg #[.int .i64 ta, .int .i64 tb, .bool true]] w (RetP X g (.slice A qs.length c) (ls.map Prod.fst ++ [prS ⟨kk, pp, cc, kids, nums, name⟩ ⟨ta, tb, true⟩]) fe fp w) := by
  have HEV := Lib.hid (show prS ⟨kk, pp, cc, kids, nums, name⟩ ⟨ta, tb, true⟩ = ⟨5, 0, false, 0, false, cc, ta, tb, [], pp⟩ by unfold prS; simp only; rw [if_neg hc]; rfl)
  have HH := Lib.hid h
  have HST := Lib.hid (fun kd W => stands_any kd ⟨⟨kk, pp, cc, kids, nums, name⟩, ka, kc, na, nc⟩ ta tb true W)
  unfold nodeV at HST
  simp only at HST
  have L1 := Lib.hid (nest3 w (.cells #[.int .i64 kk, .int .i64 pp, .int .i64 cc, .slice ka kids.length kc, .slice na nums.length nc, .string name] 45) (.cells #[.int .i64 ta, .int .i64 tb, .bool true] 68))
  have e1 : (w.alloc (.cells #[.int .i64 kk, .int .i64 pp, .int .i64 cc, .slice ka kids.length kc, .slice na nums.length nc, .string name] 45)).heap.size = w.heap.size + 1 := by simp
  have BN := Lib.hid (show Bk 45 ((w.alloc (.cells #[.int .i64 kk, .int .i64 pp, .int .i64 cc, .slice ka kids.length kc, .slice na nums.length nc, .string name] 45)).alloc (.cells #[.int .i64 ta, .int .i64 tb, .bool true] 68)) w.heap.size [.int .i64 kk, .int .i64 pp, .int .i64 cc, .slice ka kids.length kc, .slice na nums.length nc, .string name] from (Bk.new _ w _).alloc _)
  have BA := Lib.hid (show Bk 68 ((w.alloc (.cells #[.int .i64 kk, .int .i64 pp, .int .i64 cc, .slice ka kids.length kc, .slice na nums.length nc, .string name] 45)).alloc (.cells #[.int .i64 ta, .int .i64 tb, .bool true] 68)) (w.heap.size + 1) [.int .i64 ta, .int .i64 tb, .bool true] from new_at _ _ e1)
  have HCI := Lib.hid (fun W h1 h2 => Sc.class_in cc W h1 h2)
  have HCO := Lib.hid (fun W h => Sc.class_out cc W h)
  clear h hq e1
  go_enter Tryd.func80, Tryd.ntmps80
  go_wp2_with fail
  generalize ((w.alloc (.cells #[.int .i64 kk, .int .i64 pp, .int .i64 cc, .slice ka kids.length kc, .slice na nums.length nc, .string name] 45)).alloc (.cells #[.int .i64 ta, .int .i64 tb, .bool true] 68)) = w1 at *
  refine (HCO.out w1 (by omega)).mono ?_
  rintro e w2 ⟨v, rfl, hv, rfl⟩
  have hv1 : (v == 1) = false := by simpa using hv
  clear hv
  have y0 := BN.out.c 0
  have y1 := BN.out.c 1
  have y2 := BN.out.c 2
  have y3 := BN.out.c 3
  have y4 := BN.out.c 4
  have y5 := BN.out.c 5
  have u0 := BA.out.c 0
  have u1 := BA.out.c 1
  have u2 := BA.out.c 2
  simp only [List.getElem?_cons_zero, List.getElem?_cons_succ] at y0 y1 y2 y3 y4 y5 u0 u1 u2
  go_wp2_with fail
  refine (HST.out _ w1).mono ?_
  rintro e w3 ⟨rfl, hb3⟩
  have L3 := Lib.hid (Gl.below_next L1.out hb3)
  have BN3 := Lib.hid (BN.out.next hb3)
  have BA3 := Lib.hid (BA.out.next hb3)
  clear hb3
  clear y0 y1 y2 y3 y4 y5 u0 u1 u2
  have y0 := BN3.out.c 0
  have y1 := BN3.out.c 1
  have y2 := BN3.out.c 2
  have y3 := BN3.out.c 3
  have y4 := BN3.out.c 4
  have y5 := BN3.out.c 5
  have u0 := BA3.out.c 0
  have u1 := BA3.out.c 1
  have u2 := BA3.out.c 2
  simp only [List.getElem?_cons_zero, List.getElem?_cons_succ] at y0 y1 y2 y3 y4 y5 u0 u1 u2
  have L4 := Lib.hid (L3.out.trans ((below_new w3 (.cells #[.int .i64 5, .int .i64 0, .bool false, .int .i64 0, .bool false, .int .i64 cc, .int .i64 ta, .int .i64 tb, .slice none 0 0, .int .i64 pp] 49)).mono L3.out.size))
  have BA4 := Lib.hid (BA3.out.alloc (.cells #[.int .i64 4, .int .i64 0, .bool false, .int .i64 0, .bool false, .int .i64 0, .int .i64 ta, .int .i64 tb, .slice none 0 0, .int .i64 pp] 49))
  have a2 := BA4.out.c 2
  have BA5 := Lib.hid (BA3.out.alloc (.cells #[.int .i64 5, .int .i64 0, .bool false, .int .i64 0, .bool false, .int .i64 0, .int .i64 ta, .int .i64 tb, .slice none 0 0, .int .i64 pp] 49))
  have BN5 := Lib.hid (BN3.out.alloc (.cells #[.int .i64 5, .int .i64 0, .bool false, .int .i64 0, .bool false, .int .i64 0, .int .i64 ta, .int .i64 tb, .slice none 0 0, .int .i64 pp] 49))
  have n2 := BN5.out.c 2
  simp only [List.getElem?_cons_zero, List.getElem?_cons_succ] at a2 n2
  go_wp2_with fail
  refine ((HH.out.below L4.out).add (⟨5, 0, false, 0, false, cc, ta, tb, [], pp⟩, (none, 0)) (none_row _ _ _ _)).mono ?_
  rintro e w9 hr
  obtain ⟨ls9, m9, e1, e2, rfl, M9, O9⟩ := hr.pre L4.out
  have F9 := Lib.hid (And.intro e1 (And.intro e2 (And.intro M9 O9)))
  clear hr e1 e2 M9 O9
  go_wp2
  go_ret
  rw [HEV.out]
  exact ⟨ls9, m9, F9.out.1, F9.out.2.1, rfl, F9.out.2.2.1, F9.out.2.2.2⟩
set_option maxHeartbeats 8000000 in
theorem outer_any {w0 : World} {A : Option Addr} {c : Nat} {qs : List Nq} {X : Nat → Prop} {g : Nat} {ls : List Qs} {fe fp : Int} (w : World) (h : Ins w0 A c qs X g ls fe fp w) (k : Nat) (pp cc : Int) (kids nums : List Int) (name : ByteArray) (ka : Option Addr) (kc : Nat) (na : Option Addr) (nc : Nat) (hq : qs[k]? = some ⟨⟨(10 : Int), pp, cc, kids, nums, name⟩, ka, kc, na, nc⟩) (ta tb : Int) (two : Bool) :
    Calls Tryd.prog 84 #[.pointer (some ⟨g, 0, none⟩), .agg #[.int .i64 (10 : Int), .int .i64 pp, .int .i64 cc, .slice ka kids.length kc, .slice na nums.length nc, .string name], .agg #[.int .i64 ta, .int .i64 tb, .bool two]] w (RetP X g (.slice A qs.length c) (ls.map Prod.fst ++ [otS qs ⟨(10 : Int), pp, cc, kids, nums, name⟩ ⟨ta, tb, two⟩]) fe fp w) := by
  have HEV := Lib.hid (show otS qs ⟨(10 : Int), pp, cc, kids, nums, name⟩ ⟨ta, tb, two⟩ = ⟨13, 0, false, (fnO qs (kid ⟨(10 : Int), pp, cc, kids, nums, name⟩ 0)).1, (fnO qs (kid ⟨(10 : Int), pp, cc, kids, nums, name⟩ 0)).2, 0, ta, tb, [], pp⟩ from rfl)
  have HH := Lib.hid h
  have HST := Lib.hid (fun kd W => stands_any kd ⟨⟨(10 : Int), pp, cc, kids, nums, name⟩, ka, kc, na, nc⟩ ta tb two W)
  unfold nodeV at HST
  simp only at HST
  have L1 := Lib.hid (nest3 w (.cells #[.int .i64 (10 : Int), .int .i64 pp, .int .i64 cc, .slice ka kids.length kc, .slice na nums.length nc, .string name] 45) (.cells #[.int .i64 ta, .int .i64 tb, .bool two] 68))
  have e1 : (w.alloc (.cells #[.int .i64 (10 : Int), .int .i64 pp, .int .i64 cc, .slice ka kids.length kc, .slice na nums.length nc, .string name] 45)).heap.size = w.heap.size + 1 := by simp
  have BN := Lib.hid (show Bk 45 ((w.alloc (.cells #[.int .i64 (10 : Int), .int .i64 pp, .int .i64 cc, .slice ka kids.length kc, .slice na nums.length nc, .string name] 45)).alloc (.cells #[.int .i64 ta, .int .i64 tb, .bool two] 68)) w.heap.size [.int .i64 (10 : Int), .int .i64 pp, .int .i64 cc, .slice ka kids.length kc, .slice na nums.length nc, .string name] from (Bk.new _ w _).alloc _)
  have BA := Lib.hid (show Bk 68 ((w.alloc (.cells #[.int .i64 (10 : Int), .int .i64 pp, .int .i64 cc, .slice ka kids.length kc, .slice na nums.length nc, .string name] 45)).alloc (.cells #[.int .i64 ta, .int .i64 tb, .bool two] 68)) (w.heap.size + 1) [.int .i64 ta, .int .i64 tb, .bool two] from new_at _ _ e1)
  have HQ := Lib.hid hq
  clear h hq e1
  go_enter Tryd.func84, Tryd.ntmps84
  go_wp2_with fail
  generalize ((w.alloc (.cells #[.int .i64 (10 : Int), .int .i64 pp, .int .i64 cc, .slice ka kids.length kc, .slice na nums.length nc, .string name] 45)).alloc (.cells #[.int .i64 ta, .int .i64 tb, .bool two] 68)) = w1 at *
  refine (HST.out _ w1).mono ?_
  rintro e w3 ⟨rfl, hb3⟩
  have L3 := Lib.hid (Gl.below_next L1.out hb3)
  have BN3 := Lib.hid (BN.out.next hb3)
  clear hb3
  have L4 := Lib.hid (show Below w.heap.size w (w3.alloc (.cells #[.int .i64 13, .int .i64 0, .bool false, .int .i64 0, .bool false, .int .i64 0, .int .i64 ta, .int .i64 tb, .slice none 0 0, .int .i64 pp] 49)) from L3.out.trans ((below_new w3 _).mono L3.out.size))
  have BS4 := Lib.hid (new_at (t := 49) w3 [.int .i64 13, .int .i64 0, .bool false, .int .i64 0, .bool false, .int .i64 0, .int .i64 ta, .int .i64 tb, .slice none 0 0, .int .i64 pp] rfl)
  have BN4 := Lib.hid (BN3.out.alloc (.cells #[.int .i64 13, .int .i64 0, .bool false, .int .i64 0, .bool false, .int .i64 0, .int .i64 ta, .int .i64 tb, .slice none 0 0, .int .i64 pp] 49))
  have Z4 := Lib.hid (show w.heap.size < w3.heap.size from BN3.out.lt)
  have y0 := BN4.out.c 0
  have y1 := BN4.out.c 1
  have y2 := BN4.out.c 2
  have y3 := BN4.out.c 3
  have y4 := BN4.out.c 4
  have y5 := BN4.out.c 5
  simp only [List.getElem?_cons_zero, List.getElem?_cons_succ] at y0 y1 y2 y3 y4 y5
  go_wp2_with fail
  generalize (w3.alloc (.cells #[.int .i64 13, .int .i64 0, .bool false, .int .i64 0, .bool false, .int .i64 0, .int .i64 ta, .int .i64 tb, .slice none 0 0, .int .i64 pp] 49)) = w4 at *
  clear y0 y1 y2 y3 y4 y5
  generalize w3.heap.size = gS at *
  refine (mscal_any w4 (HH.out.below L4.out) k (10 : Int) pp cc kids nums name ka kc na nc HQ.out 0 (by show 0 < (partsL 10).length; decide)).mono ?_
  rintro e w5 ⟨af, ag, ha, rfl, hba⟩
  have Ea := Lib.hid ha
  have L5 := Lib.hid (Gl.below_next L4.out hba)
  have BS5 := Lib.hid (BS4.out.next hba)
  have BN5 := Lib.hid (BN4.out.next hba)
  clear ha hba
  have s0 := BS5.out.c 0
  have s1 := BS5.out.c 1
  have s2 := BS5.out.c 2
  have s3 := BS5.out.c 3
  have s4 := BS5.out.c 4
  have s5 := BS5.out.c 5
  have s6 := BS5.out.c 6
  have s7 := BS5.out.c 7
  have s8 := BS5.out.c 8
  have s9 := BS5.out.c 9
  have t0 := BS5.out.f 0
  have t1 := BS5.out.f 1
  have t2 := BS5.out.f 2
  have t3 := BS5.out.f 3
  have t4 := BS5.out.f 4
  have t5 := BS5.out.f 5
  have t6 := BS5.out.f 6
  have t7 := BS5.out.f 7
  have t8 := BS5.out.f 8
  have t9 := BS5.out.f 9
  simp only [List.getElem?_cons_zero, List.getElem?_cons_succ] at s0 s1 s2 s3 s4 s5 s6 s7 s8 s9
  have BS6 := Lib.hid (show Bk 49 ((w5.setCell ⟨gS, 3, none⟩ (.int .i64 af)).setCell ⟨gS, 4, none⟩ (.bool ag)) gS [.int .i64 13, .int .i64 0, .bool false, .int .i64 af, .bool ag, .int .i64 0, .int .i64 ta, .int .i64 tb, .slice none 0 0, .int .i64 pp] from (BS5.out.set_ 3 _).set_ 4 _)
  have L6 := Lib.hid (show Below w.heap.size w ((w5.setCell ⟨gS, 3, none⟩ (.int .i64 af)).setCell ⟨gS, 4, none⟩ (.bool ag)) from (L5.out.setCell (p := ⟨gS, 3, none⟩) (Nat.le_of_lt Z4.out) _).setCell (p := ⟨gS, 4, none⟩) (Nat.le_of_lt Z4.out) _)
  have BN6 := Lib.hid ((BN5.out.far (p := ⟨gS, 3, none⟩) (Nat.ne_of_lt Z4.out) (.int .i64 af)).far (p := ⟨gS, 4, none⟩) (Nat.ne_of_lt Z4.out) (.bool ag))
  have r0 := BS6.out.c 0
  have r1 := BS6.out.c 1
  have r2 := BS6.out.c 2
  have r3 := BS6.out.c 3
  have r4 := BS6.out.c 4
  have r5 := BS6.out.c 5
  have r6 := BS6.out.c 6
  have r7 := BS6.out.c 7
  have r8 := BS6.out.c 8
  have r9 := BS6.out.c 9
  simp only [List.getElem?_cons_zero, List.getElem?_cons_succ] at r0 r1 r2 r3 r4 r5 r6 r7 r8 r9
  go_wp2_with fail
  refine ((HH.out.below L6.out).add (⟨13, 0, false, af, ag, 0, ta, tb, [], pp⟩, (none, 0)) (none_row _ _ _ _)).mono ?_
  rintro e w9 hr
  obtain ⟨ls9, m9, e1, e2, rfl, M9, O9⟩ := hr.pre L6.out
  have F9 := Lib.hid (And.intro e1 (And.intro e2 (And.intro M9 O9)))
  clear hr e1 e2 M9 O9
  go_wp2
  go_ret
  rw [HEV.out, Ea.out]
  exact ⟨ls9, m9, F9.out.1, F9.out.2.1, rfl, F9.out.2.2.1, F9.out.2.2.2⟩
set_option maxHeartbeats 8000000 in
theorem near_any {w0 : World} {A : Option Addr} {c : Nat} {qs : List Nq} {X : Nat → Prop} {g : Nat} {ls : List Qs} {fe fp : Int} (w : World) (h : Ins w0 A c qs X g ls fe fp w) (k : Nat) (pp cc : Int) (kids nums : List Int) (name : ByteArray) (ka : Option Addr) (kc : Nat) (na : Option Addr) (nc : Nat) (hq : qs[k]? = some ⟨⟨(8 : Int), pp, cc, kids, nums, name⟩, ka, kc, na, nc⟩) (ta tb : Int) (two : Bool) (hn : nums.length ≤ 1000) :
    Calls Tryd.prog 82 #[.pointer (some ⟨g, 0, none⟩), .agg #[.int .i64 (8 : Int), .int .i64 pp, .int .i64 cc, .slice ka kids.length kc, .slice na nums.length nc, .string name], .agg #[.int .i64 ta, .int .i64 tb, .bool two]] w (RetP X g (.slice A qs.length c) (ls.map Prod.fst ++ [nrS qs ⟨(8 : Int), pp, cc, kids, nums, name⟩ ⟨ta, tb, two⟩]) fe fp w) := by
  have HEV := Lib.hid (show nrS qs ⟨(8 : Int), pp, cc, kids, nums, name⟩ ⟨ta, tb, two⟩ = ⟨11, (fnO qs (kid ⟨(8 : Int), pp, cc, kids, nums, name⟩ 0)).1, (fnO qs (kid ⟨(8 : Int), pp, cc, kids, nums, name⟩ 0)).2, 0, false, 0, ta, tb, nums, pp⟩ from rfl)
  have HH := Lib.hid h
  have HST := Lib.hid (fun kd W => stands_any kd ⟨⟨(8 : Int), pp, cc, kids, nums, name⟩, ka, kc, na, nc⟩ ta tb two W)
  unfold nodeV at HST
  simp only at HST
  have L1 := Lib.hid (nest3 w (.cells #[.int .i64 (8 : Int), .int .i64 pp, .int .i64 cc, .slice ka kids.length kc, .slice na nums.length nc, .string name] 45) (.cells #[.int .i64 ta, .int .i64 tb, .bool two] 68))
  have e1 : (w.alloc (.cells #[.int .i64 (8 : Int), .int .i64 pp, .int .i64 cc, .slice ka kids.length kc, .slice na nums.length nc, .string name] 45)).heap.size = w.heap.size + 1 := by simp
  have BN := Lib.hid (show Bk 45 ((w.alloc (.cells #[.int .i64 (8 : Int), .int .i64 pp, .int .i64 cc, .slice ka kids.length kc, .slice na nums.length nc, .string name] 45)).alloc (.cells #[.int .i64 ta, .int .i64 tb, .bool two] 68)) w.heap.size [.int .i64 (8 : Int), .int .i64 pp, .int .i64 cc, .slice ka kids.length kc, .slice na nums.length nc, .string name] from (Bk.new _ w _).alloc _)
  have BA := Lib.hid (show Bk 68 ((w.alloc (.cells #[.int .i64 (8 : Int), .int .i64 pp, .int .i64 cc, .slice ka kids.length kc, .slice na nums.length nc, .string name] 45)).alloc (.cells #[.int .i64 ta, .int .i64 tb, .bool two] 68)) (w.heap.size + 1) [.int .i64 ta, .int .i64 tb, .bool two] from new_at _ _ e1)
  have HQ := Lib.hid hq
  have HC := Lib.hid (fun W (hW : Below w.heap.size w W) (hn : nums.length ≤ 1000) => clone64_any na nc nums W hn ((h.nodeIn hq).2.1.below hW))
  clear h hq e1
  go_enter Tryd.func82, Tryd.ntmps82
  go_wp2_with fail
  generalize ((w.alloc (.cells #[.int .i64 (8 : Int), .int .i64 pp, .int .i64 cc, .slice ka kids.length kc, .slice na nums.length nc, .string name] 45)).alloc (.cells #[.int .i64 ta, .int .i64 tb, .bool two] 68)) = w1 at *
  refine (HST.out _ w1).mono ?_
  rintro e w3 ⟨rfl, hb3⟩
  have L3 := Lib.hid (Gl.below_next L1.out hb3)
  have BN3 := Lib.hid (BN.out.next hb3)
  clear hb3
  have L4 := Lib.hid (show Below w.heap.size w (w3.alloc (.cells #[.int .i64 11, .int .i64 0, .bool false, .int .i64 0, .bool false, .int .i64 0, .int .i64 ta, .int .i64 tb, .slice none 0 0, .int .i64 pp] 49)) from L3.out.trans ((below_new w3 _).mono L3.out.size))
  have BS4 := Lib.hid (new_at (t := 49) w3 [.int .i64 11, .int .i64 0, .bool false, .int .i64 0, .bool false, .int .i64 0, .int .i64 ta, .int .i64 tb, .slice none 0 0, .int .i64 pp] rfl)
  have BN4 := Lib.hid (BN3.out.alloc (.cells #[.int .i64 11, .int .i64 0, .bool false, .int .i64 0, .bool false, .int .i64 0, .int .i64 ta, .int .i64 tb, .slice none 0 0, .int .i64 pp] 49))
  have Z4 := Lib.hid (show w.heap.size < w3.heap.size from BN3.out.lt)
  have y0 := BN4.out.c 0
  have y1 := BN4.out.c 1
  have y2 := BN4.out.c 2
  have y3 := BN4.out.c 3
  have y4 := BN4.out.c 4
  have y5 := BN4.out.c 5
  simp only [List.getElem?_cons_zero, List.getElem?_cons_succ] at y0 y1 y2 y3 y4 y5
  go_wp2_with fail
  generalize (w3.alloc (.cells #[.int .i64 11, .int .i64 0, .bool false, .int .i64 0, .bool false, .int .i64 0, .int .i64 ta, .int .i64 tb, .slice none 0 0, .int .i64 pp] 49)) = w4 at *
  clear y0 y1 y2 y3 y4 y5
  generalize w3.heap.size = gS at *
  refine (mscal_any w4 (HH.out.below L4.out) k (8 : Int) pp cc kids nums name ka kc na nc HQ.out 0 (by show 0 < (partsL 8).length; decide)).mono ?_
  rintro e w5 ⟨af, ag, ha, rfl, hba⟩
  have Ea := Lib.hid ha
  have L5 := Lib.hid (Gl.below_next L4.out hba)
  have BS5 := Lib.hid (BS4.out.next hba)
  have BN5 := Lib.hid (BN4.out.next hba)
  clear ha hba
  have s0 := BS5.out.c 0
  have s1 := BS5.out.c 1
  have s2 := BS5.out.c 2
  have s3 := BS5.out.c 3
  have s4 := BS5.out.c 4
  have s5 := BS5.out.c 5
  have s6 := BS5.out.c 6
  have s7 := BS5.out.c 7
  have s8 := BS5.out.c 8
  have s9 := BS5.out.c 9
  have t0 := BS5.out.f 0
  have t1 := BS5.out.f 1
  have t2 := BS5.out.f 2
  have t3 := BS5.out.f 3
  have t4 := BS5.out.f 4
  have t5 := BS5.out.f 5
  have t6 := BS5.out.f 6
  have t7 := BS5.out.f 7
  have t8 := BS5.out.f 8
  have t9 := BS5.out.f 9
  simp only [List.getElem?_cons_zero, List.getElem?_cons_succ] at s0 s1 s2 s3 s4 s5 s6 s7 s8 s9
  have BS6 := Lib.hid (show Bk 49 ((w5.setCell ⟨gS, 1, none⟩ (.int .i64 af)).setCell ⟨gS, 2, none⟩ (.bool ag)) gS [.int .i64 11, .int .i64 af, .bool ag, .int .i64 0, .bool false, .int .i64 0, .int .i64 ta, .int .i64 tb, .slice none 0 0, .int .i64 pp] from (BS5.out.set_ 1 _).set_ 2 _)
  have L6 := Lib.hid (show Below w.heap.size w ((w5.setCell ⟨gS, 1, none⟩ (.int .i64 af)).setCell ⟨gS, 2, none⟩ (.bool ag)) from (L5.out.setCell (p := ⟨gS, 1, none⟩) (Nat.le_of_lt Z4.out) _).setCell (p := ⟨gS, 2, none⟩) (Nat.le_of_lt Z4.out) _)
  have BN6 := Lib.hid ((BN5.out.far (p := ⟨gS, 1, none⟩) (Nat.ne_of_lt Z4.out) (.int .i64 af)).far (p := ⟨gS, 2, none⟩) (Nat.ne_of_lt Z4.out) (.bool ag))
  have n4 := BN6.out.c 4
  simp only [List.getElem?_cons_zero, List.getElem?_cons_succ] at n4
  go_wp2_with fail
  clear s0 s1 s2 s3 s4 s5 s6 s7 s8 s9 t0 t1 t2 t3 t4 t5 t6 t7 t8 t9 n4
  generalize ((w5.setCell ⟨gS, 1, none⟩ (.int .i64 af)).setCell ⟨gS, 2, none⟩ (.bool ag)) = w6 at *
  refine (HC.out w6 L6.out hn).mono ?_
  rintro e w7 ⟨N, cN, rfl, hmN, hb7⟩
  have L7 := Lib.hid (Gl.below_next L6.out hb7)
  have BS7 := Lib.hid (BS6.out.next hb7)
  have L8 := Lib.hid (show Below w.heap.size w (w7.setCell ⟨gS, 8, none⟩ (.slice N nums.length cN)) from L7.out.setCell (p := ⟨gS, 8, none⟩) (Nat.le_of_lt Z4.out) _)
  have BS8 := Lib.hid (show Bk 49 (w7.setCell ⟨gS, 8, none⟩ (.slice N nums.length cN)) gS [.int .i64 11, .int .i64 af, .bool ag, .int .i64 0, .bool false, .int .i64 0, .int .i64 ta, .int .i64 tb, .slice N nums.length cN, .int .i64 pp] from BS7.out.set_ 8 _)
  have HM := Lib.hid (own_weakT (ownsRow_setCell_below (a := ⟨gS, 8, none⟩) hmN BS6.out.lt (.slice N nums.length cN)) (Nat.zero_le _))
  have HG := Lib.hid (show (Value.slice N nums.length cN).ownBlock ≠ some g from fun e => by have h1 := own_base hmN g e; have h2 := HH.out.mkr.lt; have h3 := L6.out.size; omega)
  clear hmN hb7
  have s8 := BS7.out.c 8
  have t8 := BS7.out.f 8
  simp only [List.getElem?_cons_zero, List.getElem?_cons_succ] at s8
  have r0 := BS8.out.c 0
  have r1 := BS8.out.c 1
  have r2 := BS8.out.c 2
  have r3 := BS8.out.c 3
  have r4 := BS8.out.c 4
  have r5 := BS8.out.c 5
  have r6 := BS8.out.c 6
  have r7 := BS8.out.c 7
  have r8 := BS8.out.c 8
  have r9 := BS8.out.c 9
  simp only [List.getElem?_cons_zero, List.getElem?_cons_succ] at r0 r1 r2 r3 r4 r5 r6 r7 r8 r9
  go_wp2_with fail
  refine ((HH.out.below L8.out).add (⟨11, af, ag, 0, false, 0, ta, tb, nums, pp⟩, (N, cN)) ⟨HM.out, HG.out⟩).mono ?_
  rintro e w9 hr
  obtain ⟨ls9, m9, e1, e2, rfl, M9, O9⟩ := hr.pre L8.out
  have F9 := Lib.hid (And.intro e1 (And.intro e2 (And.intro M9 O9)))
  clear hr e1 e2 M9 O9
  go_wp2
  go_ret
  rw [HEV.out, Ea.out]
  exact ⟨ls9, m9, F9.out.1, F9.out.2.1, rfl, F9.out.2.2.1, F9.out.2.2.2⟩
set_option maxHeartbeats 8000000 in
theorem dot_any {w0 : World} {A : Option Addr} {c : Nat} {qs : List Nq} {X : Nat → Prop} {g : Nat} {ls : List Qs} {fe fp : Int} (w : World) (h : Ins w0 A c qs X g ls fe fp w) (k : Nat) (pp cc : Int) (kids nums : List Int) (name : ByteArray) (ka : Option Addr) (kc : Nat) (na : Option Addr) (nc : Nat) (hq : qs[k]? = some ⟨⟨(9 : Int), pp, cc, kids, nums, name⟩, ka, kc, na, nc⟩) (ta tb : Int) (two : Bool) :
    Calls Tryd.prog 83 #[.pointer (some ⟨g, 0, none⟩), .agg #[.int .i64 (9 : Int), .int .i64 pp, .int .i64 cc, .slice ka kids.length kc, .slice na nums.length nc, .string name], .agg #[.int .i64 ta, .int .i64 tb, .bool two]] w (RetP X g (.slice A qs.length c) (ls.map Prod.fst ++ [dtS qs ⟨(9 : Int), pp, cc, kids, nums, name⟩ ⟨ta, tb, two⟩]) fe fp w) := by
  have HEV := Lib.hid (show dtS qs ⟨(9 : Int), pp, cc, kids, nums, name⟩ ⟨ta, tb, two⟩ = ⟨12, (fnO qs (kid ⟨(9 : Int), pp, cc, kids, nums, name⟩ 0)).1, (fnO qs (kid ⟨(9 : Int), pp, cc, kids, nums, name⟩ 0)).2, (fnO qs (kid ⟨(9 : Int), pp, cc, kids, nums, name⟩ 1)).1, (fnO qs (kid ⟨(9 : Int), pp, cc, kids, nums, name⟩ 1)).2, 0, ta, tb, [], pp⟩ from rfl)
  have HH := Lib.hid h
  have HST := Lib.hid (fun kd W => stands_any kd ⟨⟨(9 : Int), pp, cc, kids, nums, name⟩, ka, kc, na, nc⟩ ta tb two W)
  unfold nodeV at HST
  simp only at HST
  have L1 := Lib.hid (nest3 w (.cells #[.int .i64 (9 : Int), .int .i64 pp, .int .i64 cc, .slice ka kids.length kc, .slice na nums.length nc, .string name] 45) (.cells #[.int .i64 ta, .int .i64 tb, .bool two] 68))
  have e1 : (w.alloc (.cells #[.int .i64 (9 : Int), .int .i64 pp, .int .i64 cc, .slice ka kids.length kc, .slice na nums.length nc, .string name] 45)).heap.size = w.heap.size + 1 := by simp
  have BN := Lib.hid (show Bk 45 ((w.alloc (.cells #[.int .i64 (9 : Int), .int .i64 pp, .int .i64 cc, .slice ka kids.length kc, .slice na nums.length nc, .string name] 45)).alloc (.cells #[.int .i64 ta, .int .i64 tb, .bool two] 68)) w.heap.size [.int .i64 (9 : Int), .int .i64 pp, .int .i64 cc, .slice ka kids.length kc, .slice na nums.length nc, .string name] from (Bk.new _ w _).alloc _)
  have BA := Lib.hid (show Bk 68 ((w.alloc (.cells #[.int .i64 (9 : Int), .int .i64 pp, .int .i64 cc, .slice ka kids.length kc, .slice na nums.length nc, .string name] 45)).alloc (.cells #[.int .i64 ta, .int .i64 tb, .bool two] 68)) (w.heap.size + 1) [.int .i64 ta, .int .i64 tb, .bool two] from new_at _ _ e1)
  have HQ := Lib.hid hq
  clear h hq e1
  go_enter Tryd.func83, Tryd.ntmps83
  go_wp2_with fail
  generalize ((w.alloc (.cells #[.int .i64 (9 : Int), .int .i64 pp, .int .i64 cc, .slice ka kids.length kc, .slice na nums.length nc, .string name] 45)).alloc (.cells #[.int .i64 ta, .int .i64 tb, .bool two] 68)) = w1 at *
  refine (HST.out _ w1).mono ?_
  rintro e w3 ⟨rfl, hb3⟩
  have L3 := Lib.hid (Gl.below_next L1.out hb3)
  have BN3 := Lib.hid (BN.out.next hb3)
  clear hb3
  have L4 := Lib.hid (show Below w.heap.size w (w3.alloc (.cells #[.int .i64 12, .int .i64 0, .bool false, .int .i64 0, .bool false, .int .i64 0, .int .i64 ta, .int .i64 tb, .slice none 0 0, .int .i64 pp] 49)) from L3.out.trans ((below_new w3 _).mono L3.out.size))
  have BS4 := Lib.hid (new_at (t := 49) w3 [.int .i64 12, .int .i64 0, .bool false, .int .i64 0, .bool false, .int .i64 0, .int .i64 ta, .int .i64 tb, .slice none 0 0, .int .i64 pp] rfl)
  have BN4 := Lib.hid (BN3.out.alloc (.cells #[.int .i64 12, .int .i64 0, .bool false, .int .i64 0, .bool false, .int .i64 0, .int .i64 ta, .int .i64 tb, .slice none 0 0, .int .i64 pp] 49))
  have Z4 := Lib.hid (show w.heap.size < w3.heap.size from BN3.out.lt)
  go_upto_region 2 with fail
  generalize (w3.alloc (.cells #[.int .i64 12, .int .i64 0, .bool false, .int .i64 0, .bool false, .int .i64 0, .int .i64 ta, .int .i64 tb, .slice none 0 0, .int .i64 pp] 49)) = w4 at *
  generalize w3.heap.size = gS at *
  have Ld := Lib.hid (L4.out.drew)
  have BSd := Lib.hid (BS4.out.drew)
  have BNd := Lib.hid (BN4.out.drew)
  have Kd := Lib.hid (show w4.drew.cell? ⟨w.heap.size, 0, none⟩ = some (.int .i64 (9 : Int)) ∧ w4.drew.cell? ⟨w.heap.size, 1, none⟩ = some (.int .i64 pp) ∧ w4.drew.cell? ⟨w.heap.size, 2, none⟩ = some (.int .i64 cc) ∧ w4.drew.cell? ⟨w.heap.size, 3, none⟩ = some (.slice ka kids.length kc) ∧ w4.drew.cell? ⟨w.heap.size, 4, none⟩ = some (.slice na nums.length nc) ∧ w4.drew.cell? ⟨w.heap.size, 5, none⟩ = some (.string name) from ⟨(BNd.out).c 0, (BNd.out).c 1, (BNd.out).c 2, (BNd.out).c 3, (BNd.out).c 4, (BNd.out).c 5⟩)
  have HMS0 := Lib.hid (fun W (hW : Below w.heap.size w W) => show Calls Tryd.prog 91 #[.pointer (some ⟨g, 0, none⟩), .agg #[.int .i64 (9 : Int), .int .i64 pp, .int .i64 cc, .slice ka kids.length kc, .slice na nums.length nc, .string name], .int .i64 0] W (RetFn (fnO qs (kid ⟨(9 : Int), pp, cc, kids, nums, name⟩ 0)) W) from mscal_any W (HH.out.below hW) k 9 pp cc kids nums name ka kc na nc HQ.out 0 (by show 0 < (partsL 9).length; decide))
  have HMS1 := Lib.hid (fun W (hW : Below w.heap.size w W) => show Calls Tryd.prog 91 #[.pointer (some ⟨g, 0, none⟩), .agg #[.int .i64 (9 : Int), .int .i64 pp, .int .i64 cc, .slice ka kids.length kc, .slice na nums.length nc, .string name], .int .i64 1] W (RetFn (fnO qs (kid ⟨(9 : Int), pp, cc, kids, nums, name⟩ 1)) W) from mscal_any W (HH.out.below hW) k 9 pp cc kids nums name ka kc na nc HQ.out 1 (by show 1 < (partsL 9).length; decide))
  go_cut [13, 16] (fun s13 s16 wx => ∃ af ag bf bg, s13 = .agg #[.int .i64 af, .bool ag] ∧ s16 = .agg #[.int .i64 bf, .bool bg] ∧ Hid (fnO qs (kid ⟨(9 : Int), pp, cc, kids, nums, name⟩ 0) = (af, ag)) ∧ Hid (fnO qs (kid ⟨(9 : Int), pp, cc, kids, nums, name⟩ 1) = (bf, bg)) ∧ Hid (Bk 49 wx gS [.int .i64 12, .int .i64 af, .bool ag, .int .i64 bf, .bool bg, .int .i64 0, .int .i64 ta, .int .i64 tb, .slice none 0 0, .int .i64 pp]) ∧ Hid (Below w.heap.size w wx))
  case first =>
    go_region_held3 (fun w' => w'.cell? ⟨w.heap.size, 0, none⟩ = some (.int .i64 (9 : Int)) ∧ w'.cell? ⟨w.heap.size, 1, none⟩ = some (.int .i64 pp) ∧ w'.cell? ⟨w.heap.size, 2, none⟩ = some (.int .i64 cc) ∧ w'.cell? ⟨w.heap.size, 3, none⟩ = some (.slice ka kids.length kc) ∧ w'.cell? ⟨w.heap.size, 4, none⟩ = some (.slice na nums.length nc) ∧ w'.cell? ⟨w.heap.size, 5, none⟩ = some (.string name))
      (first
        | with_reducible exact Kd.out
        | with_reducible exact Ka.out
        | with_reducible exact K9.out
        | with_reducible exact K8.out
        | with_reducible exact K7.out
        | with_reducible exact K6.out
        | with_reducible exact K5.out
        | go_keep)
      (first
        | (go_at_call 91; (with_reducible refine (HMS0.out _ Ld.out).mono ?_); rintro r w5 ⟨af, ag, ha, rfl, hba⟩; have Ea := Lib.hid ha; have L5 := Lib.hid (Gl.below_next Ld.out hba); have BS5 := Lib.hid (BSd.out.next hba); have BN5 := Lib.hid (BNd.out.next hba); have K5 := Lib.hid (show w5.cell? ⟨w.heap.size, 0, none⟩ = some (.int .i64 (9 : Int)) ∧ w5.cell? ⟨w.heap.size, 1, none⟩ = some (.int .i64 pp) ∧ w5.cell? ⟨w.heap.size, 2, none⟩ = some (.int .i64 cc) ∧ w5.cell? ⟨w.heap.size, 3, none⟩ = some (.slice ka kids.length kc) ∧ w5.cell? ⟨w.heap.size, 4, none⟩ = some (.slice na nums.length nc) ∧ w5.cell? ⟨w.heap.size, 5, none⟩ = some (.string name) from ⟨(BN5.out).c 0, (BN5.out).c 1, (BN5.out).c 2, (BN5.out).c 3, (BN5.out).c 4, (BN5.out).c 5⟩); clear ha hba)
        | (go_at_call 91; (with_reducible refine (HMS1.out _ L5.out).mono ?_); rintro r w6 ⟨bf, bg, ha, rfl, hba⟩; have Eb := Lib.hid ha; have L6 := Lib.hid (Gl.below_next L5.out hba); have BS6 := Lib.hid (BS5.out.next hba); have BN6 := Lib.hid (BN5.out.next hba); have K6 := Lib.hid (show w6.cell? ⟨w.heap.size, 0, none⟩ = some (.int .i64 (9 : Int)) ∧ w6.cell? ⟨w.heap.size, 1, none⟩ = some (.int .i64 pp) ∧ w6.cell? ⟨w.heap.size, 2, none⟩ = some (.int .i64 cc) ∧ w6.cell? ⟨w.heap.size, 3, none⟩ = some (.slice ka kids.length kc) ∧ w6.cell? ⟨w.heap.size, 4, none⟩ = some (.slice na nums.length nc) ∧ w6.cell? ⟨w.heap.size, 5, none⟩ = some (.string name) from ⟨(BN6.out).c 0, (BN6.out).c 1, (BN6.out).c 2, (BN6.out).c 3, (BN6.out).c 4, (BN6.out).c 5⟩); have K7 := Lib.hid (show ((w6.setCell ⟨gS, 1, none⟩ (.int .i64 af)).setCell ⟨gS, 2, none⟩ (.bool ag)).cell? ⟨w.heap.size, 0, none⟩ = some (.int .i64 (9 : Int)) ∧ ((w6.setCell ⟨gS, 1, none⟩ (.int .i64 af)).setCell ⟨gS, 2, none⟩ (.bool ag)).cell? ⟨w.heap.size, 1, none⟩ = some (.int .i64 pp) ∧ ((w6.setCell ⟨gS, 1, none⟩ (.int .i64 af)).setCell ⟨gS, 2, none⟩ (.bool ag)).cell? ⟨w.heap.size, 2, none⟩ = some (.int .i64 cc) ∧ ((w6.setCell ⟨gS, 1, none⟩ (.int .i64 af)).setCell ⟨gS, 2, none⟩ (.bool ag)).cell? ⟨w.heap.size, 3, none⟩ = some (.slice ka kids.length kc) ∧ ((w6.setCell ⟨gS, 1, none⟩ (.int .i64 af)).setCell ⟨gS, 2, none⟩ (.bool ag)).cell? ⟨w.heap.size, 4, none⟩ = some (.slice na nums.length nc) ∧ ((w6.setCell ⟨gS, 1, none⟩ (.int .i64 af)).setCell ⟨gS, 2, none⟩ (.bool ag)).cell? ⟨w.heap.size, 5, none⟩ = some (.string name) from ⟨(((((BN6.out).far (p := ⟨gS, 1, none⟩) (Nat.ne_of_lt Z4.out) (.int .i64 af))).far (p := ⟨gS, 2, none⟩) (Nat.ne_of_lt Z4.out) (.bool ag))).c 0, (((((BN6.out).far (p := ⟨gS, 1, none⟩) (Nat.ne_of_lt Z4.out) (.int .i64 af))).far (p := ⟨gS, 2, none⟩) (Nat.ne_of_lt Z4.out) (.bool ag))).c 1, (((((BN6.out).far (p := ⟨gS, 1, none⟩) (Nat.ne_of_lt Z4.out) (.int .i64 af))).far (p := ⟨gS, 2, none⟩) (Nat.ne_of_lt Z4.out) (.bool ag))).c 2, (((((BN6.out).far (p := ⟨gS, 1, none⟩) (Nat.ne_of_lt Z4.out) (.int .i64 af))).far (p := ⟨gS, 2, none⟩) (Nat.ne_of_lt Z4.out) (.bool ag))).c 3, (((((BN6.out).far (p := ⟨gS, 1, none⟩) (Nat.ne_of_lt Z4.out) (.int .i64 af))).far (p := ⟨gS, 2, none⟩) (Nat.ne_of_lt Z4.out) (.bool ag))).c 4, (((((BN6.out).far (p := ⟨gS, 1, none⟩) (Nat.ne_of_lt Z4.out) (.int .i64 af))).far (p := ⟨gS, 2, none⟩) (Nat.ne_of_lt Z4.out) (.bool ag))).c 5⟩); have K8 := Lib.hid (show ((w6.setCell ⟨gS, 3, none⟩ (.int .i64 bf)).setCell ⟨gS, 4, none⟩ (.bool bg)).cell? ⟨w.heap.size, 0, none⟩ = some (.int .i64 (9 : Int)) ∧ ((w6.setCell ⟨gS, 3, none⟩ (.int .i64 bf)).setCell ⟨gS, 4, none⟩ (.bool bg)).cell? ⟨w.heap.size, 1, none⟩ = some (.int .i64 pp) ∧ ((w6.setCell ⟨gS, 3, none⟩ (.int .i64 bf)).setCell ⟨gS, 4, none⟩ (.bool bg)).cell? ⟨w.heap.size, 2, none⟩ = some (.int .i64 cc) ∧ ((w6.setCell ⟨gS, 3, none⟩ (.int .i64 bf)).setCell ⟨gS, 4, none⟩ (.bool bg)).cell? ⟨w.heap.size, 3, none⟩ = some (.slice ka kids.length kc) ∧ ((w6.setCell ⟨gS, 3, none⟩ (.int .i64 bf)).setCell ⟨gS, 4, none⟩ (.bool bg)).cell? ⟨w.heap.size, 4, none⟩ = some (.slice na nums.length nc) ∧ ((w6.setCell ⟨gS, 3, none⟩ (.int .i64 bf)).setCell ⟨gS, 4, none⟩ (.bool bg)).cell? ⟨w.heap.size, 5, none⟩ = some (.string name) from ⟨(((((BN6.out).far (p := ⟨gS, 3, none⟩) (Nat.ne_of_lt Z4.out) (.int .i64 bf))).far (p := ⟨gS, 4, none⟩) (Nat.ne_of_lt Z4.out) (.bool bg))).c 0, (((((BN6.out).far (p := ⟨gS, 3, none⟩) (Nat.ne_of_lt Z4.out) (.int .i64 bf))).far (p := ⟨gS, 4, none⟩) (Nat.ne_of_lt Z4.out) (.bool bg))).c 1, (((((BN6.out).far (p := ⟨gS, 3, none⟩) (Nat.ne_of_lt Z4.out) (.int .i64 bf))).far (p := ⟨gS, 4, none⟩) (Nat.ne_of_lt Z4.out) (.bool bg))).c 2, (((((BN6.out).far (p := ⟨gS, 3, none⟩) (Nat.ne_of_lt Z4.out) (.int .i64 bf))).far (p := ⟨gS, 4, none⟩) (Nat.ne_of_lt Z4.out) (.bool bg))).c 3, (((((BN6.out).far (p := ⟨gS, 3, none⟩) (Nat.ne_of_lt Z4.out) (.int .i64 bf))).far (p := ⟨gS, 4, none⟩) (Nat.ne_of_lt Z4.out) (.bool bg))).c 4, (((((BN6.out).far (p := ⟨gS, 3, none⟩) (Nat.ne_of_lt Z4.out) (.int .i64 bf))).far (p := ⟨gS, 4, none⟩) (Nat.ne_of_lt Z4.out) (.bool bg))).c 5⟩); have K9 := Lib.hid (show ((((w6.setCell ⟨gS, 1, none⟩ (.int .i64 af)).setCell ⟨gS, 2, none⟩ (.bool ag)).setCell ⟨gS, 3, none⟩ (.int .i64 bf)).setCell ⟨gS, 4, none⟩ (.bool bg)).cell? ⟨w.heap.size, 0, none⟩ = some (.int .i64 (9 : Int)) ∧ ((((w6.setCell ⟨gS, 1, none⟩ (.int .i64 af)).setCell ⟨gS, 2, none⟩ (.bool ag)).setCell ⟨gS, 3, none⟩ (.int .i64 bf)).setCell ⟨gS, 4, none⟩ (.bool bg)).cell? ⟨w.heap.size, 1, none⟩ = some (.int .i64 pp) ∧ ((((w6.setCell ⟨gS, 1, none⟩ (.int .i64 af)).setCell ⟨gS, 2, none⟩ (.bool ag)).setCell ⟨gS, 3, none⟩ (.int .i64 bf)).setCell ⟨gS, 4, none⟩ (.bool bg)).cell? ⟨w.heap.size, 2, none⟩ = some (.int .i64 cc) ∧ ((((w6.setCell ⟨gS, 1, none⟩ (.int .i64 af)).setCell ⟨gS, 2, none⟩ (.bool ag)).setCell ⟨gS, 3, none⟩ (.int .i64 bf)).setCell ⟨gS, 4, none⟩ (.bool bg)).cell? ⟨w.heap.size, 3, none⟩ = some (.slice ka kids.length kc) ∧ ((((w6.setCell ⟨gS, 1, none⟩ (.int .i64 af)).setCell ⟨gS, 2, none⟩ (.bool ag)).setCell ⟨gS, 3, none⟩ (.int .i64 bf)).setCell ⟨gS, 4, none⟩ (.bool bg)).cell? ⟨w.heap.size, 4, none⟩ = some (.slice na nums.length nc) ∧ ((((w6.setCell ⟨gS, 1, none⟩ (.int .i64 af)).setCell ⟨gS, 2, none⟩ (.bool ag)).setCell ⟨gS, 3, none⟩ (.int .i64 bf)).setCell ⟨gS, 4, none⟩ (.bool bg)).cell? ⟨w.heap.size, 5, none⟩ = some (.string name) from ⟨(((((((((BN6.out).far (p := ⟨gS, 1, none⟩) (Nat.ne_of_lt Z4.out) (.int .i64 af))).far (p := ⟨gS, 2, none⟩) (Nat.ne_of_lt Z4.out) (.bool ag))).far (p := ⟨gS, 3, none⟩) (Nat.ne_of_lt Z4.out) (.int .i64 bf))).far (p := ⟨gS, 4, none⟩) (Nat.ne_of_lt Z4.out) (.bool bg))).c 0, (((((((((BN6.out).far (p := ⟨gS, 1, none⟩) (Nat.ne_of_lt Z4.out) (.int .i64 af))).far (p := ⟨gS, 2, none⟩) (Nat.ne_of_lt Z4.out) (.bool ag))).far (p := ⟨gS, 3, none⟩) (Nat.ne_of_lt Z4.out) (.int .i64 bf))).far (p := ⟨gS, 4, none⟩) (Nat.ne_of_lt Z4.out) (.bool bg))).c 1, (((((((((BN6.out).far (p := ⟨gS, 1, none⟩) (Nat.ne_of_lt Z4.out) (.int .i64 af))).far (p := ⟨gS, 2, none⟩) (Nat.ne_of_lt Z4.out) (.bool ag))).far (p := ⟨gS, 3, none⟩) (Nat.ne_of_lt Z4.out) (.int .i64 bf))).far (p := ⟨gS, 4, none⟩) (Nat.ne_of_lt Z4.out) (.bool bg))).c 2, (((((((((BN6.out).far (p := ⟨gS, 1, none⟩) (Nat.ne_of_lt Z4.out) (.int .i64 af))).far (p := ⟨gS, 2, none⟩) (Nat.ne_of_lt Z4.out) (.bool ag))).far (p := ⟨gS, 3, none⟩) (Nat.ne_of_lt Z4.out) (.int .i64 bf))).far (p := ⟨gS, 4, none⟩) (Nat.ne_of_lt Z4.out) (.bool bg))).c 3, (((((((((BN6.out).far (p := ⟨gS, 1, none⟩) (Nat.ne_of_lt Z4.out) (.int .i64 af))).far (p := ⟨gS, 2, none⟩) (Nat.ne_of_lt Z4.out) (.bool ag))).far (p := ⟨gS, 3, none⟩) (Nat.ne_of_lt Z4.out) (.int .i64 bf))).far (p := ⟨gS, 4, none⟩) (Nat.ne_of_lt Z4.out) (.bool bg))).c 4, (((((((((BN6.out).far (p := ⟨gS, 1, none⟩) (Nat.ne_of_lt Z4.out) (.int .i64 af))).far (p := ⟨gS, 2, none⟩) (Nat.ne_of_lt Z4.out) (.bool ag))).far (p := ⟨gS, 3, none⟩) (Nat.ne_of_lt Z4.out) (.int .i64 bf))).far (p := ⟨gS, 4, none⟩) (Nat.ne_of_lt Z4.out) (.bool bg))).c 5⟩); have Ka := Lib.hid (show ((((w6.setCell ⟨gS, 3, none⟩ (.int .i64 bf)).setCell ⟨gS, 4, none⟩ (.bool bg)).setCell ⟨gS, 1, none⟩ (.int .i64 af)).setCell ⟨gS, 2, none⟩ (.bool ag)).cell? ⟨w.heap.size, 0, none⟩ = some (.int .i64 (9 : Int)) ∧ ((((w6.setCell ⟨gS, 3, none⟩ (.int .i64 bf)).setCell ⟨gS, 4, none⟩ (.bool bg)).setCell ⟨gS, 1, none⟩ (.int .i64 af)).setCell ⟨gS, 2, none⟩ (.bool ag)).cell? ⟨w.heap.size, 1, none⟩ = some (.int .i64 pp) ∧ ((((w6.setCell ⟨gS, 3, none⟩ (.int .i64 bf)).setCell ⟨gS, 4, none⟩ (.bool bg)).setCell ⟨gS, 1, none⟩ (.int .i64 af)).setCell ⟨gS, 2, none⟩ (.bool ag)).cell? ⟨w.heap.size, 2, none⟩ = some (.int .i64 cc) ∧ ((((w6.setCell ⟨gS, 3, none⟩ (.int .i64 bf)).setCell ⟨gS, 4, none⟩ (.bool bg)).setCell ⟨gS, 1, none⟩ (.int .i64 af)).setCell ⟨gS, 2, none⟩ (.bool ag)).cell? ⟨w.heap.size, 3, none⟩ = some (.slice ka kids.length kc) ∧ ((((w6.setCell ⟨gS, 3, none⟩ (.int .i64 bf)).setCell ⟨gS, 4, none⟩ (.bool bg)).setCell ⟨gS, 1, none⟩ (.int .i64 af)).setCell ⟨gS, 2, none⟩ (.bool ag)).cell? ⟨w.heap.size, 4, none⟩ = some (.slice na nums.length nc) ∧ ((((w6.setCell ⟨gS, 3, none⟩ (.int .i64 bf)).setCell ⟨gS, 4, none⟩ (.bool bg)).setCell ⟨gS, 1, none⟩ (.int .i64 af)).setCell ⟨gS, 2, none⟩ (.bool ag)).cell? ⟨w.heap.size, 5, none⟩ = some (.string name) from ⟨(((((((((BN6.out).far (p := ⟨gS, 3, none⟩) (Nat.ne_of_lt Z4.out) (.int .i64 bf))).far (p := ⟨gS, 4, none⟩) (Nat.ne_of_lt Z4.out) (.bool bg))).far (p := ⟨gS, 1, none⟩) (Nat.ne_of_lt Z4.out) (.int .i64 af))).far (p := ⟨gS, 2, none⟩) (Nat.ne_of_lt Z4.out) (.bool ag))).c 0, (((((((((BN6.out).far (p := ⟨gS, 3, none⟩) (Nat.ne_of_lt Z4.out) (.int .i64 bf))).far (p := ⟨gS, 4, none⟩) (Nat.ne_of_lt Z4.out) (.bool bg))).far (p := ⟨gS, 1, none⟩) (Nat.ne_of_lt Z4.out) (.int .i64 af))).far (p := ⟨gS, 2, none⟩) (Nat.ne_of_lt Z4.out) (.bool ag))).c 1, (((((((((BN6.out).far (p := ⟨gS, 3, none⟩) (Nat.ne_of_lt Z4.out) (.int .i64 bf))).far (p := ⟨gS, 4, none⟩) (Nat.ne_of_lt Z4.out) (.bool bg))).far (p := ⟨gS, 1, none⟩) (Nat.ne_of_lt Z4.out) (.int .i64 af))).far (p := ⟨gS, 2, none⟩) (Nat.ne_of_lt Z4.out) (.bool ag))).c 2, (((((((((BN6.out).far (p := ⟨gS, 3, none⟩) (Nat.ne_of_lt Z4.out) (.int .i64 bf))).far (p := ⟨gS, 4, none⟩) (Nat.ne_of_lt Z4.out) (.bool bg))).far (p := ⟨gS, 1, none⟩) (Nat.ne_of_lt Z4.out) (.int .i64 af))).far (p := ⟨gS, 2, none⟩) (Nat.ne_of_lt Z4.out) (.bool ag))).c 3, (((((((((BN6.out).far (p := ⟨gS, 3, none⟩) (Nat.ne_of_lt Z4.out) (.int .i64 bf))).far (p := ⟨gS, 4, none⟩) (Nat.ne_of_lt Z4.out) (.bool bg))).far (p := ⟨gS, 1, none⟩) (Nat.ne_of_lt Z4.out) (.int .i64 af))).far (p := ⟨gS, 2, none⟩) (Nat.ne_of_lt Z4.out) (.bool ag))).c 4, (((((((((BN6.out).far (p := ⟨gS, 3, none⟩) (Nat.ne_of_lt Z4.out) (.int .i64 bf))).far (p := ⟨gS, 4, none⟩) (Nat.ne_of_lt Z4.out) (.bool bg))).far (p := ⟨gS, 1, none⟩) (Nat.ne_of_lt Z4.out) (.int .i64 af))).far (p := ⟨gS, 2, none⟩) (Nat.ne_of_lt Z4.out) (.bool ag))).c 5⟩); have s1 := BS6.out.c 1; have t1 := BS6.out.f 1; have s2 := BS6.out.c 2; have t2 := BS6.out.f 2; have s3 := BS6.out.c 3; have t3 := BS6.out.f 3; have s4 := BS6.out.c 4; have t4 := BS6.out.f 4; have p3 := (((((BS6.out).set_ 1 (.int .i64 af))).set_ 2 (.bool ag))).c 3; have p4 := (((((BS6.out).set_ 1 (.int .i64 af))).set_ 2 (.bool ag))).c 4; have q1 := (((((BS6.out).set_ 3 (.int .i64 bf))).set_ 4 (.bool bg))).c 1; have q2 := (((((BS6.out).set_ 3 (.int .i64 bf))).set_ 4 (.bool bg))).c 2; (simp only [List.getElem?_cons_zero, List.getElem?_cons_succ, List.set_cons_zero, List.set_cons_succ] at s1 s2 s3 s4 p3 p4 q1 q2); clear ha hba))
    all_goals (go_wp2_with fail; go_meet; (first | exact ⟨af, ag, bf, bg, rfl, rfl, Ea, Eb, Lib.hid (((((((((BS6.out).set_ 1 (.int .i64 af))).set_ 2 (.bool ag))).set_ 3 (.int .i64 bf))).set_ 4 (.bool bg))), Lib.hid (((((((((L6.out).setCell (p := ⟨gS, 1, none⟩) (Nat.le_of_lt Z4.out) (.int .i64 af))).setCell (p := ⟨gS, 2, none⟩) (Nat.le_of_lt Z4.out) (.bool ag))).setCell (p := ⟨gS, 3, none⟩) (Nat.le_of_lt Z4.out) (.int .i64 bf))).setCell (p := ⟨gS, 4, none⟩) (Nat.le_of_lt Z4.out) (.bool bg)))⟩ | exact ⟨af, ag, bf, bg, rfl, rfl, Ea, Eb, Lib.hid (((((((((BS6.out).set_ 3 (.int .i64 bf))).set_ 4 (.bool bg))).set_ 1 (.int .i64 af))).set_ 2 (.bool ag))), Lib.hid (((((((((L6.out).setCell (p := ⟨gS, 3, none⟩) (Nat.le_of_lt Z4.out) (.int .i64 bf))).setCell (p := ⟨gS, 4, none⟩) (Nat.le_of_lt Z4.out) (.bool bg))).setCell (p := ⟨gS, 1, none⟩) (Nat.le_of_lt Z4.out) (.int .i64 af))).setCell (p := ⟨gS, 2, none⟩) (Nat.le_of_lt Z4.out) (.bool ag)))⟩))
  case rest =>
  obtain ⟨af, ag, bf, bg, rfl, rfl, Ea, Eb, BS6, L6⟩ := hcut
  generalize wc = w6 at *
  have r0 := BS6.out.c 0
  have r1 := BS6.out.c 1
  have r2 := BS6.out.c 2
  have r3 := BS6.out.c 3
  have r4 := BS6.out.c 4
  have r5 := BS6.out.c 5
  have r6 := BS6.out.c 6
  have r7 := BS6.out.c 7
  have r8 := BS6.out.c 8
  have r9 := BS6.out.c 9
  simp only [List.getElem?_cons_zero, List.getElem?_cons_succ] at r0 r1 r2 r3 r4 r5 r6 r7 r8 r9
  go_wp2_with fail
  refine ((HH.out.below L6.out).add (⟨12, af, ag, bf, bg, 0, ta, tb, [], pp⟩, (none, 0)) (none_row _ _ _ _)).mono ?_
  rintro e w9 hr
  obtain ⟨ls9, m9, e1, e2, rfl, M9, O9⟩ := hr.pre L6.out
  have F9 := Lib.hid (And.intro e1 (And.intro e2 (And.intro M9 O9)))
  clear hr e1 e2 M9 O9
  go_wp2
  go_ret
  rw [HEV.out, Ea.out, Eb.out]
  exact ⟨ls9, m9, F9.out.1, F9.out.2.1, rfl, F9.out.2.2.1, F9.out.2.2.2⟩
set_option maxHeartbeats 8000000 in
theorem fold_any {w0 : World} {A : Option Addr} {c : Nat} {qs : List Nq} {X : Nat → Prop} {g : Nat} {ls : List Qs} {fe fp : Int} (w : World) (h : Ins w0 A c qs X g ls fe fp w) (k : Nat) (pp cc : Int) (kids nums : List Int) (name : ByteArray) (ka : Option Addr) (kc : Nat) (na : Option Addr) (nc : Nat) (hq : qs[k]? = some ⟨⟨(7 : Int), pp, cc, kids, nums, name⟩, ka, kc, na, nc⟩) (h38 : cc ≠ 38) (ta tb : Int) (two : Bool) :
    Calls Tryd.prog 81 #[.pointer (some ⟨g, 0, none⟩), .agg #[.int .i64 (7 : Int), .int .i64 pp, .int .i64 cc, .slice ka kids.length kc, .slice na nums.length nc, .string name], .agg #[.int .i64 ta, .int .i64 tb, .bool two]] w (RetP X g (.slice A qs.length c) (ls.map Prod.fst ++ [fdS qs ⟨(7 : Int), pp, cc, kids, nums, name⟩ ⟨ta, tb, two⟩]) fe fp w) := by
  have HEV := Lib.hid (show fdS qs ⟨(7 : Int), pp, cc, kids, nums, name⟩ ⟨ta, tb, two⟩ = ⟨foldK cc two, (fnO qs (kid ⟨(7 : Int), pp, cc, kids, nums, name⟩ 0)).1, (fnO qs (kid ⟨(7 : Int), pp, cc, kids, nums, name⟩ 0)).2, 0, false, 0, ta, tb, [], pp⟩ from rfl)
  have HH := Lib.hid h
  have HST := Lib.hid (fun kd W => stands_any kd ⟨⟨(7 : Int), pp, cc, kids, nums, name⟩, ka, kc, na, nc⟩ ta tb two W)
  unfold nodeV at HST
  simp only at HST
  have L1 := Lib.hid (nest3 w (.cells #[.int .i64 (7 : Int), .int .i64 pp, .int .i64 cc, .slice ka kids.length kc, .slice na nums.length nc, .string name] 45) (.cells #[.int .i64 ta, .int .i64 tb, .bool two] 68))
  have e1 : (w.alloc (.cells #[.int .i64 (7 : Int), .int .i64 pp, .int .i64 cc, .slice ka kids.length kc, .slice na nums.length nc, .string name] 45)).heap.size = w.heap.size + 1 := by simp
  have BN := Lib.hid (show Bk 45 ((w.alloc (.cells #[.int .i64 (7 : Int), .int .i64 pp, .int .i64 cc, .slice ka kids.length kc, .slice na nums.length nc, .string name] 45)).alloc (.cells #[.int .i64 ta, .int .i64 tb, .bool two] 68)) w.heap.size [.int .i64 (7 : Int), .int .i64 pp, .int .i64 cc, .slice ka kids.length kc, .slice na nums.length nc, .string name] from (Bk.new _ w _).alloc _)
  have BA := Lib.hid (show Bk 68 ((w.alloc (.cells #[.int .i64 (7 : Int), .int .i64 pp, .int .i64 cc, .slice ka kids.length kc, .slice na nums.length nc, .string name] 45)).alloc (.cells #[.int .i64 ta, .int .i64 tb, .bool two] 68)) (w.heap.size + 1) [.int .i64 ta, .int .i64 tb, .bool two] from new_at _ _ e1)
  have HQ := Lib.hid hq
  have u38 : (cc == 38) = false := by simp [h38]
  have t38 : decide (cc = 38) = false := by simp [h38]
  have HFO := Lib.hid (fun W => folding_any cc two W)
  obtain ⟨fk, hfk⟩ : ∃ fk, foldK cc two = fk := ⟨_, rfl⟩
  rw [hfk] at HFO HEV
  clear h hq e1 h38 hfk
  go_enter Tryd.func81, Tryd.ntmps81
  go_upto_region 3 with fail
  generalize ((w.alloc (.cells #[.int .i64 (7 : Int), .int .i64 pp, .int .i64 cc, .slice ka kids.length kc, .slice na nums.length nc, .string name] 45)).alloc (.cells #[.int .i64 ta, .int .i64 tb, .bool two] 68)) = w1 at *
  have Ld := Lib.hid (L1.out.drew)
  have BNd := Lib.hid (BN.out.drew)
  have BAd := Lib.hid (BA.out.drew)
  have Kd := Lib.hid (show w1.drew.cell? ⟨w.heap.size, 0, none⟩ = some (.int .i64 (7 : Int)) ∧ w1.drew.cell? ⟨w.heap.size, 1, none⟩ = some (.int .i64 pp) ∧ w1.drew.cell? ⟨w.heap.size, 2, none⟩ = some (.int .i64 cc) ∧ w1.drew.cell? ⟨w.heap.size, 3, none⟩ = some (.slice ka kids.length kc) ∧ w1.drew.cell? ⟨w.heap.size, 4, none⟩ = some (.slice na nums.length nc) ∧ w1.drew.cell? ⟨w.heap.size, 5, none⟩ = some (.string name) ∧ w1.drew.cell? ⟨w.heap.size + 1, 0, none⟩ = some (.int .i64 ta) ∧ w1.drew.cell? ⟨w.heap.size + 1, 1, none⟩ = some (.int .i64 tb) ∧ w1.drew.cell? ⟨w.heap.size + 1, 2, none⟩ = some (.bool two) from ⟨(BNd.out).c 0, (BNd.out).c 1, (BNd.out).c 2, (BNd.out).c 3, (BNd.out).c 4, (BNd.out).c 5, (BAd.out).c 0, (BAd.out).c 1, (BAd.out).c 2⟩)
  have Le := Lib.hid ((L1.out.trans ((below_new w1 (.cells #[.int .i64 0, .int .i64 0, .bool false, .int .i64 0, .bool false, .int .i64 0, .int .i64 0, .int .i64 0, .slice none 0 0, .int .i64 0] 49)).mono L1.out.size)).drew)
  have BNe := Lib.hid ((BN.out.alloc (.cells #[.int .i64 0, .int .i64 0, .bool false, .int .i64 0, .bool false, .int .i64 0, .int .i64 0, .int .i64 0, .slice none 0 0, .int .i64 0] 49)).drew)
  have BAe := Lib.hid ((BA.out.alloc (.cells #[.int .i64 0, .int .i64 0, .bool false, .int .i64 0, .bool false, .int .i64 0, .int .i64 0, .int .i64 0, .slice none 0 0, .int .i64 0] 49)).drew)
  have BSe := Lib.hid ((new_at (t := 49) w1 [.int .i64 0, .int .i64 0, .bool false, .int .i64 0, .bool false, .int .i64 0, .int .i64 0, .int .i64 0, .slice none 0 0, .int .i64 0] rfl).drew)
  have Ke := Lib.hid (show (w1.alloc (.cells #[.int .i64 0, .int .i64 0, .bool false, .int .i64 0, .bool false, .int .i64 0, .int .i64 0, .int .i64 0, .slice none 0 0, .int .i64 0] 49)).drew.cell? ⟨w.heap.size, 0, none⟩ = some (.int .i64 (7 : Int)) ∧ (w1.alloc (.cells #[.int .i64 0, .int .i64 0, .bool false, .int .i64 0, .bool false, .int .i64 0, .int .i64 0, .int .i64 0, .slice none 0 0, .int .i64 0] 49)).drew.cell? ⟨w.heap.size, 1, none⟩ = some (.int .i64 pp) ∧ (w1.alloc (.cells #[.int .i64 0, .int .i64 0, .bool false, .int .i64 0, .bool false, .int .i64 0, .int .i64 0, .int .i64 0, .slice none 0 0, .int .i64 0] 49)).drew.cell? ⟨w.heap.size, 2, none⟩ = some (.int .i64 cc) ∧ (w1.alloc (.cells #[.int .i64 0, .int .i64 0, .bool false, .int .i64 0, .bool false, .int .i64 0, .int .i64 0, .int .i64 0, .slice none 0 0, .int .i64 0] 49)).drew.cell? ⟨w.heap.size, 3, none⟩ = some (.slice ka kids.length kc) ∧ (w1.alloc (.cells #[.int .i64 0, .int .i64 0, .bool false, .int .i64 0, .bool false, .int .i64 0, .int .i64 0, .int .i64 0, .slice none 0 0, .int .i64 0] 49)).drew.cell? ⟨w.heap.size, 4, none⟩ = some (.slice na nums.length nc) ∧ (w1.alloc (.cells #[.int .i64 0, .int .i64 0, .bool false, .int .i64 0, .bool false, .int .i64 0, .int .i64 0, .int .i64 0, .slice none 0 0, .int .i64 0] 49)).drew.cell? ⟨w.heap.size, 5, none⟩ = some (.string name) ∧ (w1.alloc (.cells #[.int .i64 0, .int .i64 0, .bool false, .int .i64 0, .bool false, .int .i64 0, .int .i64 0, .int .i64 0, .slice none 0 0, .int .i64 0] 49)).drew.cell? ⟨w.heap.size + 1, 0, none⟩ = some (.int .i64 ta) ∧ (w1.alloc (.cells #[.int .i64 0, .int .i64 0, .bool false, .int .i64 0, .bool false, .int .i64 0, .int .i64 0, .int .i64 0, .slice none 0 0, .int .i64 0] 49)).drew.cell? ⟨w.heap.size + 1, 1, none⟩ = some (.int .i64 tb) ∧ (w1.alloc (.cells #[.int .i64 0, .int .i64 0, .bool false, .int .i64 0, .bool false, .int .i64 0, .int .i64 0, .int .i64 0, .slice none 0 0, .int .i64 0] 49)).drew.cell? ⟨w.heap.size + 1, 2, none⟩ = some (.bool two) from ⟨(BNe.out).c 0, (BNe.out).c 1, (BNe.out).c 2, (BNe.out).c 3, (BNe.out).c 4, (BNe.out).c 5, (BAe.out).c 0, (BAe.out).c 1, (BAe.out).c 2⟩)
  have SZ := Lib.hid (show w.heap.size + 1 < w1.heap.size from BA.out.lt)
  go_cut [7] (fun s7 wx => ∃ gS, s7 = .pointer (some ⟨gS, 0, none⟩) ∧ w.heap.size + 1 < gS ∧ Hid (Bk 49 wx gS [.int .i64 fk, .int .i64 0, .bool false, .int .i64 0, .bool false, .int .i64 0, .int .i64 ta, .int .i64 tb, .slice none 0 0, .int .i64 pp]) ∧ Hid (Below w.heap.size w wx) ∧ Hid (Bk 45 wx w.heap.size [.int .i64 (7 : Int), .int .i64 pp, .int .i64 cc, .slice ka kids.length kc, .slice na nums.length nc, .string name]))
  case first =>
    go_region_held3 (fun w' => w'.cell? ⟨w.heap.size, 0, none⟩ = some (.int .i64 (7 : Int)) ∧ w'.cell? ⟨w.heap.size, 1, none⟩ = some (.int .i64 pp) ∧ w'.cell? ⟨w.heap.size, 2, none⟩ = some (.int .i64 cc) ∧ w'.cell? ⟨w.heap.size, 3, none⟩ = some (.slice ka kids.length kc) ∧ w'.cell? ⟨w.heap.size, 4, none⟩ = some (.slice na nums.length nc) ∧ w'.cell? ⟨w.heap.size, 5, none⟩ = some (.string name) ∧ w'.cell? ⟨w.heap.size + 1, 0, none⟩ = some (.int .i64 ta) ∧ w'.cell? ⟨w.heap.size + 1, 1, none⟩ = some (.int .i64 tb) ∧ w'.cell? ⟨w.heap.size + 1, 2, none⟩ = some (.bool two))
      (first
        | with_reducible exact Kd.out
        | with_reducible exact Ke.out
        | with_reducible exact K5.out
        | with_reducible exact K4.out
        | with_reducible exact K3b.out
        | with_reducible exact K3.out
        | go_keep)
      (first
        | (go_at_call 90; (with_reducible refine (HFO.out _).mono ?_); rintro r w2 ⟨rfl, rfl⟩)
        | (go_at_call 88; (with_reducible refine (HST.out _ w1.drew).mono ?_); rintro r w3 ⟨rfl, hb3⟩; have L3 := Lib.hid (Gl.below_next Ld.out hb3); have BN3 := Lib.hid (BNd.out.next hb3); have BA3 := Lib.hid (BAd.out.next hb3); have K3 := Lib.hid (show w3.cell? ⟨w.heap.size, 0, none⟩ = some (.int .i64 (7 : Int)) ∧ w3.cell? ⟨w.heap.size, 1, none⟩ = some (.int .i64 pp) ∧ w3.cell? ⟨w.heap.size, 2, none⟩ = some (.int .i64 cc) ∧ w3.cell? ⟨w.heap.size, 3, none⟩ = some (.slice ka kids.length kc) ∧ w3.cell? ⟨w.heap.size, 4, none⟩ = some (.slice na nums.length nc) ∧ w3.cell? ⟨w.heap.size, 5, none⟩ = some (.string name) ∧ w3.cell? ⟨w.heap.size + 1, 0, none⟩ = some (.int .i64 ta) ∧ w3.cell? ⟨w.heap.size + 1, 1, none⟩ = some (.int .i64 tb) ∧ w3.cell? ⟨w.heap.size + 1, 2, none⟩ = some (.bool two) from ⟨(BN3.out).c 0, (BN3.out).c 1, (BN3.out).c 2, (BN3.out).c 3, (BN3.out).c 4, (BN3.out).c 5, (BA3.out).c 0, (BA3.out).c 1, (BA3.out).c 2⟩); have L4 := Lib.hid (L3.out.trans ((below_new w3 (.cells #[.int .i64 fk, .int .i64 0, .bool false, .int .i64 0, .bool false, .int .i64 0, .int .i64 ta, .int .i64 tb, .slice none 0 0, .int .i64 pp] 49)).mono L3.out.size)); have BS4 := Lib.hid (new_at (t := 49) w3 [.int .i64 fk, .int .i64 0, .bool false, .int .i64 0, .bool false, .int .i64 0, .int .i64 ta, .int .i64 tb, .slice none 0 0, .int .i64 pp] rfl); have K4 := Lib.hid (show (w3.alloc (.cells #[.int .i64 fk, .int .i64 0, .bool false, .int .i64 0, .bool false, .int .i64 0, .int .i64 ta, .int .i64 tb, .slice none 0 0, .int .i64 pp] 49)).cell? ⟨w.heap.size, 0, none⟩ = some (.int .i64 (7 : Int)) ∧ (w3.alloc (.cells #[.int .i64 fk, .int .i64 0, .bool false, .int .i64 0, .bool false, .int .i64 0, .int .i64 ta, .int .i64 tb, .slice none 0 0, .int .i64 pp] 49)).cell? ⟨w.heap.size, 1, none⟩ = some (.int .i64 pp) ∧ (w3.alloc (.cells #[.int .i64 fk, .int .i64 0, .bool false, .int .i64 0, .bool false, .int .i64 0, .int .i64 ta, .int .i64 tb, .slice none 0 0, .int .i64 pp] 49)).cell? ⟨w.heap.size, 2, none⟩ = some (.int .i64 cc) ∧ (w3.alloc (.cells #[.int .i64 fk, .int .i64 0, .bool false, .int .i64 0, .bool false, .int .i64 0, .int .i64 ta, .int .i64 tb, .slice none 0 0, .int .i64 pp] 49)).cell? ⟨w.heap.size, 3, none⟩ = some (.slice ka kids.length kc) ∧ (w3.alloc (.cells #[.int .i64 fk, .int .i64 0, .bool false, .int .i64 0, .bool false, .int .i64 0, .int .i64 ta, .int .i64 tb, .slice none 0 0, .int .i64 pp] 49)).cell? ⟨w.heap.size, 4, none⟩ = some (.slice na nums.length nc) ∧ (w3.alloc (.cells #[.int .i64 fk, .int .i64 0, .bool false, .int .i64 0, .bool false, .int .i64 0, .int .i64 ta, .int .i64 tb, .slice none 0 0, .int .i64 pp] 49)).cell? ⟨w.heap.size, 5, none⟩ = some (.string name) ∧ (w3.alloc (.cells #[.int .i64 fk, .int .i64 0, .bool false, .int .i64 0, .bool false, .int .i64 0, .int .i64 ta, .int .i64 tb, .slice none 0 0, .int .i64 pp] 49)).cell? ⟨w.heap.size + 1, 0, none⟩ = some (.int .i64 ta) ∧ (w3.alloc (.cells #[.int .i64 fk, .int .i64 0, .bool false, .int .i64 0, .bool false, .int .i64 0, .int .i64 ta, .int .i64 tb, .slice none 0 0, .int .i64 pp] 49)).cell? ⟨w.heap.size + 1, 1, none⟩ = some (.int .i64 tb) ∧ (w3.alloc (.cells #[.int .i64 fk, .int .i64 0, .bool false, .int .i64 0, .bool false, .int .i64 0, .int .i64 ta, .int .i64 tb, .slice none 0 0, .int .i64 pp] 49)).cell? ⟨w.heap.size + 1, 2, none⟩ = some (.bool two) from ⟨(BN3.out.alloc _).c 0, (BN3.out.alloc _).c 1, (BN3.out.alloc _).c 2, (BN3.out.alloc _).c 3, (BN3.out.alloc _).c 4, (BN3.out.alloc _).c 5, (BA3.out.alloc _).c 0, (BA3.out.alloc _).c 1, (BA3.out.alloc _).c 2⟩); clear hb3)
        | (go_at_call 88; (with_reducible refine (HST.out _ (w1.alloc (.cells #[.int .i64 0, .int .i64 0, .bool false, .int .i64 0, .bool false, .int .i64 0, .int .i64 0, .int .i64 0, .slice none 0 0, .int .i64 0] 49)).drew).mono ?_); rintro r w3 ⟨rfl, hb3⟩; have L3 := Lib.hid (Gl.below_next Le.out hb3); have BN3 := Lib.hid (BNe.out.next hb3); have BA3 := Lib.hid (BAe.out.next hb3); have BS3 := Lib.hid (BSe.out.next hb3); have K3b := Lib.hid (show w3.cell? ⟨w.heap.size, 0, none⟩ = some (.int .i64 (7 : Int)) ∧ w3.cell? ⟨w.heap.size, 1, none⟩ = some (.int .i64 pp) ∧ w3.cell? ⟨w.heap.size, 2, none⟩ = some (.int .i64 cc) ∧ w3.cell? ⟨w.heap.size, 3, none⟩ = some (.slice ka kids.length kc) ∧ w3.cell? ⟨w.heap.size, 4, none⟩ = some (.slice na nums.length nc) ∧ w3.cell? ⟨w.heap.size, 5, none⟩ = some (.string name) ∧ w3.cell? ⟨w.heap.size + 1, 0, none⟩ = some (.int .i64 ta) ∧ w3.cell? ⟨w.heap.size + 1, 1, none⟩ = some (.int .i64 tb) ∧ w3.cell? ⟨w.heap.size + 1, 2, none⟩ = some (.bool two) from ⟨(BN3.out).c 0, (BN3.out).c 1, (BN3.out).c 2, (BN3.out).c 3, (BN3.out).c 4, (BN3.out).c 5, (BA3.out).c 0, (BA3.out).c 1, (BA3.out).c 2⟩); have s0 := BS3.out.c 0; have t0 := BS3.out.f 0; have s1 := BS3.out.c 1; have t1 := BS3.out.f 1; have s2 := BS3.out.c 2; have t2 := BS3.out.f 2; have s3 := BS3.out.c 3; have t3 := BS3.out.f 3; have s4 := BS3.out.c 4; have t4 := BS3.out.f 4; have s5 := BS3.out.c 5; have t5 := BS3.out.f 5; have s6 := BS3.out.c 6; have t6 := BS3.out.f 6; have s7 := BS3.out.c 7; have t7 := BS3.out.f 7; have s8 := BS3.out.c 8; have t8 := BS3.out.f 8; have s9 := BS3.out.c 9; have t9 := BS3.out.f 9; (simp only [List.getElem?_cons_zero, List.getElem?_cons_succ] at s0 s1 s2 s3 s4 s5 s6 s7 s8 s9); have L5 := Lib.hid (((((((((((((((((((((L3.out).setCell (p := ⟨w1.heap.size, 0, none⟩) (by have := SZ.out; show w.heap.size ≤ w1.heap.size; omega) (.int .i64 fk))).setCell (p := ⟨w1.heap.size, 1, none⟩) (by have := SZ.out; show w.heap.size ≤ w1.heap.size; omega) (.int .i64 0))).setCell (p := ⟨w1.heap.size, 2, none⟩) (by have := SZ.out; show w.heap.size ≤ w1.heap.size; omega) (.bool false))).setCell (p := ⟨w1.heap.size, 3, none⟩) (by have := SZ.out; show w.heap.size ≤ w1.heap.size; omega) (.int .i64 0))).setCell (p := ⟨w1.heap.size, 4, none⟩) (by have := SZ.out; show w.heap.size ≤ w1.heap.size; omega) (.bool false))).setCell (p := ⟨w1.heap.size, 5, none⟩) (by have := SZ.out; show w.heap.size ≤ w1.heap.size; omega) (.int .i64 0))).setCell (p := ⟨w1.heap.size, 6, none⟩) (by have := SZ.out; show w.heap.size ≤ w1.heap.size; omega) (.int .i64 ta))).setCell (p := ⟨w1.heap.size, 7, none⟩) (by have := SZ.out; show w.heap.size ≤ w1.heap.size; omega) (.int .i64 tb))).setCell (p := ⟨w1.heap.size, 8, none⟩) (by have := SZ.out; show w.heap.size ≤ w1.heap.size; omega) (.slice none 0 0))).setCell (p := ⟨w1.heap.size, 9, none⟩) (by have := SZ.out; show w.heap.size ≤ w1.heap.size; omega) (.int .i64 pp))); have BS5 := Lib.hid (((((((((((((((((((((BS3.out).set_ 0 (.int .i64 fk))).set_ 1 (.int .i64 0))).set_ 2 (.bool false))).set_ 3 (.int .i64 0))).set_ 4 (.bool false))).set_ 5 (.int .i64 0))).set_ 6 (.int .i64 ta))).set_ 7 (.int .i64 tb))).set_ 8 (.slice none 0 0))).set_ 9 (.int .i64 pp))); have BN5 := Lib.hid (((((((((((((((((((((BN3.out).far (p := ⟨w1.heap.size, 0, none⟩) (by have := SZ.out; show _ ≠ w1.heap.size; omega) (.int .i64 fk))).far (p := ⟨w1.heap.size, 1, none⟩) (by have := SZ.out; show _ ≠ w1.heap.size; omega) (.int .i64 0))).far (p := ⟨w1.heap.size, 2, none⟩) (by have := SZ.out; show _ ≠ w1.heap.size; omega) (.bool false))).far (p := ⟨w1.heap.size, 3, none⟩) (by have := SZ.out; show _ ≠ w1.heap.size; omega) (.int .i64 0))).far (p := ⟨w1.heap.size, 4, none⟩) (by have := SZ.out; show _ ≠ w1.heap.size; omega) (.bool false))).far (p := ⟨w1.heap.size, 5, none⟩) (by have := SZ.out; show _ ≠ w1.heap.size; omega) (.int .i64 0))).far (p := ⟨w1.heap.size, 6, none⟩) (by have := SZ.out; show _ ≠ w1.heap.size; omega) (.int .i64 ta))).far (p := ⟨w1.heap.size, 7, none⟩) (by have := SZ.out; show _ ≠ w1.heap.size; omega) (.int .i64 tb))).far (p := ⟨w1.heap.size, 8, none⟩) (by have := SZ.out; show _ ≠ w1.heap.size; omega) (.slice none 0 0))).far (p := ⟨w1.heap.size, 9, none⟩) (by have := SZ.out; show _ ≠ w1.heap.size; omega) (.int .i64 pp))); have BA5 := Lib.hid (((((((((((((((((((((BA3.out).far (p := ⟨w1.heap.size, 0, none⟩) (by have := SZ.out; show _ ≠ w1.heap.size; omega) (.int .i64 fk))).far (p := ⟨w1.heap.size, 1, none⟩) (by have := SZ.out; show _ ≠ w1.heap.size; omega) (.int .i64 0))).far (p := ⟨w1.heap.size, 2, none⟩) (by have := SZ.out; show _ ≠ w1.heap.size; omega) (.bool false))).far (p := ⟨w1.heap.size, 3, none⟩) (by have := SZ.out; show _ ≠ w1.heap.size; omega) (.int .i64 0))).far (p := ⟨w1.heap.size, 4, none⟩) (by have := SZ.out; show _ ≠ w1.heap.size; omega) (.bool false))).far (p := ⟨w1.heap.size, 5, none⟩) (by have := SZ.out; show _ ≠ w1.heap.size; omega) (.int .i64 0))).far (p := ⟨w1.heap.size, 6, none⟩) (by have := SZ.out; show _ ≠ w1.heap.size; omega) (.int .i64 ta))).far (p := ⟨w1.heap.size, 7, none⟩) (by have := SZ.out; show _ ≠ w1.heap.size; omega) (.int .i64 tb))).far (p := ⟨w1.heap.size, 8, none⟩) (by have := SZ.out; show _ ≠ w1.heap.size; omega) (.slice none 0 0))).far (p := ⟨w1.heap.size, 9, none⟩) (by have := SZ.out; show _ ≠ w1.heap.size; omega) (.int .i64 pp))); have K5 := Lib.hid (show ((((((((((w3.setCell ⟨w1.heap.size, 0, none⟩ (.int .i64 fk)).setCell ⟨w1.heap.size, 1, none⟩ (.int .i64 0)).setCell ⟨w1.heap.size, 2, none⟩ (.bool false)).setCell ⟨w1.heap.size, 3, none⟩ (.int .i64 0)).setCell ⟨w1.heap.size, 4, none⟩ (.bool false)).setCell ⟨w1.heap.size, 5, none⟩ (.int .i64 0)).setCell ⟨w1.heap.size, 6, none⟩ (.int .i64 ta)).setCell ⟨w1.heap.size, 7, none⟩ (.int .i64 tb)).setCell ⟨w1.heap.size, 8, none⟩ (.slice none 0 0)).setCell ⟨w1.heap.size, 9, none⟩ (.int .i64 pp)).cell? ⟨w.heap.size, 0, none⟩ = some (.int .i64 (7 : Int)) ∧ ((((((((((w3.setCell ⟨w1.heap.size, 0, none⟩ (.int .i64 fk)).setCell ⟨w1.heap.size, 1, none⟩ (.int .i64 0)).setCell ⟨w1.heap.size, 2, none⟩ (.bool false)).setCell ⟨w1.heap.size, 3, none⟩ (.int .i64 0)).setCell ⟨w1.heap.size, 4, none⟩ (.bool false)).setCell ⟨w1.heap.size, 5, none⟩ (.int .i64 0)).setCell ⟨w1.heap.size, 6, none⟩ (.int .i64 ta)).setCell ⟨w1.heap.size, 7, none⟩ (.int .i64 tb)).setCell ⟨w1.heap.size, 8, none⟩ (.slice none 0 0)).setCell ⟨w1.heap.size, 9, none⟩ (.int .i64 pp)).cell? ⟨w.heap.size, 1, none⟩ = some (.int .i64 pp) ∧ ((((((((((w3.setCell ⟨w1.heap.size, 0, none⟩ (.int .i64 fk)).setCell ⟨w1.heap.size, 1, none⟩ (.int .i64 0)).setCell ⟨w1.heap.size, 2, none⟩ (.bool false)).setCell ⟨w1.heap.size, 3, none⟩ (.int .i64 0)).setCell ⟨w1.heap.size, 4, none⟩ (.bool false)).setCell ⟨w1.heap.size, 5, none⟩ (.int .i64 0)).setCell ⟨w1.heap.size, 6, none⟩ (.int .i64 ta)).setCell ⟨w1.heap.size, 7, none⟩ (.int .i64 tb)).setCell ⟨w1.heap.size, 8, none⟩ (.slice none 0 0)).setCell ⟨w1.heap.size, 9, none⟩ (.int .i64 pp)).cell? ⟨w.heap.size, 2, none⟩ = some (.int .i64 cc) ∧ ((((((((((w3.setCell ⟨w1.heap.size, 0, none⟩ (.int .i64 fk)).setCell ⟨w1.heap.size, 1, none⟩ (.int .i64 0)).setCell ⟨w1.heap.size, 2, none⟩ (.bool false)).setCell ⟨w1.heap.size, 3, none⟩ (.int .i64 0)).setCell ⟨w1.heap.size, 4, none⟩ (.bool false)).setCell ⟨w1.heap.size, 5, none⟩ (.int .i64 0)).setCell ⟨w1.heap.size, 6, none⟩ (.int .i64 ta)).setCell ⟨w1.heap.size, 7, none⟩ (.int .i64 tb)).setCell ⟨w1.heap.size, 8, none⟩ (.slice none 0 0)).setCell ⟨w1.heap.size, 9, none⟩ (.int .i64 pp)).cell? ⟨w.heap.size, 3, none⟩ = some (.slice ka kids.length kc) ∧ ((((((((((w3.setCell ⟨w1.heap.size, 0, none⟩ (.int .i64 fk)).setCell ⟨w1.heap.size, 1, none⟩ (.int .i64 0)).setCell ⟨w1.heap.size, 2, none⟩ (.bool false)).setCell ⟨w1.heap.size, 3, none⟩ (.int .i64 0)).setCell ⟨w1.heap.size, 4, none⟩ (.bool false)).setCell ⟨w1.heap.size, 5, none⟩ (.int .i64 0)).setCell ⟨w1.heap.size, 6, none⟩ (.int .i64 ta)).setCell ⟨w1.heap.size, 7, none⟩ (.int .i64 tb)).setCell ⟨w1.heap.size, 8, none⟩ (.slice none 0 0)).setCell ⟨w1.heap.size, 9, none⟩ (.int .i64 pp)).cell? ⟨w.heap.size, 4, none⟩ = some (.slice na nums.length nc) ∧ ((((((((((w3.setCell ⟨w1.heap.size, 0, none⟩ (.int .i64 fk)).setCell ⟨w1.heap.size, 1, none⟩ (.int .i64 0)).setCell ⟨w1.heap.size, 2, none⟩ (.bool false)).setCell ⟨w1.heap.size, 3, none⟩ (.int .i64 0)).setCell ⟨w1.heap.size, 4, none⟩ (.bool false)).setCell ⟨w1.heap.size, 5, none⟩ (.int .i64 0)).setCell ⟨w1.heap.size, 6, none⟩ (.int .i64 ta)).setCell ⟨w1.heap.size, 7, none⟩ (.int .i64 tb)).setCell ⟨w1.heap.size, 8, none⟩ (.slice none 0 0)).setCell ⟨w1.heap.size, 9, none⟩ (.int .i64 pp)).cell? ⟨w.heap.size, 5, none⟩ = some (.string name) ∧ ((((((((((w3.setCell ⟨w1.heap.size, 0, none⟩ (.int .i64 fk)).setCell ⟨w1.heap.size, 1, none⟩ (.int .i64 0)).setCell ⟨w1.heap.size, 2, none⟩ (.bool false)).setCell ⟨w1.heap.size, 3, none⟩ (.int .i64 0)).setCell ⟨w1.heap.size, 4, none⟩ (.bool false)).setCell ⟨w1.heap.size, 5, none⟩ (.int .i64 0)).setCell ⟨w1.heap.size, 6, none⟩ (.int .i64 ta)).setCell ⟨w1.heap.size, 7, none⟩ (.int .i64 tb)).setCell ⟨w1.heap.size, 8, none⟩ (.slice none 0 0)).setCell ⟨w1.heap.size, 9, none⟩ (.int .i64 pp)).cell? ⟨w.heap.size + 1, 0, none⟩ = some (.int .i64 ta) ∧ ((((((((((w3.setCell ⟨w1.heap.size, 0, none⟩ (.int .i64 fk)).setCell ⟨w1.heap.size, 1, none⟩ (.int .i64 0)).setCell ⟨w1.heap.size, 2, none⟩ (.bool false)).setCell ⟨w1.heap.size, 3, none⟩ (.int .i64 0)).setCell ⟨w1.heap.size, 4, none⟩ (.bool false)).setCell ⟨w1.heap.size, 5, none⟩ (.int .i64 0)).setCell ⟨w1.heap.size, 6, none⟩ (.int .i64 ta)).setCell ⟨w1.heap.size, 7, none⟩ (.int .i64 tb)).setCell ⟨w1.heap.size, 8, none⟩ (.slice none 0 0)).setCell ⟨w1.heap.size, 9, none⟩ (.int .i64 pp)).cell? ⟨w.heap.size + 1, 1, none⟩ = some (.int .i64 tb) ∧ ((((((((((w3.setCell ⟨w1.heap.size, 0, none⟩ (.int .i64 fk)).setCell ⟨w1.heap.size, 1, none⟩ (.int .i64 0)).setCell ⟨w1.heap.size, 2, none⟩ (.bool false)).setCell ⟨w1.heap.size, 3, none⟩ (.int .i64 0)).setCell ⟨w1.heap.size, 4, none⟩ (.bool false)).setCell ⟨w1.heap.size, 5, none⟩ (.int .i64 0)).setCell ⟨w1.heap.size, 6, none⟩ (.int .i64 ta)).setCell ⟨w1.heap.size, 7, none⟩ (.int .i64 tb)).setCell ⟨w1.heap.size, 8, none⟩ (.slice none 0 0)).setCell ⟨w1.heap.size, 9, none⟩ (.int .i64 pp)).cell? ⟨w.heap.size + 1, 2, none⟩ = some (.bool two) from ⟨(BN5.out).c 0, (BN5.out).c 1, (BN5.out).c 2, (BN5.out).c 3, (BN5.out).c 4, (BN5.out).c 5, (BA5.out).c 0, (BA5.out).c 1, (BA5.out).c 2⟩); clear hb3))
    all_goals (go_wp2_with fail; go_meet; (first | exact ⟨_, rfl, (by have := SZ.out; omega), BS5, L5, BN5⟩ | exact ⟨_, rfl, (by have := BA3.out.lt; omega), BS4, L4, Lib.hid (BN3.out.alloc _)⟩))
  case rest =>
  obtain ⟨gS, rfl, hgS, BS4, L4, BN4⟩ := hcut
  have Z4 := Lib.hid (show w.heap.size < gS by omega)
  generalize wc = w4 at *
  clear hgS
  have y0 := BN4.out.c 0
  have y1 := BN4.out.c 1
  have y2 := BN4.out.c 2
  have y3 := BN4.out.c 3
  have y4 := BN4.out.c 4
  have y5 := BN4.out.c 5
  simp only [List.getElem?_cons_zero, List.getElem?_cons_succ] at y0 y1 y2 y3 y4 y5
  go_wp2_with fail
  clear y0 y1 y2 y3 y4 y5
  refine (mscal_any w4 (HH.out.below L4.out) k (7 : Int) pp cc kids nums name ka kc na nc HQ.out 0 (by show 0 < (partsL 7).length; decide)).mono ?_
  rintro e w5 ⟨af, ag, ha, rfl, hba⟩
  have Ea := Lib.hid ha
  have L5 := Lib.hid (Gl.below_next L4.out hba)
  have BS5 := Lib.hid (BS4.out.next hba)
  clear ha hba
  have s0 := BS5.out.c 0
  have s1 := BS5.out.c 1
  have s2 := BS5.out.c 2
  have s3 := BS5.out.c 3
  have s4 := BS5.out.c 4
  have s5 := BS5.out.c 5
  have s6 := BS5.out.c 6
  have s7 := BS5.out.c 7
  have s8 := BS5.out.c 8
  have s9 := BS5.out.c 9
  have t0 := BS5.out.f 0
  have t1 := BS5.out.f 1
  have t2 := BS5.out.f 2
  have t3 := BS5.out.f 3
  have t4 := BS5.out.f 4
  have t5 := BS5.out.f 5
  have t6 := BS5.out.f 6
  have t7 := BS5.out.f 7
  have t8 := BS5.out.f 8
  have t9 := BS5.out.f 9
  simp only [List.getElem?_cons_zero, List.getElem?_cons_succ] at s0 s1 s2 s3 s4 s5 s6 s7 s8 s9
  have BS6 := Lib.hid (show Bk 49 ((w5.setCell ⟨gS, 1, none⟩ (.int .i64 af)).setCell ⟨gS, 2, none⟩ (.bool ag)) gS [.int .i64 fk, .int .i64 af, .bool ag, .int .i64 0, .bool false, .int .i64 0, .int .i64 ta, .int .i64 tb, .slice none 0 0, .int .i64 pp] from (BS5.out.set_ 1 _).set_ 2 _)
  have L6 := Lib.hid (show Below w.heap.size w ((w5.setCell ⟨gS, 1, none⟩ (.int .i64 af)).setCell ⟨gS, 2, none⟩ (.bool ag)) from (L5.out.setCell (p := ⟨gS, 1, none⟩) (Nat.le_of_lt Z4.out) _).setCell (p := ⟨gS, 2, none⟩) (Nat.le_of_lt Z4.out) _)
  have r0 := BS6.out.c 0
  have r1 := BS6.out.c 1
  have r2 := BS6.out.c 2
  have r3 := BS6.out.c 3
  have r4 := BS6.out.c 4
  have r5 := BS6.out.c 5
  have r6 := BS6.out.c 6
  have r7 := BS6.out.c 7
  have r8 := BS6.out.c 8
  have r9 := BS6.out.c 9
  simp only [List.getElem?_cons_zero, List.getElem?_cons_succ] at r0 r1 r2 r3 r4 r5 r6 r7 r8 r9
  go_wp2_with fail
  refine ((HH.out.below L6.out).add (⟨fk, af, ag, 0, false, 0, ta, tb, [], pp⟩, (none, 0)) (none_row _ _ _ _)).mono ?_
  rintro e w9 hr
  obtain ⟨ls9, m9, e1, e2, rfl, M9, O9⟩ := hr.pre L6.out
  have F9 := Lib.hid (And.intro e1 (And.intro e2 (And.intro M9 O9)))
  clear hr e1 e2 M9 O9
  go_wp2
  go_ret
  rw [HEV.out, Ea.out]
  exact ⟨ls9, m9, F9.out.1, F9.out.2.1, rfl, F9.out.2.2.1, F9.out.2.2.2⟩
end Go.Proofs.YtjmpilmmgfjpmaaDoor.Stp
